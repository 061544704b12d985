/-
  The law's proved.
-/
import Derived.Test.YtdmffkknghianaaGD
import Derived.Test.YtdmffkknghianaaMn
set_option linter.unusedSimpArgs false
set_option linter.unusedVariables false
namespace Go.Proofs.Ytdmffkknghianaa
open Go Go.Proofs.Eng
set_option maxRecDepth 100000
set_option maxHeartbeats 4000000
def prK (q : Nat → Int) (V : Int) (p : Nat → Int) (j k : Nat) : Bool := (lbK q V j k).all fun i => decide (p j ≤ p i + sq q V i j)
def lsK (q : Nat → Int) (V : Int) (n : Nat) (p : Nat → Int) (k : Nat) : Int := (lbK q V n k).foldl (fun a i => mn2 a (p i)) (p (n - 1))
theorem prK_succ (q : Nat → Int) (V : Int) (p : Nat → Int) (j k : Nat) : prK q V p j (k + 1) = (prK q V p j k && (if fit q V k j = true then decide (p j ≤ p k + sq q V k j) else true)) := by
  unfold prK
  rw [lbK_succ, List.all_append]
  split <;> simp
theorem lsK_succ (q : Nat → Int) (V : Int) (n : Nat) (p : Nat → Int) (k : Nat) : lsK q V n p (k + 1) = if fit q V k n = true then mn2 (lsK q V n p k) (p k) else lsK q V n p k := by
  unfold lsK
  rw [lbK_succ, List.foldl_append]
  split <;> simp
theorem pva_loop (V : Int) (w : List Int) (hg : gX V w) (f : Bool) (p : Nat → Int) (hp : ∀ i, i < w.length → 0 ≤ p i ∧ p i ≤ 20000) (j : Nat) (hj : j < w.length) (b : Bool) (K : List Fr) (Q : Out → Cfg → Prop)
    (hK : ∀ j3 j4 j5 j10 j11 j12 j13 j14 j15 j16 j17 j18 j19 j20 j21 j22 j23 j24 j27 j28 j31 j32 j33 j34 j35 j36 j37 j38 j39 j40 j41 j42 j43 j44 j45 j46 j47 j48 j49 j50 j51 j52 j53 j54 j55 j56 j57 j58 j59 j60 j61 j62 j63 j64 j65 j66 j67 j68 j69 : AV, W Try.prog (RelU Try.prog xf) 0 K ⟨((tx f V w) :: (al false (pl p w.length)) :: (.ptr (tx f V w)) :: j3 :: j4 :: j5 :: (ai w.length) :: (ai (p (w.length - 1))) :: (ab (b && prK (pf w) V p j j)) :: (ai j) :: j10 :: j11 :: j12 :: j13 :: j14 :: j15 :: j16 :: j17 :: j18 :: j19 :: j20 :: j21 :: j22 :: j23 :: j24 :: (ai (w.length + 1 : Nat)) :: (ai j) :: j27 :: j28 :: (ai j) :: (ai j) :: j31 :: j32 :: j33 :: j34 :: j35 :: j36 :: j37 :: j38 :: j39 :: j40 :: j41 :: j42 :: j43 :: j44 :: j45 :: j46 :: j47 :: j48 :: j49 :: j50 :: j51 :: j52 :: j53 :: j54 :: j55 :: j56 :: j57 :: j58 :: j59 :: j60 :: j61 :: j62 :: j63 :: j64 :: j65 :: j66 :: j67 :: j68 :: j69 :: []), []⟩ Q) :
    ∀ (m k : Nat), k + m = j → ∀ j3 j4 j5 j10 j11 j12 j13 j14 j15 j16 j17 j18 j19 j20 j21 j22 j23 j24 j27 j28 j31 j32 j33 j34 j35 j36 j37 j38 j39 j40 j41 j42 j43 j44 j45 j46 j47 j48 j49 j50 j51 j52 j53 j54 j55 j56 j57 j58 j59 j60 j61 j62 j63 j64 j65 j66 j67 j68 j69 : AV, W Try.prog (RelU Try.prog xf) 0 (.code (.loop xf24_L0) :: .blk 2 :: .stop :: K) ⟨((tx f V w) :: (al false (pl p w.length)) :: (.ptr (tx f V w)) :: j3 :: j4 :: j5 :: (ai w.length) :: (ai (p (w.length - 1))) :: (ab (b && prK (pf w) V p j k)) :: (ai j) :: j10 :: j11 :: j12 :: j13 :: j14 :: j15 :: j16 :: j17 :: j18 :: j19 :: j20 :: j21 :: j22 :: j23 :: j24 :: (ai (w.length + 1 : Nat)) :: (ai j) :: j27 :: j28 :: (ai j) :: (ai k) :: j31 :: j32 :: j33 :: j34 :: j35 :: j36 :: j37 :: j38 :: j39 :: j40 :: j41 :: j42 :: j43 :: j44 :: j45 :: j46 :: j47 :: j48 :: j49 :: j50 :: j51 :: j52 :: j53 :: j54 :: j55 :: j56 :: j57 :: j58 :: j59 :: j60 :: j61 :: j62 :: j63 :: j64 :: j65 :: j66 :: j67 :: j68 :: j69 :: []), []⟩ Q := by
  have n10 := hg.n10
  have hpl := pl_len p w.length
  intro m
  induction m with
  | zero =>
    intro k hk j3 j4 j5 j10 j11 j12 j13 j14 j15 j16 j17 j18 j19 j20 j21 j22 j23 j24 j27 j28 j31 j32 j33 j34 j35 j36 j37 j38 j39 j40 j41 j42 j43 j44 j45 j46 j47 j48 j49 j50 j51 j52 j53 j54 j55 j56 j57 j58 j59 j60 j61 j62 j63 j64 j65 j66 j67 j68 j69
    have ek : k = j := by omega
    have h0 : decide (k < j) = false := decide_eq_false (by omega)
    rw [ek]
    have h0 : decide (j < j) = false := by simp
    refine W_loop (W_run 80 ?_)
    simp (maxSteps := 2000000) only [SA, Nat.reduceDiv, Nat.reduceSub, Nat.reduceAdd, Int.reduceLT, Int.reduceLE, Int.reduceToNat, Nat.reduceMul, Nat.reduceEqDiff, reduceCtorEq, Nat.reduceBEq, Nat.reduceLeDiff, Nat.reduceLT, xf24_L0, ai, ab, al, tx, lt_cast, h0]
    exact W_stop (hK _ _ _ _ _ _ _ _ _ _ _ _ _ _ _ _ _ _ _ _ _ _ _ _ _ _ _ _ _ _ _ _ _ _ _ _ _ _ _ _ _ _ _ _ _ _ _ _ _ _ _ _ _ _ _ _ _ _ _)
  | succ m ih =>
    intro k hk j3 j4 j5 j10 j11 j12 j13 j14 j15 j16 j17 j18 j19 j20 j21 j22 j23 j24 j27 j28 j31 j32 j33 j34 j35 j36 j37 j38 j39 j40 j41 j42 j43 j44 j45 j46 j47 j48 j49 j50 j51 j52 j53 j54 j55 j56 j57 j58 j59 j60 j61 j62 j63 j64 j65 j66 j67 j68 j69
    have h1 : k < j := by omega
    have h0 : decide (k < j) = true := decide_eq_true h1
    have hlf := lleft_run hg f (i := k) (j := j) h1 (by omega)
    have wi : IntKind.i64.wrap ((k : Int) + 1) = ((k + 1 : Nat) : Int) := by rw [wrap_id (by omega) (by omega)]; simp
    have hs := prK_succ (pf w) V p j k
    have ej : ((j : Int) == (w.length : Int)) = false := by rw [beq_eq_false_iff_ne]; omega
    have next := ih (k + 1) (by omega)
    rw [hs] at next
    cases hf : fit (pf w) V k j with
    | false =>
      have d : decide (lf (pf w) V k j < 0) = true := decide_eq_true (by have : ¬ 0 ≤ lf (pf w) V k j := fun h => by rw [fit_iff.2 h] at hf; cases hf
                                                                         omega)
      rw [hf, if_neg (by simp), Bool.and_true] at next
      refine W_loop (W_run 80 ?_)
      simp (maxSteps := 2000000) only [SA, Nat.reduceDiv, Nat.reduceSub, Nat.reduceAdd, Int.reduceLT, Int.reduceLE, Int.reduceToNat, Nat.reduceMul, Nat.reduceEqDiff, reduceCtorEq, Nat.reduceBEq, Nat.reduceLeDiff, Nat.reduceLT, xf24_L0, ai, ab, al, tx, lt_cast, h0]
      refine W_call (args := [tx f V w, ai k, ai j]) rfl (noRefs_3 (noRef_tx _ _ _) rfl rfl) hlf rfl (W_run 80 ?_)
      simp (maxSteps := 2000000) only [SA, Nat.reduceDiv, Nat.reduceSub, Nat.reduceAdd, Int.reduceLT, Int.reduceLE, Int.reduceToNat, Nat.reduceMul, Nat.reduceEqDiff, reduceCtorEq, Nat.reduceBEq, Nat.reduceLeDiff, Nat.reduceLT, ai, ab, al, tx, d, wi]
      exact next _ _ _ _ _ _ _ _ _ _ _ _ _ _ _ _ _ _ _ _ _ _ _ _ _ _ _ _ _ _ _ _ _ _ _ _ _ _ _ _ _ _ _ _ _ _ _ _ _ _ _ _ _ _ _ _ _ _ _
    | true =>
      have hlf0 := fit_iff.1 hf
      have d : decide (lf (pf w) V k j < 0) = false := decide_eq_false (by omega)
      have hsq := sq_b hg.pos hg.W1 h1 (Nat.le_of_lt hj) hf
      have hsq0 := sq_nn (pf w) V k j
      have pk := hp k (by omega)
      have pj := hp j hj
      have gk := get_pl (p := p) (n := w.length) (k := k) (by omega)
      have gj := get_pl (p := p) (n := w.length) (k := j) hj
      have ws : IntKind.i64.wrap (lf (pf w) V k j * lf (pf w) V k j) = sq (pf w) V k j := by
        show IntKind.i64.wrap (sq (pf w) V k j) = _
        exact wrap_id (by omega) (by omega)
      have wd : IntKind.i64.wrap (p j - p k) = p j - p k := wrap_id (by omega) (by omega)
      rw [hf, if_pos rfl] at next
      cases hb : (b && prK (pf w) V p j k) with
      | false =>
        rw [← Bool.and_assoc, hb, Bool.false_and] at next
        refine W_loop (W_run 80 ?_)
        simp (maxSteps := 2000000) only [SA, Nat.reduceDiv, Nat.reduceSub, Nat.reduceAdd, Int.reduceLT, Int.reduceLE, Int.reduceToNat, Nat.reduceMul, Nat.reduceEqDiff, reduceCtorEq, Nat.reduceBEq, Nat.reduceLeDiff, Nat.reduceLT, xf24_L0, ai, ab, al, tx, lt_cast, h0]
        refine W_call (args := [tx f V w, ai k, ai j]) rfl (noRefs_3 (noRef_tx _ _ _) rfl rfl) hlf rfl (W_run 80 ?_)
        simp (maxSteps := 2000000) only [SA, Nat.reduceDiv, Nat.reduceSub, Nat.reduceAdd, Int.reduceLT, Int.reduceLE, Int.reduceToNat, Nat.reduceMul, Nat.reduceEqDiff, reduceCtorEq, Nat.reduceBEq, Nat.reduceLeDiff, Nat.reduceLT, ai, ab, al, tx, d, wi, ej]
        exact next _ _ _ _ _ _ _ _ _ _ _ _ _ _ _ _ _ _ _ _ _ _ _ _ _ _ _ _ _ _ _ _ _ _ _ _ _ _ _ _ _ _ _ _ _ _ _ _ _ _ _ _ _ _ _ _ _ _ _
      | true =>
        have ed : decide (p j ≤ p k + sq (pf w) V k j) = decide (p j - p k ≤ sq (pf w) V k j) := by
          by_cases h : p j ≤ p k + sq (pf w) V k j
          · rw [decide_eq_true h, decide_eq_true (by omega)]
          · rw [decide_eq_false h, decide_eq_false (by omega)]
        rw [← Bool.and_assoc, hb, Bool.true_and, ed] at next
        refine W_loop (W_run 80 ?_)
        simp (maxSteps := 2000000) only [SA, Nat.reduceDiv, Nat.reduceSub, Nat.reduceAdd, Int.reduceLT, Int.reduceLE, Int.reduceToNat, Nat.reduceMul, Nat.reduceEqDiff, reduceCtorEq, Nat.reduceBEq, Nat.reduceLeDiff, Nat.reduceLT, xf24_L0, ai, ab, al, tx, lt_cast, h0]
        refine W_call (args := [tx f V w, ai k, ai j]) rfl (noRefs_3 (noRef_tx _ _ _) rfl rfl) hlf rfl (W_run 80 ?_)
        simp (maxSteps := 2000000) only [SA, Nat.reduceDiv, Nat.reduceSub, Nat.reduceAdd, Int.reduceLT, Int.reduceLE, Int.reduceToNat, Nat.reduceMul, Nat.reduceEqDiff, reduceCtorEq, Nat.reduceBEq, Nat.reduceLeDiff, Nat.reduceLT, ai, ab, al, tx, d, wi, ej, gk, gj, ws, wd, Int.toNat_natCast]
        exact next _ _ _ _ _ _ _ _ _ _ _ _ _ _ _ _ _ _ _ _ _ _ _ _ _ _ _ _ _ _ _ _ _ _ _ _ _ _ _ _ _ _ _ _ _ _ _ _ _ _ _ _ _ _ _ _ _ _ _
theorem pvb_loop (V : Int) (w : List Int) (hg : gX V w) (f : Bool) (p : Nat → Int) (b : Bool) (K : List Fr) (Q : Out → Cfg → Prop)
    (hK : ∀ j3 j4 j5 j10 j11 j12 j13 j14 j15 j16 j17 j18 j19 j20 j21 j22 j23 j24 j27 j28 j31 j32 j33 j34 j35 j36 j37 j38 j39 j40 j41 j42 j43 j44 j45 j46 j47 j48 j49 j50 j51 j52 j53 j54 j55 j56 j57 j58 j59 j60 j61 j62 j63 j64 j65 j66 j67 j68 j69 : AV, W Try.prog (RelU Try.prog xf) 0 K ⟨((tx f V w) :: (al false (pl p w.length)) :: (.ptr (tx f V w)) :: j3 :: j4 :: j5 :: (ai w.length) :: (ai (lsK (pf w) V w.length p w.length)) :: (ab b) :: (ai w.length) :: j10 :: j11 :: j12 :: j13 :: j14 :: j15 :: j16 :: j17 :: j18 :: j19 :: j20 :: j21 :: j22 :: j23 :: j24 :: (ai (w.length + 1 : Nat)) :: (ai w.length) :: j27 :: j28 :: (ai w.length) :: (ai w.length) :: j31 :: j32 :: j33 :: j34 :: j35 :: j36 :: j37 :: j38 :: j39 :: j40 :: j41 :: j42 :: j43 :: j44 :: j45 :: j46 :: j47 :: j48 :: j49 :: j50 :: j51 :: j52 :: j53 :: j54 :: j55 :: j56 :: j57 :: j58 :: j59 :: j60 :: j61 :: j62 :: j63 :: j64 :: j65 :: j66 :: j67 :: j68 :: j69 :: []), []⟩ Q) :
    ∀ (m k : Nat), k + m = w.length → ∀ j3 j4 j5 j10 j11 j12 j13 j14 j15 j16 j17 j18 j19 j20 j21 j22 j23 j24 j27 j28 j31 j32 j33 j34 j35 j36 j37 j38 j39 j40 j41 j42 j43 j44 j45 j46 j47 j48 j49 j50 j51 j52 j53 j54 j55 j56 j57 j58 j59 j60 j61 j62 j63 j64 j65 j66 j67 j68 j69 : AV, W Try.prog (RelU Try.prog xf) 0 (.code (.loop xf24_L0) :: .blk 2 :: .stop :: K) ⟨((tx f V w) :: (al false (pl p w.length)) :: (.ptr (tx f V w)) :: j3 :: j4 :: j5 :: (ai w.length) :: (ai (lsK (pf w) V w.length p k)) :: (ab b) :: (ai w.length) :: j10 :: j11 :: j12 :: j13 :: j14 :: j15 :: j16 :: j17 :: j18 :: j19 :: j20 :: j21 :: j22 :: j23 :: j24 :: (ai (w.length + 1 : Nat)) :: (ai w.length) :: j27 :: j28 :: (ai w.length) :: (ai k) :: j31 :: j32 :: j33 :: j34 :: j35 :: j36 :: j37 :: j38 :: j39 :: j40 :: j41 :: j42 :: j43 :: j44 :: j45 :: j46 :: j47 :: j48 :: j49 :: j50 :: j51 :: j52 :: j53 :: j54 :: j55 :: j56 :: j57 :: j58 :: j59 :: j60 :: j61 :: j62 :: j63 :: j64 :: j65 :: j66 :: j67 :: j68 :: j69 :: []), []⟩ Q := by
  have n10 := hg.n10
  have hpl := pl_len p w.length
  intro m
  induction m with
  | zero =>
    intro k hk j3 j4 j5 j10 j11 j12 j13 j14 j15 j16 j17 j18 j19 j20 j21 j22 j23 j24 j27 j28 j31 j32 j33 j34 j35 j36 j37 j38 j39 j40 j41 j42 j43 j44 j45 j46 j47 j48 j49 j50 j51 j52 j53 j54 j55 j56 j57 j58 j59 j60 j61 j62 j63 j64 j65 j66 j67 j68 j69
    have ek : k = w.length := by omega
    rw [ek]
    have h0 : decide (w.length < w.length) = false := by simp
    refine W_loop (W_run 80 ?_)
    simp (maxSteps := 2000000) only [SA, Nat.reduceDiv, Nat.reduceSub, Nat.reduceAdd, Int.reduceLT, Int.reduceLE, Int.reduceToNat, Nat.reduceMul, Nat.reduceEqDiff, reduceCtorEq, Nat.reduceBEq, Nat.reduceLeDiff, Nat.reduceLT, xf24_L0, ai, ab, al, tx, lt_cast, h0]
    exact W_stop (hK _ _ _ _ _ _ _ _ _ _ _ _ _ _ _ _ _ _ _ _ _ _ _ _ _ _ _ _ _ _ _ _ _ _ _ _ _ _ _ _ _ _ _ _ _ _ _ _ _ _ _ _ _ _ _ _ _ _ _)
  | succ m ih =>
    intro k hk j3 j4 j5 j10 j11 j12 j13 j14 j15 j16 j17 j18 j19 j20 j21 j22 j23 j24 j27 j28 j31 j32 j33 j34 j35 j36 j37 j38 j39 j40 j41 j42 j43 j44 j45 j46 j47 j48 j49 j50 j51 j52 j53 j54 j55 j56 j57 j58 j59 j60 j61 j62 j63 j64 j65 j66 j67 j68 j69
    have h1 : k < w.length := by omega
    have h0 : decide (k < w.length) = true := decide_eq_true h1
    have hlf := lleft_run hg f (i := k) (j := w.length) h1 (Nat.le_refl _)
    have wi : IntKind.i64.wrap ((k : Int) + 1) = ((k + 1 : Nat) : Int) := by rw [wrap_id (by omega) (by omega)]; simp
    have hs := lsK_succ (pf w) V w.length p k
    have ej : ((w.length : Int) == (w.length : Int)) = true := by simp
    have gk := get_pl (p := p) (n := w.length) (k := k) h1
    have next := ih (k + 1) (by omega)
    rw [hs] at next
    cases hf : fit (pf w) V k w.length with
    | false =>
      have d : decide (lf (pf w) V k w.length < 0) = true := decide_eq_true (by have : ¬ 0 ≤ lf (pf w) V k w.length := fun h => by rw [fit_iff.2 h] at hf; cases hf
                                                                                omega)
      rw [hf, if_neg (by simp)] at next
      refine W_loop (W_run 80 ?_)
      simp (maxSteps := 2000000) only [SA, Nat.reduceDiv, Nat.reduceSub, Nat.reduceAdd, Int.reduceLT, Int.reduceLE, Int.reduceToNat, Nat.reduceMul, Nat.reduceEqDiff, reduceCtorEq, Nat.reduceBEq, Nat.reduceLeDiff, Nat.reduceLT, xf24_L0, ai, ab, al, tx, lt_cast, h0]
      refine W_call (args := [tx f V w, ai k, ai w.length]) rfl (noRefs_3 (noRef_tx _ _ _) rfl rfl) hlf rfl (W_run 80 ?_)
      simp (maxSteps := 2000000) only [SA, Nat.reduceDiv, Nat.reduceSub, Nat.reduceAdd, Int.reduceLT, Int.reduceLE, Int.reduceToNat, Nat.reduceMul, Nat.reduceEqDiff, reduceCtorEq, Nat.reduceBEq, Nat.reduceLeDiff, Nat.reduceLT, ai, ab, al, tx, d, wi]
      exact next _ _ _ _ _ _ _ _ _ _ _ _ _ _ _ _ _ _ _ _ _ _ _ _ _ _ _ _ _ _ _ _ _ _ _ _ _ _ _ _ _ _ _ _ _ _ _ _ _ _ _ _ _ _ _ _ _ _ _
    | true =>
      have hlf0 := fit_iff.1 hf
      have d : decide (lf (pf w) V k w.length < 0) = false := decide_eq_false (by omega)
      rw [hf, if_pos rfl] at next
      refine W_loop (W_run 80 ?_)
      simp (maxSteps := 2000000) only [SA, Nat.reduceDiv, Nat.reduceSub, Nat.reduceAdd, Int.reduceLT, Int.reduceLE, Int.reduceToNat, Nat.reduceMul, Nat.reduceEqDiff, reduceCtorEq, Nat.reduceBEq, Nat.reduceLeDiff, Nat.reduceLT, xf24_L0, ai, ab, al, tx, lt_cast, h0]
      refine W_call (args := [tx f V w, ai k, ai w.length]) rfl (noRefs_3 (noRef_tx _ _ _) rfl rfl) hlf rfl (W_run 80 ?_)
      simp (maxSteps := 2000000) only [SA, Nat.reduceDiv, Nat.reduceSub, Nat.reduceAdd, Int.reduceLT, Int.reduceLE, Int.reduceToNat, Nat.reduceMul, Nat.reduceEqDiff, reduceCtorEq, Nat.reduceBEq, Nat.reduceLeDiff, Nat.reduceLT, ai, ab, al, tx, d, wi, ej, gk, raw_min, rawK, opA, argT, Option.elim, List.map_cons, List.map_nil, Int.toNat_natCast]
      exact next _ _ _ _ _ _ _ _ _ _ _ _ _ _ _ _ _ _ _ _ _ _ _ _ _ _ _ _ _ _ _ _ _ _ _ _ _ _ _ _ _ _ _ _ _ _ _ _ _ _ _ _ _ _ _ _ _ _ _
def prR (q : Nat → Int) (V : Int) (p : Nat → Int) (j : Nat) : Bool := decide (p 0 = 0) && (List.range j).all fun i => prK q V p i i
theorem prR_succ (q : Nat → Int) (V : Int) (p : Nat → Int) (j : Nat) : prR q V p (j + 1) = (prR q V p j && prK q V p j j) := by
  unfold prR
  rw [List.range_succ, List.all_append, Bool.and_assoc]
  simp
theorem prR_eq (q : Nat → Int) (V : Int) (n : Nat) (p : Nat → Int) : prR q V p n = prB q V n p := by
  unfold prR prB prK prJ
  rw [Bool.and_comm]; rfl
theorem pvo_loop (V : Int) (w : List Int) (hg : gX V w) (f : Bool) (p : Nat → Int) (hp : ∀ i, i < w.length → 0 ≤ p i ∧ p i ≤ 20000) (K : List Fr) (Q : Out → Cfg → Prop)
    (hK : ∀ j3 j4 j5 j9 j10 j11 j12 j13 j14 j15 j16 j17 j18 j19 j20 j21 j22 j23 j24 j27 j28 j29 j30 j31 j32 j33 j34 j35 j36 j37 j38 j39 j40 j41 j42 j43 j44 j45 j46 j47 j48 j49 j50 j51 j52 j53 j54 j55 j56 j57 j58 j59 j60 j61 j62 j63 j64 j65 j66 j67 j68 j69 : AV, W Try.prog (RelU Try.prog xf) 0 K ⟨((tx f V w) :: (al false (pl p w.length)) :: (.ptr (tx f V w)) :: j3 :: j4 :: j5 :: (ai w.length) :: (ai (lsK (pf w) V w.length p w.length)) :: (ab (prR (pf w) V p w.length)) :: j9 :: j10 :: j11 :: j12 :: j13 :: j14 :: j15 :: j16 :: j17 :: j18 :: j19 :: j20 :: j21 :: j22 :: j23 :: j24 :: (ai (w.length + 1 : Nat)) :: (ai (w.length + 1 : Nat)) :: j27 :: j28 :: j29 :: j30 :: j31 :: j32 :: j33 :: j34 :: j35 :: j36 :: j37 :: j38 :: j39 :: j40 :: j41 :: j42 :: j43 :: j44 :: j45 :: j46 :: j47 :: j48 :: j49 :: j50 :: j51 :: j52 :: j53 :: j54 :: j55 :: j56 :: j57 :: j58 :: j59 :: j60 :: j61 :: j62 :: j63 :: j64 :: j65 :: j66 :: j67 :: j68 :: j69 :: []), []⟩ Q) :
    ∀ (m j : Nat), j + m = w.length → ∀ j3 j4 j5 j9 j10 j11 j12 j13 j14 j15 j16 j17 j18 j19 j20 j21 j22 j23 j24 j27 j28 j29 j30 j31 j32 j33 j34 j35 j36 j37 j38 j39 j40 j41 j42 j43 j44 j45 j46 j47 j48 j49 j50 j51 j52 j53 j54 j55 j56 j57 j58 j59 j60 j61 j62 j63 j64 j65 j66 j67 j68 j69 : AV, W Try.prog (RelU Try.prog xf) 0 (.code (.loop xf24_L1) :: .blk 0 :: .stop :: K) ⟨((tx f V w) :: (al false (pl p w.length)) :: (.ptr (tx f V w)) :: j3 :: j4 :: j5 :: (ai w.length) :: (ai (p (w.length - 1))) :: (ab (prR (pf w) V p j)) :: j9 :: j10 :: j11 :: j12 :: j13 :: j14 :: j15 :: j16 :: j17 :: j18 :: j19 :: j20 :: j21 :: j22 :: j23 :: j24 :: (ai (w.length + 1 : Nat)) :: (ai j) :: j27 :: j28 :: j29 :: j30 :: j31 :: j32 :: j33 :: j34 :: j35 :: j36 :: j37 :: j38 :: j39 :: j40 :: j41 :: j42 :: j43 :: j44 :: j45 :: j46 :: j47 :: j48 :: j49 :: j50 :: j51 :: j52 :: j53 :: j54 :: j55 :: j56 :: j57 :: j58 :: j59 :: j60 :: j61 :: j62 :: j63 :: j64 :: j65 :: j66 :: j67 :: j68 :: j69 :: []), []⟩ Q := by
  have n10 := hg.n10
  have hpl := pl_len p w.length
  intro m
  induction m with
  | zero =>
    intro j hj j3 j4 j5 j9 j10 j11 j12 j13 j14 j15 j16 j17 j18 j19 j20 j21 j22 j23 j24 j27 j28 j29 j30 j31 j32 j33 j34 j35 j36 j37 j38 j39 j40 j41 j42 j43 j44 j45 j46 j47 j48 j49 j50 j51 j52 j53 j54 j55 j56 j57 j58 j59 j60 j61 j62 j63 j64 j65 j66 j67 j68 j69
    have ej : j = w.length := by omega
    rw [ej]
    have h0 : decide (w.length < w.length + 1) = true := decide_eq_true (by omega)
    have h2 : decide (w.length + 1 < w.length + 1) = false := by simp
    have wi : IntKind.i64.wrap ((w.length : Int) + 1) = ((w.length + 1 : Nat) : Int) := by rw [wrap_id (by omega) (by omega)]; simp
    refine W_loop (W_run 80 ?_)
    simp (maxSteps := 2000000) only [SA, Nat.reduceDiv, Nat.reduceSub, Nat.reduceAdd, Int.reduceLT, Int.reduceLE, Int.reduceToNat, Nat.reduceMul, Nat.reduceEqDiff, reduceCtorEq, Nat.reduceBEq, Nat.reduceLeDiff, Nat.reduceLT, xf24_L1, ai, ab, al, tx, lt_cast, h0]
    refine W_alone (pvb_loop V w hg f p _ _ _ (fun j3 j4 j5 j10 j11 j12 j13 j14 j15 j16 j17 j18 j19 j20 j21 j22 j23 j24 j27 j28 j31 j32 j33 j34 j35 j36 j37 j38 j39 j40 j41 j42 j43 j44 j45 j46 j47 j48 j49 j50 j51 j52 j53 j54 j55 j56 j57 j58 j59 j60 j61 j62 j63 j64 j65 j66 j67 j68 j69 => W_run 80 ?_) w.length 0 (by omega) _ _ _ _ _ _ _ _ _ _ _ _ _ _ _ _ _ _ _ _ _ _ _ _ _ _ _ _ _ _ _ _ _ _ _ _ _ _ _ _ _ _ _ _ _ _ _ _ _ _ _ _ _ _ _ _ _ _ _)
    simp (maxSteps := 2000000) only [SA, Nat.reduceDiv, Nat.reduceSub, Nat.reduceAdd, Int.reduceLT, Int.reduceLE, Int.reduceToNat, Nat.reduceMul, Nat.reduceEqDiff, reduceCtorEq, Nat.reduceBEq, Nat.reduceLeDiff, Nat.reduceLT, xf24_R0, ai, ab, al, tx, wi]
    refine W_loop (W_run 80 ?_)
    simp (maxSteps := 2000000) only [SA, Nat.reduceDiv, Nat.reduceSub, Nat.reduceAdd, Int.reduceLT, Int.reduceLE, Int.reduceToNat, Nat.reduceMul, Nat.reduceEqDiff, reduceCtorEq, Nat.reduceBEq, Nat.reduceLeDiff, Nat.reduceLT, xf24_L1, ai, ab, al, tx, lt_cast, h2]
    exact W_stop (hK _ _ _ _ _ _ _ _ _ _ _ _ _ _ _ _ _ _ _ _ _ _ _ _ _ _ _ _ _ _ _ _ _ _ _ _ _ _ _ _ _ _ _ _ _ _ _ _ _ _ _ _ _ _ _ _ _ _ _ _ _ _)
  | succ m ih =>
    intro j hj j3 j4 j5 j9 j10 j11 j12 j13 j14 j15 j16 j17 j18 j19 j20 j21 j22 j23 j24 j27 j28 j29 j30 j31 j32 j33 j34 j35 j36 j37 j38 j39 j40 j41 j42 j43 j44 j45 j46 j47 j48 j49 j50 j51 j52 j53 j54 j55 j56 j57 j58 j59 j60 j61 j62 j63 j64 j65 j66 j67 j68 j69
    have h1 : j < w.length := by omega
    have h0 : decide (j < w.length + 1) = true := decide_eq_true (by omega)
    have wi : IntKind.i64.wrap ((j : Int) + 1) = ((j + 1 : Nat) : Int) := by rw [wrap_id (by omega) (by omega)]; simp
    have next := ih (j + 1) (by omega)
    rw [prR_succ] at next
    have hA := fun K Q hK => pva_loop V w hg f p hp j h1 (prR (pf w) V p j) K Q hK j 0 (by omega)
    have e0 : (prR (pf w) V p j && prK (pf w) V p j 0) = prR (pf w) V p j := by unfold prK lbK; simp
    rw [e0] at hA
    refine W_loop (W_run 80 ?_)
    simp (maxSteps := 2000000) only [SA, Nat.reduceDiv, Nat.reduceSub, Nat.reduceAdd, Int.reduceLT, Int.reduceLE, Int.reduceToNat, Nat.reduceMul, Nat.reduceEqDiff, reduceCtorEq, Nat.reduceBEq, Nat.reduceLeDiff, Nat.reduceLT, xf24_L1, ai, ab, al, tx, lt_cast, h0]
    refine W_alone (hA _ _ (fun j3 j4 j5 j10 j11 j12 j13 j14 j15 j16 j17 j18 j19 j20 j21 j22 j23 j24 j27 j28 j31 j32 j33 j34 j35 j36 j37 j38 j39 j40 j41 j42 j43 j44 j45 j46 j47 j48 j49 j50 j51 j52 j53 j54 j55 j56 j57 j58 j59 j60 j61 j62 j63 j64 j65 j66 j67 j68 j69 => W_run 80 ?_) _ _ _ _ _ _ _ _ _ _ _ _ _ _ _ _ _ _ _ _ _ _ _ _ _ _ _ _ _ _ _ _ _ _ _ _ _ _ _ _ _ _ _ _ _ _ _ _ _ _ _ _ _ _ _ _ _ _ _)
    simp (maxSteps := 2000000) only [SA, Nat.reduceDiv, Nat.reduceSub, Nat.reduceAdd, Int.reduceLT, Int.reduceLE, Int.reduceToNat, Nat.reduceMul, Nat.reduceEqDiff, reduceCtorEq, Nat.reduceBEq, Nat.reduceLeDiff, Nat.reduceLT, xf24_R0, ai, ab, al, tx, wi]
    exact next _ _ _ _ _ _ _ _ _ _ _ _ _ _ _ _ _ _ _ _ _ _ _ _ _ _ _ _ _ _ _ _ _ _ _ _ _ _ _ _ _ _ _ _ _ _ _ _ _ _ _ _ _ _ _ _ _ _ _ _ _ _
theorem lsK_eq {V : Int} {w : List Int} (hg : gX V w) {p : Nat → Int} (hp : ∀ i, i < w.length → 0 ≤ p i ∧ p i ≤ 20000) : lsK (pf w) V w.length p w.length = bnL p (lb (pf w) V w.length) := by
  have n1 := hg.n1
  have hin : w.length - 1 ∈ lb (pf w) V w.length := lb_mem.1 ⟨by omega, by have := fit_one hg.pos (j := w.length - 1) (by omega); rwa [show w.length - 1 + 1 = w.length by omega] at this⟩
  have e : lsK (pf w) V w.length p w.length = (lb (pf w) V w.length).foldl (fun a i => mn2 a (p i)) (p (w.length - 1)) := rfl
  obtain ⟨h1, h2, h3⟩ := mn_fold p (lb (pf w) V w.length) (p (w.length - 1))
  obtain ⟨i, hi, hb⟩ := bnL_ex (p := p) (List.ne_nil_of_mem hin) fun i hi => (hp i (lb_mem.2 hi).1).2
  rw [e]
  have a1 := h1 i hi
  rcases h3 with h3 | ⟨k, hk, h3⟩
  · have := bnL_le (p := p) hin; omega
  · have := bnL_le (p := p) hk; omega
theorem lproved_run {V : Int} {w : List Int} (hg : gX V w) (f : Bool) {p : Nat → Int} (hp : ∀ i, i < w.length → 0 ≤ p i ∧ p i ≤ 20000) : Runs Try.prog xf 24 [tx f V w, al false (pl p w.length)] (.tup [ai (bnL p (lb (pf w) V w.length)), ab (prB (pf w) V w.length p)]) := by
  have n1 := hg.n1
  have n10 := hg.n10
  have hpl := pl_len p w.length
  have g0 := get_pl (p := p) (n := w.length) (k := 0) n1
  have gl := get_pl (p := p) (n := w.length) (k := w.length - 1) (by omega)
  have wl : IntKind.i64.wrap ((w.length : Int) - 1) = ((w.length - 1 : Nat) : Int) := by rw [wrap_id (by omega) (by omega)]; omega
  have wk : IntKind.i64.wrap ((w.length : Int) + 1) = ((w.length + 1 : Nat) : Int) := by rw [wrap_id (by omega) (by omega)]; simp
  have hO := fun K Q hK => pvo_loop V w hg f p hp K Q hK w.length 0 (by omega)
  have e0 : prR (pf w) V p 0 = (p 0 == 0) := by unfold prR; simp; rfl
  rw [e0] at hO
  have hE := lsK_eq hg hp
  have hR := prR_eq (pf w) V w.length p
  refine Runs.ofW (fn := xf24) 20 (by kernel_rfl) (W_run 80 ?_)
  simp (maxSteps := 2000000) only [SA, Nat.reduceDiv, Nat.reduceSub, Nat.reduceAdd, Int.reduceLT, Int.reduceLE, Int.reduceToNat, Nat.reduceMul, Nat.reduceEqDiff, reduceCtorEq, Nat.reduceBEq, Nat.reduceLeDiff, Nat.reduceLT, xf24, ai, al, tx, wl, wk, g0, gl, Int.toNat_natCast]
  refine W_alone (hO _ _ (fun j3 j4 j5 j9 j10 j11 j12 j13 j14 j15 j16 j17 j18 j19 j20 j21 j22 j23 j24 j27 j28 j29 j30 j31 j32 j33 j34 j35 j36 j37 j38 j39 j40 j41 j42 j43 j44 j45 j46 j47 j48 j49 j50 j51 j52 j53 j54 j55 j56 j57 j58 j59 j60 j61 j62 j63 j64 j65 j66 j67 j68 j69 => W_run 80 ?_) _ _ _ _ _ _ _ _ _ _ _ _ _ _ _ _ _ _ _ _ _ _ _ _ _ _ _ _ _ _ _ _ _ _ _ _ _ _ _ _ _ _ _ _ _ _ _ _ _ _ _ _ _ _ _ _ _ _ _ _ _ _)
  rw [hE, hR]
  generalize bnL p (lb (pf w) V w.length) = z
  generalize prB (pf w) V w.length p = b
  simp (maxSteps := 2000000) only [SA, Nat.reduceDiv, Nat.reduceSub, Nat.reduceAdd, Int.reduceLT, Int.reduceLE, Int.reduceToNat, Nat.reduceMul, Nat.reduceEqDiff, reduceCtorEq, Nat.reduceBEq, Nat.reduceLeDiff, Nat.reduceLT, xf24_R1, ai, ab]
  exact W_ret1 (WX_nil ⟨.inl rfl, _, rfl, rfl⟩)
end Go.Proofs.Ytdmffkknghianaa

