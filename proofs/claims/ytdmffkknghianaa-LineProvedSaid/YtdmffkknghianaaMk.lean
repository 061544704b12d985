/-
  Package line: Bound, Proves.
-/
import Derived.Test.YtdmffkknghianaaGC
import Derived.Test.YtdmffkknghianaaMj
set_option linter.unusedSimpArgs false
set_option linter.unusedVariables false
namespace Go.Proofs.Ytdmffkknghianaa
open Go Go.Proofs.Eng
set_option maxRecDepth 100000
set_option maxHeartbeats 4000000
def bnL (p : Nat → Int) (l : List Nat) : Int := l.foldl (fun a i => mn2 a (p i)) 20000
theorem bnL_snoc (p : Nat → Int) (l : List Nat) (i : Nat) : bnL p (l ++ [i]) = mn2 (bnL p l) (p i) := by unfold bnL; rw [List.foldl_append]; rfl
theorem mn_fold (p : Nat → Int) : ∀ (l : List Nat) (a : Int), (∀ i, i ∈ l → l.foldl (fun a i => mn2 a (p i)) a ≤ p i) ∧ l.foldl (fun a i => mn2 a (p i)) a ≤ a ∧ (l.foldl (fun a i => mn2 a (p i)) a = a ∨ ∃ i, i ∈ l ∧ l.foldl (fun a i => mn2 a (p i)) a = p i)
  | [], a => ⟨by simp, Int.le_refl _, .inl rfl⟩
  | x :: t, a => by
    obtain ⟨h1, h2, h3⟩ := mn_fold p t (mn2 a (p x))
    have hm : mn2 a (p x) ≤ a ∧ mn2 a (p x) ≤ p x ∧ (mn2 a (p x) = a ∨ mn2 a (p x) = p x) := by unfold mn2; split <;> omega
    simp only [List.foldl_cons, List.mem_cons]
    refine ⟨fun i hi => ?_, by omega, ?_⟩
    · rcases hi with rfl | hi
      · omega
      · exact h1 i hi
    · rcases h3 with h3 | ⟨i, hi, h3⟩
      · rcases hm.2.2 with q | q
        · exact .inl (h3.trans q)
        · exact .inr ⟨x, .inl rfl, h3.trans q⟩
      · exact .inr ⟨i, .inr hi, h3⟩
theorem bnL_le {p : Nat → Int} {l : List Nat} {i : Nat} (h : i ∈ l) : bnL p l ≤ p i := (mn_fold p l 20000).1 i h
theorem bnL_ex {p : Nat → Int} {l : List Nat} (hl : l ≠ []) (hp : ∀ i, i ∈ l → p i ≤ 20000) : ∃ i, i ∈ l ∧ bnL p l = p i := by
  rcases (mn_fold p l 20000).2.2 with h | h
  · cases l with
    | nil => exact (hl rfl).elim
    | cons x t =>
      refine ⟨x, List.mem_cons_self, ?_⟩
      have h1 := (mn_fold p (x :: t) 20000).1 x List.mem_cons_self
      have h2 := hp x List.mem_cons_self
      unfold bnL; omega
  · exact h
def bndR (q : Nat → Int) (V : Int) (n : Nat) (p : Nat → Int) : AV := if prB q V n p = true then .tup [ai (bnL p (lb q V n)), ai 0] else .tup [ai 0, ai 14]
theorem named11 (j : Nat) : Go.Proofs.Eng.look [] j = Go.Proofs.Eng.look [(11, (0, (none : Option Ob)))] j := by
  simp only [Go.Proofs.Eng.look]
  by_cases h : 11 = j
  · subst h; simp
  · simp [h]
theorem bra_loop (V : Int) (w : List Int) (hn : w.length ≤ 10) (f g : Bool) (p : Nat → Int) (hp : ∀ i, i < w.length → 0 ≤ p i ∧ p i ≤ 20000) (K : List Fr) (Q : Out → Cfg → Prop)
    (hK : ∀ j3 j7 j8 j9 j10 j11 j12 j13 j14 j15 j16 j17 j18 j19 j20 j21 j25 j26 j27 j28 j29 j30 j31 j32 j33 j34 j35 j36 j37 j38 j39 j40 j41 j42 j43 j44 j45 j46 j47 j48 j49 j50 j51 j52 j53 j54 j55 j56 : AV, W Try.prog (RelU Try.prog xf) 0 K ⟨((tx f V w) :: (al g (pl p w.length)) :: (.ptr (tx f V w)) :: j3 :: (ai 0) :: (ai 0) :: (ai 0) :: j7 :: j8 :: j9 :: j10 :: j11 :: j12 :: j13 :: j14 :: j15 :: j16 :: j17 :: j18 :: j19 :: j20 :: j21 :: (al g (pl p w.length)) :: (ai w.length) :: (ai w.length) :: j25 :: j26 :: j27 :: j28 :: j29 :: j30 :: j31 :: j32 :: j33 :: j34 :: j35 :: j36 :: j37 :: j38 :: j39 :: j40 :: j41 :: j42 :: j43 :: j44 :: j45 :: j46 :: j47 :: j48 :: j49 :: j50 :: j51 :: j52 :: j53 :: j54 :: j55 :: j56 :: []), []⟩ Q) :
    ∀ (m k : Nat), k + m = w.length → ∀ j3 j7 j8 j9 j10 j11 j12 j13 j14 j15 j16 j17 j18 j19 j20 j21 j25 j26 j27 j28 j29 j30 j31 j32 j33 j34 j35 j36 j37 j38 j39 j40 j41 j42 j43 j44 j45 j46 j47 j48 j49 j50 j51 j52 j53 j54 j55 j56 : AV, W Try.prog (RelU Try.prog xf) 0 (.code (.loop xf21_L0) :: .blk 0 :: .stop :: K) ⟨((tx f V w) :: (al g (pl p w.length)) :: (.ptr (tx f V w)) :: j3 :: (ai 0) :: (ai 0) :: (ai 0) :: j7 :: j8 :: j9 :: j10 :: j11 :: j12 :: j13 :: j14 :: j15 :: j16 :: j17 :: j18 :: j19 :: j20 :: j21 :: (al g (pl p w.length)) :: (ai w.length) :: (ai k) :: j25 :: j26 :: j27 :: j28 :: j29 :: j30 :: j31 :: j32 :: j33 :: j34 :: j35 :: j36 :: j37 :: j38 :: j39 :: j40 :: j41 :: j42 :: j43 :: j44 :: j45 :: j46 :: j47 :: j48 :: j49 :: j50 :: j51 :: j52 :: j53 :: j54 :: j55 :: j56 :: []), []⟩ Q := by
  intro m
  induction m with
  | zero =>
    intro k hk j3 j7 j8 j9 j10 j11 j12 j13 j14 j15 j16 j17 j18 j19 j20 j21 j25 j26 j27 j28 j29 j30 j31 j32 j33 j34 j35 j36 j37 j38 j39 j40 j41 j42 j43 j44 j45 j46 j47 j48 j49 j50 j51 j52 j53 j54 j55 j56
    have ek : k = w.length := by omega
    have h0 : decide (k < w.length) = false := decide_eq_false (by omega)
    refine W_loop (W_run 80 ?_)
    simp (maxSteps := 2000000) only [SA, Nat.reduceDiv, Nat.reduceSub, Nat.reduceAdd, Int.reduceLT, Int.reduceLE, Int.reduceToNat, Nat.reduceMul, Nat.reduceEqDiff, reduceCtorEq, Nat.reduceBEq, Nat.reduceLeDiff, Nat.reduceLT, xf21_L0, ai, al, tx, lt_cast, h0]
    rw [ek]
    exact W_stop (hK _ _ _ _ _ _ _ _ _ _ _ _ _ _ _ _ _ _ _ _ _ _ _ _ _ _ _ _ _ _ _ _ _ _ _ _ _ _ _ _ _ _ _ _ _ _ _ _)
  | succ m ih =>
    intro k hk j3 j7 j8 j9 j10 j11 j12 j13 j14 j15 j16 j17 j18 j19 j20 j21 j25 j26 j27 j28 j29 j30 j31 j32 j33 j34 j35 j36 j37 j38 j39 j40 j41 j42 j43 j44 j45 j46 j47 j48 j49 j50 j51 j52 j53 j54 j55 j56
    have hk1 : k < w.length := by omega
    have h0 : decide (k < w.length) = true := decide_eq_true hk1
    have hgt := get_pl (p := p) hk1
    have hb := hp k hk1
    have d1 : decide (p k < 0) = false := decide_eq_false (by omega)
    have d2 : decide (20000 < p k) = false := decide_eq_false (by omega)
    have wi : IntKind.i64.wrap ((k : Int) + 1) = ((k + 1 : Nat) : Int) := by rw [wrap_id (by omega) (by omega)]; simp
    refine W_loop (W_run 80 ?_)
    simp (maxSteps := 2000000) only [SA, Nat.reduceDiv, Nat.reduceSub, Nat.reduceAdd, Int.reduceLT, Int.reduceLE, Int.reduceToNat, Nat.reduceMul, Nat.reduceEqDiff, reduceCtorEq, Nat.reduceBEq, Nat.reduceLeDiff, Nat.reduceLT, xf21_L0, ai, al, tx, lt_cast, h0, hgt, d1, d2, wi, Int.toNat_natCast]
    exact ih (k + 1) (by omega) _ _ _ _ _ _ _ _ _ _ _ _ _ _ _ _ _ _ _ _ _ _ _ _ _ _ _ _ _ _ _ _ _ _ _ _ _ _ _ _ _ _ _ _ _ _ _ _
theorem brb_loop (V : Int) (w : List Int) (hn : w.length ≤ 10) (f g : Bool) (p : Nat → Int) (K : List Fr) (Q : Out → Cfg → Prop)
    (hK : ∀ r11 : Nat × Option Ob, ∀ j3 j7 j8 j10 j11 j12 j13 j14 j15 j16 j17 j18 j19 j20 j21 j22 j23 j24 j25 j26 j27 j28 j29 j30 j31 j32 j33 j34 j35 j36 j37 j38 j39 j40 j41 j45 j46 j47 j48 j49 j50 j51 j52 j53 j54 j55 j56 : AV, W Try.prog (RelU Try.prog xf) 0 K ⟨((tx f V w) :: (al g (pl p w.length)) :: (.ptr (tx f V w)) :: j3 :: (ai 0) :: (ai 0) :: (ai 0) :: j7 :: j8 :: (ai (bnL p (lb (pf w) V w.length))) :: j10 :: j11 :: j12 :: j13 :: j14 :: j15 :: j16 :: j17 :: j18 :: j19 :: j20 :: j21 :: j22 :: j23 :: j24 :: j25 :: j26 :: j27 :: j28 :: j29 :: j30 :: j31 :: j32 :: j33 :: j34 :: j35 :: j36 :: j37 :: j38 :: j39 :: j40 :: j41 :: (spT (lb (pf w) V w.length) w.length) :: (ai (lb (pf w) V w.length).length) :: (ai (lb (pf w) V w.length).length) :: j45 :: j46 :: j47 :: j48 :: j49 :: j50 :: j51 :: j52 :: j53 :: j54 :: j55 :: j56 :: []), [(11, r11)]⟩ Q) :
    ∀ (m k : Nat), k + m = (lb (pf w) V w.length).length → ∀ (g11 : Nat) (o11 : Option Ob), ∀ j3 j7 j8 j10 j11 j12 j13 j14 j15 j16 j17 j18 j19 j20 j21 j22 j23 j24 j25 j26 j27 j28 j29 j30 j31 j32 j33 j34 j35 j36 j37 j38 j39 j40 j41 j45 j46 j47 j48 j49 j50 j51 j52 j53 j54 j55 j56 : AV, W Try.prog (RelU Try.prog xf) 0 (.code (.loop xf21_L1) :: .blk 2 :: .stop :: K) ⟨((tx f V w) :: (al g (pl p w.length)) :: (.ptr (tx f V w)) :: j3 :: (ai 0) :: (ai 0) :: (ai 0) :: j7 :: j8 :: (ai (bnL p ((lb (pf w) V w.length).take k))) :: j10 :: j11 :: j12 :: j13 :: j14 :: j15 :: j16 :: j17 :: j18 :: j19 :: j20 :: j21 :: j22 :: j23 :: j24 :: j25 :: j26 :: j27 :: j28 :: j29 :: j30 :: j31 :: j32 :: j33 :: j34 :: j35 :: j36 :: j37 :: j38 :: j39 :: j40 :: j41 :: (spT (lb (pf w) V w.length) w.length) :: (ai (lb (pf w) V w.length).length) :: (ai k) :: j45 :: j46 :: j47 :: j48 :: j49 :: j50 :: j51 :: j52 :: j53 :: j54 :: j55 :: j56 :: []), [(11, (g11, o11))]⟩ Q := by
  have hlb : (lb (pf w) V w.length).length ≤ 10 := Nat.le_trans (lbK_len (pf w) V w.length w.length) hn
  intro m
  induction m with
  | zero =>
    intro k hk g11 o11 j3 j7 j8 j10 j11 j12 j13 j14 j15 j16 j17 j18 j19 j20 j21 j22 j23 j24 j25 j26 j27 j28 j29 j30 j31 j32 j33 j34 j35 j36 j37 j38 j39 j40 j41 j45 j46 j47 j48 j49 j50 j51 j52 j53 j54 j55 j56
    have ek : k = (lb (pf w) V w.length).length := by omega
    have h0 : decide (k < (lb (pf w) V w.length).length) = false := decide_eq_false (by omega)
    rw [show (lb (pf w) V w.length).take k = lb (pf w) V w.length from List.take_of_length_le (by omega)]
    refine W_loop (W_run 80 ?_)
    simp (maxSteps := 2000000) only [SA, Nat.reduceDiv, Nat.reduceSub, Nat.reduceAdd, Int.reduceLT, Int.reduceLE, Int.reduceToNat, Nat.reduceMul, Nat.reduceEqDiff, reduceCtorEq, Nat.reduceBEq, Nat.reduceLeDiff, Nat.reduceLT, xf21_L1, ai, al, tx, spT, lt_cast, h0]
    rw [ek]
    exact W_stop (hK _ _ _ _ _ _ _ _ _ _ _ _ _ _ _ _ _ _ _ _ _ _ _ _ _ _ _ _ _ _ _ _ _ _ _ _ _ _ _ _ _ _ _ _ _ _ _ _)
  | succ m ih =>
    intro k hk g11 o11 j3 j7 j8 j10 j11 j12 j13 j14 j15 j16 j17 j18 j19 j20 j21 j22 j23 j24 j25 j26 j27 j28 j29 j30 j31 j32 j33 j34 j35 j36 j37 j38 j39 j40 j41 j45 j46 j47 j48 j49 j50 j51 j52 j53 j54 j55 j56
    have hk1 : k < (lb (pf w) V w.length).length := by omega
    have h0 : decide (k < (lb (pf w) V w.length).length) = true := decide_eq_true hk1
    have hgt := get_spT (j := w.length) hk1
    have wi : IntKind.i64.wrap ((k : Int) + 1) = ((k + 1 : Nat) : Int) := by rw [wrap_id (by omega) (by omega)]; simp
    have hin := lb_mem.2 (getD_in (d := 0) hk1)
    have next := ih (k + 1) (by omega)
    rw [take_snoc (d := 0) hk1, bnL_snoc] at next
    generalize (lb (pf w) V w.length).getD k 0 = i at *
    have hgi := get_pl (p := p) (n := w.length) (k := i) hin.1
    refine W_loop (W_run 80 ?_)
    simp (maxSteps := 2000000) only [SA, Nat.reduceDiv, Nat.reduceSub, Nat.reduceAdd, Int.reduceLT, Int.reduceLE, Int.reduceToNat, Nat.reduceMul, Nat.reduceEqDiff, reduceCtorEq, Nat.reduceBEq, Nat.reduceLeDiff, Nat.reduceLT, xf21_L1, ai, al, tx, spT, lt_cast, h0, hgt, hgi, wi, Int.toNat_natCast, raw_min, rawK, opA, argT, Option.elim, List.map_cons, List.map_nil]
    exact next _ _ _ _ _ _ _ _ _ _ _ _ _ _ _ _ _ _ _ _ _ _ _ _ _ _ _ _ _ _ _ _ _ _ _ _ _ _ _ _ _ _ _ _ _ _ _ _ _
theorem bound_run {V : Int} {w : List Int} (hg : gX V w) (f g : Bool) {p : Nat → Int} (hp : ∀ i, i < w.length → 0 ≤ p i ∧ p i ≤ 20000) : Runs Try.prog xf 21 [tx f V w, al g (pl p w.length)] (bndR (pf w) V w.length p) := by
  have n10 := hg.n10
  have hpl := pl_len p w.length
  have n00 : ((0 : Int) != 0) = false := rfl
  have nn : ((w.length : Int) != (w.length : Int)) = false := by simp
  have hcan := canp_run hg f g hp
  refine Runs.ofW (fn := xf21) 20 (by kernel_rfl) (W_run 80 ?_)
  simp (maxSteps := 2000000) only [SA, Nat.reduceDiv, Nat.reduceSub, Nat.reduceAdd, Int.reduceLT, Int.reduceLE, Int.reduceToNat, Nat.reduceMul, Nat.reduceEqDiff, reduceCtorEq, Nat.reduceBEq, Nat.reduceLeDiff, Nat.reduceLT, xf21, ai, al, tx]
  refine W_call (args := [tx f V w]) rfl (noRefs_1 (noRef_tx _ _ _)) (check_run hg f) rfl (W_run 80 ?_)
  simp (maxSteps := 2000000) only [SA, Nat.reduceDiv, Nat.reduceSub, Nat.reduceAdd, Int.reduceLT, Int.reduceLE, Int.reduceToNat, Nat.reduceMul, Nat.reduceEqDiff, reduceCtorEq, Nat.reduceBEq, Nat.reduceLeDiff, Nat.reduceLT, ai, al, tx, n00, hpl]
  refine W_call (args := [tx f V w]) rfl (noRefs_1 (noRef_tx _ _ _)) (last_run V w f) rfl (W_run 80 ?_)
  simp (maxSteps := 2000000) only [SA, Nat.reduceDiv, Nat.reduceSub, Nat.reduceAdd, Int.reduceLT, Int.reduceLE, Int.reduceToNat, Nat.reduceMul, Nat.reduceEqDiff, reduceCtorEq, Nat.reduceBEq, Nat.reduceLeDiff, Nat.reduceLT, ai, al, tx, hpl, nn]
  refine W_alone (bra_loop V w n10 f g p hp _ _ (fun j3 j7 j8 j9 j10 j11 j12 j13 j14 j15 j16 j17 j18 j19 j20 j21 j25 j26 j27 j28 j29 j30 j31 j32 j33 j34 j35 j36 j37 j38 j39 j40 j41 j42 j43 j44 j45 j46 j47 j48 j49 j50 j51 j52 j53 j54 j55 j56 => W_run 80 ?_) w.length 0 (by omega) _ _ _ _ _ _ _ _ _ _ _ _ _ _ _ _ _ _ _ _ _ _ _ _ _ _ _ _ _ _ _ _ _ _ _ _ _ _ _ _ _ _ _ _ _ _ _ _)
  simp (maxSteps := 2000000) only [SA, Nat.reduceDiv, Nat.reduceSub, Nat.reduceAdd, Int.reduceLT, Int.reduceLE, Int.reduceToNat, Nat.reduceMul, Nat.reduceEqDiff, reduceCtorEq, Nat.reduceBEq, Nat.reduceLeDiff, Nat.reduceLT, xf21_R1, ai, al, tx]
  refine W_call (args := [tx f V w, al g (pl p w.length)]) rfl (noRefs_2 (noRef_tx _ _ _) (noRef_al _ _)) hcan rfl (W_run 80 ?_)
  unfold bndR
  cases hc : prB (pf w) V w.length p with
  | true =>
    rw [if_pos rfl]
    simp (maxSteps := 2000000) only [SA, Nat.reduceDiv, Nat.reduceSub, Nat.reduceAdd, Int.reduceLT, Int.reduceLE, Int.reduceToNat, Nat.reduceMul, Nat.reduceEqDiff, reduceCtorEq, Nat.reduceBEq, Nat.reduceLeDiff, Nat.reduceLT, ai, ab, al, tx]
    refine W_call (args := [tx f V w]) rfl (noRefs_1 (noRef_tx _ _ _)) (last_run V w f) rfl (W_run 80 ?_)
    simp (maxSteps := 2000000) only [SA, Nat.reduceDiv, Nat.reduceSub, Nat.reduceAdd, Int.reduceLT, Int.reduceLE, Int.reduceToNat, Nat.reduceMul, Nat.reduceEqDiff, reduceCtorEq, Nat.reduceBEq, Nat.reduceLeDiff, Nat.reduceLT, ai, al, tx]
    refine W_call (args := [tx f V w, ai w.length]) rfl (noRefs_2 (noRef_tx _ _ _) rfl) (to_run hg f (Nat.le_refl _)) (noRef_spT _ _) (W_run 80 ?_)
    simp (maxSteps := 2000000) only [SA, Nat.reduceDiv, Nat.reduceSub, Nat.reduceAdd, Int.reduceLT, Int.reduceLE, Int.reduceToNat, Nat.reduceMul, Nat.reduceEqDiff, reduceCtorEq, Nat.reduceBEq, Nat.reduceLeDiff, Nat.reduceLT, ai, al, tx, spT, List.length_map]
    refine W_alone (W_named named11 (brb_loop V w n10 f g p _ _ (fun r11 j3 j7 j8 j10 j11 j12 j13 j14 j15 j16 j17 j18 j19 j20 j21 j22 j23 j24 j25 j26 j27 j28 j29 j30 j31 j32 j33 j34 j35 j36 j37 j38 j39 j40 j41 j45 j46 j47 j48 j49 j50 j51 j52 j53 j54 j55 j56 => W_run 80 ?_) (lb (pf w) V w.length).length 0 (by omega) _ _ _ _ _ _ _ _ _ _ _ _ _ _ _ _ _ _ _ _ _ _ _ _ _ _ _ _ _ _ _ _ _ _ _ _ _ _ _ _ _ _ _ _ _ _ _ _ _))
    simp (maxSteps := 2000000) only [SA, Nat.reduceDiv, Nat.reduceSub, Nat.reduceAdd, Int.reduceLT, Int.reduceLE, Int.reduceToNat, Nat.reduceMul, Nat.reduceEqDiff, reduceCtorEq, Nat.reduceBEq, Nat.reduceLeDiff, Nat.reduceLT, xf21_R0, ai]
    generalize bnL p (lb (pf w) V w.length) = z
    exact W_ret1 (WX_nil ⟨.inl rfl, _, rfl, rfl⟩)
  | false =>
    rw [if_neg (by simp)]
    simp (maxSteps := 2000000) only [SA, Nat.reduceDiv, Nat.reduceSub, Nat.reduceAdd, Int.reduceLT, Int.reduceLE, Int.reduceToNat, Nat.reduceMul, Nat.reduceEqDiff, reduceCtorEq, Nat.reduceBEq, Nat.reduceLeDiff, Nat.reduceLT, ai, ab, al, tx]
    exact W_ret1 (WX_pop (WX_nil ⟨.inl rfl, _, rfl, rfl⟩))
theorem proves_run {V : Int} {w : List Int} (hg : gX V w) (f g g' : Bool) {E : List Nat} (hE : E.length ≤ 100) (he : fE (pf w) V w.length E = 0) {p : Nat → Int} (hp : ∀ i, i < w.length → 0 ≤ p i ∧ p i ≤ 20000) :
    Runs Try.prog xf 22 [tx f V w, al g (nl E), al g' (pl p w.length)] (ai (if prB (pf w) V w.length p = true ∧ bnL p (lb (pf w) V w.length) = cstL (pf w) V w.length E then 0 else 14)) := by
  have hc := cost2_run hg f g hE
  have hb := bound_run hg f g' hp
  have n00 : ((0 : Int) != 0) = false := rfl
  have n14 : ((14 : Int) != 0) = true := rfl
  unfold costR at hc
  rw [if_pos he] at hc
  unfold bndR at hb
  generalize cstL (pf w) V w.length E = c at *
  generalize bnL p (lb (pf w) V w.length) = z at *
  refine Runs.ofW (fn := xf22) 20 (by kernel_rfl) (W_run 80 ?_)
  simp (maxSteps := 2000000) only [SA, Nat.reduceDiv, Nat.reduceSub, Nat.reduceAdd, Int.reduceLT, Int.reduceLE, Int.reduceToNat, Nat.reduceMul, Nat.reduceEqDiff, reduceCtorEq, Nat.reduceBEq, Nat.reduceLeDiff, Nat.reduceLT, xf22, ai, al, tx]
  refine W_call (args := [tx f V w, al g (nl E)]) rfl (noRefs_2 (noRef_tx _ _ _) (noRef_al _ _)) hc rfl (W_run 80 ?_)
  simp (maxSteps := 2000000) only [SA, Nat.reduceDiv, Nat.reduceSub, Nat.reduceAdd, Int.reduceLT, Int.reduceLE, Int.reduceToNat, Nat.reduceMul, Nat.reduceEqDiff, reduceCtorEq, Nat.reduceBEq, Nat.reduceLeDiff, Nat.reduceLT, ai, al, tx, n00]
  cases hq : prB (pf w) V w.length p with
  | true =>
    rw [hq, if_pos rfl] at hb
    refine W_call (args := [tx f V w, al g' (pl p w.length)]) rfl (noRefs_2 (noRef_tx _ _ _) (noRef_al _ _)) hb rfl (W_run 80 ?_)
    by_cases hz : z = c
    · have d1 : (z != c) = false := by simp [hz]
      rw [if_pos ⟨rfl, hz⟩]
      simp (maxSteps := 2000000) only [SA, Nat.reduceDiv, Nat.reduceSub, Nat.reduceAdd, Int.reduceLT, Int.reduceLE, Int.reduceToNat, Nat.reduceMul, Nat.reduceEqDiff, reduceCtorEq, Nat.reduceBEq, Nat.reduceLeDiff, Nat.reduceLT, ai, al, tx, n00, d1]
      exact W_ret1 (WX_nil ⟨.inl rfl, _, rfl, rfl⟩)
    · have d1 : (z != c) = true := by rw [bne_iff_ne]; exact hz
      rw [if_neg (fun h => hz h.2)]
      simp (maxSteps := 2000000) only [SA, Nat.reduceDiv, Nat.reduceSub, Nat.reduceAdd, Int.reduceLT, Int.reduceLE, Int.reduceToNat, Nat.reduceMul, Nat.reduceEqDiff, reduceCtorEq, Nat.reduceBEq, Nat.reduceLeDiff, Nat.reduceLT, ai, al, tx, n00, d1]
      exact W_ret1 (WX_pop (WX_nil ⟨.inl rfl, _, rfl, rfl⟩))
  | false =>
    rw [hq, if_neg (by simp)] at hb
    rw [if_neg (by simp)]
    refine W_call (args := [tx f V w, al g' (pl p w.length)]) rfl (noRefs_2 (noRef_tx _ _ _) (noRef_al _ _)) hb rfl (W_run 80 ?_)
    simp (maxSteps := 2000000) only [SA, Nat.reduceDiv, Nat.reduceSub, Nat.reduceAdd, Int.reduceLT, Int.reduceLE, Int.reduceToNat, Nat.reduceMul, Nat.reduceEqDiff, reduceCtorEq, Nat.reduceBEq, Nat.reduceLeDiff, Nat.reduceLT, ai, al, tx, n14]
    exact W_ret1 (WX_pop (WX_nil ⟨.inl rfl, _, rfl, rfl⟩))
end Go.Proofs.Ytdmffkknghianaa

