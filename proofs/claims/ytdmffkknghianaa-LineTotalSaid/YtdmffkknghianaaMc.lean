/-
  Package line: the lines that fit and end, or begin, at a place; what is kept of a line.
-/
import Derived.Test.YtdmffkknghianaaMb
set_option linter.unusedSimpArgs false
set_option linter.unusedVariables false
namespace Go.Proofs.Ytdmffkknghianaa
open Go Go.Proofs.Eng
set_option maxRecDepth 100000
set_option maxHeartbeats 4000000
theorem elem_spn (η : List (Nat × (Nat × Option Ob))) (n i j : Nat) : elemR (reify η (n + 1)) (spn i j) = some (spn i j) := rfl
def lbK (q : Nat → Int) (V : Int) (j k : Nat) : List Nat := (List.range k).filter fun i => fit q V i j
theorem lbK_succ (q : Nat → Int) (V : Int) (j k : Nat) : lbK q V j (k + 1) = lbK q V j k ++ (if fit q V k j = true then [k] else []) := by
  unfold lbK
  rw [List.range_succ, List.filter_append]
  by_cases h : fit q V k j = true <;> simp [h]
theorem lbK_len (q : Nat → Int) (V : Int) (j k : Nat) : (lbK q V j k).length ≤ k := by
  unfold lbK
  exact Nat.le_trans (List.length_filter_le _ _) (by simp)
def spT (l : List Nat) (j : Nat) : AV := .sl 2 false (l.map fun i => spn i j)
def spF (l : List Nat) (i : Nat) : AV := .sl 2 false (l.map fun j => spn i j)
theorem noRef_spT (l : List Nat) (j : Nat) : noRef (spT l j) = true := noRefs_of fun x hx => by obtain ⟨z, _, rfl⟩ := List.mem_map.1 hx; rfl
theorem noRef_spF (l : List Nat) (j : Nat) : noRef (spF l j) = true := noRefs_of fun x hx => by obtain ⟨z, _, rfl⟩ := List.mem_map.1 hx; rfl
theorem named78 {q : Nat × Option Ob} (j : Nat) : Go.Proofs.Eng.look [(8, q)] j = Go.Proofs.Eng.look [(7, (0, (none : Option Ob))), (8, q)] j := by
  simp only [Go.Proofs.Eng.look]
  by_cases h : 7 = j
  · subst h; simp
  · simp [h]
theorem to_loop (V : Int) (w : List Int) (hg : gX V w) (f : Bool) (j : Nat) (hj : j ≤ w.length) (K : List Fr) (Q : Out → Cfg → Prop)
    (hK : ∀ E : List Nat, E = lb (pf w) V j → ∀ r7 : Nat × Option Ob, ∀ j3 j6 j7 j8 j11 j12 j13 j14 j15 j16 j17 j18 j19 j20 j21 j22 j23 j24 : AV, W Try.prog (RelU Try.prog xf) 0 K ⟨((tx f V w) :: (ai j) :: (.ptr (tx f V w)) :: j3 :: nilA :: (.os 8 1 E.length 2 0 E.length) :: j6 :: j7 :: j8 :: (ai j) :: (ai j) :: j11 :: j12 :: j13 :: j14 :: j15 :: j16 :: j17 :: j18 :: j19 :: j20 :: j21 :: j22 :: j23 :: j24 :: []), [(7, r7), (8, (1, some ⟨77, 2, E.map fun i => spn i j⟩))]⟩ Q) :
    ∀ (m k : Nat), k + m = j → ∀ E : List Nat, E = lbK (pf w) V j k → ∀ (g7 : Nat) (o7 : Option Ob), ∀ j3 j6 j7 j8 j11 j12 j13 j14 j15 j16 j17 j18 j19 j20 j21 j22 j23 j24 : AV, W Try.prog (RelU Try.prog xf) 0 (.code (.loop xf51_L0) :: .blk 0 :: .stop :: K) ⟨((tx f V w) :: (ai j) :: (.ptr (tx f V w)) :: j3 :: nilA :: (.os 8 1 E.length 2 0 E.length) :: j6 :: j7 :: j8 :: (ai j) :: (ai k) :: j11 :: j12 :: j13 :: j14 :: j15 :: j16 :: j17 :: j18 :: j19 :: j20 :: j21 :: j22 :: j23 :: j24 :: []), [(7, (g7, o7)), (8, (1, some ⟨77, 2, E.map fun i => spn i j⟩))]⟩ Q := by
  intro m
  induction m with
  | zero =>
    intro k hk E hE g7 o7 j3 j6 j7 j8 j11 j12 j13 j14 j15 j16 j17 j18 j19 j20 j21 j22 j23 j24
    have : k = j := by omega
    subst this
    have h0 : decide (k < k) = false := by simp
    refine W_loop (W_run 80 ?_)
    simp (maxSteps := 2000000) only [SA, Nat.reduceDiv, Nat.reduceSub, Nat.reduceAdd, Int.reduceLT, Int.reduceLE, Int.reduceToNat, Nat.reduceMul, Nat.reduceEqDiff, reduceCtorEq, Nat.reduceBEq, Nat.reduceLeDiff, Nat.reduceLT, xf51_L0, ai, al, tx, lt_cast, h0]
    exact W_stop (hK E hE _ _ _ _ _ _ _ _ _ _ _ _ _ _ _ _ _ _ _)
  | succ m ih =>
    intro k hk E hE g7 o7 j3 j6 j7 j8 j11 j12 j13 j14 j15 j16 j17 j18 j19 j20 j21 j22 j23 j24
    have h1 : k < j := by omega
    have h0 : decide (k < j) = true := decide_eq_true h1
    have := hg.n10
    have wi : IntKind.i64.wrap ((k : Int) + 1) = ((k + 1 : Nat) : Int) := by rw [wrap_id (by omega) (by omega)]; simp
    have hfit := fits_run hg f h1 hj
    have hlen := lbK_len (pf w) V j k
    have hs := lbK_succ (pf w) V j k
    rw [← hE] at hlen hs
    refine W_loop (W_run 80 ?_)
    simp (maxSteps := 2000000) only [SA, Nat.reduceDiv, Nat.reduceSub, Nat.reduceAdd, Int.reduceLT, Int.reduceLE, Int.reduceToNat, Nat.reduceMul, Nat.reduceEqDiff, reduceCtorEq, Nat.reduceBEq, Nat.reduceLeDiff, Nat.reduceLT, xf51_L0, ai, al, tx, lt_cast, h0, Go.Proofs.Eng.fillA, List.map_cons, List.map_nil]
    refine W_call (args := [tx f V w, spn k j]) rfl (noRefs_2 (noRef_tx _ _ _) rfl) hfit rfl (W_run 80 ?_)
    cases hf : fit (pf w) V k j with
    | true =>
      rw [hf, if_pos rfl] at hs
      have q1 : (E.length + 1) * 16 ≤ 100000000000000 := by omega
      have q2 : E.length + 1 ≤ 100000000000000 := by omega
      have next := ih (k + 1) (by omega) (E ++ [k]) hs.symm
      rw [List.length_append, List.map_append] at next
      simp (maxSteps := 2000000) only [SA, Nat.reduceDiv, Nat.reduceSub, Nat.reduceAdd, Int.reduceLT, Int.reduceLE, Int.reduceToNat, Nat.reduceMul, Nat.reduceEqDiff, reduceCtorEq, Nat.reduceBEq, Nat.reduceLeDiff, Nat.reduceLT, ai, ab, al, tx, wi, q1, q2, Go.Proofs.Eng.elems, List.map_cons, List.map_nil]
      exact next _ _ _ _ _ _ _ _ _ _ _ _ _ _ _ _ _ _ _ _
    | false =>
      rw [hf, if_neg (by simp), List.append_nil] at hs
      simp (maxSteps := 2000000) only [SA, Nat.reduceDiv, Nat.reduceSub, Nat.reduceAdd, Int.reduceLT, Int.reduceLE, Int.reduceToNat, Nat.reduceMul, Nat.reduceEqDiff, reduceCtorEq, Nat.reduceBEq, Nat.reduceLeDiff, Nat.reduceLT, ai, ab, al, tx, wi]
      exact ih (k + 1) (by omega) E hs.symm _ _ _ _ _ _ _ _ _ _ _ _ _ _ _ _ _ _ _ _
theorem to_run {V : Int} {w : List Int} (hg : gX V w) (f : Bool) {j : Nat} (hj : j ≤ w.length) : Runs Try.prog xf 51 [tx f V w, ai j] (spT (lb (pf w) V j) j) := by
  refine Runs.ofW (fn := xf51) 20 (by kernel_rfl) (W_run 80 ?_)
  simp (maxSteps := 2000000) only [SA, Nat.reduceDiv, Nat.reduceSub, Nat.reduceAdd, Int.reduceLT, Int.reduceLE, Int.reduceToNat, Nat.reduceMul, Nat.reduceEqDiff, reduceCtorEq, Nat.reduceBEq, Nat.reduceLeDiff, Nat.reduceLT, xf51, ai, al, tx, List.map_nil]
  refine W_alone (W_named named78 (to_loop V w hg f j hj _ _ (fun E hE r7 j3 j6 j7 j8 j11 j12 j13 j14 j15 j16 j17 j18 j19 j20 j21 j22 j23 j24 => W_run 80 ?_) j 0 (by omega) [] rfl _ _ _ _ _ _ _ _ _ _ _ _ _ _ _ _ _ _ _ _))
  simp (maxSteps := 2000000) only [SA, Nat.reduceDiv, Nat.reduceSub, Nat.reduceAdd, Int.reduceLT, Int.reduceLE, Int.reduceToNat, Nat.reduceMul, Nat.reduceEqDiff, reduceCtorEq, Nat.reduceBEq, Nat.reduceLeDiff, Nat.reduceLT, xf51_R0, ai]
  subst hE
  exact W_ret1 (WX_nil ⟨.inl rfl, _, rfl, reify_os (fun i => elem_spn _ 18 i j) rfl⟩)
/-! ### those that begin at a place -/
def laK (q : Nat → Int) (V : Int) (i k : Nat) : List Nat := (List.range' (i + 1) k).filter fun j => fit q V i j
theorem laK_succ (q : Nat → Int) (V : Int) (i k : Nat) : laK q V i (k + 1) = laK q V i k ++ (if fit q V i (i + 1 + k) = true then [i + 1 + k] else []) := by
  unfold laK
  rw [List.range'_concat, List.filter_append, Nat.one_mul]
  by_cases h : fit q V i (i + 1 + k) = true <;> simp [h]
theorem laK_len (q : Nat → Int) (V : Int) (i k : Nat) : (laK q V i k).length ≤ k := by
  unfold laK
  exact Nat.le_trans (List.length_filter_le _ _) (by simp)
theorem from_loop (V : Int) (w : List Int) (hg : gX V w) (f : Bool) (i : Nat) (hi : i < w.length) (K : List Fr) (Q : Out → Cfg → Prop)
    (hK : ∀ E : List Nat, E = la (pf w) V w.length i → ∀ r7 : Nat × Option Ob, ∀ j3 j7 j8 j9 j10 j11 j12 j13 j14 j15 j16 j17 j18 j19 j20 j21 j22 j23 j24 j25 j26 j27 : AV, W Try.prog (RelU Try.prog xf) 0 K ⟨((tx f V w) :: (ai i) :: (.ptr (tx f V w)) :: j3 :: nilA :: (.os 8 1 E.length 2 0 E.length) :: (ai (w.length + 1 : Nat)) :: j7 :: j8 :: j9 :: j10 :: j11 :: j12 :: j13 :: j14 :: j15 :: j16 :: j17 :: j18 :: j19 :: j20 :: j21 :: j22 :: j23 :: j24 :: j25 :: j26 :: j27 :: []), [(7, r7), (8, (1, some ⟨77, 2, E.map fun j => spn i j⟩))]⟩ Q) :
    ∀ (m k : Nat), i + k + m = w.length → ∀ E : List Nat, E = laK (pf w) V i k → ∀ (g7 : Nat) (o7 : Option Ob), ∀ j3 j7 j8 j9 j10 j11 j12 j13 j14 j15 j16 j17 j18 j19 j20 j21 j22 j23 j24 j25 j26 j27 : AV, W Try.prog (RelU Try.prog xf) 0 (.code (.loop xf69_L0) :: .blk 0 :: .stop :: K) ⟨((tx f V w) :: (ai i) :: (.ptr (tx f V w)) :: j3 :: nilA :: (.os 8 1 E.length 2 0 E.length) :: (ai (i + 1 + k : Nat)) :: j7 :: j8 :: j9 :: j10 :: j11 :: j12 :: j13 :: j14 :: j15 :: j16 :: j17 :: j18 :: j19 :: j20 :: j21 :: j22 :: j23 :: j24 :: j25 :: j26 :: j27 :: []), [(7, (g7, o7)), (8, (1, some ⟨77, 2, E.map fun j => spn i j⟩))]⟩ Q := by
  intro m
  induction m with
  | zero =>
    intro k hk E hE g7 o7 j3 j7 j8 j9 j10 j11 j12 j13 j14 j15 j16 j17 j18 j19 j20 j21 j22 j23 j24 j25 j26 j27
    have e : k = w.length - i := by omega
    have e2 : i + 1 + k = w.length + 1 := by omega
    have h0 : decide (((i + 1 + k : Nat) : Int) ≤ w.length) = false := decide_eq_false (by omega)
    refine W_loop (W_run 80 ?_)
    simp (maxSteps := 2000000) only [SA, Nat.reduceDiv, Nat.reduceSub, Nat.reduceAdd, Int.reduceLT, Int.reduceLE, Int.reduceToNat, Nat.reduceMul, Nat.reduceEqDiff, reduceCtorEq, Nat.reduceBEq, Nat.reduceLeDiff, Nat.reduceLT, xf69_L0, ai, al, tx]
    refine W_call (args := [tx f V w]) rfl (noRefs_1 (noRef_tx _ _ _)) (last_run V w f) rfl (W_run 80 ?_)
    simp (maxSteps := 2000000) only [SA, Nat.reduceDiv, Nat.reduceSub, Nat.reduceAdd, Int.reduceLT, Int.reduceLE, Int.reduceToNat, Nat.reduceMul, Nat.reduceEqDiff, reduceCtorEq, Nat.reduceBEq, Nat.reduceLeDiff, Nat.reduceLT, ai, al, tx, h0]
    rw [e2]
    exact W_stop (hK E (by rw [hE, e]; rfl) _ _ _ _ _ _ _ _ _ _ _ _ _ _ _ _ _ _ _ _ _ _ _)
  | succ m ih =>
    intro k hk E hE g7 o7 j3 j7 j8 j9 j10 j11 j12 j13 j14 j15 j16 j17 j18 j19 j20 j21 j22 j23 j24 j25 j26 j27
    have h1 : i + 1 + k ≤ w.length := by omega
    have h0 : decide (((i + 1 + k : Nat) : Int) ≤ w.length) = true := decide_eq_true (by omega)
    have := hg.n10
    have wi : IntKind.i64.wrap (((i + 1 + k : Nat) : Int) + 1) = ((i + 1 + (k + 1) : Nat) : Int) := by rw [wrap_id (by omega) (by omega)]; omega
    have hfit := fits_run hg f (i := i) (j := i + 1 + k) (by omega) h1
    have hlen := laK_len (pf w) V i k
    have hs := laK_succ (pf w) V i k
    rw [← hE] at hlen hs
    refine W_loop (W_run 80 ?_)
    simp (maxSteps := 2000000) only [SA, Nat.reduceDiv, Nat.reduceSub, Nat.reduceAdd, Int.reduceLT, Int.reduceLE, Int.reduceToNat, Nat.reduceMul, Nat.reduceEqDiff, reduceCtorEq, Nat.reduceBEq, Nat.reduceLeDiff, Nat.reduceLT, xf69_L0, ai, al, tx]
    refine W_call (args := [tx f V w]) rfl (noRefs_1 (noRef_tx _ _ _)) (last_run V w f) rfl (W_run 80 ?_)
    simp (maxSteps := 2000000) only [SA, Nat.reduceDiv, Nat.reduceSub, Nat.reduceAdd, Int.reduceLT, Int.reduceLE, Int.reduceToNat, Nat.reduceMul, Nat.reduceEqDiff, reduceCtorEq, Nat.reduceBEq, Nat.reduceLeDiff, Nat.reduceLT, ai, al, tx, h0, Go.Proofs.Eng.fillA, List.map_cons, List.map_nil]
    refine W_call (args := [tx f V w, spn i (i + 1 + k)]) rfl (noRefs_2 (noRef_tx _ _ _) rfl) hfit rfl (W_run 80 ?_)
    cases hf : fit (pf w) V i (i + 1 + k) with
    | true =>
      rw [hf, if_pos rfl] at hs
      have q1 : (E.length + 1) * 16 ≤ 100000000000000 := by omega
      have q2 : E.length + 1 ≤ 100000000000000 := by omega
      have next := ih (k + 1) (by omega) (E ++ [i + 1 + k]) hs.symm
      rw [List.length_append, List.map_append] at next
      simp (maxSteps := 2000000) only [SA, Nat.reduceDiv, Nat.reduceSub, Nat.reduceAdd, Int.reduceLT, Int.reduceLE, Int.reduceToNat, Nat.reduceMul, Nat.reduceEqDiff, reduceCtorEq, Nat.reduceBEq, Nat.reduceLeDiff, Nat.reduceLT, ai, ab, al, tx, wi, q1, q2, Go.Proofs.Eng.elems, List.map_cons, List.map_nil]
      exact next _ _ _ _ _ _ _ _ _ _ _ _ _ _ _ _ _ _ _ _ _ _ _ _
    | false =>
      rw [hf, if_neg (by simp), List.append_nil] at hs
      simp (maxSteps := 2000000) only [SA, Nat.reduceDiv, Nat.reduceSub, Nat.reduceAdd, Int.reduceLT, Int.reduceLE, Int.reduceToNat, Nat.reduceMul, Nat.reduceEqDiff, reduceCtorEq, Nat.reduceBEq, Nat.reduceLeDiff, Nat.reduceLT, ai, ab, al, tx, wi]
      exact ih (k + 1) (by omega) E hs.symm _ _ _ _ _ _ _ _ _ _ _ _ _ _ _ _ _ _ _ _ _ _ _ _
theorem from_run {V : Int} {w : List Int} (hg : gX V w) (f : Bool) {i : Nat} (hi : i < w.length) : Runs Try.prog xf 69 [tx f V w, ai i] (spF (la (pf w) V w.length i) i) := by
  have := hg.n10
  have wi : IntKind.i64.wrap ((i : Int) + 1) = ((i + 1 + 0 : Nat) : Int) := by rw [wrap_id (by omega) (by omega)]; omega
  refine Runs.ofW (fn := xf69) 20 (by kernel_rfl) (W_run 80 ?_)
  simp (maxSteps := 2000000) only [SA, Nat.reduceDiv, Nat.reduceSub, Nat.reduceAdd, Int.reduceLT, Int.reduceLE, Int.reduceToNat, Nat.reduceMul, Nat.reduceEqDiff, reduceCtorEq, Nat.reduceBEq, Nat.reduceLeDiff, Nat.reduceLT, xf69, ai, al, tx, List.map_nil, wi]
  refine W_alone (W_named named78 (from_loop V w hg f i hi _ _ (fun E hE r7 j3 j7 j8 j9 j10 j11 j12 j13 j14 j15 j16 j17 j18 j19 j20 j21 j22 j23 j24 j25 j26 j27 => W_run 80 ?_) (w.length - i) 0 (by omega) [] rfl _ _ _ _ _ _ _ _ _ _ _ _ _ _ _ _ _ _ _ _ _ _ _ _))
  simp (maxSteps := 2000000) only [SA, Nat.reduceDiv, Nat.reduceSub, Nat.reduceAdd, Int.reduceLT, Int.reduceLE, Int.reduceToNat, Nat.reduceMul, Nat.reduceEqDiff, reduceCtorEq, Nat.reduceBEq, Nat.reduceLeDiff, Nat.reduceLT, xf69_R0, ai]
  subst hE
  exact W_ret1 (WX_nil ⟨.inl rfl, _, rfl, reify_os (fun j => elem_spn _ 18 i j) rfl⟩)
end Go.Proofs.Ytdmffkknghianaa

