/-
  Package line: Fits, Left, Cost.
-/
import Derived.Test.YtdmffkknghianaaMh
set_option linter.unusedSimpArgs false
set_option linter.unusedVariables false
namespace Go.Proofs.Ytdmffkknghianaa
open Go Go.Proofs.Eng
set_option maxRecDepth 100000
set_option maxHeartbeats 4000000
theorem noRef_spanR (q : Nat → Int) (V : Int) (n : Nat) (E : List Nat) : noRef (spanR q V n E) = true := by
  unfold spanR
  split
  · exact noRef_t2 (noRef_spR _) rfl
  · rfl
theorem fits2_run {V : Int} {w : List Int} (hg : gX V w) (f g : Bool) {E : List Nat} (hE : E.length ≤ 100) : Runs Try.prog xf 35 [tx f V w, al g (nl E)] (ai (fE (pf w) V w.length E)) := by
  have hs := spansOf_run hg f g hE
  have hn := noRef_spanR (pf w) V w.length E
  refine Runs.ofW (fn := xf35) 20 (by kernel_rfl) (W_run 80 ?_)
  simp (maxSteps := 2000000) only [SA, Nat.reduceDiv, Nat.reduceSub, Nat.reduceAdd, Int.reduceLT, Int.reduceLE, Int.reduceToNat, Nat.reduceMul, Nat.reduceEqDiff, reduceCtorEq, Nat.reduceBEq, Nat.reduceLeDiff, Nat.reduceLT, xf35, ai, al, tx]
  refine W_call (args := [tx f V w, al g (nl E)]) rfl (noRefs_2 (noRef_tx _ _ _) (noRef_al _ _)) hs hn (W_run 80 ?_)
  unfold spanR
  by_cases h : fE (pf w) V w.length E = 0
  · rw [if_pos h, h]
    simp (maxSteps := 2000000) only [SA, Nat.reduceDiv, Nat.reduceSub, Nat.reduceAdd, Int.reduceLT, Int.reduceLE, Int.reduceToNat, Nat.reduceMul, Nat.reduceEqDiff, reduceCtorEq, Nat.reduceBEq, Nat.reduceLeDiff, Nat.reduceLT, ai, al, spR]
    exact W_ret1 (WX_nil ⟨.inl rfl, _, rfl, rfl⟩)
  · rw [if_neg h]
    simp (maxSteps := 2000000) only [SA, Nat.reduceDiv, Nat.reduceSub, Nat.reduceAdd, Int.reduceLT, Int.reduceLE, Int.reduceToNat, Nat.reduceMul, Nat.reduceEqDiff, reduceCtorEq, Nat.reduceBEq, Nat.reduceLeDiff, Nat.reduceLT, ai, al, spR]
    exact W_ret1 (WX_nil ⟨.inl rfl, _, rfl, rfl⟩)
def lftL (q : Nat → Int) (V : Int) (E : List Nat) : List Int := (spE 0 E).map fun p => lf q V p.1 p.2
def cstL (q : Nat → Int) (V : Int) (n : Nat) (E : List Nat) : Int := sumI ((spE 0 E).map fun p => cst q V n p.1 p.2)
theorem named1020 {q : Nat × Option Ob} (j : Nat) : Go.Proofs.Eng.look [(20, q)] j = Go.Proofs.Eng.look [(10, (0, (none : Option Ob))), (20, q)] j := by
  simp only [Go.Proofs.Eng.look]
  by_cases h : 10 = j
  · subst h; simp
  · simp [h]
theorem lft_loop (V : Int) (w : List Int) (hg : gX V w) (f : Bool) (x1 x11 : AV) (l : List (Nat × Nat)) (hl : l.length ≤ 100) (hok : ∀ p, p ∈ l → p.1 < p.2 ∧ p.2 ≤ w.length) (K : List Fr) (Q : Out → Cfg → Prop)
    (hK : ∀ R : List Int, R = l.map (fun p => lf (pf w) V p.1 p.2) → ∀ r10 : Nat × Option Ob, ∀ j3 j9 j10 j12 j13 j14 j15 j16 j17 j18 j19 j20 j24 j25 j26 j27 j28 j29 j30 j31 j32 j33 j34 : AV, W Try.prog (RelU Try.prog xf) 0 K ⟨((tx f V w) :: x1 :: (.ptr (tx f V w)) :: j3 :: nilA :: (ai 0) :: (spR l) :: (ai 0) :: (.os 20 1 R.length 1 0 R.length) :: j9 :: j10 :: x11 :: j12 :: j13 :: j14 :: j15 :: j16 :: j17 :: j18 :: j19 :: j20 :: (spR l) :: (ai l.length) :: (ai l.length) :: j24 :: j25 :: j26 :: j27 :: j28 :: j29 :: j30 :: j31 :: j32 :: j33 :: j34 :: []), [(10, r10), (20, (1, some ⟨3, 1, R.map ai⟩))]⟩ Q) :
    ∀ (m k : Nat), k + m = l.length → ∀ R : List Int, R = (l.take k).map (fun p => lf (pf w) V p.1 p.2) → ∀ (g10 : Nat) (o10 : Option Ob), ∀ j3 j9 j10 j12 j13 j14 j15 j16 j17 j18 j19 j20 j24 j25 j26 j27 j28 j29 j30 j31 j32 j33 j34 : AV, W Try.prog (RelU Try.prog xf) 0 (.code (.loop xf37_L0) :: .blk 0 :: .stop :: K) ⟨((tx f V w) :: x1 :: (.ptr (tx f V w)) :: j3 :: nilA :: (ai 0) :: (spR l) :: (ai 0) :: (.os 20 1 R.length 1 0 R.length) :: j9 :: j10 :: x11 :: j12 :: j13 :: j14 :: j15 :: j16 :: j17 :: j18 :: j19 :: j20 :: (spR l) :: (ai l.length) :: (ai k) :: j24 :: j25 :: j26 :: j27 :: j28 :: j29 :: j30 :: j31 :: j32 :: j33 :: j34 :: []), [(10, (g10, o10)), (20, (1, some ⟨3, 1, R.map ai⟩))]⟩ Q := by
  intro m
  induction m with
  | zero =>
    intro k hk R hR g10 o10 j3 j9 j10 j12 j13 j14 j15 j16 j17 j18 j19 j20 j24 j25 j26 j27 j28 j29 j30 j31 j32 j33 j34
    have ek : k = l.length := by omega
    have h0 : decide (k < l.length) = false := decide_eq_false (by omega)
    refine W_loop (W_run 80 ?_)
    simp (maxSteps := 2000000) only [SA, Nat.reduceDiv, Nat.reduceSub, Nat.reduceAdd, Int.reduceLT, Int.reduceLE, Int.reduceToNat, Nat.reduceMul, Nat.reduceEqDiff, reduceCtorEq, Nat.reduceBEq, Nat.reduceLeDiff, Nat.reduceLT, xf37_L0, ai, al, tx, spR, lt_cast, h0]
    rw [ek]
    exact W_stop (hK R (by rw [hR, List.take_of_length_le (by omega)]) _ _ _ _ _ _ _ _ _ _ _ _ _ _ _ _ _ _ _ _ _ _ _ _)
  | succ m ih =>
    intro k hk R hR g10 o10 j3 j9 j10 j12 j13 j14 j15 j16 j17 j18 j19 j20 j24 j25 j26 j27 j28 j29 j30 j31 j32 j33 j34
    have hk1 : k < l.length := by omega
    have h0 : decide (k < l.length) = true := decide_eq_true hk1
    have hgt : (l.map shP)[k]? = some (.ag [ai ((l.getD k (0, 0)).1 : Nat), ai ((l.getD k (0, 0)).2 : Nat)]) := by rw [List.getElem?_map, getD_at (d := (0, 0)) hk1]; rfl
    have wi : IntKind.i64.wrap ((k : Int) + 1) = ((k + 1 : Nat) : Int) := by rw [wrap_id (by omega) (by omega)]; simp
    have hin := hok _ (getD_in (d := (0, 0)) hk1)
    have hlen : R.length = k := by rw [hR, List.length_map, List.length_take]; omega
    have next := ih (k + 1) (by omega) (R ++ [lf (pf w) V (l.getD k (0, 0)).1 (l.getD k (0, 0)).2]) (by rw [take_snoc (d := (0, 0)) hk1, List.map_append, hR]; rfl)
    generalize l.getD k (0, 0) = p at *
    have hlf := left_run hg f hin.1 hin.2
    have q1 : (R.length + 1) * 8 ≤ 100000000000000 := by omega
    have q2 : R.length + 1 ≤ 100000000000000 := by omega
    rw [List.length_append, List.map_append] at next
    refine W_loop (W_run 80 ?_)
    simp (maxSteps := 2000000) only [SA, Nat.reduceDiv, Nat.reduceSub, Nat.reduceAdd, Int.reduceLT, Int.reduceLE, Int.reduceToNat, Nat.reduceMul, Nat.reduceEqDiff, reduceCtorEq, Nat.reduceBEq, Nat.reduceLeDiff, Nat.reduceLT, xf37_L0, ai, al, tx, spR, lt_cast, h0, hgt, List.map_cons, List.map_nil]
    refine W_call (args := [tx f V w, spn p.1 p.2]) rfl (noRefs_2 (noRef_tx _ _ _) rfl) hlf rfl (W_run 80 ?_)
    simp (maxSteps := 2000000) only [SA, Nat.reduceDiv, Nat.reduceSub, Nat.reduceAdd, Int.reduceLT, Int.reduceLE, Int.reduceToNat, Nat.reduceMul, Nat.reduceEqDiff, reduceCtorEq, Nat.reduceBEq, Nat.reduceLeDiff, Nat.reduceLT, ai, al, tx, wi, spR, q1, q2, Go.Proofs.Eng.elems, List.map_cons, List.map_nil]
    exact next _ _ _ _ _ _ _ _ _ _ _ _ _ _ _ _ _ _ _ _ _ _ _ _ _
def leftR (q : Nat → Int) (V : Int) (n : Nat) (E : List Nat) : AV := if fE q V n E = 0 then .tup [al false (lftL q V E), ai 0] else .tup [nilA, ai (fE q V n E)]
theorem noRef_leftR (q : Nat → Int) (V : Int) (n : Nat) (E : List Nat) : noRef (leftR q V n E) = true := by
  unfold leftR
  split
  · exact noRef_t2 (noRef_al _ _) rfl
  · rfl
theorem fE_ok {q : Nat → Int} {V : Int} {n : Nat} {E : List Nat} (h : fE q V n E = 0) : eE n 0 E = 0 ∧ (spE 0 E).all (fun p => fit q V p.1 p.2) = true := by
  unfold fE at h
  split at h
  · rename_i h2
    split at h
    · exact ⟨h2, by assumption⟩
    · omega
  · rename_i h2
    exact (h2 h).elim
theorem left2_run {V : Int} {w : List Int} (hg : gX V w) (f g : Bool) {E : List Nat} (hE : E.length ≤ 100) : Runs Try.prog xf 37 [tx f V w, al g (nl E)] (leftR (pf w) V w.length E) := by
  have hs := spansOf_run hg f g hE
  have hn := noRef_spanR (pf w) V w.length E
  have n00 : ((0 : Int) != 0) = false := rfl
  refine Runs.ofW (fn := xf37) 20 (by kernel_rfl) (W_run 80 ?_)
  simp (maxSteps := 2000000) only [SA, Nat.reduceDiv, Nat.reduceSub, Nat.reduceAdd, Int.reduceLT, Int.reduceLE, Int.reduceToNat, Nat.reduceMul, Nat.reduceEqDiff, reduceCtorEq, Nat.reduceBEq, Nat.reduceLeDiff, Nat.reduceLT, xf37, ai, al, tx]
  refine W_call (args := [tx f V w, al g (nl E)]) rfl (noRefs_2 (noRef_tx _ _ _) (noRef_al _ _)) hs hn (W_run 80 ?_)
  unfold spanR leftR lftL
  by_cases h : fE (pf w) V w.length E = 0
  · obtain ⟨h1, h2⟩ := fE_ok h
    have hsl := spE_len E 0
    rw [if_pos h, if_pos h]
    simp (maxSteps := 2000000) only [SA, Nat.reduceDiv, Nat.reduceSub, Nat.reduceAdd, Int.reduceLT, Int.reduceLE, Int.reduceToNat, Nat.reduceMul, Nat.reduceEqDiff, reduceCtorEq, Nat.reduceBEq, Nat.reduceLeDiff, Nat.reduceLT, ai, al, tx, spR, n00, List.map_nil]
    refine W_alone (W_named named1020 (lft_loop V w hg f _ _ (spE 0 E) (by omega) (spE_ok E 0 h1) _ _ (fun R hR r10 j3 j9 j10 j12 j13 j14 j15 j16 j17 j18 j19 j20 j24 j25 j26 j27 j28 j29 j30 j31 j32 j33 j34 => W_run 80 ?_) (spE 0 E).length 0 (by omega) [] rfl _ _ _ _ _ _ _ _ _ _ _ _ _ _ _ _ _ _ _ _ _ _ _ _ _))
    simp (maxSteps := 2000000) only [SA, Nat.reduceDiv, Nat.reduceSub, Nat.reduceAdd, Int.reduceLT, Int.reduceLE, Int.reduceToNat, Nat.reduceMul, Nat.reduceEqDiff, reduceCtorEq, Nat.reduceBEq, Nat.reduceLeDiff, Nat.reduceLT, xf37_R0, ai, al, tx, spR]
    subst hR
    generalize hl : ((spE 0 E).map fun p => lf (pf w) V p.1 p.2) = l
    have h := reify_tupos (η := [(10, r10), (20, (1, some ⟨3, 1, l.map ai⟩))]) (k := 20) (g := 1) (e := 3) (z := 0) (n := l.length) (l := l) rfl rfl
    exact W_ret1 (WX_nil ⟨.inl rfl, _, rfl, h⟩)
  · have n1 : (fE (pf w) V w.length E != 0) = true := by rw [bne_iff_ne]; exact h
    rw [if_neg h, if_neg h]
    simp (maxSteps := 2000000) only [SA, Nat.reduceDiv, Nat.reduceSub, Nat.reduceAdd, Int.reduceLT, Int.reduceLE, Int.reduceToNat, Nat.reduceMul, Nat.reduceEqDiff, reduceCtorEq, Nat.reduceBEq, Nat.reduceLeDiff, Nat.reduceLT, ai, al, tx, nilA, n1]
    exact W_ret1 (WX_pop (WX_nil ⟨.inl rfl, _, rfl, rfl⟩))
/-! ### what ends cost -/
theorem cst_sum {V : Int} {w : List Int} (hg : gX V w) {l : List (Nat × Nat)} (hok : ∀ p, p ∈ l → p.1 < p.2 ∧ p.2 ≤ w.length) (k : Nat) : 0 ≤ sumI ((l.take k).map fun p => cst (pf w) V w.length p.1 p.2) ∧ sumI ((l.take k).map fun p => cst (pf w) V w.length p.1 p.2) ≤ 168100 * k := by
  have h := sumI_b (b := 168100) (by omega) (l := (l.take k).map fun p => cst (pf w) V w.length p.1 p.2) fun x hx => by
    obtain ⟨p, hp, rfl⟩ := List.mem_map.1 hx
    have := hok p (List.mem_of_mem_take hp)
    have := cst_b hg this.1 this.2
    omega
  rw [List.length_map, List.length_take] at h
  omega
theorem cst_loop (V : Int) (w : List Int) (hg : gX V w) (f : Bool) (x1 x11 : AV) (l : List (Nat × Nat)) (hl : l.length ≤ 100) (hok : ∀ p, p ∈ l → p.1 < p.2 ∧ p.2 ≤ w.length) (K : List Fr) (Q : Out → Cfg → Prop)
    (hK : ∀ s : Int, s = sumI (l.map (fun p => cst (pf w) V w.length p.1 p.2)) → ∀ r10 : Nat × Option Ob, ∀ j3 j9 j10 j12 j13 j14 j15 j16 j17 j18 j19 j23 j24 j25 j26 j27 j28 j29 j30 j31 j32 : AV, W Try.prog (RelU Try.prog xf) 0 K ⟨((tx f V w) :: x1 :: (.ptr (tx f V w)) :: j3 :: (ai 0) :: (ai 0) :: (spR l) :: (ai 0) :: (ai s) :: j9 :: j10 :: x11 :: j12 :: j13 :: j14 :: j15 :: j16 :: j17 :: j18 :: j19 :: (spR l) :: (ai l.length) :: (ai l.length) :: j23 :: j24 :: j25 :: j26 :: j27 :: j28 :: j29 :: j30 :: j31 :: j32 :: []), [(10, r10)]⟩ Q) :
    ∀ (m k : Nat), k + m = l.length → ∀ s : Int, s = sumI ((l.take k).map (fun p => cst (pf w) V w.length p.1 p.2)) → ∀ (g10 : Nat) (o10 : Option Ob), ∀ j3 j9 j10 j12 j13 j14 j15 j16 j17 j18 j19 j23 j24 j25 j26 j27 j28 j29 j30 j31 j32 : AV, W Try.prog (RelU Try.prog xf) 0 (.code (.loop xf38_L0) :: .blk 0 :: .stop :: K) ⟨((tx f V w) :: x1 :: (.ptr (tx f V w)) :: j3 :: (ai 0) :: (ai 0) :: (spR l) :: (ai 0) :: (ai s) :: j9 :: j10 :: x11 :: j12 :: j13 :: j14 :: j15 :: j16 :: j17 :: j18 :: j19 :: (spR l) :: (ai l.length) :: (ai k) :: j23 :: j24 :: j25 :: j26 :: j27 :: j28 :: j29 :: j30 :: j31 :: j32 :: []), [(10, (g10, o10))]⟩ Q := by
  intro m
  induction m with
  | zero =>
    intro k hk s hs g10 o10 j3 j9 j10 j12 j13 j14 j15 j16 j17 j18 j19 j23 j24 j25 j26 j27 j28 j29 j30 j31 j32
    have ek : k = l.length := by omega
    have h0 : decide (k < l.length) = false := decide_eq_false (by omega)
    refine W_loop (W_run 80 ?_)
    simp (maxSteps := 2000000) only [SA, Nat.reduceDiv, Nat.reduceSub, Nat.reduceAdd, Int.reduceLT, Int.reduceLE, Int.reduceToNat, Nat.reduceMul, Nat.reduceEqDiff, reduceCtorEq, Nat.reduceBEq, Nat.reduceLeDiff, Nat.reduceLT, xf38_L0, ai, al, tx, spR, lt_cast, h0]
    rw [ek]
    exact W_stop (hK s (by rw [hs, List.take_of_length_le (by omega)]) _ _ _ _ _ _ _ _ _ _ _ _ _ _ _ _ _ _ _ _ _ _)
  | succ m ih =>
    intro k hk s hs g10 o10 j3 j9 j10 j12 j13 j14 j15 j16 j17 j18 j19 j23 j24 j25 j26 j27 j28 j29 j30 j31 j32
    have hk1 : k < l.length := by omega
    have h0 : decide (k < l.length) = true := decide_eq_true hk1
    have hgt : (l.map shP)[k]? = some (.ag [ai ((l.getD k (0, 0)).1 : Nat), ai ((l.getD k (0, 0)).2 : Nat)]) := by rw [List.getElem?_map, getD_at (d := (0, 0)) hk1]; rfl
    have wi : IntKind.i64.wrap ((k : Int) + 1) = ((k + 1 : Nat) : Int) := by rw [wrap_id (by omega) (by omega)]; simp
    have hin := hok _ (getD_in (d := (0, 0)) hk1)
    have hb := cst_sum hg hok k
    rw [← hs] at hb
    have next := ih (k + 1) (by omega) (s + cst (pf w) V w.length (l.getD k (0, 0)).1 (l.getD k (0, 0)).2) (by rw [take_snoc (d := (0, 0)) hk1, List.map_append, List.map_cons, List.map_nil, sumI_snoc, ← hs])
    generalize l.getD k (0, 0) = p at *
    have hlf := cost_run hg f hin.1 hin.2
    have hc := cst_b hg hin.1 hin.2
    have ws : IntKind.i64.wrap (s + cst (pf w) V w.length p.1 p.2) = s + cst (pf w) V w.length p.1 p.2 := wrap_id (by omega) (by omega)
    refine W_loop (W_run 80 ?_)
    simp (maxSteps := 2000000) only [SA, Nat.reduceDiv, Nat.reduceSub, Nat.reduceAdd, Int.reduceLT, Int.reduceLE, Int.reduceToNat, Nat.reduceMul, Nat.reduceEqDiff, reduceCtorEq, Nat.reduceBEq, Nat.reduceLeDiff, Nat.reduceLT, xf38_L0, ai, al, tx, spR, lt_cast, h0, hgt, List.map_cons, List.map_nil]
    refine W_call (args := [tx f V w, spn p.1 p.2]) rfl (noRefs_2 (noRef_tx _ _ _) rfl) hlf rfl (W_run 80 ?_)
    simp (maxSteps := 2000000) only [SA, Nat.reduceDiv, Nat.reduceSub, Nat.reduceAdd, Int.reduceLT, Int.reduceLE, Int.reduceToNat, Nat.reduceMul, Nat.reduceEqDiff, reduceCtorEq, Nat.reduceBEq, Nat.reduceLeDiff, Nat.reduceLT, ai, al, tx, wi, spR, ws]
    exact next _ _ _ _ _ _ _ _ _ _ _ _ _ _ _ _ _ _ _ _ _ _ _
def costR (q : Nat → Int) (V : Int) (n : Nat) (E : List Nat) : AV := if fE q V n E = 0 then .tup [ai (cstL q V n E), ai 0] else .tup [ai 0, ai (fE q V n E)]
theorem noRef_costR (q : Nat → Int) (V : Int) (n : Nat) (E : List Nat) : noRef (costR q V n E) = true := by
  unfold costR
  split <;> rfl
theorem named10 (j : Nat) : Go.Proofs.Eng.look [] j = Go.Proofs.Eng.look [(10, (0, (none : Option Ob)))] j := by
  simp only [Go.Proofs.Eng.look]
  by_cases h : 10 = j
  · subst h; simp
  · simp [h]
theorem cost2_run {V : Int} {w : List Int} (hg : gX V w) (f g : Bool) {E : List Nat} (hE : E.length ≤ 100) : Runs Try.prog xf 38 [tx f V w, al g (nl E)] (costR (pf w) V w.length E) := by
  have hs := spansOf_run hg f g hE
  have hn := noRef_spanR (pf w) V w.length E
  have n00 : ((0 : Int) != 0) = false := rfl
  refine Runs.ofW (fn := xf38) 20 (by kernel_rfl) (W_run 80 ?_)
  simp (maxSteps := 2000000) only [SA, Nat.reduceDiv, Nat.reduceSub, Nat.reduceAdd, Int.reduceLT, Int.reduceLE, Int.reduceToNat, Nat.reduceMul, Nat.reduceEqDiff, reduceCtorEq, Nat.reduceBEq, Nat.reduceLeDiff, Nat.reduceLT, xf38, ai, al, tx]
  refine W_call (args := [tx f V w, al g (nl E)]) rfl (noRefs_2 (noRef_tx _ _ _) (noRef_al _ _)) hs hn (W_run 80 ?_)
  unfold spanR costR cstL
  by_cases h : fE (pf w) V w.length E = 0
  · obtain ⟨h1, h2⟩ := fE_ok h
    have hsl := spE_len E 0
    rw [if_pos h, if_pos h]
    simp (maxSteps := 2000000) only [SA, Nat.reduceDiv, Nat.reduceSub, Nat.reduceAdd, Int.reduceLT, Int.reduceLE, Int.reduceToNat, Nat.reduceMul, Nat.reduceEqDiff, reduceCtorEq, Nat.reduceBEq, Nat.reduceLeDiff, Nat.reduceLT, ai, al, tx, spR, n00, List.map_nil]
    refine W_alone (W_named named10 (cst_loop V w hg f _ _ (spE 0 E) (by omega) (spE_ok E 0 h1) _ _ (fun s hs r10 j3 j9 j10 j12 j13 j14 j15 j16 j17 j18 j19 j23 j24 j25 j26 j27 j28 j29 j30 j31 j32 => W_run 80 ?_) (spE 0 E).length 0 (by omega) 0 rfl _ _ _ _ _ _ _ _ _ _ _ _ _ _ _ _ _ _ _ _ _ _ _))
    simp (maxSteps := 2000000) only [SA, Nat.reduceDiv, Nat.reduceSub, Nat.reduceAdd, Int.reduceLT, Int.reduceLE, Int.reduceToNat, Nat.reduceMul, Nat.reduceEqDiff, reduceCtorEq, Nat.reduceBEq, Nat.reduceLeDiff, Nat.reduceLT, xf38_R0, ai, al, tx, spR]
    subst hs
    exact W_ret1 (WX_nil ⟨.inl rfl, _, rfl, rfl⟩)
  · have n1 : (fE (pf w) V w.length E != 0) = true := by rw [bne_iff_ne]; exact h
    rw [if_neg h, if_neg h]
    simp (maxSteps := 2000000) only [SA, Nat.reduceDiv, Nat.reduceSub, Nat.reduceAdd, Int.reduceLT, Int.reduceLE, Int.reduceToNat, Nat.reduceMul, Nat.reduceEqDiff, reduceCtorEq, Nat.reduceBEq, Nat.reduceLeDiff, Nat.reduceLT, ai, al, tx, nilA, n1]
    exact W_ret1 (WX_pop (WX_nil ⟨.inl rfl, _, rfl, rfl⟩))
end Go.Proofs.Ytdmffkknghianaa

