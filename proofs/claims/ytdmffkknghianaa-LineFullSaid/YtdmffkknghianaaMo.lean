/-
  The law's prices and starts.
-/
import Derived.Test.YtdmffkknghianaaMn
set_option linter.unusedSimpArgs false
set_option linter.unusedVariables false
namespace Go.Proofs.Ytdmffkknghianaa
open Go Go.Proofs.Eng
set_option maxRecDepth 100000
set_option maxHeartbeats 4000000
/-- the least so far, and where -/
def Inv (q : Nat → Int) (V : Int) (D : Nat → Int) (j k : Nat) (l s : Int) : Prop :=
  (l = -1 ∧ s = 0 ∧ ∀ i, i < k → fit q V i j = false) ∨ ∃ m : Nat, s = m ∧ l = D m + sq q V m j ∧ FM (fun i => i < k ∧ fit q V i j = true) (fun i => D i + sq q V i j) m
theorem Inv.no {q : Nat → Int} {V : Int} {D : Nat → Int} {j k : Nat} {l s : Int} (h : Inv q V D j k l s) (hf : fit q V k j = false) : Inv q V D j (k + 1) l s := by
  rcases h with ⟨h1, h2, h3⟩ | ⟨m, h1, h2, h3⟩
  · refine .inl ⟨h1, h2, fun i hi => ?_⟩
    by_cases e : i = k
    · subst e; exact hf
    · exact h3 i (by omega)
  · refine .inr ⟨m, h1, h2, h3.congr (fun y => ⟨fun h => ⟨by omega, h.2⟩, fun h => ⟨?_, h.2⟩⟩) fun _ _ => rfl⟩
    by_cases e : y = k
    · subst e; rw [hf] at h; cases h.2
    · omega
theorem Inv.yes {q : Nat → Int} {V : Int} {D : Nat → Int} {j k : Nat} {l s : Int} (h : Inv q V D j k l s) (hD : ∀ i, i < j → 0 ≤ D i) (hk : k < j) (hf : fit q V k j = true) :
    (l < 0 ∨ D k + sq q V k j < l → Inv q V D j (k + 1) (D k + sq q V k j) k) ∧ (¬ (l < 0 ∨ D k + sq q V k j < l) → Inv q V D j (k + 1) l s) := by
  have hs := sq_nn q V k j
  have hd := hD k hk
  rcases h with ⟨h1, h2, h3⟩ | ⟨m, h1, h2, h3⟩
  · refine ⟨fun _ => .inr ⟨k, rfl, rfl, ⟨⟨by omega, hf⟩, fun y hy => ?_, fun y hy hl => ?_⟩⟩, fun h => absurd (.inl (by omega)) h⟩
    · by_cases e : y = k
      · subst e; exact Int.le_refl _
      · have := h3 y (by omega); rw [this] at hy; cases hy.2
    · have := h3 y hl; rw [this] at hy; cases hy.2
  · have hm := h3.mem
    have hdm := hD m (by omega)
    have hsm := sq_nn q V m j
    constructor
    · intro hc
      refine .inr ⟨k, rfl, rfl, ⟨⟨by omega, hf⟩, fun y hy => ?_, fun y hy hl => ?_⟩⟩
      · by_cases e : y = k
        · subst e; exact Int.le_refl _
        · have : D m + sq q V m j ≤ D y + sq q V y j := h3.le y ⟨by omega, hy.2⟩
          show D k + sq q V k j ≤ _
          omega
      · have : D m + sq q V m j ≤ D y + sq q V y j := h3.le y ⟨hl, hy.2⟩
        show D k + sq q V k j < _
        omega
    · intro hc
      refine .inr ⟨m, h1, h2, ⟨⟨by omega, hm.2⟩, fun y hy => ?_, fun y hy hl => h3.lt y ⟨by omega, hy.2⟩ hl⟩⟩
      by_cases e : y = k
      · subst e; show D m + sq q V m j ≤ _; omega
      · exact h3.le y ⟨by omega, hy.2⟩
theorem Inv.fin {q : Nat → Int} {V : Int} {n : Nat} {D : Nat → Int} {S : Nat → Nat} (hp : Pos q n V) (hB : Back q V n D S) {j : Nat} (h1 : 1 ≤ j) (hj : j ≤ n) {l s : Int} (h : Inv q V D j j l s) : l = D j ∧ s = S j := by
  obtain ⟨a, b⟩ := hB.st j h1 hj
  rcases h with ⟨_, _, h3⟩ | ⟨m, e1, e2, h3⟩
  · have := h3 (S j) b.mem.1
    rw [b.mem.2] at this; cases this
  · have e : m = S j := h3.uniq (b.congr (fun y => .rfl) fun _ _ => rfl)
    subst e
    exact ⟨e2.trans a.symm, e1⟩
theorem pin_loop (V : Int) (w : List Int) (hg : gX V w) (f : Bool) (D : Nat → Int) (hD : ∀ i, i < w.length → 0 ≤ D i ∧ D i ≤ 100000) (j : Nat) (hj : j ≤ w.length) (x2 x3 : AV) (H : Heap)
    (hx2 : (x2 = .sl 1 true ((pl D j).map ai) ∨ (x2 = .os 50 1 j 1 0 j ∧ ∃ e, Go.Proofs.Eng.look H 50 = (1, some ⟨e, 1, (pl D j).map ai⟩))))
    (K : List Fr) (Q : Out → Cfg → Prop)
    (hK : ∀ l s : Int, Inv (pf w) V D j j l s → ∀ j7 j8 j9 j10 j11 j12 j13 j14 j15 j16 j17 j18 j21 j22 j23 j24 j25 j26 j27 j28 j29 j30 j31 j32 j33 j34 j35 j36 j37 j38 j39 j40 j41 j42 j43 j44 j45 j46 j47 j48 j49 j50 j51 j52 j53 j54 j55 j56 j57 j58 j59 j60 : AV, W Try.prog (RelU Try.prog xf) 0 K ⟨((tx f V w) :: (.ptr (tx f V w)) :: x2 :: x3 :: (ai j) :: (ai l) :: (ai s) :: j7 :: j8 :: j9 :: j10 :: j11 :: j12 :: j13 :: j14 :: j15 :: j16 :: j17 :: j18 :: (ai j) :: (ai j) :: j21 :: j22 :: j23 :: j24 :: j25 :: j26 :: j27 :: j28 :: j29 :: j30 :: j31 :: j32 :: j33 :: j34 :: j35 :: j36 :: j37 :: j38 :: j39 :: j40 :: j41 :: j42 :: j43 :: j44 :: j45 :: j46 :: j47 :: j48 :: j49 :: j50 :: j51 :: j52 :: j53 :: j54 :: j55 :: j56 :: j57 :: j58 :: j59 :: j60 :: []), H⟩ Q) :
    ∀ (m k : Nat), k + m = j → ∀ l s : Int, Inv (pf w) V D j k l s → ∀ j7 j8 j9 j10 j11 j12 j13 j14 j15 j16 j17 j18 j21 j22 j23 j24 j25 j26 j27 j28 j29 j30 j31 j32 j33 j34 j35 j36 j37 j38 j39 j40 j41 j42 j43 j44 j45 j46 j47 j48 j49 j50 j51 j52 j53 j54 j55 j56 j57 j58 j59 j60 : AV, W Try.prog (RelU Try.prog xf) 0 (.code (.loop xf18_L0) :: .blk 2 :: .stop :: K) ⟨((tx f V w) :: (.ptr (tx f V w)) :: x2 :: x3 :: (ai j) :: (ai l) :: (ai s) :: j7 :: j8 :: j9 :: j10 :: j11 :: j12 :: j13 :: j14 :: j15 :: j16 :: j17 :: j18 :: (ai j) :: (ai k) :: j21 :: j22 :: j23 :: j24 :: j25 :: j26 :: j27 :: j28 :: j29 :: j30 :: j31 :: j32 :: j33 :: j34 :: j35 :: j36 :: j37 :: j38 :: j39 :: j40 :: j41 :: j42 :: j43 :: j44 :: j45 :: j46 :: j47 :: j48 :: j49 :: j50 :: j51 :: j52 :: j53 :: j54 :: j55 :: j56 :: j57 :: j58 :: j59 :: j60 :: []), H⟩ Q := by
  have n10 := hg.n10
  intro m
  induction m with
  | zero =>
    intro k hk l s hI j7 j8 j9 j10 j11 j12 j13 j14 j15 j16 j17 j18 j21 j22 j23 j24 j25 j26 j27 j28 j29 j30 j31 j32 j33 j34 j35 j36 j37 j38 j39 j40 j41 j42 j43 j44 j45 j46 j47 j48 j49 j50 j51 j52 j53 j54 j55 j56 j57 j58 j59 j60
    have ek : k = j := by omega
    subst ek
    have h0 : decide (k < k) = false := by simp
    refine W_loop (W_run 80 ?_)
    simp (maxSteps := 2000000) only [SA, Nat.reduceDiv, Nat.reduceSub, Nat.reduceAdd, Int.reduceLT, Int.reduceLE, Int.reduceToNat, Nat.reduceMul, Nat.reduceEqDiff, reduceCtorEq, Nat.reduceBEq, Nat.reduceLeDiff, Nat.reduceLT, xf18_L0, ai, al, tx, lt_cast, h0]
    exact W_stop (hK l s hI _ _ _ _ _ _ _ _ _ _ _ _ _ _ _ _ _ _ _ _ _ _ _ _ _ _ _ _ _ _ _ _ _ _ _ _ _ _ _ _ _ _ _ _ _ _ _ _ _ _ _ _)
  | succ m ih =>
    intro k hk l s hI j7 j8 j9 j10 j11 j12 j13 j14 j15 j16 j17 j18 j21 j22 j23 j24 j25 j26 j27 j28 j29 j30 j31 j32 j33 j34 j35 j36 j37 j38 j39 j40 j41 j42 j43 j44 j45 j46 j47 j48 j49 j50 j51 j52 j53 j54 j55 j56 j57 j58 j59 j60
    have h1 : k < j := by omega
    have h0 : decide (k < j) = true := decide_eq_true h1
    have hlf := lleft_run hg f h1 hj
    have wi : IntKind.i64.wrap ((k : Int) + 1) = ((k + 1 : Nat) : Int) := by rw [wrap_id (by omega) (by omega)]; simp
    have hb := hg.lb (Nat.le_of_lt h1) hj
    cases hf : fit (pf w) V k j with
    | false =>
      have d : decide (lf (pf w) V k j < 0) = true := decide_eq_true (by have : ¬ 0 ≤ lf (pf w) V k j := fun h => by rw [fit_iff.2 h] at hf; cases hf
                                                                         omega)
      refine W_loop (W_run 80 ?_)
      simp (maxSteps := 2000000) only [SA, Nat.reduceDiv, Nat.reduceSub, Nat.reduceAdd, Int.reduceLT, Int.reduceLE, Int.reduceToNat, Nat.reduceMul, Nat.reduceEqDiff, reduceCtorEq, Nat.reduceBEq, Nat.reduceLeDiff, Nat.reduceLT, xf18_L0, ai, al, tx, lt_cast, h0]
      refine W_call (args := [tx f V w, ai k, ai j]) rfl (noRefs_3 (noRef_tx _ _ _) rfl rfl) hlf rfl (W_run 80 ?_)
      simp (maxSteps := 2000000) only [SA, Nat.reduceDiv, Nat.reduceSub, Nat.reduceAdd, Int.reduceLT, Int.reduceLE, Int.reduceToNat, Nat.reduceMul, Nat.reduceEqDiff, reduceCtorEq, Nat.reduceBEq, Nat.reduceLeDiff, Nat.reduceLT, ai, al, tx, d, wi]
      exact ih (k + 1) (by omega) l s (hI.no hf) _ _ _ _ _ _ _ _ _ _ _ _ _ _ _ _ _ _ _ _ _ _ _ _ _ _ _ _ _ _ _ _ _ _ _ _ _ _ _ _ _ _ _ _ _ _ _ _ _ _ _ _
    | true =>
      have hlf0 := fit_iff.1 hf
      have d : decide (lf (pf w) V k j < 0) = false := decide_eq_false (by omega)
      have hs := sq_b hg.pos hg.W1 h1 hj hf
      have hs0 := sq_nn (pf w) V k j
      have hDk := hD k (by omega)
      obtain ⟨hy1, hy2⟩ := hI.yes (fun i hi => (hD i (by omega)).1) h1 hf
      have ws : IntKind.i64.wrap (lf (pf w) V k j * lf (pf w) V k j) = sq (pf w) V k j := by
        show IntKind.i64.wrap (sq (pf w) V k j) = _
        exact wrap_id (by omega) (by omega)
      have wa : IntKind.i64.wrap (D k + sq (pf w) V k j) = D k + sq (pf w) V k j := wrap_id (by omega) (by omega)
      have hgp := get_pl (p := D) h1
      have hpl := pl_len D j
      have kj : (k : Int) < j := by omega
      have knn : (0 : Int) ≤ k := by omega
      rcases hx2 with rfl | ⟨rfl, e, hlk⟩
      · by_cases hl : l < 0
        · have d2 : decide (l < 0) = true := decide_eq_true hl
          refine W_loop (W_run 80 ?_)
          simp (maxSteps := 2000000) only [SA, Nat.reduceDiv, Nat.reduceSub, Nat.reduceAdd, Int.reduceLT, Int.reduceLE, Int.reduceToNat, Nat.reduceMul, Nat.reduceEqDiff, reduceCtorEq, Nat.reduceBEq, Nat.reduceLeDiff, Nat.reduceLT, xf18_L0, ai, al, tx, lt_cast, h0]
          refine W_call (args := [tx f V w, ai k, ai j]) rfl (noRefs_3 (noRef_tx _ _ _) rfl rfl) hlf rfl (W_run 80 ?_)
          simp (maxSteps := 2000000) only [SA, Nat.reduceDiv, Nat.reduceSub, Nat.reduceAdd, Int.reduceLT, Int.reduceLE, Int.reduceToNat, Nat.reduceMul, Nat.reduceEqDiff, reduceCtorEq, Nat.reduceBEq, Nat.reduceLeDiff, Nat.reduceLT, ai, al, tx, d, wi, hgp, hpl, ws, wa, d2, kj, knn, lt_cast, h1, List.length_map, Int.toNat_natCast]
          exact ih (k + 1) (by omega) _ _ (hy1 (.inl hl)) _ _ _ _ _ _ _ _ _ _ _ _ _ _ _ _ _ _ _ _ _ _ _ _ _ _ _ _ _ _ _ _ _ _ _ _ _ _ _ _ _ _ _ _ _ _ _ _ _ _ _ _
        · have d2 : decide (l < 0) = false := decide_eq_false hl
          by_cases hl2 : D k + sq (pf w) V k j < l
          · have d3 : decide (D k + sq (pf w) V k j < l) = true := decide_eq_true hl2
            refine W_loop (W_run 80 ?_)
            simp (maxSteps := 2000000) only [SA, Nat.reduceDiv, Nat.reduceSub, Nat.reduceAdd, Int.reduceLT, Int.reduceLE, Int.reduceToNat, Nat.reduceMul, Nat.reduceEqDiff, reduceCtorEq, Nat.reduceBEq, Nat.reduceLeDiff, Nat.reduceLT, xf18_L0, ai, al, tx, lt_cast, h0]
            refine W_call (args := [tx f V w, ai k, ai j]) rfl (noRefs_3 (noRef_tx _ _ _) rfl rfl) hlf rfl (W_run 80 ?_)
            simp (maxSteps := 2000000) only [SA, Nat.reduceDiv, Nat.reduceSub, Nat.reduceAdd, Int.reduceLT, Int.reduceLE, Int.reduceToNat, Nat.reduceMul, Nat.reduceEqDiff, reduceCtorEq, Nat.reduceBEq, Nat.reduceLeDiff, Nat.reduceLT, ai, al, tx, d, wi, hgp, hpl, ws, wa, d2, d3, kj, knn, lt_cast, h1, List.length_map, Int.toNat_natCast]
            exact ih (k + 1) (by omega) _ _ (hy1 (.inr hl2)) _ _ _ _ _ _ _ _ _ _ _ _ _ _ _ _ _ _ _ _ _ _ _ _ _ _ _ _ _ _ _ _ _ _ _ _ _ _ _ _ _ _ _ _ _ _ _ _ _ _ _ _
          · have d3 : decide (D k + sq (pf w) V k j < l) = false := decide_eq_false hl2
            refine W_loop (W_run 80 ?_)
            simp (maxSteps := 2000000) only [SA, Nat.reduceDiv, Nat.reduceSub, Nat.reduceAdd, Int.reduceLT, Int.reduceLE, Int.reduceToNat, Nat.reduceMul, Nat.reduceEqDiff, reduceCtorEq, Nat.reduceBEq, Nat.reduceLeDiff, Nat.reduceLT, xf18_L0, ai, al, tx, lt_cast, h0]
            refine W_call (args := [tx f V w, ai k, ai j]) rfl (noRefs_3 (noRef_tx _ _ _) rfl rfl) hlf rfl (W_run 80 ?_)
            simp (maxSteps := 2000000) only [SA, Nat.reduceDiv, Nat.reduceSub, Nat.reduceAdd, Int.reduceLT, Int.reduceLE, Int.reduceToNat, Nat.reduceMul, Nat.reduceEqDiff, reduceCtorEq, Nat.reduceBEq, Nat.reduceLeDiff, Nat.reduceLT, ai, al, tx, d, wi, hgp, hpl, ws, wa, d2, d3, kj, knn, lt_cast, h1, List.length_map, Int.toNat_natCast]
            exact ih (k + 1) (by omega) l s (hy2 (fun h => h.elim hl hl2)) _ _ _ _ _ _ _ _ _ _ _ _ _ _ _ _ _ _ _ _ _ _ _ _ _ _ _ _ _ _ _ _ _ _ _ _ _ _ _ _ _ _ _ _ _ _ _ _ _ _ _ _
      · by_cases hl : l < 0
        · have d2 : decide (l < 0) = true := decide_eq_true hl
          refine W_loop (W_run 80 ?_)
          simp (maxSteps := 2000000) only [SA, Nat.reduceDiv, Nat.reduceSub, Nat.reduceAdd, Int.reduceLT, Int.reduceLE, Int.reduceToNat, Nat.reduceMul, Nat.reduceEqDiff, reduceCtorEq, Nat.reduceBEq, Nat.reduceLeDiff, Nat.reduceLT, xf18_L0, ai, al, tx, lt_cast, h0]
          refine W_call (args := [tx f V w, ai k, ai j]) rfl (noRefs_3 (noRef_tx _ _ _) rfl rfl) hlf rfl (W_run 80 ?_)
          simp (maxSteps := 2000000) only [SA, Nat.reduceDiv, Nat.reduceSub, Nat.reduceAdd, Int.reduceLT, Int.reduceLE, Int.reduceToNat, Nat.reduceMul, Nat.reduceEqDiff, reduceCtorEq, Nat.reduceBEq, Nat.reduceLeDiff, Nat.reduceLT, ai, al, tx, d, wi, hlk, hgp, hpl, ws, wa, d2, kj, knn, lt_cast, h1, List.length_map, Int.toNat_natCast]
          exact ih (k + 1) (by omega) _ _ (hy1 (.inl hl)) _ _ _ _ _ _ _ _ _ _ _ _ _ _ _ _ _ _ _ _ _ _ _ _ _ _ _ _ _ _ _ _ _ _ _ _ _ _ _ _ _ _ _ _ _ _ _ _ _ _ _ _
        · have d2 : decide (l < 0) = false := decide_eq_false hl
          by_cases hl2 : D k + sq (pf w) V k j < l
          · have d3 : decide (D k + sq (pf w) V k j < l) = true := decide_eq_true hl2
            refine W_loop (W_run 80 ?_)
            simp (maxSteps := 2000000) only [SA, Nat.reduceDiv, Nat.reduceSub, Nat.reduceAdd, Int.reduceLT, Int.reduceLE, Int.reduceToNat, Nat.reduceMul, Nat.reduceEqDiff, reduceCtorEq, Nat.reduceBEq, Nat.reduceLeDiff, Nat.reduceLT, xf18_L0, ai, al, tx, lt_cast, h0]
            refine W_call (args := [tx f V w, ai k, ai j]) rfl (noRefs_3 (noRef_tx _ _ _) rfl rfl) hlf rfl (W_run 80 ?_)
            simp (maxSteps := 2000000) only [SA, Nat.reduceDiv, Nat.reduceSub, Nat.reduceAdd, Int.reduceLT, Int.reduceLE, Int.reduceToNat, Nat.reduceMul, Nat.reduceEqDiff, reduceCtorEq, Nat.reduceBEq, Nat.reduceLeDiff, Nat.reduceLT, ai, al, tx, d, wi, hlk, hgp, hpl, ws, wa, d2, d3, kj, knn, lt_cast, h1, List.length_map, Int.toNat_natCast]
            exact ih (k + 1) (by omega) _ _ (hy1 (.inr hl2)) _ _ _ _ _ _ _ _ _ _ _ _ _ _ _ _ _ _ _ _ _ _ _ _ _ _ _ _ _ _ _ _ _ _ _ _ _ _ _ _ _ _ _ _ _ _ _ _ _ _ _ _
          · have d3 : decide (D k + sq (pf w) V k j < l) = false := decide_eq_false hl2
            refine W_loop (W_run 80 ?_)
            simp (maxSteps := 2000000) only [SA, Nat.reduceDiv, Nat.reduceSub, Nat.reduceAdd, Int.reduceLT, Int.reduceLE, Int.reduceToNat, Nat.reduceMul, Nat.reduceEqDiff, reduceCtorEq, Nat.reduceBEq, Nat.reduceLeDiff, Nat.reduceLT, xf18_L0, ai, al, tx, lt_cast, h0]
            refine W_call (args := [tx f V w, ai k, ai j]) rfl (noRefs_3 (noRef_tx _ _ _) rfl rfl) hlf rfl (W_run 80 ?_)
            simp (maxSteps := 2000000) only [SA, Nat.reduceDiv, Nat.reduceSub, Nat.reduceAdd, Int.reduceLT, Int.reduceLE, Int.reduceToNat, Nat.reduceMul, Nat.reduceEqDiff, reduceCtorEq, Nat.reduceBEq, Nat.reduceLeDiff, Nat.reduceLT, ai, al, tx, d, wi, hlk, hgp, hpl, ws, wa, d2, d3, kj, knn, lt_cast, h1, List.length_map, Int.toNat_natCast]
            exact ih (k + 1) (by omega) l s (hy2 (fun h => h.elim hl hl2)) _ _ _ _ _ _ _ _ _ _ _ _ _ _ _ _ _ _ _ _ _ _ _ _ _ _ _ _ _ _ _ _ _ _ _ _ _ _ _ _ _ _ _ _ _ _ _ _ _ _ _ _
end Go.Proofs.Ytdmffkknghianaa

