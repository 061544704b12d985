/-
  Package line: Bound, Proves.
-/
import Derived.Test.YtdmffkknghianaaGC
set_option linter.unusedSimpArgs false
set_option linter.unusedVariables false
namespace Go.Proofs.Ytdmffkknghianaa
open Go Go.Proofs.Eng
set_option maxRecDepth 100000
set_option maxHeartbeats 4000000
/-- no line makes a place cheaper than its price -/
def prJ (q : Nat → Int) (V : Int) (p : Nat → Int) (j : Nat) (l : List Nat) : Bool := l.all fun i => decide (p j ≤ p i + sq q V i j)
def prB (q : Nat → Int) (V : Int) (n : Nat) (p : Nat → Int) : Bool := (List.range n).all (fun j => prJ q V p j (lb q V j)) && decide (p 0 = 0)
theorem prB_iff {q : Nat → Int} {V : Int} {n : Nat} {p : Nat → Int} : prB q V n p = true ↔ Prov q V n p := by
  unfold prB prJ
  rw [Bool.and_eq_true, List.all_eq_true, decide_eq_true_iff]
  constructor
  · rintro ⟨h1, h2⟩
    refine ⟨h2, fun j hj i hi => ?_⟩
    have := List.all_eq_true.1 (h1 j (List.mem_range.2 hj)) i (lb_mem.1 hi)
    simpa using this
  · intro h
    refine ⟨fun j hj => List.all_eq_true.2 fun i hi => ?_, h.p0⟩
    simpa using h.le j (List.mem_range.1 hj) i (lb_mem.2 hi)
theorem get_spT {l : List Nat} {j k : Nat} (h : k < l.length) : (l.map fun i => spn i j)[k]? = some (.ag [ai (l.getD k 0 : Nat), ai j]) := by rw [List.getElem?_map, getD_at h]; rfl
theorem named80 (j : Nat) : Go.Proofs.Eng.look [] j = Go.Proofs.Eng.look [(8, (0, (none : Option Ob)))] j := by
  simp only [Go.Proofs.Eng.look]
  by_cases h : 8 = j
  · subst h; simp
  · simp [h]
theorem cpi_loop (V : Int) (w : List Int) (hg : gX V w) (f g : Bool) (p : Nat → Int) (hp : ∀ i, i < w.length → 0 ≤ p i ∧ p i ≤ 20000) (j : Nat) (hj : j < w.length) (K : List Fr) (Q : Out → Cfg → Prop)
    (hK : prJ (pf w) V p j (lb (pf w) V j) = true → ∀ r8 : Nat × Option Ob, ∀ j3 j7 j8 j12 j13 j14 j15 j16 j17 j21 j22 j23 j24 j25 j26 j27 j28 j29 j30 j31 j32 j33 j34 j35 j36 j37 j38 j39 j40 : AV, W Try.prog (RelU Try.prog xf) 0 K ⟨((tx f V w) :: (al g (pl p w.length)) :: (.ptr (tx f V w)) :: j3 :: (ab false) :: (ai j) :: (ai (p j)) :: j7 :: j8 :: (al g (pl p w.length)) :: (ai w.length) :: (ai j) :: j12 :: j13 :: j14 :: j15 :: j16 :: j17 :: (spT (lb (pf w) V j) j) :: (ai (lb (pf w) V j).length) :: (ai (lb (pf w) V j).length) :: j21 :: j22 :: j23 :: j24 :: j25 :: j26 :: j27 :: j28 :: j29 :: j30 :: j31 :: j32 :: j33 :: j34 :: j35 :: j36 :: j37 :: j38 :: j39 :: j40 :: []), [(8, r8)]⟩ Q)
    (hR : prJ (pf w) V p j (lb (pf w) V j) = false → ∀ (k : Nat) (r8 : Nat × Option Ob), ∀ j3 j7 j8 j12 j13 j14 j15 j16 j17 j21 j22 j23 j24 j25 j26 j27 j28 j29 j30 j31 j32 j33 j34 j35 j36 j37 j38 j39 j40 : AV, WX Try.prog (RelU Try.prog xf) 0 K .ret ⟨((tx f V w) :: (al g (pl p w.length)) :: (.ptr (tx f V w)) :: j3 :: (ab false) :: (ai j) :: (ai (p j)) :: j7 :: j8 :: (al g (pl p w.length)) :: (ai w.length) :: (ai j) :: j12 :: j13 :: j14 :: j15 :: j16 :: j17 :: (spT (lb (pf w) V j) j) :: (ai (lb (pf w) V j).length) :: (ai k) :: j21 :: j22 :: j23 :: j24 :: j25 :: j26 :: j27 :: j28 :: j29 :: j30 :: j31 :: j32 :: j33 :: j34 :: j35 :: j36 :: j37 :: j38 :: j39 :: j40 :: []), [(8, r8)]⟩ Q) :
    ∀ (m k : Nat), k + m = (lb (pf w) V j).length → prJ (pf w) V p j (lb (pf w) V j) = prJ (pf w) V p j ((lb (pf w) V j).drop k) → ∀ (g8 : Nat) (o8 : Option Ob), ∀ j3 j7 j8 j12 j13 j14 j15 j16 j17 j21 j22 j23 j24 j25 j26 j27 j28 j29 j30 j31 j32 j33 j34 j35 j36 j37 j38 j39 j40 : AV, W Try.prog (RelU Try.prog xf) 0 (.code (.loop xf50_L0) :: .blk 2 :: .stop :: K) ⟨((tx f V w) :: (al g (pl p w.length)) :: (.ptr (tx f V w)) :: j3 :: (ab false) :: (ai j) :: (ai (p j)) :: j7 :: j8 :: (al g (pl p w.length)) :: (ai w.length) :: (ai j) :: j12 :: j13 :: j14 :: j15 :: j16 :: j17 :: (spT (lb (pf w) V j) j) :: (ai (lb (pf w) V j).length) :: (ai k) :: j21 :: j22 :: j23 :: j24 :: j25 :: j26 :: j27 :: j28 :: j29 :: j30 :: j31 :: j32 :: j33 :: j34 :: j35 :: j36 :: j37 :: j38 :: j39 :: j40 :: []), [(8, (g8, o8))]⟩ Q := by
  have hpl := pl_len p w.length
  have n10 := hg.n10
  have hlb : (lb (pf w) V j).length ≤ 10 := Nat.le_trans (lbK_len (pf w) V j j) (by omega)
  intro m
  induction m with
  | zero =>
    intro k hk h1 g8 o8 j3 j7 j8 j12 j13 j14 j15 j16 j17 j21 j22 j23 j24 j25 j26 j27 j28 j29 j30 j31 j32 j33 j34 j35 j36 j37 j38 j39 j40
    have ek : k = (lb (pf w) V j).length := by omega
    have h0 : decide (k < (lb (pf w) V j).length) = false := decide_eq_false (by omega)
    rw [ek, List.drop_length] at h1
    refine W_loop (W_run 80 ?_)
    simp (maxSteps := 2000000) only [SA, Nat.reduceDiv, Nat.reduceSub, Nat.reduceAdd, Int.reduceLT, Int.reduceLE, Int.reduceToNat, Nat.reduceMul, Nat.reduceEqDiff, reduceCtorEq, Nat.reduceBEq, Nat.reduceLeDiff, Nat.reduceLT, xf50_L0, ai, al, tx, spT, lt_cast, h0]
    rw [ek]
    exact W_stop (hK h1 _ _ _ _ _ _ _ _ _ _ _ _ _ _ _ _ _ _ _ _ _ _ _ _ _ _ _ _ _ _)
  | succ m ih =>
    intro k hk h1 g8 o8 j3 j7 j8 j12 j13 j14 j15 j16 j17 j21 j22 j23 j24 j25 j26 j27 j28 j29 j30 j31 j32 j33 j34 j35 j36 j37 j38 j39 j40
    have hk1 : k < (lb (pf w) V j).length := by omega
    have h0 : decide (k < (lb (pf w) V j).length) = true := decide_eq_true hk1
    have hgt := get_spT (j := j) hk1
    have wi : IntKind.i64.wrap ((k : Int) + 1) = ((k + 1 : Nat) : Int) := by rw [wrap_id (by omega) (by omega)]; simp
    have hin := lb_mem.2 (getD_in (d := 0) hk1)
    rw [drop_at (d := 0) hk1] at h1
    generalize (lb (pf w) V j).getD k 0 = i at *
    obtain ⟨i1, i2⟩ := hin
    have hsq := square_run hg f i1 (Nat.le_of_lt hj)
    have hgi := get_pl (p := p) (n := w.length) (k := i) (by omega)
    have b1 := hp i (by omega)
    have b2 := sq_nn (pf w) V i j
    have b3 := sq_b hg.pos hg.W1 i1 (Nat.le_of_lt hj) i2
    have ws : IntKind.i64.wrap (p i + sq (pf w) V i j) = p i + sq (pf w) V i j := wrap_id (by omega) (by omega)
    refine W_loop (W_run 80 ?_)
    simp (maxSteps := 2000000) only [SA, Nat.reduceDiv, Nat.reduceSub, Nat.reduceAdd, Int.reduceLT, Int.reduceLE, Int.reduceToNat, Nat.reduceMul, Nat.reduceEqDiff, reduceCtorEq, Nat.reduceBEq, Nat.reduceLeDiff, Nat.reduceLT, xf50_L0, ai, al, tx, spT, lt_cast, h0, hgt, hgi, Int.toNat_natCast, List.map_cons, List.map_nil]
    refine W_call (args := [tx f V w, spn i j]) rfl (noRefs_2 (noRef_tx _ _ _) rfl) hsq rfl (W_run 80 ?_)
    by_cases hc : p j ≤ p i + sq (pf w) V i j
    · have d1 : decide (p i + sq (pf w) V i j < p j) = false := decide_eq_false (by omega)
      have e1 : prJ (pf w) V p j (i :: (lb (pf w) V j).drop (k + 1)) = prJ (pf w) V p j ((lb (pf w) V j).drop (k + 1)) := by
        unfold prJ; rw [List.all_cons, decide_eq_true hc, Bool.true_and]
      simp (maxSteps := 2000000) only [SA, Nat.reduceDiv, Nat.reduceSub, Nat.reduceAdd, Int.reduceLT, Int.reduceLE, Int.reduceToNat, Nat.reduceMul, Nat.reduceEqDiff, reduceCtorEq, Nat.reduceBEq, Nat.reduceLeDiff, Nat.reduceLT, ai, al, tx, spT, ws, d1, wi]
      exact ih (k + 1) (by omega) (h1.trans e1) _ _ _ _ _ _ _ _ _ _ _ _ _ _ _ _ _ _ _ _ _ _ _ _ _ _ _ _ _ _ _
    · have d1 : decide (p i + sq (pf w) V i j < p j) = true := decide_eq_true (by omega)
      have e1 : prJ (pf w) V p j (i :: (lb (pf w) V j).drop (k + 1)) = false := by
        unfold prJ; rw [List.all_cons, decide_eq_false hc, Bool.false_and]
      simp (maxSteps := 2000000) only [SA, Nat.reduceDiv, Nat.reduceSub, Nat.reduceAdd, Int.reduceLT, Int.reduceLE, Int.reduceToNat, Nat.reduceMul, Nat.reduceEqDiff, reduceCtorEq, Nat.reduceBEq, Nat.reduceLeDiff, Nat.reduceLT, ai, al, tx, spT, ws, d1, wi]
      exact W_ret1 (WX_pop (hR (h1.trans e1) k _ _ _ _ _ _ _ _ _ _ _ _ _ _ _ _ _ _ _ _ _ _ _ _ _ _ _ _ _ _))
theorem cpo_loop (V : Int) (w : List Int) (hg : gX V w) (f g : Bool) (p : Nat → Int) (hp : ∀ i, i < w.length → 0 ≤ p i ∧ p i ≤ 20000) (K : List Fr) (Q : Out → Cfg → Prop)
    (hK : (List.range w.length).all (fun j => prJ (pf w) V p j (lb (pf w) V j)) = true → ∀ r8 : Nat × Option Ob, ∀ j3 j5 j6 j7 j8 j12 j13 j14 j15 j16 j17 j18 j19 j20 j21 j22 j23 j24 j25 j26 j27 j28 j29 j30 j31 j32 j33 j34 j35 j36 j37 j38 j39 j40 : AV, W Try.prog (RelU Try.prog xf) 0 K ⟨((tx f V w) :: (al g (pl p w.length)) :: (.ptr (tx f V w)) :: j3 :: (ab false) :: j5 :: j6 :: j7 :: j8 :: (al g (pl p w.length)) :: (ai w.length) :: (ai w.length) :: j12 :: j13 :: j14 :: j15 :: j16 :: j17 :: j18 :: j19 :: j20 :: j21 :: j22 :: j23 :: j24 :: j25 :: j26 :: j27 :: j28 :: j29 :: j30 :: j31 :: j32 :: j33 :: j34 :: j35 :: j36 :: j37 :: j38 :: j39 :: j40 :: []), [(8, r8)]⟩ Q)
    (hR : (List.range w.length).all (fun j => prJ (pf w) V p j (lb (pf w) V j)) = false → ∀ (j : Nat) (r8 : Nat × Option Ob), ∀ j3 j5 j6 j7 j8 j12 j13 j14 j15 j16 j17 j18 j19 j20 j21 j22 j23 j24 j25 j26 j27 j28 j29 j30 j31 j32 j33 j34 j35 j36 j37 j38 j39 j40 : AV, WX Try.prog (RelU Try.prog xf) 0 K .ret ⟨((tx f V w) :: (al g (pl p w.length)) :: (.ptr (tx f V w)) :: j3 :: (ab false) :: j5 :: j6 :: j7 :: j8 :: (al g (pl p w.length)) :: (ai w.length) :: (ai j) :: j12 :: j13 :: j14 :: j15 :: j16 :: j17 :: j18 :: j19 :: j20 :: j21 :: j22 :: j23 :: j24 :: j25 :: j26 :: j27 :: j28 :: j29 :: j30 :: j31 :: j32 :: j33 :: j34 :: j35 :: j36 :: j37 :: j38 :: j39 :: j40 :: []), [(8, r8)]⟩ Q) :
    ∀ (m j : Nat), j + m = w.length → (List.range w.length).all (fun j => prJ (pf w) V p j (lb (pf w) V j)) = ((List.range w.length).drop j).all (fun j => prJ (pf w) V p j (lb (pf w) V j)) → ∀ (g8 : Nat) (o8 : Option Ob), ∀ j3 j5 j6 j7 j8 j12 j13 j14 j15 j16 j17 j18 j19 j20 j21 j22 j23 j24 j25 j26 j27 j28 j29 j30 j31 j32 j33 j34 j35 j36 j37 j38 j39 j40 : AV, W Try.prog (RelU Try.prog xf) 0 (.code (.loop xf50_L1) :: .blk 0 :: .stop :: K) ⟨((tx f V w) :: (al g (pl p w.length)) :: (.ptr (tx f V w)) :: j3 :: (ab false) :: j5 :: j6 :: j7 :: j8 :: (al g (pl p w.length)) :: (ai w.length) :: (ai j) :: j12 :: j13 :: j14 :: j15 :: j16 :: j17 :: j18 :: j19 :: j20 :: j21 :: j22 :: j23 :: j24 :: j25 :: j26 :: j27 :: j28 :: j29 :: j30 :: j31 :: j32 :: j33 :: j34 :: j35 :: j36 :: j37 :: j38 :: j39 :: j40 :: []), [(8, (g8, o8))]⟩ Q := by
  have hpl := pl_len p w.length
  have n10 := hg.n10
  have hrl : (List.range w.length).length = w.length := List.length_range
  intro m
  induction m with
  | zero =>
    intro j hj h1 g8 o8 j3 j5 j6 j7 j8 j12 j13 j14 j15 j16 j17 j18 j19 j20 j21 j22 j23 j24 j25 j26 j27 j28 j29 j30 j31 j32 j33 j34 j35 j36 j37 j38 j39 j40
    have ek : j = w.length := by omega
    have h0 : decide (j < w.length) = false := decide_eq_false (by omega)
    rw [ek, List.drop_eq_nil_of_le (by omega), List.all_nil] at h1
    refine W_loop (W_run 80 ?_)
    simp (maxSteps := 2000000) only [SA, Nat.reduceDiv, Nat.reduceSub, Nat.reduceAdd, Int.reduceLT, Int.reduceLE, Int.reduceToNat, Nat.reduceMul, Nat.reduceEqDiff, reduceCtorEq, Nat.reduceBEq, Nat.reduceLeDiff, Nat.reduceLT, xf50_L1, ai, al, tx, lt_cast, h0]
    rw [ek]
    exact W_stop (hK h1 _ _ _ _ _ _ _ _ _ _ _ _ _ _ _ _ _ _ _ _ _ _ _ _ _ _ _ _ _ _ _ _ _ _ _)
  | succ m ih =>
    intro j hj h1 g8 o8 j3 j5 j6 j7 j8 j12 j13 j14 j15 j16 j17 j18 j19 j20 j21 j22 j23 j24 j25 j26 j27 j28 j29 j30 j31 j32 j33 j34 j35 j36 j37 j38 j39 j40
    have hk1 : j < w.length := by omega
    have h0 : decide (j < w.length) = true := decide_eq_true hk1
    have hgt := get_pl (p := p) hk1
    have wi : IntKind.i64.wrap ((j : Int) + 1) = ((j + 1 : Nat) : Int) := by rw [wrap_id (by omega) (by omega)]; simp
    have jnn : (0 : Int) ≤ j := by omega
    have er : (List.range w.length).getD j 0 = j := by rw [List.getD_eq_getElem?_getD, List.getElem?_range hk1]; rfl
    rw [drop_at (d := 0) (by omega), List.all_cons, er] at h1
    refine W_loop (W_run 80 ?_)
    simp (maxSteps := 2000000) only [SA, Nat.reduceDiv, Nat.reduceSub, Nat.reduceAdd, Int.reduceLT, Int.reduceLE, Int.reduceToNat, Nat.reduceMul, Nat.reduceEqDiff, reduceCtorEq, Nat.reduceBEq, Nat.reduceLeDiff, Nat.reduceLT, xf50_L1, ai, al, tx, lt_cast, h0, hgt, Int.toNat_natCast]
    refine W_call (args := [tx f V w, ai j]) rfl (noRefs_2 (noRef_tx _ _ _) rfl) (to_run hg f (Nat.le_of_lt hk1)) (noRef_spT _ _) (W_run 80 ?_)
    simp (maxSteps := 2000000) only [SA, Nat.reduceDiv, Nat.reduceSub, Nat.reduceAdd, Int.reduceLT, Int.reduceLE, Int.reduceToNat, Nat.reduceMul, Nat.reduceEqDiff, reduceCtorEq, Nat.reduceBEq, Nat.reduceLeDiff, Nat.reduceLT, ai, al, tx, spT, List.length_map]
    refine W_alone (cpi_loop V w hg f g p hp j hk1 _ _ (fun hc r8 j3 j7 j8 j12 j13 j14 j15 j16 j17 j21 j22 j23 j24 j25 j26 j27 j28 j29 j30 j31 j32 j33 j34 j35 j36 j37 j38 j39 j40 => W_run 80 ?_) (fun hc k r8 j3 j7 j8 j12 j13 j14 j15 j16 j17 j21 j22 j23 j24 j25 j26 j27 j28 j29 j30 j31 j32 j33 j34 j35 j36 j37 j38 j39 j40 => ?_) (lb (pf w) V j).length 0 (by omega) rfl _ _ _ _ _ _ _ _ _ _ _ _ _ _ _ _ _ _ _ _ _ _ _ _ _ _ _ _ _ _ _)
    · rw [hc, Bool.true_and] at h1
      simp (maxSteps := 2000000) only [SA, Nat.reduceDiv, Nat.reduceSub, Nat.reduceAdd, Int.reduceLT, Int.reduceLE, Int.reduceToNat, Nat.reduceMul, Nat.reduceEqDiff, reduceCtorEq, Nat.reduceBEq, Nat.reduceLeDiff, Nat.reduceLT, xf50_R0, ai, al, tx, wi]
      exact ih (j + 1) (by omega) h1 _ _ _ _ _ _ _ _ _ _ _ _ _ _ _ _ _ _ _ _ _ _ _ _ _ _ _ _ _ _ _ _ _ _ _ _
    · rw [hc, Bool.false_and] at h1
      exact WX_pop (hR h1 j _ _ _ _ _ _ _ _ _ _ _ _ _ _ _ _ _ _ _ _ _ _ _ _ _ _ _ _ _ _ _ _ _ _ _)
theorem canp_run {V : Int} {w : List Int} (hg : gX V w) (f g : Bool) {p : Nat → Int} (hp : ∀ i, i < w.length → 0 ≤ p i ∧ p i ≤ 20000) : Runs Try.prog xf 50 [tx f V w, al g (pl p w.length)] (ab (prB (pf w) V w.length p)) := by
  have hpl := pl_len p w.length
  have hg0 := get_pl (p := p) (n := w.length) (k := 0) hg.n1
  refine Runs.ofW (fn := xf50) 20 (by kernel_rfl) (W_run 80 ?_)
  simp (maxSteps := 2000000) only [SA, Nat.reduceDiv, Nat.reduceSub, Nat.reduceAdd, Int.reduceLT, Int.reduceLE, Int.reduceToNat, Nat.reduceMul, Nat.reduceEqDiff, reduceCtorEq, Nat.reduceBEq, Nat.reduceLeDiff, Nat.reduceLT, xf50, ai, al, tx, hpl]
  unfold prB
  refine W_alone (W_named named80 (cpo_loop V w hg f g p hp _ _ (fun hc r8 j3 j5 j6 j7 j8 j12 j13 j14 j15 j16 j17 j18 j19 j20 j21 j22 j23 j24 j25 j26 j27 j28 j29 j30 j31 j32 j33 j34 j35 j36 j37 j38 j39 j40 => W_run 80 ?_) (fun hc j r8 j3 j5 j6 j7 j8 j12 j13 j14 j15 j16 j17 j18 j19 j20 j21 j22 j23 j24 j25 j26 j27 j28 j29 j30 j31 j32 j33 j34 j35 j36 j37 j38 j39 j40 => ?_) w.length 0 (by omega) rfl _ _ _ _ _ _ _ _ _ _ _ _ _ _ _ _ _ _ _ _ _ _ _ _ _ _ _ _ _ _ _ _ _ _ _ _))
  · have e : decide (p 0 = 0) = (p 0 == 0) := rfl
    rw [hc, Bool.true_and, e]
    simp (maxSteps := 2000000) only [SA, Nat.reduceDiv, Nat.reduceSub, Nat.reduceAdd, Int.reduceLT, Int.reduceLE, Int.reduceToNat, Nat.reduceMul, Nat.reduceEqDiff, reduceCtorEq, Nat.reduceBEq, Nat.reduceLeDiff, Nat.reduceLT, xf50_R1, ai, al, tx, hg0]
    exact W_ret1 (WX_nil ⟨.inl rfl, _, rfl, rfl⟩)
  · rw [hc, Bool.false_and]
    exact WX_pop (WX_nil ⟨.inl rfl, _, rfl, rfl⟩)
end Go.Proofs.Ytdmffkknghianaa

