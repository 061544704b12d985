/-
  Package line: Bound, Proves.
-/
import Derived.Test.YtdmffkknghianaaGC
set_option linter.unusedSimpArgs false
set_option linter.unusedVariables false
namespace Go.Proofs.Ytdmffkknghianaa
open Go Go.Proofs.Eng
set_option maxRecDepth 100000
set_option maxHeartbeats 4000000
/-- no line makes a place cheaper than its price -/
def prJ (q : Nat → Int) (V : Int) (p : Nat → Int) (j : Nat) (l : List Nat) : Bool := l.all fun i => decide (p j ≤ p i + sq q V i j)
def prB (q : Nat → Int) (V : Int) (n : Nat) (p : Nat → Int) : Bool := (List.range n).all (fun j => prJ q V p j (lb q V j)) && decide (p 0 = 0)
theorem prB_iff {q : Nat → Int} {V : Int} {n : Nat} {p : Nat → Int} : prB q V n p = true ↔ Prov q V n p := by
  unfold prB prJ
  rw [Bool.and_eq_true, List.all_eq_true, decide_eq_true_iff]
  constructor
  · rintro ⟨h1, h2⟩
    refine ⟨h2, fun j hj i hi => ?_⟩
    have := List.all_eq_true.1 (h1 j (List.mem_range.2 hj)) i (lb_mem.1 hi)
    simpa using this
  · intro h
    refine ⟨fun j hj => List.all_eq_true.2 fun i hi => ?_, h.p0⟩
    simpa using h.le j (List.mem_range.1 hj) i (lb_mem.2 hi)
theorem get_spT {l : List Nat} {j k : Nat} (h : k < l.length) : (l.map fun i => spn i j)[k]? = some (.ag [ai (l.getD k 0 : Nat), ai j]) := by rw [List.getElem?_map, getD_at h]; rfl
theorem named80 (j : Nat) : Go.Proofs.Eng.look [] j = Go.Proofs.Eng.look [(8, (0, (none : Option Ob)))] j := by
  simp only [Go.Proofs.Eng.look]
  by_cases h : 8 = j
  · subst h; simp
  · simp [h]
theorem cpi_loop (V : Int) (w : List Int) (hg : gX V w) (f g : Bool) (p : Nat → Int) (hp : ∀ i, i < w.length → 0 ≤ p i ∧ p i ≤ 20000) (j : Nat) (hj : j < w.length) (K : List Fr) (Q : Out → Cfg → Prop)
    (hK : prJ (pf w) V p j (lb (pf w) V j) = true → ∀ r8 : Nat × Option Ob, ∀ j3 j7 j8 j12 j13 j14 j15 j16 j17 j21 j22 j23 j24 j25 j26 j27 j28 j29 j30 j31 j32 j33 j34 j35 j36 j37 j38 j39 j40 : AV, W Try.prog (RelU Try.prog xf) 0 K ⟨((tx f V w) :: (al g (pl p w.length)) :: (.ptr (tx f V w)) :: j3 :: (ab false) :: (ai j) :: (ai (p j)) :: j7 :: j8 :: (al g (pl p w.length)) :: (ai w.length) :: (ai j) :: j12 :: j13 :: j14 :: j15 :: j16 :: j17 :: (spT (lb (pf w) V j) j) :: (ai (lb (pf w) V j).length) :: (ai (lb (pf w) V j).length) :: j21 :: j22 :: j23 :: j24 :: j25 :: j26 :: j27 :: j28 :: j29 :: j30 :: j31 :: j32 :: j33 :: j34 :: j35 :: j36 :: j37 :: j38 :: j39 :: j40 :: []), [(8, r8)]⟩ Q)
    (hR : prJ (pf w) V p j (lb (pf w) V j) = false → ∀ (k : Nat) (r8 : Nat × Option Ob), ∀ j3 j7 j8 j12 j13 j14 j15 j16 j17 j21 j22 j23 j24 j25 j26 j27 j28 j29 j30 j31 j32 j33 j34 j35 j36 j37 j38 j39 j40 : AV, WX Try.prog (RelU Try.prog xf) 0 K .ret ⟨((tx f V w) :: (al g (pl p w.length)) :: (.ptr (tx f V w)) :: j3 :: (ab false) :: (ai j) :: (ai (p j)) :: j7 :: j8 :: (al g (pl p w.length)) :: (ai w.length) :: (ai j) :: j12 :: j13 :: j14 :: j15 :: j16 :: j17 :: (spT (lb (pf w) V j) j) :: (ai (lb (pf w) V j).length) :: (ai k) :: j21 :: j22 :: j23 :: j24 :: j25 :: j26 :: j27 :: j28 :: j29 :: j30 :: j31 :: j32 :: j33 :: j34 :: j35 :: j36 :: j37 :: j38 :: j39 :: j40 :: []), [(8, r8)]⟩ Q) :
    ∀ (m k : Nat), k + m = (lb (pf w) V j).length → prJ (pf w) V p j (lb (pf w) V j) = prJ (pf w) V p j ((lb (pf w) V j).drop k) → ∀ (g8 : Nat) (o8 : Option Ob), ∀ j3 j7 j8 j12 j13 j14 j15 j16 j17 j21 j22 j23 j24 j25 j26 j27 j28 j29 j30 j31 j32 j33 j34 j35 j36 j37 j38 j39 j40 : AV, W Try.prog (RelU Try.prog xf) 0 (.code (.loop xf50_L0) :: .blk 2 :: .stop :: K) ⟨((tx f V w) :: (al g (pl p w.length)) :: (.ptr (tx f V w)) :: j3 :: (ab false) :: (ai j) :: (ai (p j)) :: j7 :: j8 :: (al g (pl p w.length)) :: (ai w.length) :: (ai j) :: j12 :: j13 :: j14 :: j15 :: j16 :: j17 :: (spT (lb (pf w) V j) j) :: (ai (lb (pf w) V j).length) :: (ai k) :: j21 :: j22 :: j23 :: j24 :: j25 :: j26 :: j27 :: j28 :: j29 :: j30 :: j31 :: j32 :: j33 :: j34 :: j35 :: j36 :: j37 :: j38 :: j39 :: j40 :: []), [(8, (g8, o8))]⟩ Q := by
  have hpl := pl_len p w.length
  have n10 := hg.n10
  have hlb : (lb (pf w) V j).length ≤ 10 := Nat.le_trans (lbK_len (pf w) V j j) (by omega)
  intro m
  induction m with
  | zero =>
    intro k hk h1 g8 o8 j3 j7 j8 j12 j13 j14 j15 j16 j17 j21 j22 j23 j24 j25 j26 j27 j28 j29 j30 j31 j32 j33 j34 j35 j36 j37 j38 j39 j40
    have ek : k = (lb (pf w) V j).length := by omega
    have h0 : decide (k < (lb (pf w) V j).length) = false := decide_eq_false (by omega)
    rw [ek, List.drop_length] at h1
    refine W_loop (W_run 80 ?_)
    simp (maxSteps := 2000000) only [SA, Nat.reduceDiv, Nat.reduceSub, Nat.reduceAdd, Int.reduceLT, Int.reduceLE, Int.reduceToNat, Nat.reduceMul, Nat.reduceEqDiff, reduceCtorEq, Nat.reduceBEq, Nat.reduceLeDiff, Nat.reduceLT, xf50_L0, ai, al, tx, spT, lt_cast, h0]
    rw [ek]
    exact W_stop (hK h1 _ _ _ _ _ _ _ _ _ _ _ _ _ _ _ _ _ _ _ _ _ _ _ _ _ _ _ _ _ _)
  | succ m ih =>
    intro k hk h1 g8 o8 j3 j7 j8 j12 j13 j14 j15 j16 j17 j21 j22 j23 j24 j25 j26 j27 j28 j29 j30 j31 j32 j33 j34 j35 j36 j37 j38 j39 j40
    have hk1 : k < (lb (pf w) V j).length := by omega
    have h0 : decide (k < (lb (pf w) V j).length) = true := decide_eq_true hk1
    have hgt := get_spT (j := j) hk1
    have wi : IntKind.i64.wrap ((k : Int) + 1) = ((k + 1 : Nat) : Int) := by rw [wrap_id (by omega) (by omega)]; simp
    have hin := lb_mem.2 (getD_in (d := 0) hk1)
    rw [drop_at (d := 0) hk1] at h1
    generalize (lb (pf w) V j).getD k 0 = i at *
    obtain ⟨i1, i2⟩ := hin
    have hsq := square_run hg f i1 (Nat.le_of_lt hj)
    have hgi := get_pl (p := p) (n := w.length) (k := i) (by omega)
    have b1 := hp i (by omega)
    have b2 := sq_nn (pf w) V i j
    have b3 := sq_b hg.pos hg.W1 i1 (Nat.le_of_lt hj) i2
    have ws : IntKind.i64.wrap (p i + sq (pf w) V i j) = p i + sq (pf w) V i j := wrap_id (by omega) (by omega)
    refine W_loop (W_run 80 ?_)
    simp (maxSteps := 2000000) only [SA, Nat.reduceDiv, Nat.reduceSub, Nat.reduceAdd, Int.reduceLT, Int.reduceLE, Int.reduceToNat, Nat.reduceMul, Nat.reduceEqDiff, reduceCtorEq, Nat.reduceBEq, Nat.reduceLeDiff, Nat.reduceLT, xf50_L0, ai, al, tx, spT, lt_cast, h0, hgt, hgi, Int.toNat_natCast, List.map_cons, List.map_nil]
    refine W_call (args := [tx f V w, spn i j]) rfl (noRefs_2 (noRef_tx _ _ _) rfl) hsq rfl (W_run 80 ?_)
    by_cases hc : p j ≤ p i + sq (pf w) V i j
    · have d1 : decide (p i + sq (pf w) V i j < p j) = false := decide_eq_false (by omega)
      have e1 : prJ (pf w) V p j (i :: (lb (pf w) V j).drop (k + 1)) = prJ (pf w) V p j ((lb (pf w) V j).drop (k + 1)) := by
        unfold prJ; rw [List.all_cons, decide_eq_true hc, Bool.true_and]
      simp (maxSteps := 2000000) only [SA, Nat.reduceDiv, Nat.reduceSub, Nat.reduceAdd, Int.reduceLT, Int.reduceLE, Int.reduceToNat, Nat.reduceMul, Nat.reduceEqDiff, reduceCtorEq, Nat.reduceBEq, Nat.reduceLeDiff, Nat.reduceLT, ai, al, tx, spT, ws, d1, wi]
      exact ih (k + 1) (by omega) (h1.trans e1) _ _ _ _ _ _ _ _ _ _ _ _ _ _ _ _ _ _ _ _ _ _ _ _ _ _ _ _ _ _ _
    · have d1 : decide (p i + sq (pf w) V i j < p j) = true := decide_eq_true (by omega)
      have e1 : prJ (pf w) V p j (i :: (lb (pf w) V j).drop (k + 1)) = false := by
        unfold prJ; rw [List.all_cons, decide_eq_false hc, Bool.false_and]
      simp (maxSteps := 2000000) only [SA, Nat.reduceDiv, Nat.reduceSub, Nat.reduceAdd, Int.reduceLT, Int.reduceLE, Int.reduceToNat, Nat.reduceMul, Nat.reduceEqDiff, reduceCtorEq, Nat.reduceBEq, Nat.reduceLeDiff, Nat.reduceLT, ai, al, tx, spT, ws, d1, wi]
      exact W_ret1 (WX_pop (hR (h1.trans e1) k _ _ _ _ _ _ _ _ _ _ _ _ _ _ _ _ _ _ _ _ _ _ _ _ _ _ _ _ _ _))
theorem cpo_loop (V : Int) (w : List Int) (hg : gX V w) (f g : Bool) (p : Nat → Int) (hp : ∀ i, i < w.length → 0 ≤ p i ∧ p i ≤ 20000) (K : List Fr) (Q : Out → Cfg → Prop)
    (hK : (List.range w.length).all (fun j => prJ (pf w) V p j (lb (pf w) V j)) = true → ∀ r8 : Nat × Option Ob, ∀ j3 j5 j6 j7 j8 j12 j13 j14 j15 j16 j17 j18 j19 j20 j21 j22 j23 j24 j25 j26 j27 j28 j29 j30 j31 j32 j33 j34 j35 j36 j37 j38 j39 j40 : AV, W Try.prog (RelU Try.prog xf) 0 K ⟨((tx f V w) :: (al g (pl p w.length)) :: (.ptr (tx f V w)) :: j3 :: (ab false) :: j5 :: j6 :: j7 :: j8 :: (al g (pl p w.length)) :: (ai w.length) :: (ai w.length) :: j12 :: j13 :: j14 :: j15 :: j16 :: j17 :: j18 :: j19 :: j20 :: j21 :: j22 :: j23 :: j24 :: j25 :: j26 :: j27 :: j28 :: j29 :: j30 :: j31 :: j32 :: j33 :: j34 :: j35 :: j36 :: j37 :: j38 :: j39 :: j40 :: []), [(8, r8)]⟩ Q)
    (hR : (List.range w.length).all (fun j => prJ (pf w) V p j (lb (pf w) V j)) = false → ∀ (j : Nat) (r8 : Nat × Option Ob), ∀ j3 j5 j6 j7 j8 j12 j13 j14 j15 j16 j17 j18 j19 j20 j21 j22 j23 j24 j25 j26 j27 j28 j29 j30 j31 j32 j33 j34 j35 j36 j37 j38 j39 j40 : AV, WX Try.prog (RelU Try.prog xf) 0 K .ret ⟨((tx f V w) :: (al g (pl p w.length)) :: (.ptr (tx f V w)) :: j3 :: (ab false) :: j5 :: j6 :: j7 :: j8 :: (al g (pl p w.length)) :: (ai w.length) :: (ai j) :: j12 :: j13 :: j14 :: j15 :: j16 :: j17 :: j18 :: j19 :: j20 :: j21 :: j22 :: j23 :: j24 :: j25 :: j26 :: j27 :: j28 :: j29 :: j30 :: j31 :: j32 :: j33 :: j34 :: j35 :: j36 :: j37 :: j38 :: j39 :: j40 :: []), [(8, r8)]⟩ Q) :
    ∀ (m j : Nat), j + m = w.length → (List.range w.length).all (fun j => prJ (pf w) V p j (lb (pf w) V j)) = ((List.range w.length).drop j).all (fun j => prJ (pf w) V p j (lb (pf w) V j)) → ∀ (g8 : Nat) (o8 : Option Ob), ∀ j3 j5 j6 j7 j8 j12 j13 j14 j15 j16 j17 j18 j19 j20 j21 j22 j23 j24 j25 j26 j27 j28 j29 j30 j31 j32 j33 j34 j35 j36 j37 j38 j39 j40 : AV, W Try.prog (RelU Try.prog xf) 0 (.code (.loop xf50_L1) :: .blk 0 :: .stop :: K) ⟨((tx f V w) :: (al g (pl p w.length)) :: (.ptr (tx f V w)) :: j3 :: (ab false) :: j5 :: j6 :: j7 :: j8 :: (al g (pl p w.length)) :: (ai w.length) :: (ai j) :: j12 :: j13 :: j14 :: j15 :: j16 :: j17 :: j18 :: j19 :: j20 :: j21 :: j22 :: j23 :: j24 :: j25 :: j26 :: j27 :: j28 :: j29 :: j30 :: j31 :: j32 :: j33 :: j34 :: j35 :: j36 :: j37 :: j38 :: j39 :: j40 :: []), [(8, (g8, o8))]⟩ Q := by
  have hpl := pl_len p w.length
  have n10 := hg.n10
  have hrl : (List.range w.length).length = w.length := List.length_range
  intro m
  induction m with
  | zero =>
    intro j hj h1 g8 o8 j3 j5 j6 j7 j8 j12 j13 j14 j15 j16 j17 j18 j19 j20 j21 j22 j23 j24 j25 j26 j27 j28 j29 j30 j31 j32 j33 j34 j35 j36 j37 j38 j39 j40
    have ek : j = w.length := by omega
    have h0 : decide (j < w.length) = false := decide_eq_false (by omega)
    rw [ek, List.drop_eq_nil_of_le (by omega), List.all_nil] at h1
    refine W_loop (W_run 80 ?_)
    simp (maxSteps := 2000000) only [SA, Nat.reduceDiv, Nat.reduceSub, Nat.reduceAdd, Int.reduceLT, Int.reduceLE, Int.reduceToNat, Nat.reduceMul, Nat.reduceEqDiff, reduceCtorEq, Nat.reduceBEq, Nat.reduceLeDiff, Nat.reduceLT, xf50_L1, ai, al, tx, lt_cast, h0]
    rw [ek]
    exact W_stop (hK h1 _ _ _ _ _ _ _ _ _ _ _ _ _ _ _ _ _ _ _ _ _ _ _ _ _ _ _ _ _ _ _ _ _ _ _)
  | succ m ih =>
    intro j hj h1 g8 o8 j3 j5 j6 j7 j8 j12 j13 j14 j15 j16 j17 j18 j19 j20 j21 j22 j23 j24 j25 j26 j27 j28 j29 j30 j31 j32 j33 j34 j35 j36 j37 j38 j39 j40
    have hk1 : j < w.length := by omega
    have h0 : decide (j < w.length) = true := decide_eq_true hk1
    have hgt := get_pl (p := p) hk1
    have wi : IntKind.i64.wrap ((j : Int) + 1) = ((j + 1 : Nat) : Int) := by rw [wrap_id (by omega) (by omega)]; simp
    have jnn : (0 : Int) ≤ j := by omega
    have er : (List.range w.length).getD j 0 = j := by rw [List.getD_eq_getElem?_getD, List.getElem?_range hk1]; rfl
    rw [drop_at (d := 0) (by omega), List.all_cons, er] at h1
    refine W_loop (W_run 80 ?_)
    simp (maxSteps := 2000000) only [SA, Nat.reduceDiv, Nat.reduceSub, Nat.reduceAdd, Int.reduceLT, Int.reduceLE, Int.reduceToNat, Nat.reduceMul, Nat.reduceEqDiff, reduceCtorEq, Nat.reduceBEq, Nat.reduceLeDiff, Nat.reduceLT, xf50_L1, ai, al, tx, lt_cast, h0, hgt, Int.toNat_natCast]
    refine W_call (args := [tx f V w, ai j]) rfl (noRefs_2 (noRef_tx _ _ _) rfl) (to_run hg f (Nat.le_of_lt hk1)) (noRef_spT _ _) (W_run 80 ?_)
    simp (maxSteps := 2000000) only [SA, Nat.reduceDiv, Nat.reduceSub, Nat.reduceAdd, Int.reduceLT, Int.reduceLE, Int.reduceToNat, Nat.reduceMul, Nat.reduceEqDiff, reduceCtorEq, Nat.reduceBEq, Nat.reduceLeDiff, Nat.reduceLT, ai, al, tx, spT, List.length_map]
    refine W_alone (cpi_loop V w hg f g p hp j hk1 _ _ (fun hc r8 j3 j7 j8 j12 j13 j14 j15 j16 j17 j21 j22 j23 j24 j25 j26 j27 j28 j29 j30 j31 j32 j33 j34 j35 j36 j37 j38 j39 j40 => W_run 80 ?_) (fun hc k r8 j3 j7 j8 j12 j13 j14 j15 j16 j17 j21 j22 j23 j24 j25 j26 j27 j28 j29 j30 j31 j32 j33 j34 j35 j36 j37 j38 j39 j40 => ?_) (lb (pf w) V j).length 0 (by omega) rfl _ _ _ _ _ _ _ _ _ _ _ _ _ _ _ _ _ _ _ _ _ _ _ _ _ _ _ _ _ _ _)
    · rw [hc, Bool.true_and] at h1
      simp (maxSteps := 2000000) only [SA, Nat.reduceDiv, Nat.reduceSub, Nat.reduceAdd, Int.reduceLT, Int.reduceLE, Int.reduceToNat, Nat.reduceMul, Nat.reduceEqDiff, reduceCtorEq, Nat.reduceBEq, Nat.reduceLeDiff, Nat.reduceLT, xf50_R0, ai, al, tx, wi]
      exact ih (j + 1) (by omega) h1 _ _ _ _ _ _ _ _ _ _ _ _ _ _ _ _ _ _ _ _ _ _ _ _ _ _ _ _ _ _ _ _ _ _ _ _
    · rw [hc, Bool.false_and] at h1
      exact WX_pop (hR h1 j _ _ _ _ _ _ _ _ _ _ _ _ _ _ _ _ _ _ _ _ _ _ _ _ _ _ _ _ _ _ _ _ _ _ _)
theorem canp_run {V : Int} {w : List Int} (hg : gX V w) (f g : Bool) {p : Nat → Int} (hp : ∀ i, i < w.length → 0 ≤ p i ∧ p i ≤ 20000) : Runs Try.prog xf 50 [tx f V w, al g (pl p w.length)] (ab (prB (pf w) V w.length p)) := by
  have hpl := pl_len p w.length
  have hg0 := get_pl (p := p) (n := w.length) (k := 0) hg.n1
  refine Runs.ofW (fn := xf50) 20 (by kernel_rfl) (W_run 80 ?_)
  simp (maxSteps := 2000000) only [SA, Nat.reduceDiv, Nat.reduceSub, Nat.reduceAdd, Int.reduceLT, Int.reduceLE, Int.reduceToNat, Nat.reduceMul, Nat.reduceEqDiff, reduceCtorEq, Nat.reduceBEq, Nat.reduceLeDiff, Nat.reduceLT, xf50, ai, al, tx, hpl]
  unfold prB
  refine W_alone (W_named named80 (cpo_loop V w hg f g p hp _ _ (fun hc r8 j3 j5 j6 j7 j8 j12 j13 j14 j15 j16 j17 j18 j19 j20 j21 j22 j23 j24 j25 j26 j27 j28 j29 j30 j31 j32 j33 j34 j35 j36 j37 j38 j39 j40 => W_run 80 ?_) (fun hc j r8 j3 j5 j6 j7 j8 j12 j13 j14 j15 j16 j17 j18 j19 j20 j21 j22 j23 j24 j25 j26 j27 j28 j29 j30 j31 j32 j33 j34 j35 j36 j37 j38 j39 j40 => ?_) w.length 0 (by omega) rfl _ _ _ _ _ _ _ _ _ _ _ _ _ _ _ _ _ _ _ _ _ _ _ _ _ _ _ _ _ _ _ _ _ _ _ _))
  · have e : decide (p 0 = 0) = (p 0 == 0) := rfl
    rw [hc, Bool.true_and, e]
    simp (maxSteps := 2000000) only [SA, Nat.reduceDiv, Nat.reduceSub, Nat.reduceAdd, Int.reduceLT, Int.reduceLE, Int.reduceToNat, Nat.reduceMul, Nat.reduceEqDiff, reduceCtorEq, Nat.reduceBEq, Nat.reduceLeDiff, Nat.reduceLT, xf50_R1, ai, al, tx, hg0]
    exact W_ret1 (WX_nil ⟨.inl rfl, _, rfl, rfl⟩)
  · rw [hc, Bool.false_and]
    exact WX_pop (WX_nil ⟨.inl rfl, _, rfl, rfl⟩)
end Go.Proofs.Ytdmffkknghianaa

set_option linter.unusedSimpArgs false
set_option linter.unusedVariables false
namespace Go.Proofs.Ytdmffkknghianaa
open Go Go.Proofs.Eng
set_option maxRecDepth 100000
set_option maxHeartbeats 4000000
def bnL (p : Nat → Int) (l : List Nat) : Int := l.foldl (fun a i => mn2 a (p i)) 20000
theorem bnL_snoc (p : Nat → Int) (l : List Nat) (i : Nat) : bnL p (l ++ [i]) = mn2 (bnL p l) (p i) := by unfold bnL; rw [List.foldl_append]; rfl
theorem mn_fold (p : Nat → Int) : ∀ (l : List Nat) (a : Int), (∀ i, i ∈ l → l.foldl (fun a i => mn2 a (p i)) a ≤ p i) ∧ l.foldl (fun a i => mn2 a (p i)) a ≤ a ∧ (l.foldl (fun a i => mn2 a (p i)) a = a ∨ ∃ i, i ∈ l ∧ l.foldl (fun a i => mn2 a (p i)) a = p i)
  | [], a => ⟨by simp, Int.le_refl _, .inl rfl⟩
  | x :: t, a => by
    obtain ⟨h1, h2, h3⟩ := mn_fold p t (mn2 a (p x))
    have hm : mn2 a (p x) ≤ a ∧ mn2 a (p x) ≤ p x ∧ (mn2 a (p x) = a ∨ mn2 a (p x) = p x) := by unfold mn2; split <;> omega
    simp only [List.foldl_cons, List.mem_cons]
    refine ⟨fun i hi => ?_, by omega, ?_⟩
    · rcases hi with rfl | hi
      · omega
      · exact h1 i hi
    · rcases h3 with h3 | ⟨i, hi, h3⟩
      · rcases hm.2.2 with q | q
        · exact .inl (h3.trans q)
        · exact .inr ⟨x, .inl rfl, h3.trans q⟩
      · exact .inr ⟨i, .inr hi, h3⟩
theorem bnL_le {p : Nat → Int} {l : List Nat} {i : Nat} (h : i ∈ l) : bnL p l ≤ p i := (mn_fold p l 20000).1 i h
theorem bnL_ex {p : Nat → Int} {l : List Nat} (hl : l ≠ []) (hp : ∀ i, i ∈ l → p i ≤ 20000) : ∃ i, i ∈ l ∧ bnL p l = p i := by
  rcases (mn_fold p l 20000).2.2 with h | h
  · cases l with
    | nil => exact (hl rfl).elim
    | cons x t =>
      refine ⟨x, List.mem_cons_self, ?_⟩
      have h1 := (mn_fold p (x :: t) 20000).1 x List.mem_cons_self
      have h2 := hp x List.mem_cons_self
      unfold bnL; omega
  · exact h
def bndR (q : Nat → Int) (V : Int) (n : Nat) (p : Nat → Int) : AV := if prB q V n p = true then .tup [ai (bnL p (lb q V n)), ai 0] else .tup [ai 0, ai 14]
theorem named11 (j : Nat) : Go.Proofs.Eng.look [] j = Go.Proofs.Eng.look [(11, (0, (none : Option Ob)))] j := by
  simp only [Go.Proofs.Eng.look]
  by_cases h : 11 = j
  · subst h; simp
  · simp [h]
theorem bra_loop (V : Int) (w : List Int) (hn : w.length ≤ 10) (f g : Bool) (p : Nat → Int) (hp : ∀ i, i < w.length → 0 ≤ p i ∧ p i ≤ 20000) (K : List Fr) (Q : Out → Cfg → Prop)
    (hK : ∀ j3 j7 j8 j9 j10 j11 j12 j13 j14 j15 j16 j17 j18 j19 j20 j21 j25 j26 j27 j28 j29 j30 j31 j32 j33 j34 j35 j36 j37 j38 j39 j40 j41 j42 j43 j44 j45 j46 j47 j48 j49 j50 j51 j52 j53 j54 j55 j56 : AV, W Try.prog (RelU Try.prog xf) 0 K ⟨((tx f V w) :: (al g (pl p w.length)) :: (.ptr (tx f V w)) :: j3 :: (ai 0) :: (ai 0) :: (ai 0) :: j7 :: j8 :: j9 :: j10 :: j11 :: j12 :: j13 :: j14 :: j15 :: j16 :: j17 :: j18 :: j19 :: j20 :: j21 :: (al g (pl p w.length)) :: (ai w.length) :: (ai w.length) :: j25 :: j26 :: j27 :: j28 :: j29 :: j30 :: j31 :: j32 :: j33 :: j34 :: j35 :: j36 :: j37 :: j38 :: j39 :: j40 :: j41 :: j42 :: j43 :: j44 :: j45 :: j46 :: j47 :: j48 :: j49 :: j50 :: j51 :: j52 :: j53 :: j54 :: j55 :: j56 :: []), []⟩ Q) :
    ∀ (m k : Nat), k + m = w.length → ∀ j3 j7 j8 j9 j10 j11 j12 j13 j14 j15 j16 j17 j18 j19 j20 j21 j25 j26 j27 j28 j29 j30 j31 j32 j33 j34 j35 j36 j37 j38 j39 j40 j41 j42 j43 j44 j45 j46 j47 j48 j49 j50 j51 j52 j53 j54 j55 j56 : AV, W Try.prog (RelU Try.prog xf) 0 (.code (.loop xf21_L0) :: .blk 0 :: .stop :: K) ⟨((tx f V w) :: (al g (pl p w.length)) :: (.ptr (tx f V w)) :: j3 :: (ai 0) :: (ai 0) :: (ai 0) :: j7 :: j8 :: j9 :: j10 :: j11 :: j12 :: j13 :: j14 :: j15 :: j16 :: j17 :: j18 :: j19 :: j20 :: j21 :: (al g (pl p w.length)) :: (ai w.length) :: (ai k) :: j25 :: j26 :: j27 :: j28 :: j29 :: j30 :: j31 :: j32 :: j33 :: j34 :: j35 :: j36 :: j37 :: j38 :: j39 :: j40 :: j41 :: j42 :: j43 :: j44 :: j45 :: j46 :: j47 :: j48 :: j49 :: j50 :: j51 :: j52 :: j53 :: j54 :: j55 :: j56 :: []), []⟩ Q := by
  intro m
  induction m with
  | zero =>
    intro k hk j3 j7 j8 j9 j10 j11 j12 j13 j14 j15 j16 j17 j18 j19 j20 j21 j25 j26 j27 j28 j29 j30 j31 j32 j33 j34 j35 j36 j37 j38 j39 j40 j41 j42 j43 j44 j45 j46 j47 j48 j49 j50 j51 j52 j53 j54 j55 j56
    have ek : k = w.length := by omega
    have h0 : decide (k < w.length) = false := decide_eq_false (by omega)
    refine W_loop (W_run 80 ?_)
    simp (maxSteps := 2000000) only [SA, Nat.reduceDiv, Nat.reduceSub, Nat.reduceAdd, Int.reduceLT, Int.reduceLE, Int.reduceToNat, Nat.reduceMul, Nat.reduceEqDiff, reduceCtorEq, Nat.reduceBEq, Nat.reduceLeDiff, Nat.reduceLT, xf21_L0, ai, al, tx, lt_cast, h0]
    rw [ek]
    exact W_stop (hK _ _ _ _ _ _ _ _ _ _ _ _ _ _ _ _ _ _ _ _ _ _ _ _ _ _ _ _ _ _ _ _ _ _ _ _ _ _ _ _ _ _ _ _ _ _ _ _)
  | succ m ih =>
    intro k hk j3 j7 j8 j9 j10 j11 j12 j13 j14 j15 j16 j17 j18 j19 j20 j21 j25 j26 j27 j28 j29 j30 j31 j32 j33 j34 j35 j36 j37 j38 j39 j40 j41 j42 j43 j44 j45 j46 j47 j48 j49 j50 j51 j52 j53 j54 j55 j56
    have hk1 : k < w.length := by omega
    have h0 : decide (k < w.length) = true := decide_eq_true hk1
    have hgt := get_pl (p := p) hk1
    have hb := hp k hk1
    have d1 : decide (p k < 0) = false := decide_eq_false (by omega)
    have d2 : decide (20000 < p k) = false := decide_eq_false (by omega)
    have wi : IntKind.i64.wrap ((k : Int) + 1) = ((k + 1 : Nat) : Int) := by rw [wrap_id (by omega) (by omega)]; simp
    refine W_loop (W_run 80 ?_)
    simp (maxSteps := 2000000) only [SA, Nat.reduceDiv, Nat.reduceSub, Nat.reduceAdd, Int.reduceLT, Int.reduceLE, Int.reduceToNat, Nat.reduceMul, Nat.reduceEqDiff, reduceCtorEq, Nat.reduceBEq, Nat.reduceLeDiff, Nat.reduceLT, xf21_L0, ai, al, tx, lt_cast, h0, hgt, d1, d2, wi, Int.toNat_natCast]
    exact ih (k + 1) (by omega) _ _ _ _ _ _ _ _ _ _ _ _ _ _ _ _ _ _ _ _ _ _ _ _ _ _ _ _ _ _ _ _ _ _ _ _ _ _ _ _ _ _ _ _ _ _ _ _
theorem brb_loop (V : Int) (w : List Int) (hn : w.length ≤ 10) (f g : Bool) (p : Nat → Int) (K : List Fr) (Q : Out → Cfg → Prop)
    (hK : ∀ r11 : Nat × Option Ob, ∀ j3 j7 j8 j10 j11 j12 j13 j14 j15 j16 j17 j18 j19 j20 j21 j22 j23 j24 j25 j26 j27 j28 j29 j30 j31 j32 j33 j34 j35 j36 j37 j38 j39 j40 j41 j45 j46 j47 j48 j49 j50 j51 j52 j53 j54 j55 j56 : AV, W Try.prog (RelU Try.prog xf) 0 K ⟨((tx f V w) :: (al g (pl p w.length)) :: (.ptr (tx f V w)) :: j3 :: (ai 0) :: (ai 0) :: (ai 0) :: j7 :: j8 :: (ai (bnL p (lb (pf w) V w.length))) :: j10 :: j11 :: j12 :: j13 :: j14 :: j15 :: j16 :: j17 :: j18 :: j19 :: j20 :: j21 :: j22 :: j23 :: j24 :: j25 :: j26 :: j27 :: j28 :: j29 :: j30 :: j31 :: j32 :: j33 :: j34 :: j35 :: j36 :: j37 :: j38 :: j39 :: j40 :: j41 :: (spT (lb (pf w) V w.length) w.length) :: (ai (lb (pf w) V w.length).length) :: (ai (lb (pf w) V w.length).length) :: j45 :: j46 :: j47 :: j48 :: j49 :: j50 :: j51 :: j52 :: j53 :: j54 :: j55 :: j56 :: []), [(11, r11)]⟩ Q) :
    ∀ (m k : Nat), k + m = (lb (pf w) V w.length).length → ∀ (g11 : Nat) (o11 : Option Ob), ∀ j3 j7 j8 j10 j11 j12 j13 j14 j15 j16 j17 j18 j19 j20 j21 j22 j23 j24 j25 j26 j27 j28 j29 j30 j31 j32 j33 j34 j35 j36 j37 j38 j39 j40 j41 j45 j46 j47 j48 j49 j50 j51 j52 j53 j54 j55 j56 : AV, W Try.prog (RelU Try.prog xf) 0 (.code (.loop xf21_L1) :: .blk 2 :: .stop :: K) ⟨((tx f V w) :: (al g (pl p w.length)) :: (.ptr (tx f V w)) :: j3 :: (ai 0) :: (ai 0) :: (ai 0) :: j7 :: j8 :: (ai (bnL p ((lb (pf w) V w.length).take k))) :: j10 :: j11 :: j12 :: j13 :: j14 :: j15 :: j16 :: j17 :: j18 :: j19 :: j20 :: j21 :: j22 :: j23 :: j24 :: j25 :: j26 :: j27 :: j28 :: j29 :: j30 :: j31 :: j32 :: j33 :: j34 :: j35 :: j36 :: j37 :: j38 :: j39 :: j40 :: j41 :: (spT (lb (pf w) V w.length) w.length) :: (ai (lb (pf w) V w.length).length) :: (ai k) :: j45 :: j46 :: j47 :: j48 :: j49 :: j50 :: j51 :: j52 :: j53 :: j54 :: j55 :: j56 :: []), [(11, (g11, o11))]⟩ Q := by
  have hlb : (lb (pf w) V w.length).length ≤ 10 := Nat.le_trans (lbK_len (pf w) V w.length w.length) hn
  intro m
  induction m with
  | zero =>
    intro k hk g11 o11 j3 j7 j8 j10 j11 j12 j13 j14 j15 j16 j17 j18 j19 j20 j21 j22 j23 j24 j25 j26 j27 j28 j29 j30 j31 j32 j33 j34 j35 j36 j37 j38 j39 j40 j41 j45 j46 j47 j48 j49 j50 j51 j52 j53 j54 j55 j56
    have ek : k = (lb (pf w) V w.length).length := by omega
    have h0 : decide (k < (lb (pf w) V w.length).length) = false := decide_eq_false (by omega)
    rw [show (lb (pf w) V w.length).take k = lb (pf w) V w.length from List.take_of_length_le (by omega)]
    refine W_loop (W_run 80 ?_)
    simp (maxSteps := 2000000) only [SA, Nat.reduceDiv, Nat.reduceSub, Nat.reduceAdd, Int.reduceLT, Int.reduceLE, Int.reduceToNat, Nat.reduceMul, Nat.reduceEqDiff, reduceCtorEq, Nat.reduceBEq, Nat.reduceLeDiff, Nat.reduceLT, xf21_L1, ai, al, tx, spT, lt_cast, h0]
    rw [ek]
    exact W_stop (hK _ _ _ _ _ _ _ _ _ _ _ _ _ _ _ _ _ _ _ _ _ _ _ _ _ _ _ _ _ _ _ _ _ _ _ _ _ _ _ _ _ _ _ _ _ _ _ _)
  | succ m ih =>
    intro k hk g11 o11 j3 j7 j8 j10 j11 j12 j13 j14 j15 j16 j17 j18 j19 j20 j21 j22 j23 j24 j25 j26 j27 j28 j29 j30 j31 j32 j33 j34 j35 j36 j37 j38 j39 j40 j41 j45 j46 j47 j48 j49 j50 j51 j52 j53 j54 j55 j56
    have hk1 : k < (lb (pf w) V w.length).length := by omega
    have h0 : decide (k < (lb (pf w) V w.length).length) = true := decide_eq_true hk1
    have hgt := get_spT (j := w.length) hk1
    have wi : IntKind.i64.wrap ((k : Int) + 1) = ((k + 1 : Nat) : Int) := by rw [wrap_id (by omega) (by omega)]; simp
    have hin := lb_mem.2 (getD_in (d := 0) hk1)
    have next := ih (k + 1) (by omega)
    rw [take_snoc (d := 0) hk1, bnL_snoc] at next
    generalize (lb (pf w) V w.length).getD k 0 = i at *
    have hgi := get_pl (p := p) (n := w.length) (k := i) hin.1
    refine W_loop (W_run 80 ?_)
    simp (maxSteps := 2000000) only [SA, Nat.reduceDiv, Nat.reduceSub, Nat.reduceAdd, Int.reduceLT, Int.reduceLE, Int.reduceToNat, Nat.reduceMul, Nat.reduceEqDiff, reduceCtorEq, Nat.reduceBEq, Nat.reduceLeDiff, Nat.reduceLT, xf21_L1, ai, al, tx, spT, lt_cast, h0, hgt, hgi, wi, Int.toNat_natCast, raw_min, rawK, opA, argT, Option.elim, List.map_cons, List.map_nil]
    exact next _ _ _ _ _ _ _ _ _ _ _ _ _ _ _ _ _ _ _ _ _ _ _ _ _ _ _ _ _ _ _ _ _ _ _ _ _ _ _ _ _ _ _ _ _ _ _ _ _
theorem bound_run {V : Int} {w : List Int} (hg : gX V w) (f g : Bool) {p : Nat → Int} (hp : ∀ i, i < w.length → 0 ≤ p i ∧ p i ≤ 20000) : Runs Try.prog xf 21 [tx f V w, al g (pl p w.length)] (bndR (pf w) V w.length p) := by
  have n10 := hg.n10
  have hpl := pl_len p w.length
  have n00 : ((0 : Int) != 0) = false := rfl
  have nn : ((w.length : Int) != (w.length : Int)) = false := by simp
  have hcan := canp_run hg f g hp
  refine Runs.ofW (fn := xf21) 20 (by kernel_rfl) (W_run 80 ?_)
  simp (maxSteps := 2000000) only [SA, Nat.reduceDiv, Nat.reduceSub, Nat.reduceAdd, Int.reduceLT, Int.reduceLE, Int.reduceToNat, Nat.reduceMul, Nat.reduceEqDiff, reduceCtorEq, Nat.reduceBEq, Nat.reduceLeDiff, Nat.reduceLT, xf21, ai, al, tx]
  refine W_call (args := [tx f V w]) rfl (noRefs_1 (noRef_tx _ _ _)) (check_run hg f) rfl (W_run 80 ?_)
  simp (maxSteps := 2000000) only [SA, Nat.reduceDiv, Nat.reduceSub, Nat.reduceAdd, Int.reduceLT, Int.reduceLE, Int.reduceToNat, Nat.reduceMul, Nat.reduceEqDiff, reduceCtorEq, Nat.reduceBEq, Nat.reduceLeDiff, Nat.reduceLT, ai, al, tx, n00, hpl]
  refine W_call (args := [tx f V w]) rfl (noRefs_1 (noRef_tx _ _ _)) (last_run V w f) rfl (W_run 80 ?_)
  simp (maxSteps := 2000000) only [SA, Nat.reduceDiv, Nat.reduceSub, Nat.reduceAdd, Int.reduceLT, Int.reduceLE, Int.reduceToNat, Nat.reduceMul, Nat.reduceEqDiff, reduceCtorEq, Nat.reduceBEq, Nat.reduceLeDiff, Nat.reduceLT, ai, al, tx, hpl, nn]
  refine W_alone (bra_loop V w n10 f g p hp _ _ (fun j3 j7 j8 j9 j10 j11 j12 j13 j14 j15 j16 j17 j18 j19 j20 j21 j25 j26 j27 j28 j29 j30 j31 j32 j33 j34 j35 j36 j37 j38 j39 j40 j41 j42 j43 j44 j45 j46 j47 j48 j49 j50 j51 j52 j53 j54 j55 j56 => W_run 80 ?_) w.length 0 (by omega) _ _ _ _ _ _ _ _ _ _ _ _ _ _ _ _ _ _ _ _ _ _ _ _ _ _ _ _ _ _ _ _ _ _ _ _ _ _ _ _ _ _ _ _ _ _ _ _)
  simp (maxSteps := 2000000) only [SA, Nat.reduceDiv, Nat.reduceSub, Nat.reduceAdd, Int.reduceLT, Int.reduceLE, Int.reduceToNat, Nat.reduceMul, Nat.reduceEqDiff, reduceCtorEq, Nat.reduceBEq, Nat.reduceLeDiff, Nat.reduceLT, xf21_R1, ai, al, tx]
  refine W_call (args := [tx f V w, al g (pl p w.length)]) rfl (noRefs_2 (noRef_tx _ _ _) (noRef_al _ _)) hcan rfl (W_run 80 ?_)
  unfold bndR
  cases hc : prB (pf w) V w.length p with
  | true =>
    rw [if_pos rfl]
    simp (maxSteps := 2000000) only [SA, Nat.reduceDiv, Nat.reduceSub, Nat.reduceAdd, Int.reduceLT, Int.reduceLE, Int.reduceToNat, Nat.reduceMul, Nat.reduceEqDiff, reduceCtorEq, Nat.reduceBEq, Nat.reduceLeDiff, Nat.reduceLT, ai, ab, al, tx]
    refine W_call (args := [tx f V w]) rfl (noRefs_1 (noRef_tx _ _ _)) (last_run V w f) rfl (W_run 80 ?_)
    simp (maxSteps := 2000000) only [SA, Nat.reduceDiv, Nat.reduceSub, Nat.reduceAdd, Int.reduceLT, Int.reduceLE, Int.reduceToNat, Nat.reduceMul, Nat.reduceEqDiff, reduceCtorEq, Nat.reduceBEq, Nat.reduceLeDiff, Nat.reduceLT, ai, al, tx]
    refine W_call (args := [tx f V w, ai w.length]) rfl (noRefs_2 (noRef_tx _ _ _) rfl) (to_run hg f (Nat.le_refl _)) (noRef_spT _ _) (W_run 80 ?_)
    simp (maxSteps := 2000000) only [SA, Nat.reduceDiv, Nat.reduceSub, Nat.reduceAdd, Int.reduceLT, Int.reduceLE, Int.reduceToNat, Nat.reduceMul, Nat.reduceEqDiff, reduceCtorEq, Nat.reduceBEq, Nat.reduceLeDiff, Nat.reduceLT, ai, al, tx, spT, List.length_map]
    refine W_alone (W_named named11 (brb_loop V w n10 f g p _ _ (fun r11 j3 j7 j8 j10 j11 j12 j13 j14 j15 j16 j17 j18 j19 j20 j21 j22 j23 j24 j25 j26 j27 j28 j29 j30 j31 j32 j33 j34 j35 j36 j37 j38 j39 j40 j41 j45 j46 j47 j48 j49 j50 j51 j52 j53 j54 j55 j56 => W_run 80 ?_) (lb (pf w) V w.length).length 0 (by omega) _ _ _ _ _ _ _ _ _ _ _ _ _ _ _ _ _ _ _ _ _ _ _ _ _ _ _ _ _ _ _ _ _ _ _ _ _ _ _ _ _ _ _ _ _ _ _ _ _))
    simp (maxSteps := 2000000) only [SA, Nat.reduceDiv, Nat.reduceSub, Nat.reduceAdd, Int.reduceLT, Int.reduceLE, Int.reduceToNat, Nat.reduceMul, Nat.reduceEqDiff, reduceCtorEq, Nat.reduceBEq, Nat.reduceLeDiff, Nat.reduceLT, xf21_R0, ai]
    generalize bnL p (lb (pf w) V w.length) = z
    exact W_ret1 (WX_nil ⟨.inl rfl, _, rfl, rfl⟩)
  | false =>
    rw [if_neg (by simp)]
    simp (maxSteps := 2000000) only [SA, Nat.reduceDiv, Nat.reduceSub, Nat.reduceAdd, Int.reduceLT, Int.reduceLE, Int.reduceToNat, Nat.reduceMul, Nat.reduceEqDiff, reduceCtorEq, Nat.reduceBEq, Nat.reduceLeDiff, Nat.reduceLT, ai, ab, al, tx]
    exact W_ret1 (WX_pop (WX_nil ⟨.inl rfl, _, rfl, rfl⟩))
theorem proves_run {V : Int} {w : List Int} (hg : gX V w) (f g g' : Bool) {E : List Nat} (hE : E.length ≤ 100) (he : fE (pf w) V w.length E = 0) {p : Nat → Int} (hp : ∀ i, i < w.length → 0 ≤ p i ∧ p i ≤ 20000) :
    Runs Try.prog xf 22 [tx f V w, al g (nl E), al g' (pl p w.length)] (ai (if prB (pf w) V w.length p = true ∧ bnL p (lb (pf w) V w.length) = cstL (pf w) V w.length E then 0 else 14)) := by
  have hc := cost2_run hg f g hE
  have hb := bound_run hg f g' hp
  have n00 : ((0 : Int) != 0) = false := rfl
  have n14 : ((14 : Int) != 0) = true := rfl
  unfold costR at hc
  rw [if_pos he] at hc
  unfold bndR at hb
  generalize cstL (pf w) V w.length E = c at *
  generalize bnL p (lb (pf w) V w.length) = z at *
  refine Runs.ofW (fn := xf22) 20 (by kernel_rfl) (W_run 80 ?_)
  simp (maxSteps := 2000000) only [SA, Nat.reduceDiv, Nat.reduceSub, Nat.reduceAdd, Int.reduceLT, Int.reduceLE, Int.reduceToNat, Nat.reduceMul, Nat.reduceEqDiff, reduceCtorEq, Nat.reduceBEq, Nat.reduceLeDiff, Nat.reduceLT, xf22, ai, al, tx]
  refine W_call (args := [tx f V w, al g (nl E)]) rfl (noRefs_2 (noRef_tx _ _ _) (noRef_al _ _)) hc rfl (W_run 80 ?_)
  simp (maxSteps := 2000000) only [SA, Nat.reduceDiv, Nat.reduceSub, Nat.reduceAdd, Int.reduceLT, Int.reduceLE, Int.reduceToNat, Nat.reduceMul, Nat.reduceEqDiff, reduceCtorEq, Nat.reduceBEq, Nat.reduceLeDiff, Nat.reduceLT, ai, al, tx, n00]
  cases hq : prB (pf w) V w.length p with
  | true =>
    rw [hq, if_pos rfl] at hb
    refine W_call (args := [tx f V w, al g' (pl p w.length)]) rfl (noRefs_2 (noRef_tx _ _ _) (noRef_al _ _)) hb rfl (W_run 80 ?_)
    by_cases hz : z = c
    · have d1 : (z != c) = false := by simp [hz]
      rw [if_pos ⟨rfl, hz⟩]
      simp (maxSteps := 2000000) only [SA, Nat.reduceDiv, Nat.reduceSub, Nat.reduceAdd, Int.reduceLT, Int.reduceLE, Int.reduceToNat, Nat.reduceMul, Nat.reduceEqDiff, reduceCtorEq, Nat.reduceBEq, Nat.reduceLeDiff, Nat.reduceLT, ai, al, tx, n00, d1]
      exact W_ret1 (WX_nil ⟨.inl rfl, _, rfl, rfl⟩)
    · have d1 : (z != c) = true := by rw [bne_iff_ne]; exact hz
      rw [if_neg (fun h => hz h.2)]
      simp (maxSteps := 2000000) only [SA, Nat.reduceDiv, Nat.reduceSub, Nat.reduceAdd, Int.reduceLT, Int.reduceLE, Int.reduceToNat, Nat.reduceMul, Nat.reduceEqDiff, reduceCtorEq, Nat.reduceBEq, Nat.reduceLeDiff, Nat.reduceLT, ai, al, tx, n00, d1]
      exact W_ret1 (WX_pop (WX_nil ⟨.inl rfl, _, rfl, rfl⟩))
  | false =>
    rw [hq, if_neg (by simp)] at hb
    rw [if_neg (by simp)]
    refine W_call (args := [tx f V w, al g' (pl p w.length)]) rfl (noRefs_2 (noRef_tx _ _ _) (noRef_al _ _)) hb rfl (W_run 80 ?_)
    simp (maxSteps := 2000000) only [SA, Nat.reduceDiv, Nat.reduceSub, Nat.reduceAdd, Int.reduceLT, Int.reduceLE, Int.reduceToNat, Nat.reduceMul, Nat.reduceEqDiff, reduceCtorEq, Nat.reduceBEq, Nat.reduceLeDiff, Nat.reduceLT, ai, al, tx, n14]
    exact W_ret1 (WX_pop (WX_nil ⟨.inl rfl, _, rfl, rfl⟩))
end Go.Proofs.Ytdmffkknghianaa

