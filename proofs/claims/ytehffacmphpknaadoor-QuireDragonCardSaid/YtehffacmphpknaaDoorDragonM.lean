/-
  The walk by the creases of folds: its lanes are all different, and where it ends.
-/
import Derived.Test.YtehffacmphpknaaDoorClashM
import Derived.Test.YtehffacmphpknaaDoorFactP
import Derived.Test.YtehffacmphpknaaDoorWalkM
set_option linter.unusedSimpArgs false
set_option linter.unusedVariables false
namespace Go.Proofs.Quire
/-- the walk by the creases of folds -/
def wkC (f : List Bool) : List (Int × Int) := walkL ((creC f).map UInt8.ofNat)
/-- the lanes' numbers -/
def laneN : List (Int × Int) → List Nat
  | p :: q :: P => ((p.1 + q.1 + 300).toNat * 1024 + (p.2 + q.2 + 300).toNat) :: laneN (q :: P)
  | _ => []
def dragB (f : List Bool) : Bool := nodupB (laneN (wkC f)) && (decide ((ptAt (wkC f) (2 ^ f.length)).1 * (ptAt (wkC f) (2 ^ f.length)).1 + (ptAt (wkC f) (2 ^ f.length)).2 * (ptAt (wkC f) (2 ^ f.length)).2 = ((2 ^ f.length : Nat) : Int)))
theorem drag_k : ((List.range (6 + 1)).all fun k => (allF k).all dragB) = true := by kernel_rfl
theorem laneN_len : ∀ P : List (Int × Int), (laneN P).length = P.length - 1
  | [] => rfl
  | [_] => rfl
  | p :: q :: P => by rw [laneN, List.length_cons, laneN_len (q :: P)]; simp
theorem laneN_get : ∀ (P : List (Int × Int)) (i : Nat), i + 1 < P.length → (laneN P).getD i 0 = ((laneS P i).1 + 300).toNat * 1024 + ((laneS P i).2 + 300).toNat
  | [], i, h => by simp at h
  | [_], i, h => by simp at h
  | p :: q :: P, i, h => by
    rcases i with _ | i
    · rfl
    · rw [laneN, List.getD_cons_succ, laneN_get (q :: P) i (by simpa using h)]; rfl
theorem dragon_lanes (f : List Bool) (h6 : f.length ≤ 6) : creS f = (creC f).map UInt8.ofNat ∧
    firstP (laneB (walkL (creS f))) (2 ^ f.length) (2 ^ f.length) 0 = none ∧ (∀ i j, i < j → j < 2 ^ f.length → laneS (walkL (creS f)) i ≠ laneS (walkL (creS f)) j) ∧
    (ptAt (walkL (creS f)) (2 ^ f.length)).1 * (ptAt (walkL (creS f)) (2 ^ f.length)).1 + (ptAt (walkL (creS f)) (2 ^ f.length)).2 * (ptAt (walkL (creS f)) (2 ^ f.length)).2 = ((2 ^ f.length : Nat) : Int) := by
  have hc : creS f = (creC f).map UInt8.ofNat := by unfold creS; rw [(closed f h6).2.2]
  have hcl := creS_len f
  have h64 : 2 ^ f.length ≤ 64 := Nat.le_trans (Nat.pow_le_pow_right (by omega) h6) (by decide)
  have hd := folds_all drag_k f h6
  unfold dragB at hd
  rw [Bool.and_eq_true] at hd
  obtain ⟨h1, h2⟩ := hd
  have h2 := of_decide_eq_true h2
  have hw : wkC f = walkL (creS f) := by unfold wkC; rw [hc]
  rw [hw] at h1 h2
  have hlen : (walkL (creS f)).length = 2 ^ f.length + 1 := by rw [walkL_len]; omega
  have hnd : ∀ i j, i < j → j < 2 ^ f.length → laneS (walkL (creS f)) i ≠ laneS (walkL (creS f)) j := fun i j hij hj e => by
    have hp := (List.pairwise_iff_getElem.1 (nodup_of _ h1)) i j (by rw [laneN_len]; omega) (by rw [laneN_len]; omega) hij
    apply hp
    have e1 := laneN_get (walkL (creS f)) i (by omega)
    have e2 := laneN_get (walkL (creS f)) j (by omega)
    rw [List.getD_eq_getElem?_getD, List.getElem?_eq_getElem (by rw [laneN_len]; omega)] at e1 e2
    simp only [Option.getD_some] at e1 e2
    rw [e1, e2, e]
  refine ⟨hc, ?_, hnd, h2⟩
  rw [firstP_none0]
  intro i j hij hj
  rw [lane_sum _ i j (by omega) (by omega)]
  have := hnd i j hij hj
  rw [Bool.eq_false_iff]
  intro h
  rw [Bool.and_eq_true, beq_iff_eq, beq_iff_eq] at h
  exact this (Prod.ext h.1 h.2)
end Go.Proofs.Quire
