/-
  The walks of package short's Holds, Ways and First: each returns what the plain Lean function says.
-/
import Derived.Test.YtlbepjmiligpcaaDoorCheck
set_option linter.unusedSimpArgs false
set_option linter.unusedVariables false
namespace Go.Proofs.YtlbepjmiligpcaaDoor
open Go.RowKit Go.Proofs.Short

theorem rd_two (w : World) (a b : List UInt8) (t : TypeId) : Rd (w.alloc (.cells #[.string ⟨a.toArray⟩, .string ⟨b.toArray⟩] t)) (some ⟨w.heap.size, 0, none⟩) 2 ([a, b].map encStr) := by
  refine ⟨rfl, fun _ => ⟨w.heap.size, 0, rfl, by simp, fun j hj => ?_⟩⟩
  rw [World.cell?_alloc_at _ _ _ _ rfl]
  match j, hj with
  | 0, _ => rfl
  | 1, _ => rfl

theorem left_l (a b : List UInt8) (w : World) (ha : a.length ≤ maxLen) (hb : b.length ≤ maxLen) :
    Calls Tryd.prog 36 #[.string ⟨a.toArray⟩, .string ⟨b.toArray⟩] w fun e w' => e = .returned (.bool (leftL a b)) ∧ ∃ n, w' = w.drewN n :=
  left_any ⟨a.toArray⟩ ⟨b.toArray⟩ w (by simpa [ByteArray.size] using ha) (by simpa [ByteArray.size] using hb)
theorem left_b (a b : List UInt8) (w : World) (ha : a.length ≤ maxLen) (hb : b.length ≤ maxLen) :
    Calls Tryd.prog 36 #[.string ⟨a.toArray⟩, .string ⟨b.toArray⟩] w fun e w' => e = .returned (.bool (leftL a b)) ∧ Below w.heap.size w w' :=
  (left_l a b w ha hb).mono fun _ _ ⟨he, _, hw⟩ => ⟨he, hw ▸ below_drewN (Below.refl _ _) _⟩

theorem checkTwo (a b : List UInt8) (w : World) (t : TypeId) (ha : a.length ≤ maxLen) (hb : b.length ≤ maxLen) :
    Calls Tryd.prog 21 #[.slice (some ⟨w.heap.size, 0, none⟩) 2 2] (w.alloc (.cells #[.string ⟨a.toArray⟩, .string ⟨b.toArray⟩] t)) fun e w' => e = .returned (.int .i64 (chks [a, b])) ∧ Below w.heap.size w w' :=
  (checkAll_any (some ⟨w.heap.size, 0, none⟩) 2 2 [a, b] _ (rd_two w a b t) (by decide) (by simp; exact ⟨ha, hb⟩)).mono fun _ _ ⟨he, hB⟩ =>
    ⟨he, ((Below.refl _ _).alloc (Nat.le_refl _) _).trans (hB.mono (by simp))⟩

def holdL (a b : List UInt8) : Bool := if chks [a, b] = 0 then leftL a b else false

set_option maxHeartbeats 400000 in
theorem holds_any (a b : List UInt8) (w : World) (ha : a.length ≤ maxLen) (hb : b.length ≤ maxLen) :
    Calls Tryd.prog 25 #[.string ⟨a.toArray⟩, .string ⟨b.toArray⟩] w fun e w' => e = .returned (.tuple #[.bool (holdL a b), .int .i64 (chks [a, b])]) ∧ Below w.heap.size w w' := by
  by_cases hz : chks [a, b] = 0
  · have hh : holdL a b = leftL a b := by unfold holdL; rw [if_pos hz]
    have hz2 : (chks [a, b] != 0) = false := by simp [hz]
    have HH := Lib.hid hh; have HZ := Lib.hid hz; clear hh hz
    go_enter Tryd.func25, Tryd.ntmps25
    go_wp2_with (first
      | (go_at_call 21; refine (checkTwo a b _ _ ha hb).mono ?_; rintro e w1 ⟨rfl, hb1⟩)
      | (go_at_call 36; refine (left_b a b _ ha hb).mono ?_; rintro e w2 ⟨rfl, hb2⟩))
    go_ret2
    rw [HH.out, HZ.out]
    exact ⟨rfl, hb1.trans (hb2.mono hb1.size)⟩
  · have hh : holdL a b = false := by unfold holdL; rw [if_neg hz]
    have hz2 : (chks [a, b] != 0) = true := by simp [hz]
    have HH := Lib.hid hh; clear hh hz
    go_enter Tryd.func25, Tryd.ntmps25
    go_wp2_with (go_at_call 21; refine (checkTwo a b _ _ ha hb).mono ?_; rintro e w1 ⟨rfl, hb1⟩)
    go_ret2
    rw [HH.out]
    exact ⟨rfl, hb1⟩
end Go.Proofs.YtlbepjmiligpcaaDoor
