/-
  The walks of the reference's Holds, Ways and First, and of package short's Ways and First at any two words: each returns what the plain Lean function says.
-/
import Derived.Test.YtalildjhighlhaaPlaces
namespace Go.Proofs.Ytalildjhighlhaa
open Go.RowKit Go.Proofs.Short Go.Lib

def wayL (a b : List UInt8) : Int := if chks [a, b] = 0 then (waysL a b : Nat) else 0
def fstL (a b : List UInt8) : List Nat := if chks [a, b] = 0 then (firstL 0 a b).getD [] else []
def fstE (a b : List UInt8) : Int := if chks [a, b] = 0 then (match firstL 0 a b with | none => 12 | some _ => 0) else chks [a, b]
/-- a row that can be read, and an error -/
def RowErr (w : World) (l : List Nat) (err : Int) (e : Ending) (w' : World) : Prop :=
  Below w.heap.size w w' ∧ ∃ A c, e = .returned (.tuple #[.slice A l.length c, .int .i64 err]) ∧ Rd w' A l.length (ints l)
theorem rd_nil (w : World) (A : Option Addr) : Rd w A 0 [] := ⟨rfl, fun h => by omega⟩
theorem fst_len (a b : List UInt8) : (fstL a b).length ≤ 10 ∨ 10 < b.length := by
  by_cases h : 10 < b.length
  · exact .inr h
  · left
    unfold fstL
    split
    · cases h2 : firstL 0 a b with
      | none => simp
      | some ps =>
        have : ps ∈ plL a 0 b := by
          rw [firstL_pl] at h2; exact List.mem_of_mem_head? h2
        have := plL_each _ _ _ _ this
        simp; omega
    · simp

set_option maxHeartbeats 400000 in
theorem wayS_any (a b : List UInt8) (w : World) (ha : a.length ≤ maxLen) (hb : b.length ≤ maxLen) :
    Calls Try.prog 20 #[.string ⟨a.toArray⟩, .string ⟨b.toArray⟩] w fun e w' => e = .returned (.tuple #[.int .i64 (wayL a b), .int .i64 (chks [a, b])]) ∧ Below w.heap.size w w' := by
  by_cases hz : chks [a, b] = 0
  · refine (ways_any a b w hz).mono ?_
    rintro e w' ⟨rfl, h⟩
    exact ⟨by unfold wayL; rw [if_pos hz, hz], h⟩
  · have hh : wayL a b = 0 := by unfold wayL; rw [if_neg hz]
    have hz2 : (chks [a, b] != 0) = true := by simp [hz]
    have HH := Lib.hid hh; clear hh hz
    go_enter Try.func20, Try.ntmps20
    go_wp2_with (go_at_call 57; refine (checkTwo a b _ _ ha hb).mono ?_; rintro e w1 ⟨rfl, hb1⟩)
    go_ret2
    rw [HH.out]
    exact ⟨rfl, hb1⟩
set_option maxHeartbeats 400000 in
theorem firstS_any (a b : List UInt8) (w : World) (ha : a.length ≤ maxLen) (hb : b.length ≤ maxLen) :
    Calls Try.prog 22 #[.string ⟨a.toArray⟩, .string ⟨b.toArray⟩] w (RowErr w (fstL a b) (fstE a b)) := by
  by_cases hz : chks [a, b] = 0
  · refine (first_any a b w hz).mono ?_
    rintro e w' ⟨h1, h2⟩
    refine ⟨h1, ?_⟩
    unfold fstL fstE
    rw [if_pos hz, if_pos hz]
    cases h : firstL 0 a b with
    | none => rw [h] at h2; subst h2; exact ⟨none, 0, rfl, rd_nil _ _⟩
    | some ps =>
      rw [h] at h2
      obtain ⟨v, rfl, hown⟩ := h2
      obtain ⟨A, c, rfl⟩ := ownsRow_shape hown
      exact ⟨A, c, rfl, rd_own hown⟩
  · have h1 : fstL a b = [] := by unfold fstL; rw [if_neg hz]
    have h2 : fstE a b = chks [a, b] := by unfold fstE; rw [if_neg hz]
    have hz2 : (chks [a, b] != 0) = true := by simp [hz]
    rw [h1, h2]
    clear h1 h2 hz
    go_enter Try.func22, Try.ntmps22
    go_wp2_with (go_at_call 57; refine (checkTwo a b _ _ ha hb).mono ?_; rintro e w1 ⟨rfl, hb1⟩)
    go_ret2
    exact ⟨hb1, none, 0, rfl, rd_nil _ _⟩

theorem rleft_l (a b : List UInt8) (w : World) (ha : a.length ≤ maxLen) (hb : b.length ≤ maxLen) :
    Calls Try.prog 28 #[.string ⟨a.toArray⟩, .string ⟨b.toArray⟩] w fun e w' => e = .returned (.bool (leftL a b)) ∧ Below w.heap.size w w' :=
  (rleft_any ⟨a.toArray⟩ ⟨b.toArray⟩ w (by simpa [ByteArray.size] using ha) (by simpa [ByteArray.size] using hb)).mono fun _ _ ⟨he, _, hw⟩ => ⟨he, hw ▸ below_drewN (Below.refl _ _) _⟩

set_option maxHeartbeats 400000 in
theorem rholds_any (a b : List UInt8) (w : World) (ha : a.length ≤ maxLen) (hb : b.length ≤ maxLen) :
    Calls Try.prog 19 #[.string ⟨a.toArray⟩, .string ⟨b.toArray⟩] w fun e w' => e = .returned (.tuple #[.bool (holdL a b), .int .i64 (chks [a, b])]) ∧ Below w.heap.size w w' := by
  by_cases hz : chks [a, b] = 0
  · have hh : holdL a b = leftL a b := by unfold holdL; rw [if_pos hz]
    have hz2 : (chks [a, b] != 0) = false := by simp [hz]
    have HH := Lib.hid hh; have HZ := Lib.hid hz; clear hh hz
    go_enter Try.func19, Try.ntmps19
    go_wp2_with (fail)
    refine (both_any a b _ ha hb).mono ?_; rintro e w1 ⟨rfl, rfl⟩
    go_wp2_with (fail)
    refine (rleft_l a b _ ha hb).mono ?_; rintro e w2 ⟨rfl, hb2⟩
    go_wp2_with (fail)
    go_ret2
    rw [HH.out, HZ.out]
    exact ⟨rfl, hb2⟩
  · have hh : holdL a b = false := by unfold holdL; rw [if_neg hz]
    have hz2 : (chks [a, b] != 0) = true := by simp [hz]
    have HH := Lib.hid hh; clear hh hz
    go_enter Try.func19, Try.ntmps19
    go_wp2_with (fail)
    refine (both_any a b _ ha hb).mono ?_; rintro e w1 ⟨rfl, rfl⟩
    go_wp2_with (fail)
    go_ret2
    rw [HH.out]
    exact ⟨rfl, Below.refl _ _⟩
theorem places_two (a b : List UInt8) (w : World) (hz : chks [a, b] = 0) :
    Calls Try.prog 59 #[.string ⟨a.toArray⟩, .string ⟨b.toArray⟩, .int .i64 0] w (PlPost w (plL a 0 b)) := by
  obtain ⟨⟨hla, _⟩, hlb, _⟩ := chks_two hz
  exact places_any b ⟨a.toArray⟩ 0 w (by simpa [ByteArray.size] using hla) hlb (Nat.zero_le _)
set_option maxHeartbeats 400000 in
theorem rways_any (a b : List UInt8) (w : World) (ha : a.length ≤ maxLen) (hb : b.length ≤ maxLen) :
    Calls Try.prog 21 #[.string ⟨a.toArray⟩, .string ⟨b.toArray⟩] w fun e w' => e = .returned (.tuple #[.int .i64 (wayL a b), .int .i64 (chks [a, b])]) ∧ Below w.heap.size w w' := by
  by_cases hz : chks [a, b] = 0
  · have hh : wayL a b = ((plL a 0 b).length : Nat) := by unfold wayL; rw [if_pos hz, waysL_eq, plL_length]
    have hz2 : (chks [a, b] != 0) = false := by simp [hz]
    have HH := Lib.hid hh; have HZ := Lib.hid hz; clear hh hz
    go_enter Try.func21, Try.ntmps21
    go_wp2_with (fail)
    refine (both_any a b _ ha hb).mono ?_; rintro e w1 ⟨rfl, rfl⟩
    go_wp2_with (fail)
    refine (places_two a b _ HZ.out).mono ?_; rintro e w2 ⟨A, c, xs, rfl, hown, _, hb2⟩
    go_wp2_with (fail)
    go_ret2
    rw [HH.out, HZ.out]
    exact ⟨rfl, hb2⟩
  · have hh : wayL a b = 0 := by unfold wayL; rw [if_neg hz]
    have hz2 : (chks [a, b] != 0) = true := by simp [hz]
    have HH := Lib.hid hh; clear hh hz
    go_enter Try.func21, Try.ntmps21
    go_wp2_with (fail)
    refine (both_any a b _ ha hb).mono ?_; rintro e w1 ⟨rfl, rfl⟩
    go_wp2_with (fail)
    go_ret2
    rw [HH.out]
    exact ⟨rfl, Below.refl _ _⟩
set_option maxHeartbeats 400000 in
theorem rfirst_any (a b : List UInt8) (w : World) (ha : a.length ≤ maxLen) (hb : b.length ≤ maxLen) :
    Calls Try.prog 23 #[.string ⟨a.toArray⟩, .string ⟨b.toArray⟩] w (RowErr w (fstL a b) (fstE a b)) := by
  by_cases hz : chks [a, b] = 0
  · have hz2 : (chks [a, b] != 0) = false := by simp [hz]
    have hpl := firstL_pl a 0 b
    have h1 : fstL a b = (firstL 0 a b).getD [] := by unfold fstL; rw [if_pos hz]
    have h2 : fstE a b = (match firstL 0 a b with | none => 12 | some _ => 0) := by unfold fstE; rw [if_pos hz]
    rw [h1, h2, hpl]
    have HZ := Lib.hid hz; clear hz h1 h2 hpl
    cases hL : plL a 0 b with
    | nil =>
      have HL := Lib.hid hL; clear hL
      go_enter Try.func23, Try.ntmps23
      go_wp2_with (fail)
      refine (both_any a b _ ha hb).mono ?_; rintro e w1 ⟨rfl, rfl⟩
      go_wp2_with (fail)
      refine (places_two a b _ HZ.out).mono ?_; rw [HL.out]; rintro e w2 ⟨A, c, xs, rfl, hown, _, hb2⟩
      go_wp2_with (fail)
      go_ret2
      exact ⟨hb2, none, 0, rfl, rd_nil _ _⟩
    | cons y L =>
      have HL := Lib.hid hL; clear hL
      go_enter Try.func23, Try.ntmps23
      go_wp2_with (fail)
      refine (both_any a b _ ha hb).mono ?_; rintro e w1 ⟨rfl, rfl⟩
      go_wp2_with (fail)
      refine (places_two a b _ HZ.out).mono ?_; rw [HL.out]; rintro e w2 ⟨A, c, xs, rfl, hown, heach, hb2⟩
      obtain ⟨vy, hvy, hrow⟩ := heach.2 0 y rfl
      obtain ⟨Ay, cy, rfl⟩ := hrow.shape
      have hrd : Rd w2 Ay y.length (ints y) := by
        rcases hrow with ⟨rfl, hv⟩ | ⟨g, c, hv, _, _, hat⟩
        · exact rd_nil _ _
        · injection hv with hv; subst hv; exact ⟨by simp [ints], fun _ => ⟨g, 0, rfl, hat⟩⟩
      obtain ⟨g, o, rfl, hat⟩ := (rd_own hown).at (by simp)
      have hcell : w2.cell? ⟨g, o, none⟩ = some (.slice Ay y.length cy) := by
        have := hat.2 0 (by simp); rw [Nat.add_zero, List.getD_eq_getElem?_getD, hvy] at this; exact this
      clear hown heach hvy hrow hat
      go_wp2_with (fail)
      trace_state
      go_ret2
      exact ⟨hb2, Ay, cy, rfl, hrd⟩
  · have h1 : fstL a b = [] := by unfold fstL; rw [if_neg hz]
    have h2 : fstE a b = chks [a, b] := by unfold fstE; rw [if_neg hz]
    have hz2 : (chks [a, b] != 0) = true := by simp [hz]
    rw [h1, h2]
    clear h1 h2 hz
    go_enter Try.func23, Try.ntmps23
    go_wp2_with (fail)
    refine (both_any a b _ ha hb).mono ?_; rintro e w1 ⟨rfl, rfl⟩
    go_wp2_with (fail)
    go_ret2
    exact ⟨Below.refl _ _, none, 0, rfl, rd_nil _ _⟩
end Go.Proofs.Ytalildjhighlhaa
