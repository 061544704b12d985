/-
  The walk of ShortArches: it returns true at any string and any number, and writes nothing that was there.
-/
import Derived.Test.YtalildjhighlhaaRefG
import Derived.Test.YtalildjhighlhaaPartsLaw
namespace Go.Proofs.Ytalildjhighlhaa
open Go.RowKit Go.Proofs.Short Go.Lib

theorem letters_any (x : List UInt8) (z : Int) (w : World) (hx : x.length ≤ maxLen) :
    Calls Try.prog 65 #[.string ⟨x.toArray⟩, .int .i64 z] w fun e w' => e = .returned (.int .i64 (letE x z)) ∧ Below w.heap.size w w' := by
  unfold letE
  by_cases hz : chk x = 0
  · rw [if_pos hz]
    by_cases hr : z < 1 ∨ 6 < z
    · rw [if_pos hr]; exact letters_range x z w hz hr
    · rw [if_neg hr]
      have h := letters_in x z.toNat w hz (by omega) (by omega)
      rw [Int.toNat_of_nonneg (by omega)] at h
      exact h
  · rw [if_neg hz]; exact letters_chk x z w hx hz
theorem rlettered_any (x : List UInt8) (z : Int) (w : World) (hx : x.length ≤ maxLen) :
    Calls Try.prog 66 #[.string ⟨x.toArray⟩, .int .i64 z] w fun e w' => e = .returned (.int .i64 (letE x z)) ∧ w' = w := by
  unfold letE
  by_cases hz : chk x = 0
  · rw [if_pos hz]
    by_cases hr : z < 1 ∨ 6 < z
    · rw [if_pos hr]; exact rlettered_range x z w hz hr
    · rw [if_neg hr]
      have h := rlettered_in x z.toNat w hz (by omega) (by omega)
      rw [Int.toNat_of_nonneg (by omega)] at h
      exact h
  · rw [if_neg hz]; exact rlettered_chk x z w hx hz
theorem letE_zero {x : List UInt8} {z : Int} (h : letE x z = 0) : chk x = 0 ∧ 1 ≤ z.toNat ∧ z.toNat ≤ 6 ∧ (z.toNat : Int) = z ∧ allIn z.toNat x = true := by
  unfold letE at h
  by_cases hz : chk x = 0
  · rw [if_pos hz] at h
    by_cases hr : z < 1 ∨ 6 < z
    · rw [if_pos hr] at h; exact absurd h (by decide)
    · rw [if_neg hr] at h
      refine ⟨hz, by omega, by omega, by omega, ?_⟩
      cases ha : allIn z.toNat x with
      | true => rfl
      | false =>
        have : (x.all fun b => (alphaL z.toNat).contains b) = false := ha
        rw [this] at h; exact absurd h (by decide)
  · rw [if_neg hz] at h; exact absurd h hz
def arcL (x : List UInt8) (z : Int) : List Nat := if letE x z = 0 then archesL z.toNat 0 [] x else []
def mssL (x : List UInt8) (z : Int) : List UInt8 := if letE x z = 0 then missL z.toNat x else []
theorem archesL_le (k : Nat) : ∀ (w : List UInt8) (i : Nat) (m : List UInt8), (archesL k i m w).length ≤ w.length
  | [], _, _ => Nat.le_refl _
  | a :: w, i, m => by
    have e1 : archesL k i m (a :: w) = if (if a ∈ m then m else a :: m).length = k then (i + 1) :: archesL k (i + 1) [] w else archesL k (i + 1) (if a ∈ m then m else a :: m) w := rfl
    rw [e1]
    generalize (if a ∈ m then m else a :: m) = m'
    by_cases h : m'.length = k
    · rw [if_pos h]; have := archesL_le k w (i + 1) []; simp only [List.length_cons]; omega
    · rw [if_neg h]; have := archesL_le k w (i + 1) m'; simp only [List.length_cons]; omega
theorem arcL_le (x : List UInt8) (z : Int) : (arcL x z).length ≤ x.length := by
  unfold arcL; split
  · exact archesL_le _ _ _ _
  · simp
theorem archesS_any (x : List UInt8) (z : Int) (w : World) (hx : x.length ≤ maxLen) :
    Calls Try.prog 36 #[.string ⟨x.toArray⟩, .int .i64 z] w (RowErr w (arcL x z) (letE x z)) := by
  by_cases h : letE x z = 0
  · obtain ⟨hz, h1, h6, he, hin⟩ := letE_zero h
    have e := arches_ok x z.toNat w hz h1 h6 hin
    rw [he] at e
    refine e.mono ?_
    rintro e w' ⟨hb, v, rfl, hown⟩
    obtain ⟨A, c, rfl⟩ := ownsRow_shape hown
    unfold arcL
    rw [if_pos h, h]
    exact ⟨hb, A, c, rfl, rd_own hown⟩
  · refine (arches_err x z (letE x z) w (fun W => letters_any x z W hx) h).mono ?_
    rintro e w' ⟨rfl, hb⟩
    unfold arcL
    rw [if_neg h]
    exact ⟨hb, none, 0, rfl, rd_nil _ _⟩
theorem missingS_any (x : List UInt8) (z : Int) (w : World) (hx : x.length ≤ maxLen) :
    Calls Try.prog 38 #[.string ⟨x.toArray⟩, .int .i64 z] w fun e w' => e = .returned (.tuple #[.string ⟨(mssL x z).toArray⟩, .int .i64 (letE x z)]) ∧ Below w.heap.size w w' := by
  by_cases h : letE x z = 0
  · obtain ⟨hz, h1, h6, he, hin⟩ := letE_zero h
    have e := missing_ok x z.toNat w hz h1 h6 hin
    rw [he] at e
    unfold mssL
    rw [if_pos h, h]
    exact e
  · unfold mssL
    rw [if_neg h]
    exact missing_err x z (letE x z) w (fun W => letters_any x z W hx) h
set_option maxHeartbeats 400000 in
theorem rarches_any (x : List UInt8) (z : Int) (w : World) (hx : x.length ≤ maxLen) :
    Calls Try.prog 37 #[.string ⟨x.toArray⟩, .int .i64 z] w (RowErr w (arcL x z) (letE x z)) := by
  by_cases h : letE x z = 0
  · obtain ⟨hz, h1, h6, he, hin⟩ := letE_zero h
    have e := rarches_ok x z.toNat w hz h1 h6 hin
    rw [he] at e
    unfold arcL
    rw [if_pos h, h]
    exact e
  · have h2 : arcL x z = [] := by unfold arcL; rw [if_neg h]
    have hz2 : (letE x z != 0) = true := by simp [h]
    have hL := fun W => rlettered_any x z W hx
    rw [h2]
    generalize letE x z = er at hz2 hL ⊢
    have HL := Lib.hid hL; clear hL h2
    go_enter Try.func37, Try.ntmps37
    go_wp2_with (go_at_call 66; refine (HL.out _).mono ?_; rintro e w1 ⟨rfl, rfl⟩)
    go_ret2
    exact ⟨Below.refl _ _, none, 0, rfl, rd_nil _ _⟩
set_option maxHeartbeats 400000 in
theorem rmissing_any (x : List UInt8) (z : Int) (w : World) (hx : x.length ≤ maxLen) :
    Calls Try.prog 39 #[.string ⟨x.toArray⟩, .int .i64 z] w fun e w' => e = .returned (.tuple #[.string ⟨(mssL x z).toArray⟩, .int .i64 (letE x z)]) ∧ Below w.heap.size w w' := by
  by_cases h : letE x z = 0
  · obtain ⟨hz, h1, h6, he, hin⟩ := letE_zero h
    have e := rmissing_ok x z.toNat w hz h1 h6 hin
    rw [he] at e
    unfold mssL
    rw [if_pos h, h]
    exact e
  · have h2 : mssL x z = [] := by unfold mssL; rw [if_neg h]
    have hz2 : (letE x z != 0) = true := by simp [h]
    have hL := fun W => rlettered_any x z W hx
    rw [h2]
    generalize letE x z = er at hz2 hL ⊢
    have HL := Lib.hid hL; clear hL h2
    go_enter Try.func39, Try.ntmps39
    go_wp2_with (go_at_call 66; refine (HL.out _).mono ?_; rintro e w1 ⟨rfl, rfl⟩)
    go_ret2
    exact ⟨rfl, Below.refl _ _⟩

set_option maxRecDepth 100000 in
set_option maxHeartbeats 4000000 in
theorem archesLaw_any (a : List UInt8) (z : Int) (w : World) (ha : a.length ≤ maxLen) :
    Calls Try.prog 5 #[.string ⟨a.toArray⟩, .int .i64 z] w fun e w' => e = .returned (.bool true) ∧ Below w.heap.size w w' := by
  have hsa : (⟨a.toArray⟩ : ByteArray).size ≤ maxLen := by simpa [ByteArray.size] using ha
  by_cases h1 : 60 < a.length
  · have hd : decide (60 < (⟨a.toArray⟩ : ByteArray).size) = true := by simpa [ByteArray.size] using h1
    go_enter Try.func5, Try.ntmps5
    go_wp2_with (fail)
    refine (long_any _ _ hsa).mono ?_; rintro e wz ⟨rfl, rfl⟩
    go_wp2_with (fail)
    refine (works_any _).mono ?_; rintro e wz ⟨rfl, hb1⟩
    go_wp2_with (fail)
    go_ret
    exact ⟨rfl, hb1⟩
  · have hd : decide (60 < (⟨a.toArray⟩ : ByteArray).size) = false := by simpa [ByteArray.size] using h1
    have hpl : (arcL a z).length ≤ maxLen := Nat.le_trans (arcL_le a z) ha
    go_enter Try.func5, Try.ntmps5
    go_wp2_with (fail)
    refine (long_any _ _ hsa).mono ?_; rintro e wz ⟨rfl, rfl⟩
    go_wp2_with (fail)
    refine (archesS_any a z _ ha).mono ?_; rintro e w3 ⟨hB3, A3, c3, rfl, hr3⟩
    go_wp2_with (fail)
    refine (rarches_any a z _ ha).mono ?_; rintro e w4 ⟨hb4, A4, c4, rfl, hr4⟩
    have hB4 := hB3.trans (hb4.mono hB3.size)
    have hr34 := hr3.below hb4
    clear hB3 hb4 hr3
    go_wp2_with (fail)
    refine (missingS_any a z _ ha).mono ?_; rintro e w5 ⟨rfl, hb5⟩
    have hB5 := hB4.trans (hb5.mono hB4.size)
    have hr35 := hr34.below hb5
    have hr45 := hr4.below hb5
    clear hB4 hb5 hr34 hr4
    go_wp2_with (fail)
    refine (rmissing_any a z _ ha).mono ?_; rintro e w6 ⟨rfl, hb6⟩
    have hB6 := hB5.trans (hb6.mono hB5.size)
    have hr36 := hr35.below hb6
    have hr46 := hr45.below hb6
    clear hB5 hb6 hr35 hr45
    go_wp2_with (fail)
    refine (same_self _ _ _ _ _ _ _ hr36 hr46 hpl).mono ?_; rintro e w7 ⟨rfl, hb7⟩
    have hB7 := hB6.trans (hb7.mono hB6.size); clear hB6 hb7 hr36 hr46
    go_wp2_with (fail)
    refine (works_any _).mono ?_; rintro e w8 ⟨rfl, hb8⟩
    have hB8 := hB7.trans (hb8.mono hB7.size); clear hB7 hb8
    go_wp2_with (fail)
    go_ret
    exact ⟨rfl, hB8⟩
end Go.Proofs.Ytalildjhighlhaa
