/-
  The walk of ShortHolds: it returns true at any two strings, and writes nothing that was there.
-/
import Derived.Test.YtalildjhighlhaaRefB
import Derived.Test.YtalildjhighlhaaWorks
namespace Go.Proofs.Ytalildjhighlhaa
open Go.RowKit Go.Proofs.Short Go.Lib

theorem same_self (A A' : Option Addr) (n c c' : Nat) (l : List Nat) (w : World) (h : Rd w A n (ints l)) (h' : Rd w A' n (ints l)) (hn : n ≤ maxLen) :
    Calls Try.prog 24 #[.slice A n c, .slice A' n c'] w fun e w' => e = .returned (.bool true) ∧ Below w.heap.size w w' :=
  (same_any A A' n n c c' l l w h h' hn hn).mono fun _ _ ⟨he, _, hw⟩ => ⟨by rw [he]; simp, hw ▸ below_drewN (Below.refl _ _) _⟩
set_option maxRecDepth 100000 in
set_option maxHeartbeats 4000000 in
theorem holdsLaw_any (a b : List UInt8) (w : World) (ha : a.length ≤ maxLen) (hb : b.length ≤ maxLen) :
    Calls Try.prog 3 #[.string ⟨a.toArray⟩, .string ⟨b.toArray⟩] w fun e w' => e = .returned (.bool true) ∧ Below w.heap.size w w' := by
  have hsa : (⟨a.toArray⟩ : ByteArray).size ≤ maxLen := by simpa [ByteArray.size] using ha
  have hsb : (⟨b.toArray⟩ : ByteArray).size ≤ maxLen := by simpa [ByteArray.size] using hb
  by_cases h1 : 60 < a.length
  · have hd : decide (60 < (⟨a.toArray⟩ : ByteArray).size) = true := by simpa [ByteArray.size] using h1
    go_enter Try.func3, Try.ntmps3
    go_wp2_with (fail)
    refine (long_any _ _ hsa).mono ?_; rintro e wz ⟨rfl, rfl⟩
    go_wp2_with (fail)
    refine (works_any _).mono ?_; rintro e wz ⟨rfl, hb1⟩
    go_wp2_with (fail)
    go_ret
    exact ⟨rfl, hb1⟩
  · by_cases h2 : 60 < b.length
    · have hd : decide (60 < (⟨a.toArray⟩ : ByteArray).size) = false := by simpa [ByteArray.size] using h1
      have hd2 : decide (60 < (⟨b.toArray⟩ : ByteArray).size) = true := by simpa [ByteArray.size] using h2
      go_enter Try.func3, Try.ntmps3
      go_wp2_with (fail)
      refine (long_any _ _ hsa).mono ?_; rintro e wz ⟨rfl, rfl⟩
      go_wp2_with (fail)
      refine (long_any _ _ hsb).mono ?_; rintro e wz ⟨rfl, rfl⟩
      go_wp2_with (fail)
      refine (works_any _).mono ?_; rintro e wz ⟨rfl, hb1⟩
      go_wp2_with (fail)
      go_ret
      exact ⟨rfl, hb1⟩
    · have hd : decide (60 < (⟨a.toArray⟩ : ByteArray).size) = false := by simpa [ByteArray.size] using h1
      have hd2 : decide (60 < (⟨b.toArray⟩ : ByteArray).size) = false := by simpa [ByteArray.size] using h2
      have hfl : (fstL a b).length ≤ maxLen := by
        rcases fst_len a b with h | h
        · unfold maxLen; omega
        · have : chks [a, b] ≠ 0 := fun e => by have := (chks_two e).2.1; omega
          unfold fstL; rw [if_neg this]; simp
      go_enter Try.func3, Try.ntmps3
      go_wp2_with (fail)
      refine (long_any _ _ hsa).mono ?_; rintro e wz ⟨rfl, rfl⟩
      go_wp2_with (fail)
      refine (long_any _ _ hsb).mono ?_; rintro e wz ⟨rfl, rfl⟩
      go_wp2_with (fail)
      refine (holds_any a b _ ha hb).mono ?_; rintro e w1 ⟨rfl, hb1⟩
      go_wp2_with (fail)
      refine (rholds_any a b _ ha hb).mono ?_; rintro e w2 ⟨rfl, hb2⟩
      have hB2 := hb1.trans (hb2.mono hb1.size); clear hb1 hb2
      go_wp2_with (fail)
      refine (wayS_any a b _ ha hb).mono ?_; rintro e w3 ⟨rfl, hb3⟩
      have hB3 := hB2.trans (hb3.mono hB2.size); clear hB2 hb3
      go_wp2_with (fail)
      refine (rways_any a b _ ha hb).mono ?_; rintro e w4 ⟨rfl, hb4⟩
      have hB4 := hB3.trans (hb4.mono hB3.size); clear hB3 hb4
      go_wp2_with (fail)
      refine (firstS_any a b _ ha hb).mono ?_; rintro e w5 ⟨hb5, A5, c5, rfl, hr5⟩
      have hB5 := hB4.trans (hb5.mono hB4.size); clear hB4 hb5
      go_wp2_with (fail)
      refine (rfirst_any a b _ ha hb).mono ?_; rintro e w6 ⟨hb6, A6, c6, rfl, hr6⟩
      have hB6 := hB5.trans (hb6.mono hB5.size)
      have hr56 := hr5.below hb6
      clear hB5 hb6 hr5
      go_wp2_with (fail)
      refine (same_self _ _ _ _ _ _ _ hr56 hr6 hfl).mono ?_; rintro e w7 ⟨rfl, hb7⟩
      have hB7 := hB6.trans (hb7.mono hB6.size); clear hB6 hb7 hr56 hr6
      go_wp2_with (fail)
      refine (check_l a _ ha).mono ?_; rintro e w8 ⟨rfl, hb8⟩
      have hB8 := hB7.trans (hb8.mono hB7.size); clear hB7 hb8
      go_wp2_with (fail)
      refine (rcheck_l a _ ha).mono ?_; rintro e wz ⟨rfl, rfl⟩
      go_wp2_with (fail)
      refine (left_b a b _ ha hb).mono ?_; rintro e w9 ⟨rfl, hb9⟩
      have hB9 := hB8.trans (hb9.mono hB8.size); clear hB8 hb9
      go_wp2_with (fail)
      refine (rleft_l a b _ ha hb).mono ?_; rintro e w10 ⟨rfl, hb10⟩
      have hB10 := hB9.trans (hb10.mono hB9.size); clear hB9 hb10
      go_wp2_with (fail)
      refine (works_any _).mono ?_; rintro e w11 ⟨rfl, hb11⟩
      have hB11 := hB10.trans (hb11.mono hB10.size); clear hB10 hb11
      go_wp2_with (fail)
      go_ret
      exact ⟨rfl, hB11⟩
end Go.Proofs.Ytalildjhighlhaa
