/-
  The walk of ShortParts: it returns true at any string and any two numbers, and writes nothing that was there.
-/
import Derived.Test.YtalildjhighlhaaRefC
import Derived.Test.YtalildjhighlhaaWorks
import Derived.Test.YtalildjhighlhaaHoldsLaw
namespace Go.Proofs.Ytalildjhighlhaa
open Go.RowKit Go.Proofs.Short Go.Lib

theorem equal_self (A A' : Option Addr) (n c c' : Nat) (l : List (List UInt8)) (w : World) (h : Rd w A n (l.map encStr)) (h' : Rd w A' n (l.map encStr)) (hn : n ≤ maxLen) :
    Calls Try.prog 35 #[.slice A n c, .slice A' n c'] w fun e w' => e = .returned (.bool true) ∧ Below w.heap.size w w' :=
  (equal_any A A' n n c c' l l w h h' hn hn).mono fun _ _ ⟨he, _, hw⟩ => ⟨by rw [he]; simp, hw ▸ below_drewN (Below.refl _ _) _⟩
set_option maxRecDepth 100000 in
set_option maxHeartbeats 4000000 in
theorem partsLaw_any (a : List UInt8) (z k : Int) (w : World) (ha : a.length ≤ maxLen) :
    Calls Try.prog 4 #[.string ⟨a.toArray⟩, .int .i64 z, .int .i64 k] w fun e w' => e = .returned (.bool true) ∧ Below w.heap.size w w' := by
  have hsa : (⟨a.toArray⟩ : ByteArray).size ≤ maxLen := by simpa [ByteArray.size] using ha
  by_cases h1 : 60 < a.length
  · have hd : decide (60 < (⟨a.toArray⟩ : ByteArray).size) = true := by simpa [ByteArray.size] using h1
    go_enter Try.func4, Try.ntmps4
    go_wp2_with (fail)
    refine (long_any _ _ hsa).mono ?_; rintro e wz ⟨rfl, rfl⟩
    go_wp2_with (fail)
    refine (works_any _).mono ?_; rintro e wz ⟨rfl, hb1⟩
    go_wp2_with (fail)
    go_ret
    exact ⟨rfl, hb1⟩
  · have hd : decide (60 < (⟨a.toArray⟩ : ByteArray).size) = false := by simpa [ByteArray.size] using h1
    have hpl : (prtL a z).length ≤ maxLen := by have := prt_len a z; unfold maxLen; omega
    go_enter Try.func4, Try.ntmps4
    go_wp2_with (fail)
    refine (long_any _ _ hsa).mono ?_; rintro e wz ⟨rfl, rfl⟩
    go_wp2_with (fail)
    refine (count_any partsOf_said a _ ha).mono ?_; rintro e w1 ⟨rfl, hb1⟩
    go_wp2_with (fail)
    refine (rCount_any a _ ha).mono ?_; rintro e w2 ⟨rfl, hb2⟩
    have hB2 := hb1.trans (hb2.mono hb1.size); clear hb1 hb2
    go_wp2_with (fail)
    refine (partsS_any partsOf_said a z _ ha).mono ?_; rintro e w3 ⟨hb3, A3, c3, rfl, hr3⟩
    have hB3 := hB2.trans (hb3.mono hB2.size); clear hB2 hb3
    go_wp2_with (fail)
    refine (rparts_any a z _ ha).mono ?_; rintro e w4 ⟨hb4, A4, c4, rfl, hr4⟩
    have hB4 := hB3.trans (hb4.mono hB3.size)
    have hr34 := hr3.below hb4
    clear hB3 hb4 hr3
    go_wp2_with (fail)
    refine (mostS_any partsOf_said k z _).mono ?_; rintro e w5 ⟨rfl, hb5⟩
    have hB5 := hB4.trans (hb5.mono hB4.size)
    have hr35 := hr34.below hb5
    have hr45 := hr4.below hb5
    clear hB4 hb5 hr34 hr4
    go_wp2_with (fail)
    refine (rmost_any k z _).mono ?_; rintro e w6 ⟨rfl, hb6⟩
    have hB6 := hB5.trans (hb6.mono hB5.size)
    have hr36 := hr35.below hb6
    have hr46 := hr45.below hb6
    clear hB5 hb6 hr35 hr45
    go_wp2_with (fail)
    refine (equal_self _ _ _ _ _ _ _ hr36 hr46 hpl).mono ?_; rintro e w7 ⟨rfl, hb7⟩
    have hB7 := hB6.trans (hb7.mono hB6.size); clear hB6 hb7 hr36 hr46
    go_wp2_with (fail)
    refine (works_any _).mono ?_; rintro e w8 ⟨rfl, hb8⟩
    have hB8 := hB7.trans (hb8.mono hB7.size); clear hB7 hb8
    go_wp2_with (fail)
    go_ret
    exact ⟨rfl, hB8⟩
end Go.Proofs.Ytalildjhighlhaa
