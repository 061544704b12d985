/-
  The walk of ShortApart: it returns true at any strings, numbers and row of strings, and writes nothing that was there.
-/
import Derived.Test.YtalildjhighlhaaRefI
import Derived.Test.YtalildjhighlhaaAddParts
import Derived.Test.YtalildjhighlhaaSame
import Derived.Test.YtalildjhighlhaaWorks
namespace Go.Proofs.Ytalildjhighlhaa
open Go.RowKit Go.Proofs.Short Go.Lib

theorem apart_both (a b : List UInt8) (ha : a.length ≤ maxLen) (hb : b.length ≤ maxLen) : ∃ (x : ByteArray) (z : Int),
    (∀ w, Calls Try.prog 40 #[.string ⟨a.toArray⟩, .string ⟨b.toArray⟩] w fun e w' => e = .returned (.tuple #[.string x, .int .i64 z]) ∧ Below w.heap.size w w') ∧
    (∀ w, Calls Try.prog 41 #[.string ⟨a.toArray⟩, .string ⟨b.toArray⟩] w fun e w' => e = .returned (.tuple #[.string x, .int .i64 z]) ∧ Below w.heap.size w w') := by
  by_cases hz : chks [a, b] = 0
  · refine ⟨_, _, fun w => apart_ok partsOf_said a b w hz, fun w => ?_⟩
    by_cases he : a = b
    · subst he; exact rapart_same a w hz
    · exact rapart_ok a b w hz he
  · exact ⟨_, _, fun w => apart_chk a b w ha hb hz, fun w => rapart_chk a b w ha hb hz⟩
theorem alike_both (a b : List UInt8) (most : Int) (ha : a.length ≤ maxLen) (hb : b.length ≤ maxLen) : ∃ (t : Bool) (z : Int),
    (∀ w, Calls Try.prog 42 #[.string ⟨a.toArray⟩, .string ⟨b.toArray⟩, .int .i64 most] w fun e w' => e = .returned (.tuple #[.bool t, .int .i64 z]) ∧ Below w.heap.size w w') ∧
    (∀ w, Calls Try.prog 43 #[.string ⟨a.toArray⟩, .string ⟨b.toArray⟩, .int .i64 most] w fun e w' => e = .returned (.tuple #[.bool t, .int .i64 z]) ∧ Below w.heap.size w w') := by
  by_cases hz : chks [a, b] = 0
  · by_cases hm : most < 0 ∨ 10 < most
    · exact ⟨_, _, fun w => alike_range a b most w hz hm, fun w => ralike_range a b most w hz hm⟩
    · obtain ⟨k, rfl⟩ : ∃ k : Nat, most = (k : Int) := ⟨most.toNat, by omega⟩
      exact ⟨_, _, fun w => alike_ok partsOf_said a b k w hz (by omega) (by omega), fun w => ralike_ok a b k w hz (by omega)⟩
  · exact ⟨_, _, fun w => alike_chk a b most w ha hb hz, fun w => ralike_chk a b most w ha hb hz⟩
theorem short_both (A : Option Addr) (n c : Nat) (k : Int) (ws : List (List UInt8)) (hn : n ≤ maxLen) (hl : ∀ x ∈ ws, x.length ≤ maxLen) : ∃ (x : ByteArray) (z : Int),
    (∀ w, Rd w A n (ws.map encStr) → Calls Try.prog 44 #[.slice A n c, .int .i64 k] w fun e w' => e = .returned (.tuple #[.string x, .int .i64 z]) ∧ Below w.heap.size w w') ∧
    (∀ w, Rd w A n (ws.map encStr) → Calls Try.prog 45 #[.slice A n c, .int .i64 k] w fun e w' => e = .returned (.tuple #[.string x, .int .i64 z]) ∧ Below w.heap.size w w') := by
  by_cases h8 : 8 < n
  · exact ⟨_, _, fun w _ => short_many A n c k w h8 hn, fun w _ => rshort_many A n c k w h8 hn⟩
  by_cases hz : chks ws = 0
  · by_cases hk : k < 0 ∨ (n : Int) ≤ k
    · exact ⟨_, _, fun w h => short_none A n c k ws w h (by omega) hl hz hk, fun w h => rshort_none A n c k ws w h (by omega) hz hk⟩
    · obtain ⟨m, rfl⟩ : ∃ m : Nat, k = (m : Int) := ⟨k.toNat, by omega⟩
      exact ⟨_, _, fun w h => short_ok partsOf_said A n c m ws w h (by omega) hz (by omega), fun w h => rshort_ok A n c m ws w h (by omega) hz (by omega)⟩
  · exact ⟨_, _, fun w h => short_chk A n c k ws w h (by omega) hl hz, fun w h => rshort_chk A n c k ws w h (by omega) hl hz⟩

set_option maxRecDepth 100000 in
set_option maxHeartbeats 4000000 in
theorem apartLaw_any (a b : List UInt8) (most : Int) (A : Option Addr) (n c : Nat) (ws : List (List UInt8)) (k : Int) (w : World) (ha : a.length ≤ maxLen) (hb : b.length ≤ maxLen)
    (hrd : Rd w A n (ws.map encStr)) (hn : n ≤ maxLen) (hl : ∀ x ∈ ws, x.length ≤ maxLen) :
    Calls Try.prog 6 #[.string ⟨a.toArray⟩, .string ⟨b.toArray⟩, .int .i64 most, .slice A n c, .int .i64 k] w fun e w' => e = .returned (.bool true) ∧ Below w.heap.size w w' := by
  have hsa : (⟨a.toArray⟩ : ByteArray).size ≤ maxLen := by simpa [ByteArray.size] using ha
  have hsb : (⟨b.toArray⟩ : ByteArray).size ≤ maxLen := by simpa [ByteArray.size] using hb
  have hlen : ws.length = n := by simpa using hrd.1
  obtain ⟨x1, z1, hp1, hq1⟩ := apart_both a b ha hb
  obtain ⟨t2, z2, hp2, hq2⟩ := alike_both a b most ha hb
  obtain ⟨x3, z3, hp3, hq3⟩ := short_both A n c k ws hn hl
  have HP1 := Lib.hid hp1; have HQ1 := Lib.hid hq1; have HP2 := Lib.hid hp2; have HQ2 := Lib.hid hq2; have HP3 := Lib.hid hp3; have HQ3 := Lib.hid hq3
  have HLEN := Lib.hid hlen; have HX := Lib.hid hl
  clear hp1 hq1 hp2 hq2 hp3 hq3 hlen hl
  unfold maxLen at hn
  by_cases h1 : 60 < a.length
  · have hd : decide (60 < (⟨a.toArray⟩ : ByteArray).size) = true := by simpa [ByteArray.size] using h1
    go_enter Try.func6, Try.ntmps6
    go_wp2_with (fail)
    refine (long_any _ _ hsa).mono ?_; rintro e wz ⟨rfl, rfl⟩
    go_wp2_with (fail)
    refine (works_any _).mono ?_; rintro e wz ⟨rfl, hb1⟩
    go_wp2_with (fail)
    go_ret
    exact ⟨rfl, hb1⟩
  have hd1 : decide (60 < (⟨a.toArray⟩ : ByteArray).size) = false := by simpa [ByteArray.size] using h1
  by_cases h2 : 60 < b.length
  · have hd2 : decide (60 < (⟨b.toArray⟩ : ByteArray).size) = true := by simpa [ByteArray.size] using h2
    go_enter Try.func6, Try.ntmps6
    go_wp2_with (fail)
    refine (long_any _ _ hsa).mono ?_; rintro e wz ⟨rfl, rfl⟩
    go_wp2_with (fail)
    refine (long_any _ _ hsb).mono ?_; rintro e wz ⟨rfl, rfl⟩
    go_wp2_with (fail)
    refine (works_any _).mono ?_; rintro e wz ⟨rfl, hb1⟩
    go_wp2_with (fail)
    go_ret
    exact ⟨rfl, hb1⟩
  have hd2 : decide (60 < (⟨b.toArray⟩ : ByteArray).size) = false := by simpa [ByteArray.size] using h2
  by_cases h3 : 60 < n
  · have hd3 : decide (60 < (n : Int)) = true := by simp; omega
    go_enter Try.func6, Try.ntmps6
    go_wp2_with (fail)
    refine (long_any _ _ hsa).mono ?_; rintro e wz ⟨rfl, rfl⟩
    go_wp2_with (fail)
    refine (long_any _ _ hsb).mono ?_; rintro e wz ⟨rfl, rfl⟩
    go_wp2_with (fail)
    refine (works_any _).mono ?_; rintro e wz ⟨rfl, hb1⟩
    go_wp2_with (fail)
    go_ret
    exact ⟨rfl, hb1⟩
  have hd3 : decide (60 < (n : Int)) = false := by simp; omega
  go_enter Try.func6, Try.ntmps6
  go_wp2_with (fail)
  refine (long_any _ _ hsa).mono ?_; rintro e wz ⟨rfl, rfl⟩
  go_wp2_with (fail)
  refine (long_any _ _ hsb).mono ?_; rintro e wz ⟨rfl, rfl⟩
  go_wp2_with (fail)
  go_loopw [11] (fun iv wr => ∃ (i : Nat), i ≤ n ∧ iv = .int .i64 i ∧ wr = wz) (fun iv _ => n - (intOf iv).toNat)
  case atStart => exact ⟨0, Nat.zero_le _, rfl, rfl⟩
  case round =>
    obtain ⟨i, hii, rfl, rfl⟩ := hrel
    by_cases hlt : i < n
    · obtain ⟨g, o, rfl, hat⟩ := hrd.at (by omega)
      have hcell := hat.str hlt HLEN.out.symm
      have hle : (ws.getD i []).length ≤ maxLen := HX.out _ (by rw [getD_lt _ _ _ (by have := HLEN.out; omega)]; exact List.getElem_mem _)
      generalize ws.getD i [] = y at hcell hle
      have hsy : (⟨y.toArray⟩ : ByteArray).size ≤ maxLen := by simpa [ByteArray.size] using hle
      by_cases hy : 60 < y.length
      · have hd4 : decide (60 < (⟨y.toArray⟩ : ByteArray).size) = true := by simpa [ByteArray.size] using hy
        go_wp2_with (fail)
        refine (long_any _ _ hsy).mono ?_; rintro e wz ⟨rfl, rfl⟩
        go_wp2_with (fail)
        refine (works_any _).mono ?_; rintro e wz ⟨rfl, hb1⟩
        go_wp2_with (fail)
        go_ret
        exact ⟨rfl, hb1⟩
      · have hd4 : decide (60 < (⟨y.toArray⟩ : ByteArray).size) = false := by simpa [ByteArray.size] using hy
        go_wp2_with (fail)
        refine (long_any _ _ hsy).mono ?_; rintro e wz ⟨rfl, rfl⟩
        go_wp2_with (fail)
        exact ⟨⟨i + 1, by omega, by go_num, trivial⟩, by simp [intOf]; omega⟩
    · obtain rfl : n = i := by omega
      go_wp2_with (fail)
      refine (HP1.out _).mono ?_; rintro e w1 ⟨rfl, hb1⟩
      go_wp2_with (fail)
      refine (HQ1.out _).mono ?_; rintro e w2 ⟨rfl, hb2⟩
      have hB2 := hb1.trans (hb2.mono hb1.size); clear hb1 hb2
      go_wp2_with (fail)
      refine (HP2.out _).mono ?_; rintro e w3 ⟨rfl, hb3⟩
      have hB3 := hB2.trans (hb3.mono hB2.size); clear hB2 hb3
      go_wp2_with (fail)
      refine (HQ2.out _).mono ?_; rintro e w4 ⟨rfl, hb4⟩
      have hB4 := hB3.trans (hb4.mono hB3.size); clear hB3 hb4
      go_wp2_with (fail)
      refine (HP3.out _ (hrd.below hB4)).mono ?_; rintro e w5 ⟨rfl, hb5⟩
      have hB5 := hB4.trans (hb5.mono hB4.size); clear hB4 hb5
      go_wp2_with (fail)
      refine (HQ3.out _ (hrd.below hB5)).mono ?_; rintro e w6 ⟨rfl, hb6⟩
      have hB6 := hB5.trans (hb6.mono hB5.size); clear hB5 hb6
      go_wp2_with (fail)
      refine (works_any _).mono ?_; rintro e w7 ⟨rfl, hb7⟩
      have hB7 := hB6.trans (hb7.mono hB6.size); clear hB6 hb7
      go_wp2_with (fail)
      go_ret
      exact ⟨rfl, hB7⟩
end Go.Proofs.Ytalildjhighlhaa
