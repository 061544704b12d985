/-
  The walks of the reference's Apart and Alike: each returns what the plain Lean function says.
-/
import Derived.Test.YtalildjhighlhaaDiffer
namespace Go.Proofs.Ytalildjhighlhaa
open Go.RowKit Go.Proofs.Short Go.Lib

theorem difB_none {a b : List UInt8} {n : Nat} {is : Bool} {l : List UInt8} (h : difB a b n is l) (hd : diffL a b n = none) : is = false := by
  rcases h with ⟨h1, _⟩ | ⟨_, h2⟩
  · exact h1
  · rw [hd] at h2; cases h2
theorem difB_some {a b : List UInt8} {n : Nat} {is : Bool} {l p : List UInt8} (h : difB a b n is l) (hd : diffL a b n = some p) : is = true ∧ l = p := by
  rcases h with ⟨_, _, h2⟩ | ⟨h1, h2⟩
  · rw [hd] at h2; cases h2
  · rw [hd] at h2; injection h2 with h2; exact ⟨h1, h2.symm⟩

set_option maxHeartbeats 400000 in
theorem rapart_chk (a b : List UInt8) (w : World) (ha : a.length ≤ maxLen) (hb : b.length ≤ maxLen) (hz : chks [a, b] ≠ 0) :
    Calls Try.prog 41 #[.string ⟨a.toArray⟩, .string ⟨b.toArray⟩] w fun e w' => e = .returned (.tuple #[.string ⟨#[]⟩, .int .i64 (chks [a, b])]) ∧ Below w.heap.size w w' := by
  have hz2 : (chks [a, b] != 0) = true := by simp [hz]
  have hz3 : (chks [a, b] == 0) = false := by simp [hz]
  clear hz
  go_enter Try.func41, Try.ntmps41
  go_wp2_with (go_at_call 58; refine (both_any a b _ ha hb).mono ?_; rintro e w1 ⟨rfl, rfl⟩)
  go_ret2
  exact ⟨rfl, Below.refl _ _⟩
set_option maxRecDepth 100000 in
set_option maxHeartbeats 1000000 in
theorem rapart_same (a : List UInt8) (w : World) (hz : chks [a, a] = 0) :
    Calls Try.prog 41 #[.string ⟨a.toArray⟩, .string ⟨a.toArray⟩] w fun e w' => e = .returned (optV (apartL a a) 13) ∧ Below w.heap.size w w' := by
  have hm : a.length ≤ maxLen := by have := (chks_two hz).1.1; unfold maxLen; omega
  rw [apart_eq]
  have hc := fun W => both_any a a W hm hm
  rw [hz] at hc
  clear hz
  go_enter Try.func41, Try.ntmps41
  go_wp2_with (go_at_call 58; refine (hc _).mono ?_; rintro e w1 ⟨rfl, rfl⟩)
  go_ret2
  exact ⟨rfl, Below.refl _ _⟩
set_option maxRecDepth 100000 in
set_option maxHeartbeats 1000000 in
theorem rapart_ok (a b : List UInt8) (w : World) (hz : chks [a, b] = 0) (hne : a ≠ b) :
    Calls Try.prog 41 #[.string ⟨a.toArray⟩, .string ⟨b.toArray⟩] w fun e w' => e = .returned (optV (apartL a b) 13) ∧ Below w.heap.size w w' := by
  obtain ⟨⟨ha10, hoa⟩, hb10, hob⟩ := chks_two hz
  have ha : a.length ≤ maxLen := by unfold maxLen; omega
  have hb : b.length ≤ maxLen := by unfold maxLen; omega
  have hc := fun W => both_any a b W ha hb
  rw [hz] at hc
  cases hr : apartL a b with
  | none => exact absurd (apart_same hr) hne
  | some p =>
  have hs := apart_some hr
  have h1 := apart_pos hr
  have h2 := apart_le hr ha10 hb10
  have hab : (a == b) = false := by simpa using hne
  have HS := Lib.hid hs; have HOA := Lib.hid hoa; have HOB := Lib.hid hob; have HA := Lib.hid ha10; have HB := Lib.hid hb10
  have HD := Lib.hid (fun (n : Nat) (z : Int) W (h : z = (n : Int)) (hn : n ≤ 50) => differ_any a b n z W h hn ha10 hb10 hoa hob)
  clear hs hoa hob ha10 hb10 hz hne hr ha hb
  go_enter Try.func41, Try.ntmps41
  go_wp2_with (go_at_call 58; refine (hc _).mono ?_; rintro e w1 ⟨rfl, rfl⟩)
  go_loopw [7] (fun v wr => ∃ (k : Nat), 1 ≤ k ∧ k ≤ p.length ∧ v = .int .i64 k ∧ Below w1.heap.size w1 wr) (fun v _ => p.length - (intOf v).toNat)
  case atStart => exact ⟨1, by omega, h1, rfl, Below.refl _ _⟩
  case round =>
    obtain ⟨k, hk1, hk, rfl, hbr⟩ := hrel
    by_cases hlt : k < p.length
    · have hd := Lib.hid (HS.out.2 k hlt)
      go_wp2_with (go_at_call 70; refine (HD.out k _ _ rfl (by omega)).mono ?_; rintro e w2 ⟨is, l, rfl, hdb, hb2⟩; obtain rfl := difB_none hdb hd.out)
      exact ⟨⟨k + 1, by omega, by omega, by go_num, hbr.trans (hb2.mono hbr.size)⟩, by simp [intOf]; omega⟩
    · obtain rfl : k = p.length := by omega
      have hd := Lib.hid HS.out.1
      go_wp2_with (go_at_call 70; refine (HD.out p.length _ _ rfl (by omega)).mono ?_; rintro e w2 ⟨is, l, rfl, hdb, hb2⟩; obtain ⟨rfl, rfl⟩ := difB_some hdb hd.out)
      go_ret2
      exact ⟨rfl, hbr.trans (hb2.mono hbr.size)⟩

/-! ### Alike -/
set_option maxHeartbeats 400000 in
theorem ralike_chk (a b : List UInt8) (most : Int) (w : World) (ha : a.length ≤ maxLen) (hb : b.length ≤ maxLen) (hz : chks [a, b] ≠ 0) :
    Calls Try.prog 43 #[.string ⟨a.toArray⟩, .string ⟨b.toArray⟩, .int .i64 most] w fun e w' => e = .returned (.tuple #[.bool false, .int .i64 (chks [a, b])]) ∧ Below w.heap.size w w' := by
  have hz2 : (chks [a, b] != 0) = true := by simp [hz]
  have hz3 : (chks [a, b] == 0) = false := by simp [hz]
  clear hz
  go_enter Try.func43, Try.ntmps43
  go_wp2_with (go_at_call 58; refine (both_any a b _ ha hb).mono ?_; rintro e w1 ⟨rfl, rfl⟩)
  go_ret2
  exact ⟨rfl, Below.refl _ _⟩
set_option maxHeartbeats 400000 in
theorem ralike_range (a b : List UInt8) (most : Int) (w : World) (hz : chks [a, b] = 0) (hm : most < 0 ∨ 10 < most) :
    Calls Try.prog 43 #[.string ⟨a.toArray⟩, .string ⟨b.toArray⟩, .int .i64 most] w fun e w' => e = .returned (.tuple #[.bool false, .int .i64 1]) ∧ Below w.heap.size w w' := by
  obtain ⟨ha10, hb10⟩ := chks_two hz
  have ha : a.length ≤ maxLen := by have := ha10.1; unfold maxLen; omega
  have hb : b.length ≤ maxLen := by have := hb10.1; unfold maxLen; omega
  have hc := fun W => both_any a b W ha hb
  rw [hz] at hc
  have hi := fun W => in_false most 0 10 W hm
  clear hz ha10 hb10 hm
  go_enter Try.func43, Try.ntmps43
  go_wp2_with (first
    | (go_at_call 58; refine (hc _).mono ?_; rintro e w1 ⟨rfl, rfl⟩)
    | (go_at_call 62; refine (hi _).mono ?_; rintro e w2 ⟨rfl, rfl⟩))
  go_ret2
  exact ⟨rfl, Below.refl _ _⟩
set_option maxRecDepth 100000 in
set_option maxHeartbeats 1000000 in
theorem ralike_ok (a b : List UInt8) (most : Nat) (w : World) (hz : chks [a, b] = 0) (h1 : most ≤ 10) :
    Calls Try.prog 43 #[.string ⟨a.toArray⟩, .string ⟨b.toArray⟩, .int .i64 most] w fun e w' => e = .returned (.tuple #[.bool (alikeL a b most), .int .i64 0]) ∧ Below w.heap.size w w' := by
  obtain ⟨⟨ha10, hoa⟩, hb10, hob⟩ := chks_two hz
  have ha : a.length ≤ maxLen := by unfold maxLen; omega
  have hb : b.length ≤ maxLen := by unfold maxLen; omega
  have hc := fun W => both_any a b W ha hb
  rw [hz] at hc
  have hi := fun W => in_true (most : Int) 0 10 W (by omega) (by omega)
  obtain ⟨r, hr⟩ : ∃ r, alikeL a b most = r := ⟨_, rfl⟩
  rw [hr]
  /- what is known size by size: nothing up to most, or a first size at which there is something -/
  have hcase : (r = true ∧ ∀ n, n ≤ most → diffL a b n = none) ∨ (r = false ∧ ∃ p, 1 ≤ p.length ∧ p.length ≤ most ∧ diffL a b p.length = some p ∧ ∀ n, n < p.length → diffL a b n = none) := by
    cases hp : apartL a b with
    | none => exact .inl ⟨by rw [← hr]; unfold alikeL; rw [hp], fun n _ => apart_none hp n⟩
    | some p =>
      have hs := apart_some hp
      by_cases hm : most < p.length
      · refine .inl ⟨?_, fun n hn => hs.2 n (by omega)⟩
        rw [← hr]; unfold alikeL; rw [hp]; simp; omega
      · refine .inr ⟨?_, p, apart_pos hp, by omega, hs.1, hs.2⟩
        rw [← hr]; unfold alikeL; rw [hp]; simp; omega
  have HD := Lib.hid (fun (n : Nat) (z : Int) W (h : z = (n : Int)) (hn : n ≤ 50) => differ_any a b n z W h hn ha10 hb10 hoa hob)
  clear hr hoa hob ha10 hb10 hz ha hb
  rcases hcase with ⟨rfl, hno⟩ | ⟨rfl, p, hp1, hp2, hps, hno⟩
  · have HNO := Lib.hid hno
    clear hno
    go_enter Try.func43, Try.ntmps43
    go_wp2_with (first
      | (go_at_call 58; refine (hc _).mono ?_; rintro e w1 ⟨rfl, rfl⟩)
      | (go_at_call 62; refine (hi _).mono ?_; rintro e w2 ⟨rfl, rfl⟩))
    go_loopw [9] (fun v wr => ∃ (k : Nat), 1 ≤ k ∧ k ≤ most + 1 ∧ v = .int .i64 k ∧ Below w2.heap.size w2 wr) (fun v _ => most + 1 - (intOf v).toNat)
    case atStart => exact ⟨1, by omega, by omega, rfl, Below.refl _ _⟩
    case round =>
      obtain ⟨k, hk1, hk, rfl, hbr⟩ := hrel
      by_cases hlt : k ≤ most
      · have hd := Lib.hid (HNO.out k hlt)
        go_wp2_with (go_at_call 70; refine (HD.out k _ _ rfl (by omega)).mono ?_; rintro e w2 ⟨is, l, rfl, hdb, hb2⟩; obtain rfl := difB_none hdb hd.out)
        exact ⟨⟨k + 1, by omega, by omega, by go_num, hbr.trans (hb2.mono hbr.size)⟩, by simp [intOf]; omega⟩
      · go_wp2_with (fail)
        go_ret2
        exact ⟨rfl, hbr⟩
  · have HNO := Lib.hid hno; have HPS := Lib.hid hps
    clear hno hps
    go_enter Try.func43, Try.ntmps43
    go_wp2_with (first
      | (go_at_call 58; refine (hc _).mono ?_; rintro e w1 ⟨rfl, rfl⟩)
      | (go_at_call 62; refine (hi _).mono ?_; rintro e w2 ⟨rfl, rfl⟩))
    go_loopw [9] (fun v wr => ∃ (k : Nat), 1 ≤ k ∧ k ≤ p.length ∧ v = .int .i64 k ∧ Below w2.heap.size w2 wr) (fun v _ => p.length - (intOf v).toNat)
    case atStart => exact ⟨1, by omega, hp1, rfl, Below.refl _ _⟩
    case round =>
      obtain ⟨k, hk1, hk, rfl, hbr⟩ := hrel
      by_cases hlt : k < p.length
      · have hd := Lib.hid (HNO.out k hlt)
        go_wp2_with (go_at_call 70; refine (HD.out k _ _ rfl (by omega)).mono ?_; rintro e w2 ⟨is, l, rfl, hdb, hb2⟩; obtain rfl := difB_none hdb hd.out)
        exact ⟨⟨k + 1, by omega, by omega, by go_num, hbr.trans (hb2.mono hbr.size)⟩, by simp [intOf]; omega⟩
      · obtain rfl : k = p.length := by omega
        go_wp2_with (go_at_call 70; refine (HD.out p.length _ _ rfl (by omega)).mono ?_; rintro e w2 ⟨is, l, rfl, hdb, hb2⟩; obtain ⟨rfl, rfl⟩ := difB_some hdb HPS.out)
        go_ret2
        exact ⟨rfl, hbr.trans (hb2.mono hbr.size)⟩
end Go.Proofs.Ytalildjhighlhaa
