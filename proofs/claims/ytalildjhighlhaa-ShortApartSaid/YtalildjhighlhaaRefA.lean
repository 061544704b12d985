/-
  The walks of the reference's plain functions Check, both, Left and Holds: each returns what the plain Lean function says.
-/
import Derived.Test.YtalildjhighlhaaHolds
namespace Go.Proofs.Ytalildjhighlhaa
open Go.RowKit Go.Proofs.Short Go.Lib

set_option maxHeartbeats 400000 in
theorem rcheck_any (s : ByteArray) (w : World) (hs : s.size ≤ maxLen) :
    Calls Try.prog 26 #[.string s] w fun e w' => e = .returned (.int .i64 (chk s.data.toList)) ∧ w' = w := by
  unfold maxLen at hs
  by_cases h10 : 10 < s.size
  · have hc := chk_long (l := s.data.toList) (by simpa using h10)
    have HC := Lib.hid hc; clear hc
    go_enter Try.func26, Try.ntmps26
    go_wp2
    go_ret
    exact ⟨ret_int HC.out.symm, rfl⟩
  · have hc := chk_all (l := s.data.toList) (by simpa using h10)
    have HC := Lib.hid hc; clear hc
    go_enter Try.func26, Try.ntmps26
    go_wp2
    go_loop [3] (fun i => ∃ (k : Nat), k ≤ s.size ∧ i = .int .i64 k ∧ Hid ((s.data.toList.drop k).all okc = s.data.toList.all okc)) (fun i => s.size - (intOf i).toNat)
    case atStart => exact ⟨0, Nat.zero_le _, rfl, rfl⟩
    case round =>
      obtain ⟨k, hk, rfl, hl⟩ := hrel
      by_cases hp : k < s.size
      · have hst := all_step hp
        have HST := Lib.hid hst; clear hst
        by_cases hlo : (s[k]'hp).toNat < 97
        · have hz : s.data.toList.all okc = false := by
            have hk : okc s[k] = false := by unfold okc; simp; omega
            rw [← hl.out, HST.out, hk, Bool.false_and]
          have HZ := Lib.hid hz; clear hz
          go_wp2
          go_ret
          exact ⟨ret_int (by rw [HC.out, HZ.out]; rfl), rfl⟩
        · by_cases hhi : 103 ≤ (s[k]'hp).toNat
          · have hz : s.data.toList.all okc = false := by
              have hk : okc s[k] = false := by unfold okc; simp; omega
              rw [← hl.out, HST.out, hk, Bool.false_and]
            have HZ := Lib.hid hz; clear hz
            go_wp2
            go_ret
            exact ⟨ret_int (by rw [HC.out, HZ.out]; rfl), rfl⟩
          · have hk : okc s[k] = true := by unfold okc; simp; omega
            have HK := Lib.hid hk; clear hk
            go_wp2
            exact ⟨⟨k + 1, by omega, by go_num, by show _ = _; rw [← hl.out, HST.out, HK.out, Bool.true_and]⟩, by simp [intOf]; omega⟩
      · have hz : s.data.toList.all okc = true := by rw [← hl.out, List.drop_eq_nil_of_le (by simp; omega)]; rfl
        have HZ := Lib.hid hz; clear hz
        go_wp2
        go_ret
        exact ⟨ret_int (by rw [HC.out, HZ.out]; rfl), rfl⟩
theorem rcheck_l (x : List UInt8) (w : World) (hs : x.length ≤ maxLen) :
    Calls Try.prog 26 #[.string ⟨x.toArray⟩] w fun e w' => e = .returned (.int .i64 (chk x)) ∧ w' = w :=
  rcheck_any ⟨x.toArray⟩ w (by simpa [ByteArray.size] using hs)

set_option maxHeartbeats 400000 in
theorem both_any (a b : List UInt8) (w : World) (ha : a.length ≤ maxLen) (hb : b.length ≤ maxLen) :
    Calls Try.prog 58 #[.string ⟨a.toArray⟩, .string ⟨b.toArray⟩] w fun e w' => e = .returned (.int .i64 (chks [a, b])) ∧ w' = w := by
  by_cases hz : chk a = 0
  · have hz2 : (chk a == 0) = true := by simp [hz]
    have hc : chks [a, b] = chk b := by
      unfold chks; rw [if_pos hz]; unfold chks
      by_cases h : chk b = 0
      · rw [if_pos h, h]; rfl
      · rw [if_neg h]
    rw [hc]
    clear hc hz
    go_enter Try.func58, Try.ntmps58
    go_wp2_with (fail)
    refine (rcheck_l a _ ha).mono ?_; rintro e w1 ⟨rfl, rfl⟩
    go_wp2_with (fail)
    refine (rcheck_l b _ hb).mono ?_; rintro e w1 ⟨rfl, rfl⟩
    go_wp2_with (fail)
    go_ret
    exact ⟨rfl, rfl⟩
  · have hz2 : (chk a == 0) = false := by simp [hz]
    have hc : chks [a, b] = chk a := by unfold chks; rw [if_neg hz]
    rw [hc]
    clear hc hz
    go_enter Try.func58, Try.ntmps58
    go_wp2_with (fail)
    refine (rcheck_l a _ ha).mono ?_; rintro e w1 ⟨rfl, rfl⟩
    go_wp2_with (fail)
    go_ret
    exact ⟨rfl, rfl⟩

theorem left_hit {a b : List UInt8} {k n : Nat} (hk : k < a.length) (hn : n < b.length) (h : a[k] = b[n]) : leftL (a.drop k) (b.drop n) = leftL (a.drop (k + 1)) (b.drop (n + 1)) := by rw [left_step hk hn, if_pos h]
theorem left_miss {a b : List UInt8} {k n : Nat} (hk : k < a.length) (hn : n < b.length) (h : a[k] ≠ b[n]) : leftL (a.drop k) (b.drop n) = leftL (a.drop (k + 1)) (b.drop n) := by rw [left_step hk hn, if_neg h]

set_option maxRecDepth 100000 in
set_option maxHeartbeats 1000000 in
theorem rleft_any (s p : ByteArray) (w : World) (hs : s.size ≤ maxLen) (hp : p.size ≤ maxLen) :
    Calls Try.prog 28 #[.string s, .string p] w fun e w' => e = .returned (.bool (leftL s.data.toList p.data.toList)) ∧ ∃ q, w' = w.drewN q := by
  unfold maxLen at hs hp
  obtain ⟨r, hr⟩ : ∃ r, Hid (leftL s.data.toList p.data.toList = r) := ⟨_, rfl⟩
  rw [hr.out]
  go_enter Try.func28, Try.ntmps28
  go_wp2
  go_loopw [5, 6] (fun f i wr => ∃ (k n m : Nat), k ≤ s.size ∧ n ≤ p.size ∧ f = .int .i64 k ∧ i = .int .i64 n ∧ wr = w.drewN m ∧ Hid (leftL (s.data.toList.drop k) (p.data.toList.drop n) = r)) (fun _ i _ => p.size - (intOf i).toNat)
  case atStart => exact ⟨0, 0, 0, Nat.zero_le _, Nat.zero_le _, rfl, rfl, rfl, hr⟩
  case round =>
    obtain ⟨k, n, m, hk, hn, rfl, rfl, rfl, hl⟩ := hrel
    by_cases h2 : n < p.size
    · go_wp2
      go_loopw [5] (fun f wx => ∃ (k m : Nat), k ≤ s.size ∧ f = .int .i64 k ∧ wx = w.drewN m ∧ Hid (leftL (s.data.toList.drop k) (p.data.toList.drop n) = r)) (fun f _ => s.size - (intOf f).toNat)
      case atStart => exact ⟨k, m, hk, rfl, rfl, hl⟩
      case round =>
        obtain ⟨k, m, hk, rfl, rfl, hl⟩ := hrel
        by_cases h1 : k < s.size
        · by_cases heq : s[k] = p[n]
          · have hb : ((s[k].toNat : Int) != (p[n].toNat : Int)) = false := by simp [heq]
            have he := left_hit (a := s.data.toList) (b := p.data.toList) (by simpa using h1) (by simpa using h2) heq
            have hkb : ((k : Int) == (s.size : Int)) = false := by rw [beq_eq_false_iff_ne]; omega
            have HE := Lib.hid he; clear he heq
            go_wp2
            go_quiet (fail)
            go_wp2
            exact ⟨⟨k + 1, n + 1, m + nq, by omega, by omega, by go_num, by go_num, rfl, HE.out.symm.trans hl.out⟩, by simp [intOf]; omega⟩
          · have hb : ((s[k].toNat : Int) != (p[n].toNat : Int)) = true := by
              rw [bne_iff_ne]; intro e; exact heq (UInt8.toNat_inj.1 (by omega))
            have he := left_miss (a := s.data.toList) (b := p.data.toList) (by simpa using h1) (by simpa using h2) heq
            have HE := Lib.hid he; clear he heq
            go_wp2
            go_quiet (fail)
            go_wp2
            exact ⟨⟨k + 1, m + nq, by omega, by go_num, rfl, HE.out.symm.trans hl.out⟩, by simp [intOf]; omega⟩
        · have hk' : k = s.size := by omega
          have hkb : ((k : Int) == (s.size : Int)) = true := by rw [beq_iff_eq]; omega
          have hlt : decide ((k : Int) < (s.size : Int)) = false := by rw [decide_eq_false_iff_not]; omega
          go_wp2
          go_quiet (fail)
          go_wp2
          go_ret
          exact ⟨ret_bool (by rw [← hl.out, left_out (by simpa using hk') (by simpa using h2)]), m + nq, rfl⟩
    · have hn' : n = p.size := by omega
      go_wp2
      go_ret
      exact ⟨ret_bool (by rw [← hl.out, left_done (by simpa using hn')]), m, rfl⟩
end Go.Proofs.Ytalildjhighlhaa
