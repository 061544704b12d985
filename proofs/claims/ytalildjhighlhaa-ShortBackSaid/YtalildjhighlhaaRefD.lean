/-
  The walks of the reference's lettered, has and words: each returns what the plain Lean function says.
-/
import Derived.Test.YtalildjhighlhaaRefC
import Derived.Test.YtalildjhighlhaaMathD
namespace Go.Proofs.Ytalildjhighlhaa
open Go.RowKit Go.Proofs.Short Go.Lib

theorem alpha_lt {k : Nat} {c : UInt8} (h1 : 1 ≤ k) (h6 : k ≤ 6) (hc : okc c = true) : (alphaL k).contains c = decide (c.toNat < 97 + k) := by
  have e : c = UInt8.ofNat c.toNat := by simp
  unfold okc at hc; simp at hc
  have : ∀ k < 7, ∀ n < 103, 97 ≤ n → 1 ≤ k → (alphaL k).contains (UInt8.ofNat n) = decide (n < 97 + k) := by decide
  have h := this k (by omega) c.toNat (by omega) hc.1 h1
  rw [← e] at h; exact h
theorem allIn_lt {k : Nat} {x : List UInt8} (h1 : 1 ≤ k) (h6 : k ≤ 6) (hx : x.all okc = true) : allIn k x = x.all fun c => decide (c.toNat < 97 + k) := by
  unfold allIn
  rw [Bool.eq_iff_iff, List.all_eq_true, List.all_eq_true]
  constructor
  · intro h c hc; rw [← alpha_lt h1 h6 (List.all_eq_true.1 hx c hc)]; exact h c hc
  · intro h c hc; rw [alpha_lt h1 h6 (List.all_eq_true.1 hx c hc)]; exact h c hc

set_option maxRecDepth 100000 in
set_option maxHeartbeats 1000000 in
theorem rlettered_chk (x : List UInt8) (k : Int) (w : World) (hx : x.length ≤ maxLen) (hz : chk x ≠ 0) :
    Calls Try.prog 66 #[.string ⟨x.toArray⟩, .int .i64 k] w fun e w' => e = .returned (.int .i64 (chk x)) ∧ w' = w := by
  have hz1 : (chk x == 0) = false := by simp [hz]
  have hr := rcheck_l x w hx
  generalize chk x = z at hz hz1 hr ⊢
  have HR := Lib.hid hr; clear hr hz
  have hx' := hx; unfold maxLen at hx'
  go_enter Try.func66, Try.ntmps66
  go_wp2_with (go_at_call 26; refine (HR.out).mono ?_; rintro e w1 ⟨rfl, rfl⟩)
  go_loopw [5, 6] (fun v i wr => v = .int .i64 z ∧ i = .int .i64 0 ∧ wr = w1) (fun _ _ _ => 0)
  case atStart => exact ⟨rfl, rfl, rfl⟩
  case round =>
    obtain ⟨rfl, rfl, rfl⟩ := hrel
    by_cases h0 : 0 < x.length
    all_goals
      go_wp2
      go_ret
      exact ⟨rfl, rfl⟩

set_option maxRecDepth 100000 in
set_option maxHeartbeats 1000000 in
theorem rlettered_range (x : List UInt8) (k : Int) (w : World) (hz : chk x = 0) (hk : k < 1 ∨ 6 < k) :
    Calls Try.prog 66 #[.string ⟨x.toArray⟩, .int .i64 k] w fun e w' => e = .returned (.int .i64 1) ∧ w' = w := by
  have hx : x.length ≤ maxLen := by have := (chk_zero hz).1; unfold maxLen; omega
  have hr := rcheck_l x w hx
  rw [hz] at hr
  have HR := Lib.hid hr; clear hr hz
  have hx' := hx; unfold maxLen at hx'
  go_enter Try.func66, Try.ntmps66
  go_wp2_with (fail)
  refine (HR.out).mono ?_; rintro e w1 ⟨rfl, rfl⟩
  go_wp2_with (fail)
  refine (in_false _ _ _ _ hk).mono ?_; rintro e w2 ⟨rfl, rfl⟩
  go_wp2_with (fail)
  go_loopw [5, 6] (fun v i wr => v = .int .i64 1 ∧ i = .int .i64 0 ∧ wr = w2) (fun _ _ _ => 0)
  case atStart => exact ⟨rfl, rfl, rfl⟩
  case round =>
    obtain ⟨rfl, rfl, rfl⟩ := hrel
    by_cases h0 : 0 < x.length
    all_goals
      go_wp2
      go_ret
      exact ⟨rfl, rfl⟩
theorem all_step_l {x : List UInt8} {q k : Nat} (hq : q < x.length) : ((x.drop q).all fun c => decide (c.toNat < 97 + k)) = (decide (x[q].toNat < 97 + k) && ((x.drop (q + 1)).all fun c => decide (c.toNat < 97 + k))) := by
  rw [List.drop_eq_getElem_cons hq, List.all_cons]
set_option maxRecDepth 100000 in
set_option maxHeartbeats 1000000 in
theorem rlettered_in (x : List UInt8) (k : Nat) (w : World) (hz : chk x = 0) (h1 : 1 ≤ k) (h6 : k ≤ 6) :
    Calls Try.prog 66 #[.string ⟨x.toArray⟩, .int .i64 k] w fun e w' => e = .returned (.int .i64 (if allIn k x then 0 else 2)) ∧ w' = w := by
  have hx10 := (chk_zero hz).1
  have hx : x.length ≤ maxLen := by unfold maxLen; omega
  have hr := rcheck_l x w hx
  rw [hz] at hr
  rw [allIn_lt h1 h6 (chk_zero hz).2]
  obtain ⟨r, hrr⟩ : ∃ r, Hid (((x.drop 0).all fun c => decide (c.toNat < 97 + k)) = r) := ⟨_, rfl⟩
  have e0 : (x.all fun c => decide (c.toNat < 97 + k)) = r := hrr.out
  rw [e0]
  have HR := Lib.hid hr; clear hr hz e0
  go_enter Try.func66, Try.ntmps66
  go_wp2_with (fail)
  refine (HR.out).mono ?_; rintro e w1 ⟨rfl, rfl⟩
  go_wp2_with (fail)
  refine (in_true _ _ _ _ (by omega) (by omega)).mono ?_; rintro e w2 ⟨rfl, rfl⟩
  go_wp2_with (fail)
  go_loopw [5, 6] (fun v i wr => ∃ (q : Nat), q ≤ x.length ∧ i = .int .i64 q ∧ wr = w2 ∧ ((v = .int .i64 0 ∧ Hid (((x.drop q).all fun c => decide (c.toNat < 97 + k)) = r)) ∨ (v = .int .i64 2 ∧ r = false))) (fun _ i _ => x.length - (intOf i).toNat)
  case atStart => exact ⟨0, Nat.zero_le _, rfl, rfl, .inl ⟨rfl, hrr⟩⟩
  case round =>
    obtain ⟨q, hq, rfl, rfl, ⟨rfl, hl⟩ | ⟨rfl, rfl⟩⟩ := hrel
    · by_cases h0 : q < x.length
      · have hst := all_step_l (k := k) h0
        have hqs : q < (⟨x.toArray⟩ : ByteArray).size := by simpa [ByteArray.size] using h0
        have hwz : wrap64 (((⟨x.toArray⟩ : ByteArray)[q]'hqs).toNat : Int) = (x[q].toNat : Int) := by
          have : ((⟨x.toArray⟩ : ByteArray)[q]'hqs) = x[q] := rfl
          rw [this]; have := x[q].toNat_lt; unfold wrap64; omega
        by_cases hc : x[q].toNat < 97 + k
        · have hcd : decide (x[q].toNat < 97 + k) = true := decide_eq_true hc
          rw [hcd, Bool.true_and] at hst
          have HST := Lib.hid hst; clear hst hcd
          have hwl : wrap64 (((⟨x.toArray⟩ : ByteArray)[q]'hqs).toNat : Int) < 97 + (k : Int) := by rw [hwz]; omega
          clear hwz
          go_wp2
          exact ⟨⟨q + 1, by omega, by go_num, trivial, .inl ⟨rfl, HST.out.symm.trans hl.out⟩⟩, by simp [intOf]; omega⟩
        · have hcd : decide (x[q].toNat < 97 + k) = false := decide_eq_false hc
          rw [hcd, Bool.false_and, hl.out] at hst
          subst hst
          clear hcd hl hrr
          have hwl : ¬ wrap64 (((⟨x.toArray⟩ : ByteArray)[q]'hqs).toNat : Int) < 97 + (k : Int) := by rw [hwz]; omega
          clear hwz
          go_wp2
          exact ⟨⟨q + 1, by omega, by go_num, trivial, .inr ⟨rfl, trivial⟩⟩, by simp [intOf]; omega⟩
      · have : r = true := by rw [← hl.out, List.drop_eq_nil_of_le (by omega)]; rfl
        subst this
        clear hl hrr
        go_wp2
        go_ret
        exact ⟨rfl, rfl⟩
    · clear hrr
      by_cases h0 : q < x.length
      all_goals
        go_wp2
        go_ret
        exact ⟨rfl, rfl⟩

set_option maxHeartbeats 1000000 in
theorem has_any (A : Option Addr) (n c0 : Nat) (l : List (List UInt8)) (y : List UInt8) (w : World) (h : Rd w A n (l.map encStr)) (hn : n ≤ maxLen) :
    Calls Try.prog 67 #[.slice A n c0, .string ⟨y.toArray⟩] w fun e w' => e = .returned (.bool (l.contains y)) ∧ w' = w := by
  have hl : l.length = n := by simpa using h.1
  have hn' := hn; unfold maxLen at hn'
  obtain ⟨r, hr⟩ : ∃ r, Hid ((l.drop 0).contains y = r) := ⟨_, rfl⟩
  have e0 : l.contains y = r := hr.out
  rw [e0]
  obtain ⟨s, hs⟩ : ∃ s : ByteArray, Hid (s = ⟨y.toArray⟩) := ⟨_, rfl⟩
  rw [← hs.out]
  go_enter Try.func67, Try.ntmps67
  go_wp2
  go_loopw [5] (fun i wr => ∃ (q : Nat), q ≤ n ∧ i = .int .i64 q ∧ wr = w ∧ Hid ((l.drop q).contains y = r)) (fun i _ => n - (intOf i).toNat)
  case atStart => exact ⟨0, Nat.zero_le _, rfl, rfl, hr⟩
  case round =>
    obtain ⟨q, hq, rfl, hwr, hc⟩ := hrel
    subst hwr
    by_cases h0 : q < n
    · obtain ⟨g, o, rfl, hat⟩ := h.at (by omega)
      obtain ⟨z, hz⟩ : ∃ z, l[q]? = some z := ⟨_, List.getElem?_eq_getElem (by omega)⟩
      have hcell : wr.cell? ⟨g, o + q, none⟩ = some (.string ⟨z.toArray⟩) := by
        rw [hat.2 q h0, List.getD_eq_getElem?_getD, List.getElem?_map, hz]; rfl
      have hst : (l.drop q).contains y = (y == z || (l.drop (q + 1)).contains y) := by
        rw [List.drop_eq_getElem_cons (by omega : q < l.length), List.contains_cons, (List.getElem?_eq_some_iff.1 hz).2]
      by_cases he : z = y
      · have : r = true := by rw [← hc.out, hst, he]; simp
        subst this
        have hse : (z == s.toList) = true := by rw [hs.out, toList_data, he]; simp
        clear hst hz hc hr he hs
        go_wp2
        go_ret
        exact ⟨rfl, rfl⟩
      · have hse : (z == s.toList) = false := by rw [hs.out, toList_data, beq_eq_false_iff_ne]; exact he
        have e2 : (l.drop (q + 1)).contains y = r := by
          have e3 : (y == z) = false := by rw [beq_eq_false_iff_ne]; exact fun e => he e.symm
          rw [e3, Bool.false_or, hc.out] at hst; exact hst.symm
        have HE := Lib.hid e2
        clear hst hz he e2
        go_wp2
        exact ⟨⟨q + 1, by omega, by go_num, trivial, HE⟩, by simp [intOf]; omega⟩
    · have : r = false := by rw [← hc.out, List.drop_eq_nil_of_le (by omega)]; rfl
      subst this
      clear hc hr
      go_wp2
      go_ret
      exact ⟨rfl, rfl⟩
end Go.Proofs.Ytalildjhighlhaa
