/-
  The reference's power, has and same.
-/
import Derived.Test.YtbkmicimpgabgaaDoorChkPile
import Derived.Test.YtbkmicimpgabgaaDoorSame
import Derived.Test.YtbkmicimpgabgaaDoorRs
set_option linter.unusedSimpArgs false
set_option linter.unusedVariables false
namespace Go.Proofs.Quire
def hasZ (x : Int) : List Int → Bool
  | [] => false
  | y :: l => if y = x then true else hasZ x l
theorem hasZ_nat (x : Nat) : ∀ l : List Nat, hasZ (x : Int) (l.map fun n : Nat => (n : Int)) = hasB x l
  | [] => rfl
  | y :: l => by
    rw [List.map_cons, hasZ, hasB, hasZ_nat x l]
    by_cases h : y = x
    · rw [if_pos h, if_pos (by omega)]
    · rw [if_neg h, if_neg (by omega)]
theorem hasZ_mem (x : Int) : ∀ l : List Int, hasZ x l = true ↔ x ∈ l
  | [] => by simp [hasZ]
  | y :: l => by
    rw [hasZ]
    by_cases h : y = x
    · rw [if_pos h, h]; simp
    · rw [if_neg h, hasZ_mem x l]
      constructor
      · exact List.mem_cons_of_mem _
      · intro hm
        rcases List.mem_cons.1 hm with e | e
        · exact absurd e.symm h
        · exact e
end Go.Proofs.Quire
namespace Go.Proofs.YtbkmicimpgabgaaDoor
open Go.RowKit Go.Lib Go.Proofs.Quire

set_option maxRecDepth 100000 in
set_option maxHeartbeats 1000000 in
theorem rpower_any (k : Nat) (hk : k ≤ 6) (w : World) :
    Calls Tryd.prog 58 #[.int .i64 k] w fun e w' => e = .returned (.int .i64 (2 ^ k : Nat)) ∧ w' = w := by
  obtain ⟨r, hr⟩ : ∃ r : Nat, Hid (2 ^ k = r) := ⟨_, Lib.hid rfl⟩
  rw [hr.out]
  have hst : Hid (1 * 2 ^ (k - 0) = r) := by show _ = _; rw [Nat.one_mul]; exact hr.out
  go_enter Tryd.func58, Tryd.ntmps58
  go_wp2_with (fail)
  go_loopw [3, 4] (fun v u wr => ∃ (i n : Nat), i ≤ k ∧ v = .int .i64 n ∧ u = .int .i64 i ∧ wr = w ∧ n ≤ 2 ^ i ∧ Hid (n * 2 ^ (k - i) = r)) (fun _ u _ => k - (RowKit.intOf u).toNat)
  case atStart => exact ⟨0, 1, Nat.zero_le _, rfl, rfl, rfl, by decide, hst⟩
  case round =>
    obtain ⟨i, n, hi, rfl, rfl, rfl, hn, hf⟩ := hrel
    have hn64 : n ≤ 64 := Nat.le_trans hn (Nat.le_trans (Nat.pow_le_pow_right (by omega) (show i ≤ 6 by omega)) (by decide))
    by_cases hlt : i < k
    · have HN : Hid (2 * n ≤ 2 ^ (i + 1)) := by show _ ≤ _; rw [Nat.pow_succ]; omega
      have hf2 : Hid (2 * n * 2 ^ (k - (i + 1)) = r) := by
        show _ = _; rw [← hf.out, show k - i = (k - (i + 1)) + 1 by omega, Nat.pow_succ]
        rw [Nat.mul_comm 2 n, Nat.mul_assoc, Nat.mul_comm 2]
      clear hf hn
      go_wp2_with (fail)
      exact ⟨⟨i + 1, 2 * n, by omega, by go_num, by go_num, trivial, HN.out, hf2⟩, by simp [RowKit.intOf]; omega⟩
    · have hR : Hid (r = n) := by show _ = _; rw [← hf.out, show k - i = 0 by omega]; simp
      clear hf hn
      go_wp2_with (fail)
      go_ret
      exact ⟨ret_int (by rw [hR.out]), rfl⟩

set_option maxRecDepth 100000 in
set_option maxHeartbeats 1000000 in
theorem rhasZ_any (A : Option Addr) (c n : Nat) (x : Int) (l : List Int) (w : World) (hl : l.length = n) (h : Rd w A n (zs l)) (hn : n ≤ 1000) :
    Calls Tryd.prog 52 #[.slice A n c, .int .i64 x] w fun e w' => e = .returned (.bool (hasZ x l)) ∧ w' = w := by
  obtain ⟨r, hr⟩ : ∃ r, Hid (hasZ x l = r) := ⟨_, rfl⟩
  rw [hr.out]
  have hst : Hid (hasZ x (l.drop 0) = r) := hr.out
  have HL := Lib.hid hl; have H := Lib.hid h
  clear hl h
  go_enter Tryd.func52, Tryd.ntmps52
  go_wp2_with (fail)
  go_loopw [5] (fun v wr => ∃ (i : Nat), i ≤ n ∧ v = .int .i64 i ∧ wr = w ∧ Hid (hasZ x (l.drop i) = r)) (fun u _ => n - (RowKit.intOf u).toNat)
  case atStart => exact ⟨0, Nat.zero_le _, rfl, rfl, hst⟩
  case round =>
    obtain ⟨i, hi, rfl, rfl, hf⟩ := hrel
    by_cases hlt : i < n
    · have hil : i < l.length := by rw [HL.out]; exact hlt
      obtain ⟨g, o, rfl, hg, _, hat⟩ := H.out.2 (by omega)
      have hc := hat i hlt
      rw [zs_getD _ _ hil] at hc
      have hdr := drop_cons l i 0 hil
      generalize l.getD i 0 = y at hc hdr
      by_cases hy : y = x
      · have hb : (y == x) = true := by simpa using hy
        have hR : Hid (r = true) := by show _ = _; rw [← hf.out, hdr, hasZ, if_pos hy]
        clear hf hat hdr hy
        go_wp2_with (fail)
        go_ret
        exact ⟨ret_bool hR.out.symm, rfl⟩
      · have hb : (y == x) = false := by simpa using hy
        have hf2 : Hid (hasZ x (l.drop (i + 1)) = r) := by show _ = _; rw [← hf.out, hdr, hasZ, if_neg hy]
        clear hf hat hdr hy
        go_wp2_with (fail)
        exact ⟨⟨i + 1, by omega, by go_num, trivial, hf2⟩, by simp [RowKit.intOf]; omega⟩
    · have hR : Hid (r = false) := by show _ = _; rw [← hf.out, List.drop_eq_nil_of_le (by rw [HL.out]; omega)]; rfl
      clear hf
      go_wp2_with (fail)
      go_ret
      exact ⟨ret_bool hR.out.symm, rfl⟩
theorem rhas_any (A : Option Addr) (c n : Nat) (x : Nat) (l : List Nat) (w : World) (hl : l.length = n) (h : Rd w A n (ints l)) (hn : n ≤ 1000) :
    Calls Tryd.prog 52 #[.slice A n c, .int .i64 x] w fun e w' => e = .returned (.bool (hasB x l)) ∧ w' = w := by
  rw [← hasZ_nat]
  exact rhasZ_any A c n x _ w (by rw [List.length_map]; exact hl) (by rw [zs_ints]; exact h) hn

set_option maxRecDepth 100000 in
set_option maxHeartbeats 1000000 in
theorem rsame_any (A A' : Option Addr) (c c' n n' : Nat) (l l' : List Int) (w : World) (hl : l.length = n) (hl' : l'.length = n') (h : Rd w A n (zs l)) (h' : Rd w A' n' (zs l')) (hn : n ≤ 1000) (hn' : n' ≤ 1000) :
    Calls Tryd.prog 53 #[.slice A n c, .slice A' n' c'] w fun e w' => e = .returned (.bool (decide (l = l'))) ∧ Below w.heap.size w w' := by
  obtain ⟨r, hr⟩ : ∃ r, Hid (decide (l = l') = r) := ⟨_, rfl⟩
  rw [hr.out]
  have hl := Lib.hid hl; have hl' := Lib.hid hl'
  by_cases hne : n = n'
  · subst hne
    have hb : ((n : Int) != (n : Int)) = false := by simp
    have hr0 : Hid (decide (l.drop 0 = l'.drop 0) = r) := hr.out
    go_enter Tryd.func53, Tryd.ntmps53
    go_wp2_with (fail)
    go_loopw [5] (fun i wr => ∃ (k q : Nat), k ≤ n ∧ i = .int .i64 k ∧ wr = w.drewN q ∧ Hid (decide (l.drop k = l'.drop k) = r)) (fun i _ => n - (RowKit.intOf i).toNat)
    case atStart => exact ⟨0, 0, Nat.zero_le _, rfl, rfl, hr0⟩
    case round =>
      obtain ⟨k, q, hk, rfl, rfl, hf⟩ := hrel
      by_cases hlt : k < n
      · obtain ⟨g, o, rfl, _, _, hat⟩ := h.2 (by omega)
        obtain ⟨g', o', rfl, _, _, hat'⟩ := h'.2 (by omega)
        have hkl : k < l.length := by rw [hl.out]; exact hlt
        have hkl' : k < l'.length := by rw [hl'.out]; exact hlt
        have hc := hat k hlt
        have hc' := hat' k hlt
        rw [zs_getD _ _ hkl] at hc
        rw [zs_getD _ _ hkl'] at hc'
        have hst := eq_drop (l := l) (l' := l') (k := k) (by rw [hl.out, hl'.out]) 0 hkl
        have HST := Lib.hid hst; clear hst hat hat'
        generalize l.getD k 0 = x at hc HST
        generalize l'.getD k 0 = y at hc' HST
        by_cases hxy : x = y
        · have hb2 : (x != y) = false := by simp [hxy]
          have e : decide (l.drop (k + 1) = l'.drop (k + 1)) = r := by rw [← hf.out, HST.out, hxy]; simp
          have HE := Lib.hid e; clear e hxy
          go_wp2_with (fail)
          go_quiet (fail)
          go_wp2_with (fail)
          exact ⟨⟨k + 1, q + nq, by omega, by go_num, rfl, HE⟩, by simp [RowKit.intOf]; omega⟩
        · have hb2 : (x != y) = true := by simp; omega
          have e : r = false := by rw [← hf.out, HST.out]; simp [hxy]
          have HE := Lib.hid e; clear e hxy
          go_wp2_with (fail)
          go_quiet (fail)
          go_wp2_with (fail)
          go_ret
          rw [HE.out]
          exact ⟨rfl, by rw [World.drewN_drewN]; exact below_drewN (Below.refl _ _) _⟩
      · have e : r = true := by rw [← hf.out, List.drop_eq_nil_of_le (by rw [hl.out]; omega), List.drop_eq_nil_of_le (by rw [hl'.out]; omega)]; simp
        have HE := Lib.hid e; clear e
        go_wp2_with (fail)
        go_ret
        rw [HE.out]
        exact ⟨rfl, below_drewN (Below.refl _ _) _⟩
  · have hb : ((n : Int) != (n' : Int)) = true := by simp; omega
    have e : r = false := by rw [← hr.out]; exact decide_eq_false (fun e => hne (by rw [← hl.out, ← hl'.out, e]))
    have HE := Lib.hid e; clear e hne
    go_enter Tryd.func53, Tryd.ntmps53
    go_wp2_with (fail)
    go_ret
    rw [HE.out]
    exact ⟨rfl, Below.refl _ _⟩
end Go.Proofs.YtbkmicimpgabgaaDoor
