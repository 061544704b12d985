/-
  The walks of the statements' own helpers same, equal, list, texts and long: each returns what the plain Lean function says.
-/
import Derived.Test.YtlbepjmiligpcaaDoorParts
set_option linter.unusedSimpArgs false
set_option linter.unusedVariables false
namespace Go.Proofs.YtlbepjmiligpcaaDoor
open Go.RowKit Go.Proofs.Short Go.Lib

theorem eq_drop {α : Type} [DecidableEq α] {l l' : List α} {k : Nat} (hl : l.length = l'.length) (d : α) (hk : k < l.length) : decide (l.drop k = l'.drop k) = (decide (l.getD k d = l'.getD k d) && decide (l.drop (k + 1) = l'.drop (k + 1))) := by
  have h2 : k < l'.length := by omega
  have e1 := List.drop_eq_getElem_cons hk
  have e2 := List.drop_eq_getElem_cons h2
  rw [e1, e2, getD_lt _ _ _ hk, getD_lt _ _ _ h2, Bool.eq_iff_iff]
  simp only [decide_eq_true_eq, Bool.and_eq_true, List.cons.injEq]
theorem eq_len {α : Type} [DecidableEq α] {l l' : List α} (hl : l.length ≠ l'.length) : decide (l = l') = false := decide_eq_false (fun e => hl (by rw [e]))

set_option maxHeartbeats 400000 in
theorem same_any (A A' : Option Addr) (n n' c c' : Nat) (l l' : List Nat) (w : World) (h : Rd w A n (ints l)) (h' : Rd w A' n' (ints l')) (hn : n ≤ maxLen) (hn' : n' ≤ maxLen) :
    Calls Tryd.prog 11 #[.slice A n c, .slice A' n' c'] w fun e w' => e = .returned (.bool (decide (l = l'))) ∧ ∃ q, w' = w.drewN q := by
  unfold maxLen at hn hn'
  have hl : l.length = n := by simpa using h.1
  have hl' : l'.length = n' := by simpa using h'.1
  obtain ⟨r, hr⟩ : ∃ r, Hid (decide (l = l') = r) := ⟨_, rfl⟩
  rw [hr.out]
  by_cases hne : n = n'
  · subst hne
    have hb : ((n : Int) != (n : Int)) = false := by simp
    have hr0 : Hid (decide (l.drop 0 = l'.drop 0) = r) := hr.out
    have HL := Lib.hid hl; have HL' := Lib.hid hl'; clear hl hl'
    go_enter Tryd.func11, Tryd.ntmps11
    go_wp2
    go_loopw [5] (fun i wr => ∃ (k q : Nat), k ≤ n ∧ i = .int .i64 k ∧ wr = w.drewN q ∧ Hid (decide (l.drop k = l'.drop k) = r)) (fun i _ => n - (intOf i).toNat)
    case atStart => exact ⟨0, 0, Nat.zero_le _, rfl, rfl, hr0⟩
    case round =>
      obtain ⟨k, q, hk, rfl, rfl, hf⟩ := hrel
      by_cases hlt : k < n
      · obtain ⟨g, o, rfl, hat⟩ := h.at (by omega)
        obtain ⟨g', o', rfl, hat'⟩ := h'.at (by omega)
        have hc : w.cell? ⟨g, o + k, none⟩ = some (.int .i64 (l.getD k 0 : Nat)) := by
          rw [hat.2 k hlt, getD_lt _ _ _ (by simp; have := HL.out; omega), List.getElem_map, getD_lt _ _ _ (by have := HL.out; omega)]
        have hc' : w.cell? ⟨g', o' + k, none⟩ = some (.int .i64 (l'.getD k 0 : Nat)) := by
          rw [hat'.2 k hlt, getD_lt _ _ _ (by simp; have := HL'.out; omega), List.getElem_map, getD_lt _ _ _ (by have := HL'.out; omega)]
        have hst := eq_drop (l := l) (l' := l') (k := k) (by rw [HL.out, HL'.out]) 0 (by rw [HL.out]; exact hlt)
        have HST := Lib.hid hst; clear hst
        generalize l.getD k 0 = x at hc HST
        generalize l'.getD k 0 = y at hc' HST
        by_cases hxy : x = y
        · have hb2 : ((x : Int) != (y : Int)) = false := by simp [hxy]
          have e : decide (l.drop (k + 1) = l'.drop (k + 1)) = r := by rw [← hf.out, HST.out, hxy]; simp
          have HE := Lib.hid e; clear e hxy
          go_wp2
          go_quiet (fail)
          go_wp2
          exact ⟨⟨k + 1, q + nq, by omega, by go_num, rfl, HE⟩, by simp [intOf]; omega⟩
        · have hb2 : ((x : Int) != (y : Int)) = true := by simp; omega
          have e : r = false := by rw [← hf.out, HST.out]; simp [hxy]
          have HE := Lib.hid e; clear e hxy
          go_wp2
          go_quiet (fail)
          go_wp2
          go_ret
          rw [HE.out]
          exact ⟨rfl, q + nq, by rw [World.drewN_drewN]⟩
      · have e : r = true := by rw [← hf.out, List.drop_eq_nil_of_le (by have := HL.out; omega), List.drop_eq_nil_of_le (by have := HL'.out; omega)]; simp
        have HE := Lib.hid e; clear e
        go_wp2
        go_ret
        rw [HE.out]
        exact ⟨rfl, _, rfl⟩
  · have hb : ((n : Int) != (n' : Int)) = true := by simp; omega
    have e : r = false := by rw [← hr.out]; exact eq_len (by omega)
    have HE := Lib.hid e; clear e hne hl hl'
    go_enter Tryd.func11, Tryd.ntmps11
    go_wp2
    go_ret
    rw [HE.out]
    exact ⟨rfl, 0, rfl⟩

set_option maxHeartbeats 400000 in
theorem equal_any (A A' : Option Addr) (n n' c c' : Nat) (l l' : List (List UInt8)) (w : World) (h : Rd w A n (l.map encStr)) (h' : Rd w A' n' (l'.map encStr)) (hn : n ≤ maxLen) (hn' : n' ≤ maxLen) :
    Calls Tryd.prog 35 #[.slice A n c, .slice A' n' c'] w fun e w' => e = .returned (.bool (decide (l = l'))) ∧ ∃ q, w' = w.drewN q := by
  unfold maxLen at hn hn'
  have hl : l.length = n := by simpa using h.1
  have hl' : l'.length = n' := by simpa using h'.1
  obtain ⟨r, hr⟩ : ∃ r, Hid (decide (l = l') = r) := ⟨_, rfl⟩
  rw [hr.out]
  by_cases hne : n = n'
  · subst hne
    have hb : ((n : Int) != (n : Int)) = false := by simp
    have hr0 : Hid (decide (l.drop 0 = l'.drop 0) = r) := hr.out
    have HL := Lib.hid hl; have HL' := Lib.hid hl'; clear hl hl'
    go_enter Tryd.func35, Tryd.ntmps35
    go_wp2
    go_loopw [5] (fun i wr => ∃ (k q : Nat), k ≤ n ∧ i = .int .i64 k ∧ wr = w.drewN q ∧ Hid (decide (l.drop k = l'.drop k) = r)) (fun i _ => n - (intOf i).toNat)
    case atStart => exact ⟨0, 0, Nat.zero_le _, rfl, rfl, hr0⟩
    case round =>
      obtain ⟨k, q, hk, rfl, rfl, hf⟩ := hrel
      by_cases hlt : k < n
      · obtain ⟨g, o, rfl, hat⟩ := h.at (by omega)
        obtain ⟨g', o', rfl, hat'⟩ := h'.at (by omega)
        have hc := hat.str hlt HL.out.symm
        have hc' := hat'.str hlt HL'.out.symm
        have hst := eq_drop (l := l) (l' := l') (k := k) (by rw [HL.out, HL'.out]) [] (by rw [HL.out]; exact hlt)
        have HST := Lib.hid hst; clear hst
        generalize l.getD k [] = x at hc HST
        generalize l'.getD k [] = y at hc' HST
        obtain ⟨sx, hsx⟩ : ∃ s : ByteArray, Hid (s = ⟨x.toArray⟩) := ⟨_, rfl⟩
        obtain ⟨sy, hsy⟩ : ∃ s : ByteArray, Hid (s = ⟨y.toArray⟩) := ⟨_, rfl⟩
        rw [← hsx.out] at hc
        rw [← hsy.out] at hc'
        by_cases hxy : x = y
        · have hb2 : (sx.toList == sy.toList) = true := by rw [hsx.out, hsy.out, hxy]; simp
          have e : decide (l.drop (k + 1) = l'.drop (k + 1)) = r := by rw [← hf.out, HST.out, hxy]; simp
          have HE := Lib.hid e; clear e hxy
          go_wp2
          go_quiet (fail)
          go_wp2
          exact ⟨⟨k + 1, q + nq, by omega, by go_num, rfl, HE⟩, by simp [intOf]; omega⟩
        · have hb2 : (sx.toList == sy.toList) = false := by
            rw [hsx.out, hsy.out, toList_data, toList_data, beq_eq_false_iff_ne]; exact hxy
          have e : r = false := by rw [← hf.out, HST.out]; simp [hxy]
          have HE := Lib.hid e; clear e hxy
          go_wp2
          go_quiet (fail)
          go_wp2
          go_ret
          rw [HE.out]
          exact ⟨rfl, q + nq, by rw [World.drewN_drewN]⟩
      · have e : r = true := by rw [← hf.out, List.drop_eq_nil_of_le (by have := HL.out; omega), List.drop_eq_nil_of_le (by have := HL'.out; omega)]; simp
        have HE := Lib.hid e; clear e
        go_wp2
        go_ret
        rw [HE.out]
        exact ⟨rfl, _, rfl⟩
  · have hb : ((n : Int) != (n' : Int)) = true := by simp; omega
    have e : r = false := by rw [← hr.out]; exact eq_len (by omega)
    have HE := Lib.hid e; clear e hne hl hl'
    go_enter Tryd.func35, Tryd.ntmps35
    go_wp2
    go_ret
    rw [HE.out]
    exact ⟨rfl, 0, rfl⟩

set_option maxHeartbeats 400000 in
theorem texts_any (A : Option Addr) (n c : Nat) (w : World) : Calls Tryd.prog 32 #[.slice A n c] w fun e w' => e = .returned (.slice A n c) ∧ w' = w := by
  go_enter Tryd.func32, Tryd.ntmps32
  go_wp2
  go_ret
  exact ⟨rfl, rfl⟩
set_option maxHeartbeats 400000 in
theorem list_any (A : Option Addr) (n c : Nat) (w : World) : Calls Tryd.prog 34 #[.slice A n c] w fun e w' => e = .returned (.slice A n c) ∧ w' = w := by
  go_enter Tryd.func34, Tryd.ntmps34
  go_wp2
  go_ret
  exact ⟨rfl, rfl⟩
end Go.Proofs.YtlbepjmiligpcaaDoor
