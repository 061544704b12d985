/-
  The walks of package short's Parts (its errors), Apart, Alike and Short, out of what partsOf returns (a premise here).
-/
import Derived.Test.YtlbepjmiligpcaaDoorParts
set_option linter.unusedSimpArgs false
set_option linter.unusedVariables false
namespace Go.Proofs.YtlbepjmiligpcaaDoor
open Go.RowKit Go.Proofs.Short Go.Lib

set_option maxHeartbeats 400000 in
theorem parts_chk (x : List UInt8) (n : Int) (w : World) (hx : x.length ≤ maxLen) (hz : chk x ≠ 0) :
    Calls Tryd.prog 27 #[.string ⟨x.toArray⟩, .int .i64 n] w fun e w' => e = .returned (.tuple #[.slice none 0 0, .int .i64 (chk x)]) ∧ Below w.heap.size w w' := by
  have hz2 : (chk x != 0) = true := by simp [hz]
  clear hz
  go_enter Tryd.func27, Tryd.ntmps27
  go_wp2_with (go_at_call 22; refine (check_l x _ hx).mono ?_; rintro e w1 ⟨rfl, hb1⟩)
  go_ret2
  exact ⟨rfl, hb1⟩
set_option maxHeartbeats 400000 in
theorem parts_range (x : List UInt8) (n : Int) (w : World) (hz : chk x = 0) (hn : n < 0 ∨ (x.length : Int) < n) :
    Calls Tryd.prog 27 #[.string ⟨x.toArray⟩, .int .i64 n] w fun e w' => e = .returned (.tuple #[.slice none 0 0, .int .i64 1]) ∧ Below w.heap.size w w' := by
  have h10 := chk_zero hz
  have hmx : x.length ≤ maxLen := by unfold maxLen; omega
  have hz2 : (chk x != 0) = false := by simp [hz]
  clear hz h10
  rcases hn with h | h
  · go_enter Tryd.func27, Tryd.ntmps27
    go_wp2_with (go_at_call 22; refine (check_l x _ hmx).mono ?_; rintro e w1 ⟨rfl, hb1⟩)
    go_ret2
    exact ⟨rfl, hb1⟩
  · go_enter Tryd.func27, Tryd.ntmps27
    go_wp2_with (go_at_call 22; refine (check_l x _ hmx).mono ?_; rintro e w1 ⟨rfl, hb1⟩)
    all_goals (go_ret2; exact ⟨rfl, hb1⟩)

theorem parts_two_at (hP : PartsOfSaid) (x y : List UInt8) (hx : x.length ≤ 10 ∧ x.all okc = true) (hy : y.length ≤ 10 ∧ y.all okc = true) (w : World) (t : TypeId) (B : Nat) (hB : w.heap.size = B) :
    Calls Tryd.prog 23 #[.slice (some ⟨B, 0, none⟩) 2 2] (w.alloc (.cells #[.string ⟨x.toArray⟩, .string ⟨y.toArray⟩] t)) fun e w' => ∃ A c, e = .returned (.slice A (partsL [x, y]).length c) ∧ w'.ownsRow w.heap.size 9 1 (.slice A (partsL [x, y]).length c) (partsL [x, y]).length ((partsL [x, y]).map encStr) ∧ Below w.heap.size w w' := by
  subst hB
  exact (hP (some ⟨w.heap.size, 0, none⟩) 2 2 [x, y] _ (rd_two w x y t) (by decide) (by decide) (fun z hz => by rcases List.mem_cons.1 hz with rfl | hz; exact hx; rw [List.mem_singleton.1 hz]; exact hy)).mono fun _ _ ⟨A, c, he, ho, hB⟩ =>
    ⟨A, c, he, ⟨ho.1, ho.2.imp id fun ⟨g, cap, cur, hv, hg, r⟩ => ⟨g, cap, cur, hv, by simp at hg; omega, r⟩⟩, ((Below.refl _ _).alloc (Nat.le_refl _) _).trans (hB.mono (by simp))⟩

theorem find_drop {α : Type} {P : α → Bool} {l : List α} {k : Nat} (d : α) (hk : k < l.length) : (l.drop k).find? P = if P (l.getD k d) then some (l.getD k d) else (l.drop (k + 1)).find? P := by
  rw [List.drop_eq_getElem_cons hk, List.find?_cons, getD_lt _ _ _ hk]
  cases P l[k] <;> rfl

def optV (r : Option (List UInt8)) (err : Int) : Value := .tuple #[.string ⟨(r.getD []).toArray⟩, .int .i64 (if r.isSome then 0 else err)]
theorem bne_bool (a b : Bool) : (a != b) = (a ^^ b) := by cases a <;> cases b <;> rfl

set_option maxRecDepth 100000 in
set_option maxHeartbeats 1000000 in
theorem apart_ok (hP : PartsOfSaid) (a b : List UInt8) (w : World) (hz : chks [a, b] = 0) :
    Calls Tryd.prog 29 #[.string ⟨a.toArray⟩, .string ⟨b.toArray⟩] w fun e w' => e = .returned (optV (apartL a b) 13) ∧ Below w.heap.size w w' := by
  obtain ⟨ha10, hb10⟩ := chks_two hz
  have hla := ha10.1; have hlb := hb10.1
  have ha : a.length ≤ maxLen := by unfold maxLen; omega
  have hb : b.length ≤ maxLen := by unfold maxLen; omega
  have hz2 : (chks [a, b] != 0) = false := by simp [hz]
  have HZ := Lib.hid hz; have HA := Lib.hid ha10; have HB := Lib.hid hb10; clear hz ha10 hb10
  have hple : ∀ p ∈ partsL [a, b], p.length ≤ 10 := parts_le (ws := [a, b]) (by simp; exact ⟨hla, hlb⟩)
  have hpl : (partsL [a, b]).length ≤ 2048 := by simpa using partsL_length [a, b] (by simp; exact ⟨hla, hlb⟩)
  have hpp := partsL_pos [a, b] (by simp)
  obtain ⟨r, hr⟩ : ∃ r, Hid (apartL a b = r) := ⟨_, rfl⟩
  rw [hr.out]
  obtain ⟨P, HP⟩ : ∃ P : List UInt8 → Bool, Hid (P = fun p => leftL a p != leftL b p) := ⟨_, rfl⟩
  have hfr : Hid ((partsL [a, b]).find? P = r) := by rw [HP.out]; exact hr.out
  have HPLE := Lib.hid hple; clear hple hr
  go_enter Tryd.func29, Tryd.ntmps29
  go_wp2_with (first
      | (go_at_call 21; refine (checkTwo a b _ _ ha hb).mono ?_; rintro e w1 ⟨rfl, hb1⟩)
      | (go_at_call 23; refine (parts_two_at hP a b HA.out HB.out _ _ _ rfl).mono ?_; rintro e w2 ⟨A, c, rfl, hown, hb2⟩))
  obtain ⟨g, o, rfl, hat⟩ := (rd_own hown).at hpp
  have hbA : Below w.heap.size w w2 := hb1.trans (hb2.mono hb1.size)
  have hple := HPLE.out; clear HPLE
  generalize partsL [a, b] = ps at hown hat hple hpl hpp hfr ⊢
  have HPLE := Lib.hid hple; clear hple
  clear hown hb2
  go_loopw [21] (fun i wr => ∃ (k : Nat), k ≤ ps.length ∧ i = .int .i64 k ∧ RdAt wr g o ps.length (ps.map encStr) ∧ Hid ((ps.drop k).find? P = r) ∧ Below w.heap.size w wr)
    (fun i _ => ps.length - (intOf i).toNat)
  case atStart => exact ⟨0, Nat.zero_le _, rfl, hat, hfr, hbA⟩
  case round =>
    obtain ⟨k, hk, rfl, hrd, hf, hbr⟩ := hrel
    by_cases hlt : k < ps.length
    · have hcell := hrd.str hlt rfl
      have hst := find_drop (P := P) (l := ps) [] hlt
      have hle : (ps.getD k []).length ≤ maxLen := by
        have := HPLE.out (ps.getD k []) (by rw [getD_lt _ _ _ hlt]; exact List.getElem_mem _)
        unfold maxLen; omega
      have HST := Lib.hid hst; clear hst
      generalize ps.getD k [] = y at hcell hle HST
      have hPy : P y = (leftL a y != leftL b y) := by rw [HP.out]
      have HPY := Lib.hid hPy; clear hPy
      go_wp2_with (go_at_call 36; refine (left_l _ _ _ (by assumption) (by assumption)).mono ?_; rintro e w3 ⟨rfl, q, rfl⟩)
      · have hc : (!leftL a y == leftL b y) = true := by assumption
        have hpt : P y = true := HPY.out.trans hc
        have hr : r = some y := by rw [← hf.out, HST.out, if_pos hpt]
        go_ret2
        rw [hr]
        exact ⟨rfl, below_drewN hbr _⟩
      · have hc : (!leftL a y == leftL b y) = false := by assumption
        have hpt : ¬ P y = true := by rw [HPY.out]; exact fun h => by rw [show (leftL a y != leftL b y) = false from hc] at h; exact absurd h (by decide)
        have hr : (ps.drop (k + 1)).find? P = r := by rw [← hf.out, HST.out, if_neg hpt]
        exact ⟨⟨k + 1, by omega, by go_num, hrd, hr, below_drewN hbr _⟩, by simp [intOf]; omega⟩
    · have hr : r = none := by rw [← hf.out, List.drop_eq_nil_of_le (by omega)]; rfl
      have HR := Lib.hid hr; clear hr
      go_wp2
      go_ret2
      rw [HR.out]
      exact ⟨rfl, hbr⟩

set_option maxHeartbeats 400000 in
theorem apart_chk (a b : List UInt8) (w : World) (ha : a.length ≤ maxLen) (hb : b.length ≤ maxLen) (hz : chks [a, b] ≠ 0) :
    Calls Tryd.prog 29 #[.string ⟨a.toArray⟩, .string ⟨b.toArray⟩] w fun e w' => e = .returned (.tuple #[.string ⟨#[]⟩, .int .i64 (chks [a, b])]) ∧ Below w.heap.size w w' := by
  have hz2 : (chks [a, b] != 0) = true := by simp [hz]
  clear hz
  go_enter Tryd.func29, Tryd.ntmps29
  go_wp2_with (go_at_call 21; refine (checkTwo a b _ _ ha hb).mono ?_; rintro e w1 ⟨rfl, hb1⟩)
  go_ret2
  exact ⟨rfl, hb1⟩

/-! ### Alike -/
def alikeL (a b : List UInt8) (most : Int) : Bool := match apartL a b with
  | none => true
  | some p => decide (most < p.length)
set_option maxHeartbeats 400000 in
theorem alike_chk (a b : List UInt8) (most : Int) (w : World) (ha : a.length ≤ maxLen) (hb : b.length ≤ maxLen) (hz : chks [a, b] ≠ 0) :
    Calls Tryd.prog 30 #[.string ⟨a.toArray⟩, .string ⟨b.toArray⟩, .int .i64 most] w fun e w' => e = .returned (.tuple #[.bool false, .int .i64 (chks [a, b])]) ∧ Below w.heap.size w w' := by
  have hz2 : (chks [a, b] != 0) = true := by simp [hz]
  clear hz
  go_enter Tryd.func30, Tryd.ntmps30
  go_wp2_with (go_at_call 21; refine (checkTwo a b _ _ ha hb).mono ?_; rintro e w1 ⟨rfl, hb1⟩)
  go_ret2
  exact ⟨rfl, hb1⟩
set_option maxHeartbeats 400000 in
theorem alike_range (a b : List UInt8) (most : Int) (w : World) (hz : chks [a, b] = 0) (hm : most < 0 ∨ 10 < most) :
    Calls Tryd.prog 30 #[.string ⟨a.toArray⟩, .string ⟨b.toArray⟩, .int .i64 most] w fun e w' => e = .returned (.tuple #[.bool false, .int .i64 1]) ∧ Below w.heap.size w w' := by
  obtain ⟨ha10, hb10⟩ := chks_two hz
  have ha : a.length ≤ maxLen := by have := ha10.1; unfold maxLen; omega
  have hb : b.length ≤ maxLen := by have := hb10.1; unfold maxLen; omega
  have hz2 : (chks [a, b] != 0) = false := by simp [hz]
  clear hz ha10 hb10
  rcases hm with h | h
  all_goals
    go_enter Tryd.func30, Tryd.ntmps30
    go_wp2_with (go_at_call 21; refine (checkTwo a b _ _ ha hb).mono ?_; rintro e w1 ⟨rfl, hb1⟩)
    all_goals (go_ret2; exact ⟨rfl, hb1⟩)
set_option maxHeartbeats 400000 in
theorem alike_ok (hP : PartsOfSaid) (a b : List UInt8) (most : Int) (w : World) (hz : chks [a, b] = 0) (h0 : 0 ≤ most) (h1 : most ≤ 10) :
    Calls Tryd.prog 30 #[.string ⟨a.toArray⟩, .string ⟨b.toArray⟩, .int .i64 most] w fun e w' => e = .returned (.tuple #[.bool (alikeL a b most), .int .i64 0]) ∧ Below w.heap.size w w' := by
  obtain ⟨ha10, hb10⟩ := chks_two hz
  have ha : a.length ≤ maxLen := by have := ha10.1; unfold maxLen; omega
  have hb : b.length ≤ maxLen := by have := hb10.1; unfold maxLen; omega
  have hz2 : (chks [a, b] != 0) = false := by simp [hz]
  have HZ := Lib.hid hz; clear hz ha10 hb10
  cases hr : apartL a b with
  | none =>
    have hc := fun W => apart_ok hP a b W HZ.out
    rw [hr] at hc
    have ha : alikeL a b most = true := by unfold alikeL; rw [hr]
    rw [ha]
    clear hr ha
    go_enter Tryd.func30, Tryd.ntmps30
    go_wp2_with (first
      | (go_at_call 21; refine (checkTwo a b _ _ (by assumption) (by assumption)).mono ?_; rintro e w1 ⟨rfl, hb1⟩)
      | (go_at_call 29; refine (hc _).mono ?_; rintro e w2 ⟨rfl, hb2⟩; unfold optV))
    go_ret2
    exact ⟨rfl, hb1.trans (hb2.mono hb1.size)⟩
  | some p =>
    have hc := fun W => apart_ok hP a b W HZ.out
    rw [hr] at hc
    have hal : alikeL a b most = decide (most < p.length) := by unfold alikeL; rw [hr]
    rw [hal]
    clear hr hal
    go_enter Tryd.func30, Tryd.ntmps30
    go_wp2_with (first
      | (go_at_call 21; refine (checkTwo a b _ _ (by assumption) (by assumption)).mono ?_; rintro e w1 ⟨rfl, hb1⟩)
      | (go_at_call 29; refine (hc _).mono ?_; rintro e w2 ⟨rfl, hb2⟩; unfold optV))
    go_ret2
    exact ⟨rfl, hb1.trans (hb2.mono hb1.size)⟩
end Go.Proofs.YtlbepjmiligpcaaDoor
