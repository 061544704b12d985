/-
  The walks of package short's checks (Check, checkAll): each returns what the plain Lean function says.
-/
import Derived.Test.YtlbepjmiligpcaaDoorLeft
import Derived.Sort.EncStr
set_option linter.unusedSimpArgs false
set_option linter.unusedVariables false
namespace Go.Proofs.YtlbepjmiligpcaaDoor
open Go.RowKit Go.Proofs.Short

/-- A slice value with n elements of one cell each, which hold xs; below the heap's size. -/
def Rd (w : World) (A : Option Addr) (n : Nat) (xs : List Value) : Prop :=
  xs.length = n ∧ (0 < n → ∃ b o, A = some ⟨b, o, none⟩ ∧ b < w.heap.size ∧ ∀ j, j < n → w.cell? ⟨b, o + j, none⟩ = some (xs.getD j (.bool false)))
theorem Rd.below {w w' : World} {A : Option Addr} {n : Nat} {xs : List Value} (h : Rd w A n xs) (hb : Below w.heap.size w w') : Rd w' A n xs := by
  refine ⟨h.1, fun hn => ?_⟩
  obtain ⟨b, o, rfl, hlt, hc⟩ := h.2 hn
  exact ⟨b, o, rfl, Nat.lt_of_lt_of_le hlt hb.size, fun j hj => (hb.cell (p := ⟨b, o + j, none⟩) hlt).trans (hc j hj)⟩
theorem Rd.drewN {w : World} {A : Option Addr} {n : Nat} {xs : List Value} (h : Rd w A n xs) (k : Nat) : Rd (w.drewN k) A n xs := h

theorem chk_long {l : List UInt8} (h : 10 < l.length) : chk l = 19 := by unfold chk; rw [if_pos h]
theorem chk_all {l : List UInt8} (h : ¬ 10 < l.length) : chk l = if l.all okc then 0 else 10 := by unfold chk; rw [if_neg h]
theorem all_step {s : ByteArray} {k : Nat} (hk : k < s.size) : (s.data.toList.drop k).all okc = (okc s[k] && (s.data.toList.drop (k + 1)).all okc) := by
  rw [drop_at _ k (by simpa using hk), List.all_cons]; rfl

set_option maxHeartbeats 400000 in
theorem check_any (s : ByteArray) (w : World) (hs : s.size ≤ maxLen) :
    Calls Tryd.prog 22 #[.string s] w fun e w' => e = .returned (.int .i64 (chk s.data.toList)) ∧ Below w.heap.size w w' := by
  unfold maxLen at hs
  have hlen : s.data.toList.length = s.size := by simp
  by_cases h10 : 10 < s.size
  · have hc := chk_long (l := s.data.toList) (by simpa using h10)
    have HC := Lib.hid hc; clear hc hlen
    go_enter Tryd.func22, Tryd.ntmps22
    go_wp2
    go_ret
    exact ⟨ret_int HC.out.symm, Below.refl _ _⟩
  · have hc := chk_all (l := s.data.toList) (by simpa using h10)
    have HC := Lib.hid hc; clear hc hlen
    go_enter Tryd.func22, Tryd.ntmps22
    go_wp2
    go_loopw [4] (fun _ wr => ∃ (pos : Nat), pos ≤ s.size ∧ wr = w.iter s pos ∧ Hid ((s.data.toList.drop pos).all okc = s.data.toList.all okc)) (fun _ w' => s.size - w'.iterPos w.heap.size)
    case atStart => exact ⟨0, Nat.zero_le _, rfl, rfl⟩
    case round =>
      obtain ⟨pos, hpos, rfl, hl⟩ := hrel
      by_cases hp : pos < s.size
      · have hst := all_step hp
        by_cases ha : (s[pos]'hp).toNat < 128
        · have hnx : ∀ ty, (Instr.next (.pointer (some ⟨w.heap.size, 0, none⟩)) true ty).run Tryd.prog (w.iter s pos) = _ := fun ty => run_next_ascii w s pos ty hp ha
          have HST := Lib.hid hst; clear hst
          by_cases hok : 97 ≤ (s[pos]'hp).toNat ∧ (s[pos]'hp).toNat ≤ 102
          · have hk : okc s[pos] = true := by unfold okc; simpa using hok
            have HK := Lib.hid hk; clear hk
            obtain ⟨hk1, hk2⟩ := hok
            go_wp2
            go_roundw
            case rel => exact ⟨pos + 1, by omega, rfl, by rw [← hl.out, HST.out, HK.out, Bool.true_and]; rfl⟩
            case measure => simp; omega
          · have hk : okc s[pos] = false := by unfold okc; simpa using hok
            have HK := Lib.hid hk; clear hk
            have hz : s.data.toList.all okc = false := by rw [← hl.out, HST.out, HK.out, Bool.false_and]
            have HZ := Lib.hid hz; clear hz
            by_cases h1 : (s[pos]'hp).toNat < 97
            · go_wp2
              go_ret
              exact ⟨ret_int (by rw [HC.out, HZ.out]; rfl), (Below.refl _ _).alloc (Nat.le_refl _) _⟩
            · have h2 : 102 < (s[pos]'hp).toNat := by omega
              clear hok
              go_wp2
              go_ret
              exact ⟨ret_int (by rw [HC.out, HZ.out]; rfl), (Below.refl _ _).alloc (Nat.le_refl _) _⟩
        · have hnx : ∀ ty, (Instr.next (.pointer (some ⟨w.heap.size, 0, none⟩)) true ty).run Tryd.prog (w.iter s pos) = _ := fun ty => run_next_any w s pos ty hp
          have hd := (decode_high s pos hp (by omega)).1
          have hk : okc s[pos] = false := by unfold okc; simp; omega
          have hz : s.data.toList.all okc = false := by rw [← hl.out, hst, hk, Bool.false_and]
          have HZ := Lib.hid hz; clear hz hk hst
          go_wp2
          go_ret
          exact ⟨ret_int (by rw [HC.out, HZ.out]; rfl), (Below.refl _ _).alloc (Nat.le_refl _) _⟩
      · have hnx : ∀ ty, (Instr.next (.pointer (some ⟨w.heap.size, 0, none⟩)) true ty).run Tryd.prog (w.iter s pos) = _ := fun ty => run_next_end w s pos ty hp
        have hz : s.data.toList.all okc = true := by rw [← hl.out, List.drop_eq_nil_of_le (by simp; omega)]; rfl
        have HZ := Lib.hid hz; clear hz
        go_wp2
        go_ret
        exact ⟨ret_int (by rw [HC.out, HZ.out]; rfl), (Below.refl _ _).alloc (Nat.le_refl _) _⟩

theorem check_l (x : List UInt8) (w : World) (hs : x.length ≤ maxLen) :
    Calls Tryd.prog 22 #[.string ⟨x.toArray⟩] w fun e w' => e = .returned (.int .i64 (chk x)) ∧ Below w.heap.size w w' :=
  check_any ⟨x.toArray⟩ w (by simpa [ByteArray.size] using hs)

theorem getD_lt {α : Type} (l : List α) (k : Nat) (d : α) (h : k < l.length) : l.getD k d = l[k] := by rw [List.getD_eq_getElem?_getD, List.getElem?_eq_getElem h]; rfl
theorem chks_step {ws : List (List UInt8)} {k : Nat} (hk : k < ws.length) : chks (ws.drop k) = if chk (ws.getD k []) = 0 then chks (ws.drop (k + 1)) else chk (ws.getD k []) := by
  rw [List.drop_eq_getElem_cons hk, getD_lt _ _ _ hk]; rfl
theorem getD_map_encStr (ws : List (List UInt8)) (k : Nat) (hk : k < ws.length) (d : Value) : (ws.map encStr).getD k d = .string ⟨(ws.getD k []).toArray⟩ := by
  rw [getD_lt _ _ _ (by simpa using hk), List.getElem_map, getD_lt _ _ _ hk]

set_option maxHeartbeats 400000 in
theorem checkAll_any (A : Option Addr) (n c : Nat) (ws : List (List UInt8)) (w : World) (h : Rd w A n (ws.map encStr)) (hn : n ≤ maxLen) (hl : ∀ x ∈ ws, x.length ≤ maxLen) :
    Calls Tryd.prog 21 #[.slice A n c] w fun e w' => e = .returned (.int .i64 (chks ws)) ∧ Below w.heap.size w w' := by
  unfold maxLen at hn
  have hlen : ws.length = n := by simpa using h.1
  have HL := Lib.hid hlen; clear hlen
  go_enter Tryd.func21, Tryd.ntmps21
  go_wp2
  go_loopw [8] (fun i wr => ∃ (k : Nat), k ≤ n ∧ i = .int .i64 k ∧ Below w.heap.size w wr ∧ Hid (chks (ws.drop k) = chks ws)) (fun i _ => n - (intOf i).toNat)
  case atStart => exact ⟨0, Nat.zero_le _, rfl, Below.refl _ _, rfl⟩
  case round =>
    obtain ⟨k, hk, rfl, hb, hr⟩ := hrel
    by_cases h1 : k < n
    · obtain ⟨b, o, rfl, hlt, hc⟩ := (h.below hb).2 (by omega)
      have hck := hc k h1
      rw [getD_map_encStr ws k (by have := HL.out; omega)] at hck
      have hmx : (ws.getD k []).length ≤ maxLen := by
        rw [getD_lt _ _ _ (by have := HL.out; omega)]; exact hl _ (List.getElem_mem _)
      have hst := chks_step (ws := ws) (k := k) (by have := HL.out; omega)
      have HST := Lib.hid hst; clear hst hc
      generalize ws.getD k [] = x at hck hmx HST
      by_cases hz : chk x = 0
      · have hz2 : (chk x != 0) = false := by simp [hz]
        have HZ := Lib.hid hz; clear hz
        go_wp2_with (go_at_call 22; refine (check_l _ _ hmx).mono ?_; rintro e w1 ⟨rfl, hb1⟩)
        go_roundw
        case rel => exact ⟨k + 1, by omega, by go_num, hb.trans (hb1.mono hb.size), by rw [← hr.out, HST.out, if_pos HZ.out]; rfl⟩
        case measure => simp [intOf]; omega
      · have hz2 : (chk x != 0) = true := by simp [hz]
        have HZ := Lib.hid hz; clear hz
        go_wp2_with (go_at_call 22; refine (check_l _ _ hmx).mono ?_; rintro e w1 ⟨rfl, hb1⟩)
        go_ret
        exact ⟨ret_int (by rw [← hr.out, HST.out, if_neg HZ.out]), hb.trans (hb1.mono hb.size)⟩
    · have hz : chks ws = 0 := by rw [← hr.out, List.drop_eq_nil_of_le (by have := HL.out; omega)]; rfl
      have HZ := Lib.hid hz; clear hz
      go_wp2
      go_ret
      exact ⟨ret_int HZ.out.symm, hb⟩
end Go.Proofs.YtlbepjmiligpcaaDoor
