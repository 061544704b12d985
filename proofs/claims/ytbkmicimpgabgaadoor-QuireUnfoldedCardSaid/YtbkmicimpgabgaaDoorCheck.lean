/-
  Package quire's checks: texts of two letters.
-/
import Derived.Test.YtbkmicimpgabgaaDoorOwn
import Derived.Test.YtbkmicimpgabgaaDoorMath
set_option linter.unusedSimpArgs false
set_option linter.unusedVariables false
namespace Go.Proofs.YtbkmicimpgabgaaDoor
open Go.RowKit Go.Lib Go.Proofs.Quire

theorem lit_eq (a b : UInt8) : ((a.toNat : Int) != (b.toNat : Int)) = !(a == b) := by
  rw [Bool.eq_iff_iff]; simp only [bne_iff_ne, Bool.not_eq_true', beq_eq_false_iff_ne]
  exact ⟨fun h e => h (by rw [e]), fun h e => h (UInt8.toNat_inj.1 (by omega))⟩
theorem chk_long {m : Nat} {a b : UInt8} {l : List UInt8} (h : m < l.length) : chkL m a b l = 19 := by unfold chkL; rw [if_pos h]
theorem chk_all {m : Nat} {a b : UInt8} {l : List UInt8} (h : ¬ m < l.length) : chkL m a b l = if l.all (fun c => c == a || c == b) then 0 else 10 := by unfold chkL; rw [if_neg h]
theorem all_step {s : ByteArray} {k : Nat} (hk : k < s.size) (f : UInt8 → Bool) : (s.data.toList.drop k).all f = (f s[k] && (s.data.toList.drop (k + 1)).all f) := by
  rw [List.drop_eq_getElem_cons (by simpa using hk), List.all_cons]; rfl

set_option maxRecDepth 100000 in
set_option maxHeartbeats 1000000 in
theorem checkLetters_any (s : ByteArray) (m : Nat) (a b : UInt8) (w : World) (hs : s.size ≤ maxLen) (hm : m ≤ 1000) (ha : a.toNat < 128) (hb : b.toNat < 128) :
    Calls Tryd.prog 41 #[.string s, .int .i64 m, .int .i32 a.toNat, .int .i32 b.toNat] w fun e w' => e = .returned (.int .i64 (chkL m a b s.data.toList)) ∧ Below w.heap.size w w' := by
  unfold maxLen at hs
  have hlen : s.data.toList.length = s.size := by simp
  by_cases h10 : m < s.size
  · have hc := chk_long (m := m) (a := a) (b := b) (l := s.data.toList) (by simpa using h10)
    have HC := Lib.hid hc; clear hc hlen
    go_enter Tryd.func41, Tryd.ntmps41
    go_wp2
    go_ret
    exact ⟨ret_int HC.out.symm, Below.refl _ _⟩
  · have hc := chk_all (m := m) (a := a) (b := b) (l := s.data.toList) (by simpa using h10)
    have HC := Lib.hid hc; clear hc hlen
    generalize hf : (fun c => c == a || c == b) = f at HC
    have HF := Lib.hid hf; clear hf
    go_enter Tryd.func41, Tryd.ntmps41
    go_wp2
    go_loopw [10] (fun _ wr => ∃ (pos : Nat), pos ≤ s.size ∧ wr = w.iter s pos ∧ Hid ((s.data.toList.drop pos).all f = s.data.toList.all f)) (fun _ w' => s.size - w'.iterPos w.heap.size)
    case atStart => exact ⟨0, Nat.zero_le _, rfl, rfl⟩
    case round =>
      obtain ⟨pos, hpos, rfl, hl⟩ := hrel
      by_cases hp : pos < s.size
      · have hst := all_step hp f
        by_cases hx : (s[pos]'hp).toNat < 128
        · have hnx : ∀ ty, (Instr.next (.pointer (some ⟨w.heap.size, 0, none⟩)) true ty).run Tryd.prog (w.iter s pos) = _ := fun ty => run_next_ascii w s pos ty hp hx
          have HST := Lib.hid hst; clear hst
          have hea := lit_eq s[pos] a
          have heb := lit_eq s[pos] b
          have hfx : Hid (f s[pos] = (s[pos] == a || s[pos] == b)) := by show _ = _; rw [← HF.out]
          cases h1 : (s[pos] == a) with
          | true =>
            rw [h1] at hea hfx
            have HE : Hid ((s.data.toList.drop (pos + 1)).all f = s.data.toList.all f) := by show _ = _; rw [← hl.out, HST.out, hfx.out]; rfl
            clear heb hfx h1
            go_wp2
            go_roundw
            case rel => exact ⟨pos + 1, by omega, rfl, HE⟩
            case measure => simp; omega
          | false =>
            rw [h1] at hea hfx
            cases h2 : (s[pos] == b) with
            | true =>
              rw [h2] at heb hfx
              have HE : Hid ((s.data.toList.drop (pos + 1)).all f = s.data.toList.all f) := by show _ = _; rw [← hl.out, HST.out, hfx.out]; rfl
              clear hfx h1 h2
              go_wp2
              go_roundw
              case rel => exact ⟨pos + 1, by omega, rfl, HE⟩
              case measure => simp; omega
            | false =>
              rw [h2] at heb hfx
              have HZ : Hid (s.data.toList.all f = false) := by show _ = _; rw [← hl.out, HST.out, hfx.out]; rfl
              clear hfx h1 h2
              go_wp2
              go_ret
              exact ⟨ret_int (by rw [HC.out, HZ.out]; rfl), (Below.refl _ _).alloc (Nat.le_refl _) _⟩
        · have hnx : ∀ ty, (Instr.next (.pointer (some ⟨w.heap.size, 0, none⟩)) true ty).run Tryd.prog (w.iter s pos) = _ := fun ty => run_next_any w s pos ty hp
          have hd := (decode_high s pos hp (by omega)).1
          have h1 : (((Utf8.decode s pos).1 : Int) != (a.toNat : Int)) = true := by simp; omega
          have h2 : (((Utf8.decode s pos).1 : Int) != (b.toNat : Int)) = true := by simp; omega
          have hk : f s[pos] = false := by
            rw [← HF.out]; simp only [Bool.or_eq_false_iff, beq_eq_false_iff_ne]
            exact ⟨fun e => by rw [e] at hx; omega, fun e => by rw [e] at hx; omega⟩
          have HZ : Hid (s.data.toList.all f = false) := by show _ = _; rw [← hl.out, hst, hk]; rfl
          clear hk hst hd
          go_wp2
          go_ret
          exact ⟨ret_int (by rw [HC.out, HZ.out]; rfl), (Below.refl _ _).alloc (Nat.le_refl _) _⟩
      · have hnx : ∀ ty, (Instr.next (.pointer (some ⟨w.heap.size, 0, none⟩)) true ty).run Tryd.prog (w.iter s pos) = _ := fun ty => run_next_end w s pos ty hp
        have HZ : Hid (s.data.toList.all f = true) := by show _ = _; rw [← hl.out, List.drop_eq_nil_of_le (by simp; omega)]; rfl
        go_wp2
        go_ret
        exact ⟨ret_int (by rw [HC.out, HZ.out]; rfl), (Below.refl _ _).alloc (Nat.le_refl _) _⟩
theorem check_any (s : ByteArray) (w : World) (hs : s.size ≤ maxLen) :
    Calls Tryd.prog 17 #[.string s] w fun e w' => e = .returned (.int .i64 (chkL 6 111 117 s.data.toList)) ∧ Below w.heap.size w w' := by
  have h := fun W => checkLetters_any s 6 111 117 W hs (by decide) (by decide) (by decide)
  simp only [show ((6 : Nat) : Int) = 6 from rfl, show ((111 : UInt8).toNat : Int) = 111 from rfl, show ((117 : UInt8).toNat : Int) = 117 from rfl] at h
  go_enter Tryd.func17, Tryd.ntmps17
  go_wp2_with (fail)
  refine (h _).mono ?_; rintro e w1 ⟨rfl, hb⟩
  go_wp2_with (fail)
  go_ret
  exact ⟨rfl, hb⟩
theorem checkCreases_any (s : ByteArray) (w : World) (hs : s.size ≤ maxLen) :
    Calls Tryd.prog 54 #[.string s] w fun e w' => e = .returned (.int .i64 (chkL 63 118 104 s.data.toList)) ∧ Below w.heap.size w w' := by
  have h := fun W => checkLetters_any s 63 118 104 W hs (by decide) (by decide) (by decide)
  simp only [show ((63 : Nat) : Int) = 63 from rfl, show ((118 : UInt8).toNat : Int) = 118 from rfl, show ((104 : UInt8).toNat : Int) = 104 from rfl] at h
  go_enter Tryd.func54, Tryd.ntmps54
  go_wp2_with (fail)
  refine (h _).mono ?_; rintro e w1 ⟨rfl, hb⟩
  go_wp2_with (fail)
  go_ret
  exact ⟨rfl, hb⟩
end Go.Proofs.YtbkmicimpgabgaaDoor
