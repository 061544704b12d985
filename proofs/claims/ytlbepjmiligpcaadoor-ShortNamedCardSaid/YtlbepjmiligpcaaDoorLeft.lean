/-
  The walks of package short's plain functions (Left, Check, checkAll ..): each returns what the plain Lean function says.
-/
import Derived.Test.YtlbepjmiligpcaaDoorMath
import Derived.Test.YtlbepjmiligpcaaDoorProg
import Derived.WalkKit
import Derived.WalkSpells
import Derived.WalkLawsBesides
import Derived.Deep.QuietTactic
import Derived.BigQuiet
import Derived.Lib.Hide
set_option linter.unusedSimpArgs false
set_option linter.unusedVariables false
namespace Go.Proofs.YtlbepjmiligpcaaDoor
open Go.RowKit Go.Proofs.Short

theorem drop_at (l : List UInt8) (k : Nat) (h : k < l.length) : l.drop k = l[k] :: l.drop (k + 1) := List.drop_eq_getElem_cons h

theorem left_step {s p : List UInt8} {k n : Nat} (hk : k < s.length) (hn : n < p.length) :
    leftL (s.drop k) (p.drop n) = if s[k] = p[n] then leftL (s.drop (k + 1)) (p.drop (n + 1)) else leftL (s.drop (k + 1)) (p.drop n) := by
  rw [drop_at s k hk, drop_at p n hn]
  conv => lhs; unfold leftL
theorem left_done {s p : List UInt8} {k n : Nat} (hn : n = p.length) : leftL (s.drop k) (p.drop n) = true := by
  subst hn; rw [List.drop_length]; exact leftL_nil _
theorem left_out {s p : List UInt8} {k n : Nat} (hk : k = s.length) (hn : n < p.length) : leftL (s.drop k) (p.drop n) = false := by
  subst hk; rw [List.drop_length, drop_at p n hn]; rfl

theorem byte_beq (a b : UInt8) : ((a.toNat : Int) == (b.toNat : Int)) = (a == b) := by
  rw [Bool.eq_iff_iff]; simp only [beq_iff_eq]
  constructor
  · intro h; exact UInt8.toNat_inj.1 (by omega)
  · rintro rfl; rfl
theorem left_step_t {s p : ByteArray} {k n : Nat} (hk : k < s.size) (hn : n < p.size) (h : ((s[k].toNat : Int) == (p[n].toNat : Int)) = true) :
    leftL (s.data.toList.drop k) (p.data.toList.drop n) = leftL (s.data.toList.drop (k + 1)) (p.data.toList.drop (n + 1)) := by
  rw [left_step (by simpa using hk) (by simpa using hn), if_pos]
  rw [byte_beq, beq_iff_eq] at h; exact h
theorem left_step_f {s p : ByteArray} {k n : Nat} (hk : k < s.size) (hn : n < p.size) (h : ((s[k].toNat : Int) == (p[n].toNat : Int)) = false) :
    leftL (s.data.toList.drop k) (p.data.toList.drop n) = leftL (s.data.toList.drop (k + 1)) (p.data.toList.drop n) := by
  rw [left_step (by simpa using hk) (by simpa using hn), if_neg]
  rw [byte_beq, beq_eq_false_iff_ne] at h; exact h
theorem ret_bool {a b : Bool} (h : a = b) : Ending.returned (.bool a) = .returned (.bool b) := by rw [h]
theorem ret_int {k : IntKind} {a b : Int} (h : a = b) : Ending.returned (.int k a) = .returned (.int k b) := by rw [h]

set_option maxHeartbeats 400000 in
theorem left_any (s p : ByteArray) (w : World) (hs : s.size ≤ maxLen) (hp : p.size ≤ maxLen) :
    Calls Tryd.prog 36 #[.string s, .string p] w fun e w' => e = .returned (.bool (leftL s.data.toList p.data.toList)) ∧ ∃ n, w' = w.drewN n := by
  unfold maxLen at hs hp
  go_enter Tryd.func36, Tryd.ntmps36
  go_wp2
  go_loopw [5, 6] (fun f i wr => ∃ (k n m : Nat), k ≤ s.size ∧ n ≤ p.size ∧ i = .int .i64 k ∧ f = .int .i64 n ∧ wr = w.drewN m ∧ Hid (leftL (s.data.toList.drop k) (p.data.toList.drop n) = leftL s.data.toList p.data.toList)) (fun _ i _ => s.size - (intOf i).toNat)
  case atStart => exact ⟨0, 0, 0, Nat.zero_le _, Nat.zero_le _, rfl, rfl, rfl, rfl⟩
  case round =>
    obtain ⟨k, n, m, hk, hn, rfl, rfl, rfl, hl⟩ := hrel
    by_cases h1 : k < s.size
    · by_cases h2 : n < p.size
      · go_wp2
        go_quiet (fail)
        go_wp2
        · have h := left_step_t h1 h2 (by assumption)
          exact ⟨⟨k + 1, n + 1, m + nq, by omega, by omega, by go_num, by go_num, rfl, h.symm.trans hl.out⟩, by simp [intOf]; omega⟩
        · have h := left_step_f h1 h2 (by assumption)
          exact ⟨⟨k + 1, n, m + nq, by omega, by omega, by go_num, by go_num, rfl, h.symm.trans hl.out⟩, by simp [intOf]; omega⟩
      · have hn' : n = p.size := by omega
        have hb : ((n : Int) == (p.size : Int)) = true := by rw [beq_iff_eq]; omega
        go_wp2
        go_ret
        exact ⟨ret_bool (by rw [← hl.out, left_done (by simpa using hn')]), m, rfl⟩
    · have hk' : k = s.size := by omega
      by_cases h2 : n < p.size
      · have hb : ((n : Int) == (p.size : Int)) = false := by rw [beq_eq_false_iff_ne]; omega
        go_wp2
        go_ret
        exact ⟨ret_bool (by rw [← hl.out, left_out (by simpa using hk') (by simpa using h2)]), m, rfl⟩
      · have hn' : n = p.size := by omega
        have hb : ((n : Int) == (p.size : Int)) = true := by rw [beq_iff_eq]; omega
        go_wp2
        go_ret
        exact ⟨ret_bool (by rw [← hl.out, left_done (by simpa using hn')]), m, rfl⟩
end Go.Proofs.YtlbepjmiligpcaaDoor
