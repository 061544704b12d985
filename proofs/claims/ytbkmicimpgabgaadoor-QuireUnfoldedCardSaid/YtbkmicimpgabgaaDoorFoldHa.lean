/-
  The statements' helper folded: folds by numbers.
-/
import Derived.Test.YtbkmicimpgabgaaDoorSame
set_option linter.unusedSimpArgs false
set_option linter.unusedVariables false
namespace Go.Proofs.YtbkmicimpgabgaaDoor
open Go.RowKit Go.Lib Go.Proofs.Quire

def bitL (b i : Nat) : UInt8 := if b / 2 ^ i % 2 = 1 then 117 else 111
def foldsOf (b k : Nat) : List UInt8 := (List.range k).map (bitL b)
theorem foldsOf_succ (b k : Nat) : foldsOf b (k + 1) = foldsOf b k ++ [bitL b k] := by simp [foldsOf, List.range_succ]
theorem foldsOf_len (b k : Nat) : (foldsOf b k).length = k := by simp [foldsOf]
theorem bit_u8 : ∀ n : Nat, n < 256 → bits BinOp.and IntKind.u8 (n : Int) 1 = ((n % 2 : Nat) : Int) := by decide +kernel
theorem bit_at (b k : Nat) (hb : b < 256) : bits BinOp.and IntKind.u8 ((b : Int) / 2 ^ k) 1 = ((b / 2 ^ k % 2 : Nat) : Int) := by
  rw [← bit_u8 (b / 2 ^ k) (Nat.lt_of_le_of_lt (Nat.div_le_self _ _) hb)]; simp
theorem add_one (l : List UInt8) (c : UInt8) (W : World) (h : l.length ≤ 1000) : (Op.stringOp .add ⟨l.toArray⟩ ⟨#[c]⟩).run Tryd.prog W = .ok (.string ⟨(l ++ [c]).toArray⟩) W :=
  run_string_add_lists W l [c] (by omega) (by simp)
theorem cut_two (a b : UInt8) (i : Nat) (hi : i < 2) (W : World) : (Instr.slice 9 (.string ⟨#[a, b]⟩) (some (.int .u8 (i : Int))) (some (.int .u8 ((i : Int) + 1))) none).run Tryd.prog W = .ok (.string ⟨#[if i = 1 then b else a]⟩) W := by
  have h := run_slice_string (P := Tryd.prog) (w := W) 9 ⟨#[a, b]⟩ .u8 .u8 (i : Int) ((i : Int) + 1) Tryd.underlying9 (by omega) (by omega) (by simp [ByteArray.size]; omega)
  rw [h]
  have : i = 0 ∨ i = 1 := by omega
  rcases this with rfl | rfl
  · rfl
  · rfl
set_option maxRecDepth 100000 in
set_option maxHeartbeats 1000000 in
theorem foldsH_any (m b : Nat) (hm : m < 256) (hb : b < 256) (w : World) :
    Calls Tryd.prog 27 #[.int .u8 m, .int .u8 b] w fun e w' => e = .returned (.string ⟨(foldsOf b (m % 7)).toArray⟩) ∧ ∃ q, w' = w.drewN q := by
  obtain ⟨r, hr⟩ : ∃ r, Hid (foldsOf b (m % 7) = r) := ⟨_, rfl⟩
  rw [hr.out]
  go_enter Tryd.func27, Tryd.ntmps27
  go_wp2_with (fail)
  go_loopw [10, 5] (fun v u wr => ∃ (k q : Nat), k ≤ m % 7 ∧ v = .int .i64 k ∧ u = .string ⟨(foldsOf b k).toArray⟩ ∧ wr = w.drewN q) (fun v _ _ => m % 7 - (RowKit.intOf v).toNat)
  case atStart => exact ⟨0, 0, Nat.zero_le _, rfl, rfl, rfl⟩
  case round =>
    obtain ⟨k, q, hk, rfl, rfl, rfl⟩ := hrel
    by_cases hlt : k < m % 7
    · have hbit := bit_at b k hb
      by_cases h1 : b / 2 ^ k % 2 = 1
      · rw [h1] at hbit
        have hw1 : IntKind.u8.wrap 2 = 2 := by decide
        have hs := foldsOf_succ b k
        have hL : bitL b k = 117 := by unfold bitL; rw [if_pos h1]
        have hcut : ∀ W, (Instr.slice 9 (.string ⟨#[111, 117]⟩) (some (.int .u8 1)) (some (.int .u8 2)) none).run Tryd.prog W = .ok (.string ⟨#[117]⟩) W := cut_two 111 117 1 (by omega)
        have hcat : ∀ W, (Op.stringOp .add ⟨(foldsOf b k).toArray⟩ ⟨#[117]⟩).run Tryd.prog W = .ok (.string ⟨(foldsOf b (k + 1)).toArray⟩) W := fun W => by rw [hs, hL]; exact add_one (foldsOf b k) 117 W (by rw [foldsOf_len]; omega)
        clear hs hL h1
        go_wp2_with (fail)
        go_quiet (fail)
        go_wp2_with (fail)
        exact ⟨⟨k + 1, q + nq, by omega, by go_num, rfl, rfl⟩, by simp [RowKit.intOf]; omega⟩
      · rw [show b / 2 ^ k % 2 = 0 by omega] at hbit
        have hw1 : IntKind.u8.wrap 1 = 1 := by decide
        have hs := foldsOf_succ b k
        have hL : bitL b k = 111 := by unfold bitL; rw [if_neg h1]
        have hcut : ∀ W, (Instr.slice 9 (.string ⟨#[111, 117]⟩) (some (.int .u8 0)) (some (.int .u8 1)) none).run Tryd.prog W = .ok (.string ⟨#[111]⟩) W := cut_two 111 117 0 (by omega)
        have hcat : ∀ W, (Op.stringOp .add ⟨(foldsOf b k).toArray⟩ ⟨#[111]⟩).run Tryd.prog W = .ok (.string ⟨(foldsOf b (k + 1)).toArray⟩) W := fun W => by rw [hs, hL]; exact add_one (foldsOf b k) 111 W (by rw [foldsOf_len]; omega)
        clear hs hL h1
        go_wp2_with (fail)
        go_quiet (fail)
        go_wp2_with (fail)
        exact ⟨⟨k + 1, q + nq, by omega, by go_num, rfl, rfl⟩, by simp [RowKit.intOf]; omega⟩
    · have he : k = m % 7 := by omega
      go_wp2_with (fail)
      go_ret
      exact ⟨by rw [← hr.out, he]; rfl, q, rfl⟩
end Go.Proofs.YtbkmicimpgabgaaDoor
