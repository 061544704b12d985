/-
  math/bits at small numbers: OnesCount and TrailingZeros; powers of two.
-/
import Derived.Test.YtbkmicimpgabgaaDoorCheck
import Derived.Laws.Bits64b
set_option linter.unusedSimpArgs false
set_option linter.unusedVariables false
namespace Go.Proofs.YtbkmicimpgabgaaDoor
open Go.RowKit Go.Lib Go.Proofs.Quire

set_option maxRecDepth 100000 in
set_option maxHeartbeats 1000000 in
theorem ones64 (n : Nat) (w : World) (hn : n < 128) :
    Calls Tryd.prog 73 #[.int .u64 n] w fun e w' => e = .returned (.int .i64 (onesN n)) ∧ w' = w := by
  go_enter Tryd.func73, Tryd.ntmps73
  go_wp2
  go_ret
  refine ⟨ret_int ?_, rfl⟩
  clear w
  revert hn; revert n
  decide +kernel
theorem ones_any (n : Nat) (w : World) (hn : n < 128) :
    Calls Tryd.prog 68 #[.int .u64 n] w fun e w' => e = .returned (.int .i64 (onesN n)) ∧ w' = w := by
  have h := fun W => ones64 n W hn
  go_enter Tryd.func68, Tryd.ntmps68
  go_wp2_with (fail)
  refine (h _).mono ?_; rintro e w1 ⟨rfl, rfl⟩
  go_wp2_with (fail)
  go_ret
  exact ⟨rfl, rfl⟩
theorem isPower_any (n : Nat) (w : World) (hn : n < 128) :
    Calls Tryd.prog 63 #[.int .i64 n] w fun e w' => e = .returned (.bool (onesN n == 1)) ∧ w' = w := by
  have h := fun W => ones_any n W hn
  generalize onesN n = k at h ⊢
  go_enter Tryd.func63, Tryd.ntmps63
  go_wp2_with (fail)
  refine (h _).mono ?_; rintro e w1 ⟨rfl, rfl⟩
  go_wp2_with (fail)
  go_ret
  exact ⟨ret_bool (by rw [Bool.eq_iff_iff]; simp only [beq_iff_eq]; omega), rfl⟩

/-- the library's table as its text lays it -/
def Tab (w : World) : Prop := ∀ j, j < 64 → w.cell? ⟨1, j, none⟩ = some (.int .u8 ((tab64.getD j 0 : Nat) : Int))
theorem Tab.below {w w' : World} (h : Tab w) (hb : Below w.heap.size w w') : Tab w' := fun j hj =>
  (hb.cell (p := ⟨1, j, none⟩) (World.block_lt_of_cell? w _ (h j hj))).trans (h j hj)
theorem tz_key (n : Nat) (hn : n < 128) (h0 : 0 < n) : IntKind.u64.wrap (bits BinOp.and IntKind.u64 (n : Int) (IntKind.u64.wrap (-(n : Int))) * 285870213051353865) / 288230376151711744 = (tzIx n : Int) := by
  have e1 : IntKind.u64.wrap (-(n : Int)) = ((18446744073709551616 - n : Nat) : Int) := by rw [IntKind.wrap_u64]; omega
  rw [e1, bits_and_u64_nat n _ (by omega) (by omega), IntKind.wrap_u64]
  unfold tzIx
  generalize n &&& (18446744073709551616 - n) = m
  omega
set_option maxHeartbeats 1000000 in
theorem tz64_core (n k ix : Nat) (w : World) (h0' : ((n : Int) == 0) = false)
    (key : IntKind.u64.wrap (bits BinOp.and IntKind.u64 (n : Int) (IntKind.u64.wrap (-(n : Int))) * 285870213051353865) / 288230376151711744 = (ix : Int))
    (hi : ix < 64) (hk7 : k < 7) (hc : w.cell? ⟨1, ix, none⟩ = some (.int .u8 k)) :
    Calls Tryd.prog 75 #[.int .u64 n] w fun e w' => e = .returned (.int .i64 k) ∧ w' = w := by
  go_enter Tryd.func75, Tryd.ntmps75
  go_wp2_with (simp only [key])
  go_ret
  exact ⟨rfl, rfl⟩
theorem tz64 (n : Nat) (w : World) (hT : Tab w) (h0 : 0 < n) (hn : n < 128) :
    Calls Tryd.prog 75 #[.int .u64 n] w fun e w' => e = .returned (.int .i64 (tzN n)) ∧ w' = w := by
  obtain ⟨ht, hi, hk7⟩ := tz_tab n hn h0
  have hc := hT _ hi
  rw [ht] at hc
  exact tz64_core n _ _ w (by simp; omega) (tz_key n hn h0) hi hk7 hc
theorem tz_any (n : Nat) (w : World) (hT : Tab w) (h0 : 0 < n) (hn : n < 128) :
    Calls Tryd.prog 69 #[.int .u64 n] w fun e w' => e = .returned (.int .i64 (tzN n)) ∧ w' = w := by
  have h := fun W hW => tz64 n W hW h0 hn
  go_enter Tryd.func69, Tryd.ntmps69
  go_wp2_with (fail)
  refine (h _ hT).mono ?_; rintro e w1 ⟨rfl, rfl⟩
  go_wp2_with (fail)
  go_ret
  exact ⟨rfl, rfl⟩
theorem split_any (n : Nat) (w : World) (hT : Tab w) (h0 : 0 < n) (hn : n < 128) :
    Calls Tryd.prog 64 #[.int .i64 n] w fun e w' => e = .returned (.tuple #[.int .i64 ((n : Int) / 2 ^ tzN n), .int .i64 (tzN n)]) ∧ w' = w := by
  have h := fun W hW => tz_any n W hW h0 hn
  have h7 := (tz_tab n hn h0).2.2
  generalize tzN n = k at h h7 ⊢
  go_enter Tryd.func64, Tryd.ntmps64
  go_wp2_with (fail)
  refine (h _ hT).mono ?_; rintro e w1 ⟨rfl, rfl⟩
  go_wp2_with (fail)
  go_ret2
  exact ⟨rfl, rfl⟩
end Go.Proofs.YtbkmicimpgabgaaDoor
