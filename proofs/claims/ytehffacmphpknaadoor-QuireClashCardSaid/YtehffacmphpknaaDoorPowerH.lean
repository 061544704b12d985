/-
  The statements' helper power.
-/
import Derived.Test.YtehffacmphpknaaDoorSame
set_option linter.unusedSimpArgs false
set_option linter.unusedVariables false
namespace Go.Proofs.YtehffacmphpknaaDoor
open Go.RowKit Go.Lib Go.Proofs.Quire

set_option maxRecDepth 100000 in
set_option maxHeartbeats 1000000 in
theorem power_any (n : Nat) (h0 : 0 < n) (hn : n ≤ 64) (w : World) :
    Calls Tryd.prog 48 #[.int .i64 n] w fun e w' => e = .returned (.int .i64 (2 ^ tzN n : Nat)) ∧ w' = w := by
  have key : ∀ n : Nat, 0 < n → n ≤ 64 → bits BinOp.and IntKind.i64 (n : Int) (-(n : Int)) = ((2 ^ tzN n : Nat) : Int) := by
    intro n h0 hn
    have : ∀ n : Nat, n < 65 → 0 < n → bits BinOp.and IntKind.i64 (n : Int) (-(n : Int)) = ((2 ^ tzN n : Nat) : Int) := by decide +kernel
    exact this n (by omega) h0
  have hk := key n h0 hn
  generalize 2 ^ tzN n = p at hk ⊢
  clear key
  go_enter Tryd.func48, Tryd.ntmps48
  go_wp2_with (fail)
  go_ret
  exact ⟨rfl, rfl⟩
end Go.Proofs.YtehffacmphpknaaDoor
