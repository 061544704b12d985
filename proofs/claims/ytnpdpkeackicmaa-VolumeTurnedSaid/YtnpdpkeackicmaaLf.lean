/-
  What no safe cut says of how many: nothing, a leaf of the interpreter's runs.
-/
import Derived.Test.YtnpdpkeackicmaaVa
import Derived.WalkKit
import Derived.WalkSpells
import Derived.WalkLawsBesides
set_option linter.unusedSimpArgs false
set_option linter.unusedVariables false
namespace Go.Proofs.Ytnpdpkeackicmaa
open Go Go.Proofs.Eng Go.RowKit
set_option maxRecDepth 100000
theorem none_any (w : World) : Calls Try.prog 78 #[.agg #[]] w fun e w' => e = .returned (.int .i64 0) ∧ Below w.heap.size w w' := by
  go_enter Try.func78, Try.ntmps78
  go_wp2_with (fail)
  go_ret
  exact ⟨rfl, (Below.refl _ w).alloc (Nat.le_refl _) _⟩
theorem none_pure : Pure Try.prog 78 [.ag []] (ai 0) := by
  intro w S0 vals hl hv hS hT
  match vals, hl with
  | [u], _ =>
    have hu := hv 0 u _ rfl rfl
    cases hu with
    | ag vs cs hl h1 hu =>
      have : vs = [] := List.length_eq_zero_iff.1 hl
      subst this
      exact (none_any w).mono fun e w' ⟨h1, h2⟩ => ⟨_, h1, h2, .v _⟩
theorem none_run : Runs Try.prog xf 78 [.ag []] (ai 0) := Runs.leaf none_pure
end Go.Proofs.Ytnpdpkeackicmaa

