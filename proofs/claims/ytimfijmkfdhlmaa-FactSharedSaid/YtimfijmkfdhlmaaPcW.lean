/-
  The law returns true.
-/
import Derived.Test.YtimfijmkfdhlmaaPcW1M
import Derived.KernelRfl
set_option linter.unusedSimpArgs false
set_option linter.unusedVariables false
namespace Go.Proofs.Ytimfijmkfdhlmaa
open Go Go.Proofs.Eng Go.RowKit
theorem known_run : Runs Try.prog xf 18 [] (.v (.bool true)) := Runs.execM (fr := fr) (fuel := 10000) mm2_ok 40 (by kernel_rfl)
theorem orders_mixed : Try.prog.follows .mixedOrders = true := by kernel_rfl
theorem known_any (w : World) : Calls Try.prog 18 #[] w fun e w' => e = .returned (.bool true) ∧ Below w.heap.size w w' :=
  (known_run.pure orders_mixed xf_ok w (fun _ => False) [] rfl (fun j u x h => by simp at h) (fun b h => h.elim)).mono fun e w' ⟨v, h1, h2, h3⟩ => by
    cases h3
    exact ⟨h1, h2⟩
end Go.Proofs.Ytimfijmkfdhlmaa
