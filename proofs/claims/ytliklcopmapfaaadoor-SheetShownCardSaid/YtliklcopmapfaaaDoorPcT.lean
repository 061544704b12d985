/-
  The law returns true.
-/
import Derived.Test.YtliklcopmapfaaaDoorPcT0M
import Derived.KernelRfl
set_option linter.unusedSimpArgs false
set_option linter.unusedVariables false
namespace Go.Proofs.YtliklcopmapfaaaDoor
open Go Go.Proofs.Eng Go.RowKit
theorem known_run : Runs Tryd.prog xf 16 [] (.v (.bool true)) := Runs.execM (fr := fr) (fuel := 10000) mm1_ok 40 (by kernel_rfl)
theorem orders_mixed : Tryd.prog.follows .mixedOrders = true := by kernel_rfl
theorem known_tab (w : World) (S0 : Nat → Prop) (h0 : ∀ b, S0 b → b < w.heap.size) (ht : TabOk S0 w) : Calls Tryd.prog 16 #[] w fun e w' => e = .returned (.bool true) ∧ Below w.heap.size w w' :=
  (known_run.pure orders_mixed xf_ok w S0 [] rfl (fun j u x h => by simp at h) h0 ht).mono fun e w' ⟨v, h1, h2, h3⟩ => by
    cases h3
    exact ⟨h1, h2⟩
end Go.Proofs.YtliklcopmapfaaaDoor
