/-
  The law returns true.
-/
import Derived.Test.YtdmffkknghianaaPcV1M
import Derived.KernelRfl
set_option linter.unusedSimpArgs false
set_option linter.unusedVariables false
namespace Go.Proofs.Ytdmffkknghianaa
open Go Go.Proofs.Eng Go.RowKit
theorem known_run : Runs Try.prog xf 25 [] (.v (.bool true)) := Runs.execM (fr := fr) (fuel := 10000) mm2_ok 40 (by kernel_rfl)
theorem orders_mixed : Try.prog.follows .mixedOrders = true := by kernel_rfl
theorem known_tab (w : World) (S0 : Nat → Prop) (h0 : ∀ b, S0 b → b < w.heap.size) (ht : TabOk S0 w) : Calls Try.prog 25 #[] w fun e w' => e = .returned (.bool true) ∧ Below w.heap.size w w' :=
  (known_run.pure orders_mixed xf_ok w S0 [] rfl (fun j u x h => by simp at h) h0 ht).mono fun e w' ⟨v, h1, h2, h3⟩ => by
    cases h3
    exact ⟨h1, h2⟩
theorem known_any (w : World) : Calls Try.prog 25 #[] w fun e w' => e = .returned (.bool true) ∧ Below w.heap.size w w' :=
  known_tab w (fun _ => False) (fun b h => h.elim) fun p hp => by obtain ⟨g, x, h, _⟩ := hp; cases h
end Go.Proofs.Ytdmffkknghianaa
