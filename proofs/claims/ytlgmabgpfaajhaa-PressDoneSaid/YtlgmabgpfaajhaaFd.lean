/-
  The law returns true at any arguments.
-/
import Derived.Test.YtlgmabgpfaajhaaSo
import Derived.Test.YtlgmabgpfaajhaaPcP
set_option linter.unusedSimpArgs false
set_option linter.unusedVariables false
namespace Go.Proofs.Ytlgmabgpfaajhaa
open Go Go.Proofs.Eng Go.RowKit
theorem done_any (G V : List Int) (w : World) (hG : G.length = 16) (bG : ∀ x, x ∈ G → 0 ≤ x ∧ x ≤ 255) (hV : V.length = 7) (bV : ∀ x, x ∈ V → 0 ≤ x ∧ x ≤ 255) :
    Calls Try.prog 3 #[.agg (G.map iu8).toArray, .agg (V.map iu8).toArray] w fun e w' => e = .returned (.bool true) ∧ Below w.heap.size w w' := by
  obtain ⟨A, B, E, e, hE, hA, hB, hb⟩ := fo_of hG bG
  have h := done_run A B E V hE hA hB hb hV bV known_run
  rw [← e] at h
  refine (h.pure orders_mixed xf_ok w (fun _ => False) [.agg (G.map iu8).toArray, .agg (V.map iu8).toArray] rfl (fun j u x h1 h2 => ?_) (fun b h => h.elim) (fun p hp => by obtain ⟨g, x, h, _⟩ := hp; cases h)).mono fun e w' ⟨v, h1, h2, h3⟩ => by
    cases h3
    exact ⟨h1, h2⟩
  match j with
  | 0 => cases h1; cases h2; exact ok_row G
  | 1 => cases h1; cases h2; exact ok_row V
  | j + 2 => simp at h1
end Go.Proofs.Ytlgmabgpfaajhaa

