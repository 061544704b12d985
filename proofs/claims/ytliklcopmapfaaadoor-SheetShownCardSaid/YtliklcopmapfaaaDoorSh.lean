/-
  The law returns true at any arguments.
-/
import Derived.Test.YtliklcopmapfaaaDoorSo
import Derived.Test.YtliklcopmapfaaaDoorPcT
set_option linter.unusedSimpArgs false
set_option linter.unusedVariables false
namespace Go.Proofs.YtliklcopmapfaaaDoor
open Go Go.Proofs.Eng Go.RowKit
theorem shown_tab (w : World) (S0 : Nat → Prop) (h0 : ∀ b, S0 b → b < w.heap.size) (ht : TabOk S0 w) (G : List Int) (hG : G.length = 11 ∧ ∀ x, x ∈ G → 0 ≤ x ∧ x ≤ 255) (D : List Int) (hD : D.length = 8 ∧ ∀ x, x ∈ D → -128 ≤ x ∧ x ≤ 127) (c : Int) (hc : 0 ≤ c ∧ c ≤ 255) :
    Calls Tryd.prog 4 #[.agg (G.map iu8).toArray, .agg (D.map ii8).toArray, iu8 c] w fun e w' => e = .returned (.bool true) ∧ Below w.heap.size w w' := by
  obtain ⟨A, B, C, E, e, hE, hA, hB, hC, hb⟩ := st_of hG.1 hG.2
  have h := shown_run A B C c E D hE hb hA hB hC hD.1 hD.2 known_run
  rw [← e] at h
  refine (h.pure orders_mixed xf_ok w S0 [.agg (G.map iu8).toArray, .agg (D.map ii8).toArray, iu8 c] rfl (fun j u x h1 h2 => ?_) h0 ht).mono fun e w' ⟨v, h1, h2, h3⟩ => by
    cases h3
    exact ⟨h1, h2⟩
  match j with
  | 0 => cases h1; cases h2; exact ok_row G
  | 1 => cases h1; cases h2; exact ok_rowi D
  | 2 => cases h1; cases h2; exact .v _
  | j + 3 => simp at h1
end Go.Proofs.YtliklcopmapfaaaDoor

