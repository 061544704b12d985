/-
  Opening the arguments of the statements: a row of small numbers, a row of numbers.
-/
import Derived.Test.YtbkmicimpgabgaaDoorOpenQ
import Derived.ChangeSlices
import Derived.ChangeAlike
set_option linter.unusedSimpArgs false
set_option linter.unusedVariables false
namespace Go.Proofs.YtbkmicimpgabgaaDoor
open Go.RowKit Go.Lib Go.ChangeShapes Go.WideShapes Go.ChangeAt

set_option maxRecDepth 100000 in
theorem open_rowK {H : Type} {enc : TypeId × Value → H} {W : World} {base b0 : Nat} {sp : Nat → Bool} {held : Bool} {t e : TypeId} {k : IntKind} {v : Value} {d : DataW H} {p : List MemPlace} {r : Reach}
    (ht : Tryd.prog.underlying t = some (.slice e)) (he : Tryd.prog.underlying e = some (.int k)) (hc : Tryd.prog.cellsOf e = 1)
    (hv : Value.okWide Tryd.prog W r b0 t v) (h : DataW.Trod enc Tryd.prog W base sp held t v d p) :
    ∃ (A : Option Addr) (n c : Nat) (xs : List Int), v = .slice A n c ∧ Rd W A n (xs.map (Value.int k)) ∧ n ≤ maxLen ∧ (∀ x ∈ xs, (Lit.int k x).wf = true) ∧ xs.length = n ∧ n ≤ c := by
  obtain ⟨A, n, c, rfl⟩ := okWide_slice ht hv
  obtain ⟨fuel, hf⟩ := h
  rcases open_ints ht he hc hf with ⟨h1, _⟩ | ⟨a, len, cap, zs, h1, _, hl, hm, hz, _, hcell, hwf⟩
  · obtain ⟨rfl, rfl, rfl⟩ : A = none ∧ n = 0 ∧ c = 0 := by simpa [Value.cells] using h1
    exact ⟨none, 0, 0, [], rfl, rd_nil _ _ _, by unfold maxLen; omega, by simp, rfl, Nat.le_refl _⟩
  · obtain ⟨rfl, rfl, rfl⟩ : A = some a ∧ n = len ∧ c = cap := by simpa [Value.cells] using h1
    have hlz : n ≤ zs.length := by rw [hz]; split <;> omega
    refine ⟨some a, n, c, zs.take n, rfl, ⟨by rw [List.length_map, List.length_take]; omega, fun h0 => ?_⟩, by omega, fun x hx => hwf x (List.mem_of_mem_take hx), by rw [List.length_take]; omega, hl⟩
    obtain ⟨b, off, rfl, hcb⟩ := Go.ints_at hcell (by omega)
    have hlt : b < W.heap.size := by
      have := hcb 0 (by omega)
      unfold World.cell? at this
      split at this
      · rename_i h2; exact (Array.getElem?_eq_some_iff.1 h2).1
      · cases this
    refine ⟨b, off, rfl, hlt, by simp, fun j hj => ?_⟩
    rw [hcb j (by omega)]
    have e1 : zs.getD j 0 = zs[j]'(by omega) := getD_lt _ _ _ (by omega)
    have e2 : ((zs.take n).map (Value.int k)).getD j (.bool false) = .int k (zs[j]'(by omega)) := by
      rw [getD_lt _ _ _ (by rw [List.length_map, List.length_take]; omega)]; simp
    rw [e1, e2]
end Go.Proofs.YtbkmicimpgabgaaDoor
