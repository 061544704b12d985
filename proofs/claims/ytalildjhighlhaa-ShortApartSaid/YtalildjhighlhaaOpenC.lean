/-
  Opening a row of strings that came in.
-/
import Derived.Test.YtalildjhighlhaaOpen
import Derived.Test.YtalildjhighlhaaParts
import Derived.SliceStrings
namespace Go.Proofs.Ytalildjhighlhaa
open Go.RowKit Go.Proofs.Short Go.ChangeShapes Go.WideShapes Go.ChangeAt

/-- what a row of strings is, as the walks want it -/
def IsStrs (W : World) (A : Option Addr) (n : Nat) (ws : List (List UInt8)) : Prop := Rd W A n (ws.map encStr) ∧ n ≤ maxLen ∧ ∀ x ∈ ws, x.length ≤ maxLen
set_option maxRecDepth 100000 in
theorem open_strs {H : Type} {enc : TypeId × Value → H} {W : World} {base b0 : Nat} {sp : Nat → Bool} {held : Bool} {v : Value} {d : DataW H} {p : List MemPlace} {r : Reach}
    (hv : Value.okWide Try.prog W r b0 36 v) (h : DataW.Trod enc Try.prog W base sp held 36 v d p) : ∃ A n c ws, v = .slice A n c ∧ IsStrs W A n ws := by
  obtain ⟨a0, len, cap, rfl⟩ := okWide_slice Try.underlying36 hv
  obtain ⟨fuel, hf⟩ := h
  have hc1 : Try.prog.cellsOf 9 = 1 := by kernel_rfl
  rcases open_strings Try.underlying36 Try.underlying9 hc1 hf with ⟨hcs, hx⟩ | ⟨a, len', cap', ss, hcs, _, hl, hm, hz, hx, hcell, hsz⟩
  · obtain ⟨rfl, rfl, rfl⟩ : a0 = none ∧ len = 0 ∧ cap = 0 := by
      have h1 : (Value.slice a0 len cap) = .slice none 0 0 := by simpa [Value.cells] using hcs
      injection h1; exact ⟨by assumption, by assumption, by assumption⟩
    exact ⟨_, _, _, [], rfl, ⟨rfl, fun h => by omega⟩, by omega, fun x hx => by cases hx⟩
  · have h1 : (Value.slice a0 len cap) = .slice (some a) len' cap' := by simpa [Value.cells] using hcs
    obtain ⟨rfl, rfl, rfl⟩ : a0 = some a ∧ len = len' ∧ cap = cap' := by injection h1; exact ⟨by assumption, by assumption, by assumption⟩
    have hlen : len ≤ ss.length := by rw [hz]; split <;> omega
    refine ⟨_, _, _, (ss.take len).map fun s => s.data.toList, rfl, ⟨by simp; omega, fun h0 => ?_⟩, by omega, fun x hx => ?_⟩
    · have hc0 := hcell 0 (by omega)
      rw [show a.add 0 = a from rfl] at hc0
      obtain ⟨b, off, sp⟩ := a
      have hb : b < W.heap.size ∧ sp = none := by
        unfold World.cell? at hc0
        split at hc0
        · rename_i he
          refine ⟨(Array.getElem?_eq_some_iff.1 he).1, ?_⟩
          cases sp with
          | none => rfl
          | some q => simp at hc0
        · cases hc0
      obtain ⟨hb, rfl⟩ := hb
      refine ⟨b, off, rfl, hb, fun j hj => ?_⟩
      have hcj := hcell j (by omega)
      have e1 : (Addr.mk b off none).add j = ⟨b, off + j, none⟩ := by
        unfold Addr.add; split
        · rename_i h; subst h; rfl
        · rfl
      rw [e1] at hcj
      have hjs : j < ss.length := by omega
      have e2 : (((ss.take len).map fun s => s.data.toList).map encStr).getD j (.bool false) = .string ss[j] := by
        rw [List.getD_eq_getElem?_getD, List.getElem?_map, List.getElem?_map, List.getElem?_take, if_pos hj, List.getElem?_eq_getElem hjs]
        simp [encStr]
      rw [hcj, e2, List.getD_eq_getElem?_getD, List.getElem?_eq_getElem hjs]
      rfl
    · obtain ⟨s, hs, rfl⟩ := List.mem_map.1 hx
      exact Nat.le_trans (Nat.le_of_eq Array.length_toList) (hsz s (List.mem_of_mem_take hs))
end Go.Proofs.Ytalildjhighlhaa
