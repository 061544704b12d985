/-
  Opening four words by numbers (an array of structs) that came in.
-/
import Derived.Test.YtalildjhighlhaaOpen
import Derived.Test.YtalildjhighlhaaAloneLaw
namespace Go.Proofs.Ytalildjhighlhaa
open Go.RowKit Go.Proofs.Short Go.ChangeShapes Go.WideShapes Go.ChangeAt

set_option maxRecDepth 100000 in
theorem slip_of_trod {H : Type} {enc : TypeId × Value → H} {W : World} {base fuel : Nat} {sp : Nat → Bool} {held : Bool} {cs : List Value} {y : DataW H × List MemPlace}
    (h : DataW.trod enc Try.prog W base sp held fuel 52 cs = some y) : ∃ m ls, IsSlip ⟨cs⟩ m ls := by
  obtain ⟨y0, y1, n, _, hl, h0, h1⟩ := trod_struct2 Try.underlying52 h
  have hc11 : Try.prog.cellsOf 52 = 11 := by kernel_rfl
  have hc10 : Try.prog.cellsOf 50 = 10 := by kernel_rfl
  have hc1 : Try.prog.cellsOf 5 = 1 := by kernel_rfl
  simp only [hc1, hc10] at h0 h1
  obtain ⟨z, hz, _, hw⟩ := DataW.trod_int Try.underlying5 h0
  obtain ⟨m, rfl, hm⟩ := nat_u8 hw
  obtain ⟨ls, hln, hlt, hls⟩ := row_u8 Try.underlying50 h1
  refine ⟨m, ls, by show cs.length = 11; rw [hl, hc11], ?_, fun i hi => ?_, hln, hm, hlt⟩
  · have := cell_of_cut hz
    simpa using this
  · have := hls i hi
    rw [List.getElem?_take, if_pos hi, List.getElem?_drop] at this
    simpa using this
set_option maxRecDepth 100000 in
theorem open_slips {H : Type} {enc : TypeId × Value → H} {W : World} {base b0 : Nat} {sp : Nat → Bool} {held : Bool} {v : Value} {d : DataW H} {p : List MemPlace} {r : Reach}
    (hv : Value.okWide Try.prog W r b0 69 v) (h : DataW.Trod enc Try.prog W base sp held 69 v d p) : ∃ cs ms lss, v = .agg cs ∧ IsSlips cs ms lss := by
  obtain ⟨fuel, hf⟩ := h
  obtain ⟨xs, m, _, _, hl, hn, hx⟩ := DataW.trod_array Try.underlying69 hf
  have hc11 : Try.prog.cellsOf 52 = 11 := by kernel_rfl
  have hc44 : Try.prog.cellsOf 69 = 44 := by kernel_rfl
  obtain ⟨cs, rfl⟩ : ∃ cs, v = .agg cs := by
    have h0 : v.cells.size = 44 := by rw [← hc44, ← hl]; simp
    cases v with
    | agg cs => exact ⟨cs, rfl⟩
    | _ => exact absurd h0 (by simp [Value.cells])
  have hcells : (Value.agg cs).cells.toList = cs.toList := rfl
  rw [hcells] at hl hx
  have hex : ∀ i, i < 4 → ∃ m ls, IsSlip ⟨(cs.toList.drop (i * 11)).take 11⟩ m ls := fun i hi => by
    have h1 := hx i hi
    rw [hc11, List.getElem?_eq_getElem (by omega)] at h1
    exact slip_of_trod h1
  refine ⟨cs, (List.range 4).map fun i => if h : i < 4 then (hex i h).choose else 0, (List.range 4).map fun i => if h : i < 4 then (hex i h).choose_spec.choose else [], rfl, by rw [← hc44, ← hl]; simp, fun i hi => ?_⟩
  have e1 : ((List.range 4).map fun i => if h : i < 4 then (hex i h).choose else 0).getD i 0 = (hex i hi).choose := by
    rw [List.getD_eq_getElem?_getD, List.getElem?_map, List.getElem?_range hi]; simp [hi]
  have e2 : ((List.range 4).map fun i => if h : i < 4 then (hex i h).choose_spec.choose else []).getD i [] = (hex i hi).choose_spec.choose := by
    rw [List.getD_eq_getElem?_getD, List.getElem?_map, List.getElem?_range hi]; simp [hi]
  rw [e1, e2]
  exact (hex i hi).choose_spec.choose_spec
end Go.Proofs.Ytalildjhighlhaa
