/-
  Opening the arguments of the statements: a word by numbers (a struct of a byte and ten bytes) that came in.
-/
import Derived.Test.YtlbepjmiligpcaaDoorMadeH
import Derived.ProofKit
import Derived.OpenShut
import Derived.ShutString
import Derived.ChangeOld
import Derived.Carry
set_option linter.unusedSimpArgs false
set_option linter.unusedVariables false
namespace Go.Proofs.YtlbepjmiligpcaaDoor
open Go.RowKit Go.Proofs.Short Go.ChangeShapes Go.WideShapes Go.ChangeAt

theorem laidOut : laidOutB Tryd.prog = true := by kernel_rfl
theorem nat_u8 {n : Int} (h : (Lit.int .u8 n).wf = true) : ∃ k : Nat, n = (k : Int) ∧ k < 256 := by
  obtain ⟨h0, h1⟩ := bounds_u8 h
  exact ⟨n.toNat, by omega, by omega⟩
theorem nat_u16 {n : Int} (h : (Lit.int .u16 n).wf = true) : ∃ k : Nat, n = (k : Int) ∧ k < 65536 := by
  obtain ⟨h0, h1⟩ := bounds_u16 h
  exact ⟨n.toNat, by omega, by omega⟩
theorem row_u8 {H : Type} {enc : TypeId × Value → H} {w : World} {base : Nat} {sp : Nat → Bool} {held : Bool} {t m n : Nat} {cs : List Value} {y : DataW H × List MemPlace}
    (ht : Tryd.prog.underlying t = some (.array n 5)) (h : DataW.trod enc Tryd.prog w base sp held m t cs = some y) :
    ∃ ls : List Nat, ls.length = n ∧ (∀ i, ls.getD i 0 < 256) ∧ ∀ i, i < n → cs[i]? = some (.int .u8 (ls.getD i 0 : Nat)) := by
  obtain ⟨xs, k, _, _, hl, hn, hx⟩ := DataW.trod_array ht h
  have hc1 : Tryd.prog.cellsOf 5 = 1 := by kernel_rfl
  have hex : ∀ i, i < n → ∃ z : Nat, z < 256 ∧ cs[i]? = some (.int .u8 (z : Int)) := fun i hi => by
    have h1 := hx i hi
    rw [hc1, Nat.mul_one, List.getElem?_eq_getElem (by omega)] at h1
    obtain ⟨z, hz, _, hw⟩ := DataW.trod_int Tryd.underlying5 h1
    obtain ⟨u, rfl, hu⟩ := nat_u8 hw
    exact ⟨u, hu, cell_of_cut hz⟩
  refine ⟨(List.range n).map fun i => if h : i < n then (hex i h).choose else 0, by simp, fun i => ?_, fun i hi => ?_⟩
  · rw [List.getD_eq_getElem?_getD, List.getElem?_map]
    by_cases hi : i < n
    · rw [List.getElem?_range hi]; simp [hi]; exact (hex i hi).choose_spec.1
    · rw [List.getElem?_eq_none (by simp; omega)]; simp
  · rw [List.getD_eq_getElem?_getD, List.getElem?_map, List.getElem?_range hi]
    simp [hi]; exact (hex i hi).choose_spec.2
set_option maxRecDepth 100000 in
theorem open_slip {H : Type} {enc : TypeId × Value → H} {W : World} {base b0 : Nat} {sp : Nat → Bool} {held : Bool} {v : Value} {d : DataW H} {p : List MemPlace} {r : Reach}
    (hv : Value.okWide Tryd.prog W r b0 24 v) (h : DataW.Trod enc Tryd.prog W base sp held 24 v d p) : ∃ cs m ls, v = .agg cs ∧ IsSlip cs m ls := by
  obtain ⟨cs, rfl, hsz⟩ := okWide_struct Tryd.underlying24 hv
  obtain ⟨fuel, hf⟩ := h
  obtain ⟨y0, y1, n, _, hl, h0, h1⟩ := trod_struct2 Tryd.underlying24 hf
  have hc11 : Tryd.prog.cellsOf 24 = 11 := by kernel_rfl
  have hc10 : Tryd.prog.cellsOf 22 = 10 := by kernel_rfl
  have hc1 : Tryd.prog.cellsOf 5 = 1 := by kernel_rfl
  have hcells : (Value.agg cs).cells.toList = cs.toList := rfl
  rw [hcells] at h0 h1
  simp only [hc1, hc10] at h0 h1
  obtain ⟨z, hz, _, hw⟩ := DataW.trod_int Tryd.underlying5 h0
  obtain ⟨m, rfl, hm⟩ := nat_u8 hw
  obtain ⟨ls, hln, hlt, hls⟩ := row_u8 Tryd.underlying22 h1
  refine ⟨cs, m, ls, rfl, by rw [hsz, hc11], ?_, fun i hi => ?_, hln, hm, hlt⟩
  · have := cell_of_cut hz
    simpa using this
  · have := hls i hi
    rw [List.getElem?_take, if_pos hi, List.getElem?_drop] at this
    simpa using this
/-- six small numbers -/
structure IsSix (cs : Array Value) (ls : List Nat) : Prop where
  size : cs.size = 6
  get : ∀ i, i < 6 → cs[i]? = some (.int .u8 (ls.getD i 0 : Nat))
  len : ls.length = 6
  lt : ∀ i, ls.getD i 0 < 256
theorem okWide_rowN {P : Program} {w : World} {r : Reach} {base : Nat} {t e : TypeId} {n : Nat} {v : Value} (ht : P.underlying t = some (.array n e)) (h : Value.okWide P w r base t v) : ∃ cs, v = .agg cs ∧ cs.size = P.cellsOf t := by
  simp only [Value.okWide, ht] at h
  obtain ⟨cs, h1, h2, _⟩ := h
  exact ⟨cs, h1, h2⟩
set_option maxRecDepth 100000 in
theorem open_six {H : Type} {enc : TypeId × Value → H} {W : World} {base b0 : Nat} {sp : Nat → Bool} {held : Bool} {v : Value} {d : DataW H} {p : List MemPlace} {r : Reach}
    (hv : Value.okWide Tryd.prog W r b0 25 v) (h : DataW.Trod enc Tryd.prog W base sp held 25 v d p) : ∃ cs ls, v = .agg cs ∧ IsSix cs ls := by
  obtain ⟨cs, rfl, hsz⟩ := okWide_rowN Tryd.underlying25 hv
  obtain ⟨fuel, hf⟩ := h
  have hc : Tryd.prog.cellsOf 25 = 6 := by kernel_rfl
  rcases fuel with _ | fuel
  · simp [DataW.trod] at hf
  · obtain ⟨ls, hl, hlt, hg⟩ := row_u8 Tryd.underlying25 hf
    exact ⟨cs, ls, rfl, by rw [hsz, hc], fun i hi => by
      have h1 := hg i hi
      have hcells : (Value.agg cs).cells.toList = cs.toList := rfl
      rw [hcells] at h1
      simpa using h1, hl, hlt⟩
end Go.Proofs.YtlbepjmiligpcaaDoor
