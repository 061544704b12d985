/-
  From the condition on the listed table to what the interpreter asks of it.
-/
import Derived.Test.YtliklcopmapfaaaDoorRows
import Derived.Test.YtliklcopmapfaaaDoorEngT
import Derived.ProofKit
import Derived.OpenShut
import Derived.ShutString
import Derived.ChangeOld
import Derived.ChangeSlices
import Derived.Carry
import Derived.MakeChecks
set_option linter.unusedSimpArgs false
set_option linter.unusedVariables false
namespace Go.Proofs.YtliklcopmapfaaaDoor
open Go Go.Proofs.Eng Go.RowKit Go.ChangeShapes Go.WideShapes Go.ChangeAt
set_option maxRecDepth 100000
theorem flat_ai (zs : List Int) : flat (zs.map ai) = zs.map ai := by
  induction zs with
  | nil => rfl
  | cons z l ih => show cellsOf (ai z) ++ flat (l.map ai) = _; rw [ih]; rfl
theorem lits_inj : ∀ {a b : List Int}, (lits (H := Unit) .i64 a) = lits .i64 b → a = b
  | [], [], _ => rfl
  | [], _ :: _, h => by simp [lits] at h
  | _ :: _, [], h => by simp [lits] at h
  | x :: a, y :: b, h => by
    simp only [lits, List.map_cons, List.cons.injEq, DataW.lit.injEq, Lit.int.injEq, true_and] at h
    rw [h.1, lits_inj (a := a) (b := b) h.2]
theorem cell_nil {W : World} {m : Nat} {cs : List Value} {y : DataW Unit × List MemPlace} (h : DataW.trod (fun _ => ()) Tryd.prog W 0 (fun _ => true) false m 25 cs = some y) (hy : y.1 = .nil) : cs = [.slice none 0 0] := by
  rcases open_ints Tryd.underlying25 Tryd.underlying3 (by kernel_rfl) h with ⟨h1, _⟩ | ⟨a, len, cap, zs, h1, _, hl, hm, hz, hx, hcell, hwf⟩
  · exact h1
  · rw [hx] at hy; cases hy
theorem cell_row {W : World} {m : Nat} {cs : List Value} {y : DataW Unit × List MemPlace} {z0 : List Int} (h : DataW.trod (fun _ => ()) Tryd.prog W 0 (fun _ => true) false m 25 cs = some y) (hy : y.1 = .slice (lits .i64 z0) []) :
    ∃ u, cs = [u] ∧ u.oneCell' = true ∧ AVok (fun b => b < W.heap.size) Gam.none W u (.sl 1 false (z0.map ai)) := by
  rcases open_ints Tryd.underlying25 Tryd.underlying3 (by kernel_rfl) h with ⟨_, h1⟩ | ⟨a, len, cap, zs, h1, _, hl, hm, hz, hx, hcell, hwf⟩
  · rw [h1] at hy; cases hy
  · rw [hx] at hy
    simp only [DataW.slice.injEq] at hy
    obtain ⟨e1, e2⟩ := hy
    have e3 : zs.drop len = [] := lits_inj (by rw [e2]; rfl)
    have e4 := lits_inj e1
    rw [if_pos rfl] at hz
    have e5 : zs.length ≤ len := by simpa using e3
    have e6 : zs.take len = zs := List.take_of_length_le e5
    rw [e6] at e4
    subst e4
    have e7 : zs.length = len := by omega
    have e8 : (zs.map ai).length = len := by rw [List.length_map, e7]
    refine ⟨_, h1, rfl, ?_⟩
    rw [← e8]
    refine .sl (some a) cap 1 false (zs.map ai) (zs.map (Value.int .i64)) (by rw [e8]; exact hl) (fun q => by cases q) (fun x hx => ?_) (by rw [flat_ai]; simp) (by rw [e8]; omega) (fun j u x hu hx => ?_) (fun u hu => ?_) (fun hne => ?_) (by simp)
    · obtain ⟨z, _, rfl⟩ := List.mem_map.1 hx; rfl
    · rw [flat_ai] at hx
      rw [List.getElem?_map] at hu hx
      cases h3 : zs[j]? with
      | none => rw [h3] at hu; cases hu
      | some z =>
        rw [h3] at hu hx
        simp only [Option.map_some, Option.some.injEq] at hu hx
        rw [← hu, ← hx]
        exact .v _
    · obtain ⟨z, _, rfl⟩ := List.mem_map.1 hu; rfl
    · have h0 : 0 < zs.length := by
        rcases Nat.eq_zero_or_pos zs.length with q | q
        · exact absurd (by rw [List.length_eq_zero_iff.1 q]; rfl) hne
        · exact q
      obtain ⟨b, off, rfl, hcb⟩ := Go.ints_at hcell h0
      have hlt : b < W.heap.size := by
        have := hcb 0 h0
        unfold World.cell? at this
        split at this
        · rename_i h2; exact (Array.getElem?_eq_some_iff.1 h2).1
        · cases this
      refine ⟨b, off, rfl, hlt, fun j u hj => ?_⟩
      rw [List.getElem?_map] at hj
      cases h3 : zs[j]? with
      | none => rw [h3] at hj; cases hj
      | some z =>
        rw [h3] at hj
        simp only [Option.map_some, Option.some.injEq] at hj
        subst hj
        have hj2 : j < zs.length := (List.getElem?_eq_some_iff.1 h3).1
        rw [hcb j hj2, List.getD_eq_getElem?_getD, h3]; rfl
def divL : List (List Int) := [[1], [1, 2], [1, 3], [1, 2, 4], [1, 5], [1, 2, 3, 6], [1, 7], [1, 2, 4, 8], [1, 3, 9], [1, 2, 5, 10], [1, 11], [1, 2, 3, 4, 6, 12], [1, 13], [1, 2, 7, 14], [1, 3, 5, 15], [1, 2, 4, 8, 16], [1, 17], [1, 2, 3, 6, 9, 18], [1, 19], [1, 2, 4, 5, 10, 20], [1, 3, 7, 21], [1, 2, 11, 22], [1, 23], [1, 2, 3, 4, 6, 8, 12, 24]]
theorem laid_eq : (Rows.laid_headword_sheet_divisors : DataW Unit) = .agg (.nil :: divL.map fun l => .slice (lits .i64 l) []) := rfl
theorem tab_eq : tabDiv = .ptr (.ag (.v (.slice none 0 0) :: divL.map fun l => .sl 1 false (l.map ai))) := rfl
theorem cut_one {L : List Value} {i : Nat} {u : Value} (h : (L.drop i).take 1 = [u]) : L[i]? = some u := by
  have h1 : ((L.drop i).take 1)[0]? = some u := by rw [h]; rfl
  rw [List.getElem?_take, if_pos (by omega), List.getElem?_drop] at h1
  simpa using h1
theorem tab_ok {W : World} (hL : laidMetH Tryd.prog [("headword/sheet.divisors", Rows.laid_headword_sheet_divisors)] W) : TabOk (fun b => b < W.heap.size) W := by
  rw [MakeChecks.laidMetH_plain _ _ _ (by kernel_rfl)] at hL
  obtain ⟨ps, ⟨g, t, cs, fuel, p, q, hg, ht, hvar, htr, _, _⟩, _, _⟩ := hL
  have e0 : Tryd.prog.globalNamed "headword/sheet.divisors" = some 0 := by kernel_rfl
  have hg0 : g = 0 := by rw [e0] at hg; injection hg with hg; exact hg.symm
  subst hg0
  have et : (Tryd.prog.globals[0]?).map (·.type) = some 88 := by kernel_rfl
  have ht0 : t = 88 := by rw [et] at ht; injection ht with ht; exact ht.symm
  subst ht0
  obtain ⟨c2, c3, hheap⟩ : ∃ c2 c3, W.heap[0]? = some (.cells cs c2 c3) := by
    unfold World.var? at hvar
    rw [e0] at hvar
    simp only [Option.bind_some] at hvar
    split at hvar
    · rename_i h; injection hvar with hvar; subst hvar; exact ⟨_, _, h⟩
    · cases hvar
  obtain ⟨xs, m, _, hx, hlen, hn, hel⟩ := DataW.trod_array Tryd.underlying88 htr
  have hc1 : Tryd.prog.cellsOf 25 = 1 := by kernel_rfl
  have hc25 : Tryd.prog.cellsOf 88 = 25 := by kernel_rfl
  rw [hc25] at hlen
  rw [hc1] at hel
  simp only [Prod.mk.injEq] at hx
  have hxs := hx.1
  rw [laid_eq] at hxs
  simp only [DataW.agg.injEq] at hxs
  rintro pr ⟨g, x, hgx, rfl⟩
  unfold tabAt at hgx
  split at hgx
  · rename_i hb
    have := Nat.eq_of_beq_eq_true hb
    subst this
    injection hgx with hgx
    subst hgx
    show AVok _ _ W (.pointer (some ⟨0, 0, none⟩)) tabDiv
    rw [tab_eq]
    have each : ∀ j, j < 25 → ∃ u y, cs.toList[j]? = some u ∧ (AV.v (.slice none 0 0) :: divL.map fun l => .sl 1 false (l.map ai))[j]? = some y ∧ u.oneCell' = true ∧ AVok (fun b => b < W.heap.size) Gam.none W u y := fun j hj => by
      have h1 := hel j hj
      rw [Nat.mul_one, List.getElem?_eq_getElem (by omega)] at h1
      have h2 : (xs.map (·.1))[j]? = some (xs[j]'(by omega)).1 := by rw [List.getElem?_map, List.getElem?_eq_getElem (by omega)]; rfl
      rw [← hxs] at h2
      match j, hj, h1, h2 with
      | 0, _, h1, h2 =>
        simp only [List.getElem?_cons_zero, Option.some.injEq] at h2
        exact ⟨_, _, cut_one (cell_nil h1 h2.symm), rfl, rfl, .v _⟩
      | j + 1, hj, h1, h2 =>
        have hj2 : j < divL.length := by show j < 24; omega
        rw [List.getElem?_cons_succ, List.getElem?_map, List.getElem?_eq_getElem hj2] at h2
        simp only [Option.map_some, Option.some.injEq] at h2
        obtain ⟨u, q1, q2, q3⟩ := cell_row h1 h2.symm
        exact ⟨u, _, cut_one q1, by rw [List.getElem?_cons_succ, List.getElem?_map, List.getElem?_eq_getElem hj2]; rfl, q2, q3⟩
    have hlt : 0 < W.heap.size := (Array.getElem?_eq_some_iff.1 hheap).1
    refine .ptr 0 0 _ cs.toList (by rw [hlen]; rfl) (fun u hu => ?_) (fun j u y h1 h2 => ?_) hlt (fun j u hj => ?_)
    · obtain ⟨j, hj, rfl⟩ := List.mem_iff_getElem.1 hu
      obtain ⟨u, y, q1, _, q3, _⟩ := each j (by omega)
      rw [List.getElem?_eq_getElem hj] at q1
      injection q1 with q1
      rw [q1]; exact q3
    · have hj : j < 25 := by rw [← hlen]; exact (List.getElem?_eq_some_iff.1 h1).1
      obtain ⟨u', y', q1, q2, _, q4⟩ := each j hj
      rw [q1] at h1
      injection h1 with h1
      have h2' : (AV.v (.slice none 0 0) :: divL.map fun l => .sl 1 false (l.map ai))[j]? = some y := h2
      rw [q2] at h2'
      injection h2' with h2'
      rw [← h1, ← h2']; exact q4
    · unfold World.cell?
      rw [Nat.zero_add]
      simp only [hheap]
      simpa using hj
  · cases hgx
end Go.Proofs.YtliklcopmapfaaaDoor

