/-
  slices.Clone at []int.
-/
import Derived.Test.YtbkmicimpgabgaaDoorShelfU
import Derived.Test.YtbkmicimpgabgaaDoorPile
set_option linter.unusedSimpArgs false
set_option linter.unusedVariables false
namespace Go.Proofs.YtbkmicimpgabgaaDoor
open Go.RowKit Go.Lib Go.Proofs.Quire

def Clone2Post (l : List Nat) (n : Nat) (w : World) (e : Ending) (w' : World) : Prop :=
  ∃ g c, e = .returned (.slice (some ⟨g, 0, none⟩) n c) ∧ w.heap.size ≤ g ∧ Arr w' g (ints l) ∧ Below w.heap.size w w' ∧ n ≤ c
def ClonePost (l : List Nat) (n : Nat) (w : World) (e : Ending) (w' : World) : Prop :=
  ∃ g c, e = .returned (.slice (some ⟨g, 0, none⟩) n c) ∧ w.heap.size ≤ g ∧ Arr w' g (ints l) ∧ Below w.heap.size w w'
theorem clone2_any (A : Option Addr) (c n : Nat) (l : List Nat) (w : World) (hl : l.length = n) (h0 : 0 < n) (hn : n ≤ 1000) (hrd : Rd w A n (ints l)) :
    Calls Tryd.prog 28 #[.slice A n c] w (Clone2Post l n w) := by
  obtain ⟨g, o, rfl, hg, _, hc⟩ := hrd.2 h0
  obtain ⟨i0, hi, hz0, hz1, hz2⟩ := info_parts Tryd.infoInt
  have h := AnyE.slices_Clone Tryd.cloI i0 (.int .i64 0) 1 8 hi hz0 hz1 hz2 rfl (by decide) (fun w => by have := Tryd.sizeOf3; exact this w) g o n c (ints l) w (by rw [ints_length, hl]; omega) (by unfold maxLen; omega) (by omega)
    (fun j u hj => by
      have hjn : j < n := by
        have := (List.getElem?_eq_some_iff.1 hj).1; rw [ints_length, hl] at this; exact this
      rw [hc j hjn, List.getD_eq_getElem?_getD, hj]; rfl)
    (fun u hu => by obtain ⟨x, _, rfl⟩ := List.mem_map.1 hu; rfl)
  refine h.mono ?_
  rintro e w' ⟨v', rfl, hown, _, hb⟩
  rcases hown.2 with ⟨_, h1⟩ | ⟨g', cap, cur, rfl, hg', hh, hnc, _, hcs, ht⟩
  · omega
  · refine ⟨g', cap, rfl, hg', ⟨(Array.getElem?_eq_some_iff.1 hh).1, fun j hj => ?_⟩, hb, hnc⟩
    rw [ints_length, hl] at hj
    refine ⟨?_, by simp [World.frozen?, hh]⟩
    simp only [World.cell?, hh]
    have : cur[j]? = (ints l)[j]? := by
      rw [← ht, List.getElem?_take, if_pos (by omega), Array.getElem?_toList]
    simp [this, List.getD_eq_getElem?_getD, List.getElem?_eq_getElem (show j < (ints l).length by rw [ints_length, hl]; exact hj)]
theorem clone_any (A : Option Addr) (c n : Nat) (l : List Nat) (w : World) (hl : l.length = n) (h0 : 0 < n) (hn : n ≤ 1000) (hrd : Rd w A n (ints l)) :
    Calls Tryd.prog 28 #[.slice A n c] w (ClonePost l n w) :=
  (clone2_any A c n l w hl h0 hn hrd).mono fun _ _ ⟨g, c, h1, h2, h3, h4, _⟩ => ⟨g, c, h1, h2, h3, h4⟩
end Go.Proofs.YtbkmicimpgabgaaDoor
