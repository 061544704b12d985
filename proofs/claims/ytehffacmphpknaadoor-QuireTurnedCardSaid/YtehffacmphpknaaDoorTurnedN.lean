/-
  slices.Clone at []int, as QuireTurned uses it; the table under a written row.
-/
import Derived.Test.YtehffacmphpknaaDoorTurnedM
import Derived.Test.YtehffacmphpknaaDoorShelfU
import Derived.Test.YtehffacmphpknaaDoorPile
set_option linter.unusedSimpArgs false
set_option linter.unusedVariables false
namespace Go.Proofs.YtehffacmphpknaaDoor
open Go.RowKit Go.Lib Go.Proofs.Quire

def ClonePost (l : List Nat) (n : Nat) (w : World) (e : Ending) (w' : World) : Prop :=
  ∃ g c, e = .returned (.slice (some ⟨g, 0, none⟩) n c) ∧ w.heap.size ≤ g ∧ Arr w' g (ints l) ∧ Below w.heap.size w w'
theorem clone_any (A : Option Addr) (c n : Nat) (l : List Nat) (w : World) (hl : l.length = n) (h0 : 0 < n) (hn : n ≤ 1000) (hrd : Rd w A n (ints l)) :
    Calls Tryd.prog 49 #[.slice A n c] w (ClonePost l n w) := by
  obtain ⟨g, o, rfl, hg, _, hc⟩ := hrd.2 h0
  obtain ⟨i0, hi, hz0, hz1, hz2⟩ := info_parts Tryd.infoInt
  have h := AnyE.slices_Clone Tryd.cloI i0 (.int .i64 0) 1 8 hi hz0 hz1 hz2 rfl (by decide) (fun w => by have := Tryd.sizeOf3; exact this w) g o n c (ints l) w (by rw [ints_length, hl]; omega) (by unfold maxLen; omega) (by omega)
    (fun j u hj => by
      have hjn : j < n := by
        have := (List.getElem?_eq_some_iff.1 hj).1; rw [ints_length, hl] at this; exact this
      rw [hc j hjn, List.getD_eq_getElem?_getD, hj]; rfl)
    (fun u hu => by obtain ⟨x, _, rfl⟩ := List.mem_map.1 hu; rfl)
  refine h.mono ?_
  rintro e w' ⟨v', rfl, hown, _, hb⟩
  rcases hown.2 with ⟨_, h1⟩ | ⟨g', cap, cur, rfl, hg', hh, hnc, _, hcs, ht⟩
  · omega
  · refine ⟨g', cap, rfl, hg', ⟨(Array.getElem?_eq_some_iff.1 hh).1, fun j hj => ?_⟩, hb⟩
    rw [ints_length, hl] at hj
    refine ⟨?_, by simp [World.frozen?, hh]⟩
    simp only [World.cell?, hh]
    have : cur[j]? = (ints l)[j]? := by
      rw [← ht, List.getElem?_take, if_pos (by omega), Array.getElem?_toList]
    simp [this, List.getD_eq_getElem?_getD, List.getElem?_eq_getElem (show j < (ints l).length by rw [ints_length, hl]; exact hj)]
/-- two numbers of a row exchanged, in memory -/
theorem ints_swp (l : List Nat) (x y : Nat) : ((ints l).set x (.int .i64 (l.getD y 0 : Nat))).set y (.int .i64 (l.getD x 0 : Nat)) = ints (swp l x y) := by
  unfold swp; rw [ints_set, ints_set]
theorem zs_cast (l : List Nat) : zs (l.map fun x : Nat => (x : Int)) = ints l := by unfold zs ints; rw [List.map_map]; rfl
end Go.Proofs.YtehffacmphpknaaDoor
