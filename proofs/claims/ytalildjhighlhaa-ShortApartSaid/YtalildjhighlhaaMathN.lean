/-
  Plain mathematics of package short, continued: the first part that is left of no other word, size by size.
-/
import Derived.Test.YtalildjhighlhaaMathE
import Derived.Test.YtalildjhighlhaaShort
namespace Go.Proofs.Ytalildjhighlhaa
open Go.Proofs.Short

theorem find_by_size {l : List (List UInt8)} (hs : Srt l) {P : List UInt8 → Bool} {p : List UInt8} (h : l.find? P = some p) : (l.filter fun q => q.length == p.length).find? P = some p ∧ ∀ n, n < p.length → (l.filter fun q => q.length == n).find? P = none := by
  obtain ⟨hp, l1, bs, e, hbef⟩ := List.find?_eq_some_iff_append.1 h
  rw [e] at hs ⊢
  unfold Srt at hs
  rw [List.pairwise_append] at hs
  have hnone : ∀ n, (l1.filter fun q => q.length == n).find? P = none := fun n =>
    List.find?_eq_none.2 fun q hq => by
      have := hbef q (List.mem_filter.1 hq).1
      simpa using this
  refine ⟨?_, fun n hn => ?_⟩
  · rw [List.filter_append, List.find?_append, hnone, Option.none_or, List.filter_cons, if_pos (by simp), List.find?_cons, hp]
  · rw [List.filter_append, List.find?_append, hnone, Option.none_or]
    have : (p :: bs).filter (fun q => q.length == n) = [] := by
      refine List.filter_eq_nil_iff.2 fun q hq => ?_
      rcases List.mem_cons.1 hq with rfl | hq
      · simp; omega
      · have h2 := (List.pairwise_cons.1 hs.2.1).1 q hq
        rw [ltW_iff] at h2
        simp; omega
    rw [this]; rfl
theorem size_some {y : List UInt8} (hy : y.all okc = true) {P : List UInt8 → Bool} {n : Nat} {q : List UInt8} (h1 : ∀ m, m < n → (szL m y).find? P = none) (h2 : (szL n y).find? P = some q) : (partsL [y]).find? P = some q := by
  have hs := srt_partsL [y]
  have h1' := h1; have h2' := h2
  rw [szL_sized n y hy] at h2'
  cases h : (partsL [y]).find? P with
  | none =>
    have h3 := List.find?_eq_none.1 h q (List.mem_filter.1 (List.mem_of_find?_eq_some h2')).1
    exact absurd (List.find?_some h2') h3
  | some p =>
    have h3 := find_by_size hs h
    rcases Nat.lt_trichotomy p.length n with hlt | he | hgt
    · have := h1 p.length hlt
      rw [szL_sized _ y hy, h3.1] at this; cases this
    · subst he
      rw [h3.1] at h2'; exact h2'
    · rw [h3.2 n hgt] at h2'; cases h2'
theorem size_none {y : List UInt8} (hy : y.all okc = true) {P : List UInt8 → Bool} (h1 : ∀ m, m < y.length + 1 → (szL m y).find? P = none) : (partsL [y]).find? P = none := by
  refine List.find?_eq_none.2 fun q hq => ?_
  obtain ⟨x, hx, hs⟩ := mem_partsL.1 hq
  have hxy : x = y := by simpa using hx
  subst hxy
  exact List.find?_eq_none.1 (h1 q.length (by have := hs.length_le; omega)) q ((mem_szL q.length x hy q).2 ⟨rfl, hs⟩)
theorem chks_zero_mem : ∀ {ws : List (List UInt8)}, chks ws = 0 → ∀ x ∈ ws, chk x = 0
  | [], _, x, hx => absurd hx (by simp)
  | y :: l, h, x, hx => by
    unfold chks at h
    by_cases hy : chk y = 0
    · rw [if_pos hy] at h
      rcases List.mem_cons.1 hx with rfl | hx
      · exact hy
      · exact chks_zero_mem h x hx
    · rw [if_neg hy] at h; exact absurd h hy
theorem chks_drop {ws : List (List UInt8)} {i : Nat} (hi : i < ws.length) : chks (ws.drop i) = if chk (ws.getD i []) = 0 then chks (ws.drop (i + 1)) else chk (ws.getD i []) := by
  rw [List.drop_eq_getElem_cons hi, getD_lt _ _ _ hi]
  rfl
end Go.Proofs.Ytalildjhighlhaa
