/-
  Plain mathematics of package short, continued: the first word that tells two words apart, size by size.
-/
import Derived.Test.YtalildjhighlhaaMathD
namespace Go.Proofs.Short

def dif (a b p : List UInt8) : Bool := leftL a p != leftL b p
/-- the first word of n letters that tells two words apart -/
def diffL (a b : List UInt8) (n : Nat) : Option (List UInt8) := ((partsL [a, b]).filter fun p => p.length == n).find? (dif a b)
theorem apartL_eq (a b : List UInt8) : apartL a b = (partsL [a, b]).find? (dif a b) := rfl
theorem apart_some {a b p : List UInt8} (h : apartL a b = some p) : diffL a b p.length = some p ∧ ∀ n, n < p.length → diffL a b n = none := by
  rw [apartL_eq] at h
  obtain ⟨hp, as, bs, e, hbef⟩ := List.find?_eq_some_iff_append.1 h
  have hs := srt_partsL [a, b]
  unfold diffL
  rw [e] at hs ⊢
  unfold Srt at hs
  rw [List.pairwise_append] at hs
  have hnone : ∀ n, (as.filter fun q => q.length == n).find? (dif a b) = none := fun n =>
    List.find?_eq_none.2 fun q hq => by
      have := hbef q (List.mem_filter.1 hq).1
      simpa using this
  refine ⟨?_, fun n hn => ?_⟩
  · rw [List.filter_append, List.find?_append, hnone, Option.none_or, List.filter_cons, if_pos (by simp), List.find?_cons, hp]
  · rw [List.filter_append, List.find?_append, hnone, Option.none_or]
    have : (p :: bs).filter (fun q => q.length == n) = [] := by
      refine List.filter_eq_nil_iff.2 fun q hq => ?_
      rcases List.mem_cons.1 hq with rfl | hq
      · simp; omega
      · have h2 := (List.pairwise_cons.1 hs.2.1).1 q hq
        rw [ltW_iff] at h2
        simp; omega
    rw [this]; rfl
theorem apart_none {a b : List UInt8} (h : apartL a b = none) : ∀ n, diffL a b n = none := fun n => by
  rw [apartL_eq] at h
  exact List.find?_eq_none.2 fun q hq => List.find?_eq_none.1 h q (List.mem_filter.1 hq).1
/-- only the same words are told apart by nothing -/
theorem apart_same {a b : List UInt8} (h : apartL a b = none) : a = b := by
  rw [apartL_eq] at h
  have ha := List.find?_eq_none.1 h a (mem_partsL.2 ⟨a, by simp, List.Sublist.refl a⟩)
  have hb := List.find?_eq_none.1 h b (mem_partsL.2 ⟨b, by simp, List.Sublist.refl b⟩)
  have haa : leftL a a = true := leftL_iff.2 (List.Sublist.refl a)
  have hbb : leftL b b = true := leftL_iff.2 (List.Sublist.refl b)
  unfold dif at ha hb
  rw [haa] at ha; rw [hbb] at hb
  have h1 : leftL b a = true := by cases hx : leftL b a <;> simp_all
  have h2 : leftL a b = true := by cases hx : leftL a b <;> simp_all
  exact (leftL_iff.1 h1).eq_of_length_le (leftL_iff.1 h2).length_le
theorem apart_eq (a : List UInt8) : apartL a a = none := by
  rw [apartL_eq]
  exact List.find?_eq_none.2 fun q _ => by unfold dif; simp
theorem apart_pos {a b p : List UInt8} (h : apartL a b = some p) : 1 ≤ p.length := by
  rw [apartL_eq] at h
  have hp := List.find?_some h
  cases p with
  | nil => unfold dif at hp; rw [leftL_nil, leftL_nil] at hp; exact absurd hp (by decide)
  | cons c q => simp
theorem apart_le {a b p : List UInt8} (h : apartL a b = some p) (ha : a.length ≤ 10) (hb : b.length ≤ 10) : p.length ≤ 10 := by
  rw [apartL_eq] at h
  obtain ⟨x, hx, hs⟩ := mem_partsL.1 (List.mem_of_find?_eq_some h)
  have := hs.length_le
  simp at hx
  rcases hx with rfl | rfl <;> omega
/-- the parts of one size of two words: those of the one and those of the other -/
theorem mem_two {a b p : List UInt8} {n : Nat} (ha : a.all okc = true) (hb : b.all okc = true) : p ∈ (partsL [a, b]).filter (fun p => p.length == n) ↔ p ∈ szL n a ++ szL n b := by
  rw [List.mem_filter, mem_partsL, List.mem_append, mem_szL n a ha, mem_szL n b hb]
  simp only [List.mem_cons, List.not_mem_nil, or_false, beq_iff_eq]
  constructor
  · rintro ⟨⟨x, rfl | rfl, hs⟩, hl⟩
    · exact .inl ⟨hl, hs⟩
    · exact .inr ⟨hl, hs⟩
  · rintro (⟨hl, hs⟩ | ⟨hl, hs⟩)
    · exact ⟨⟨a, .inl rfl, hs⟩, hl⟩
    · exact ⟨⟨b, .inr rfl, hs⟩, hl⟩
/-- the least of a list for which a test is true is the first one of the same words in order -/
theorem find_least {l : List (List UInt8)} (hs : Srt l) {P : List UInt8 → Bool} {m : List UInt8} (hm : m ∈ l) (hP : P m = true) (hmin : ∀ x ∈ l, P x = true → ltW x m = false) : l.find? P = some m := by
  cases h : l.find? P with
  | none => have := List.find?_eq_none.1 h m hm; rw [hP] at this; exact absurd rfl this
  | some p =>
    obtain ⟨hp, as, bs, e, hbef⟩ := List.find?_eq_some_iff_append.1 h
    have h1 := hmin p (by rw [e]; simp) hp
    cases h2 : ltW m p with
    | false => rw [ltW_total h1 h2]
    | true =>
      exfalso
      rw [e] at hm hs
      unfold Srt at hs
      rw [List.pairwise_append] at hs
      rcases List.mem_append.1 hm with hm | hm
      · have := hbef m hm; rw [hP] at this; exact absurd this (by decide)
      · rcases List.mem_cons.1 hm with rfl | hm
        · rw [ltW_irrefl] at h2; exact absurd h2 (by decide)
        · have := ltW_asymm ((List.pairwise_cons.1 hs.2.1).1 m hm)
          rw [this] at h2; exact absurd h2 (by decide)
end Go.Proofs.Short
