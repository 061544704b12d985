/-
  Plain mathematics: all ways of all parts of a size are as many as the sets of this size; words of one size in the order of Go's strings.
-/
import Derived.Test.YtalildjhighlhaaMathI
import Derived.Test.YtalildjhighlhaaMathH
namespace Go.Proofs.Short
def binom : Nat → Nat → Nat
  | _, 0 => 1
  | 0, _ + 1 => 0
  | n + 1, k + 1 => binom n (k + 1) + binom n k
theorem subs_size : ∀ (w : List UInt8) (s : Nat), ((subs w).filter fun p => p.length == s).length = binom w.length s
  | [], 0 => rfl
  | [], s + 1 => rfl
  | a :: w, 0 => by
    have h := subs_size w 0
    have h2 : ((subs w).map (a :: ·)).filter (fun p => p.length == 0) = [] := by
      rw [List.filter_eq_nil_iff]; intro p hp
      obtain ⟨q, _, rfl⟩ := List.mem_map.1 hp
      simp
    show ((subs w ++ (subs w).map (a :: ·)).filter fun p => p.length == 0).length = 1
    rw [List.filter_append, h2, List.append_nil, h]
    cases w.length <;> rfl
  | a :: w, s + 1 => by
    have h1 := subs_size w (s + 1)
    have h2 := subs_size w s
    show ((subs w ++ (subs w).map (a :: ·)).filter fun p => p.length == s + 1).length = binom w.length (s + 1) + binom w.length s
    rw [List.filter_append, List.length_append, h1, List.filter_map, List.length_map, ← h2]
    congr 2
    refine List.filter_congr fun p _ => ?_
    simp
theorem binom_step : ∀ n < 10, ∀ s < 10, s ≤ n → binom n s * (n - s) / (s + 1) = binom n (s + 1) ∧ binom n s * (n - s) ≤ 100000 := by decide
theorem binom_zero : ∀ n < 10, binom n 0 = 1 := by decide
theorem sum_counts {S : List (List UInt8)} {L : List (List UInt8)} (hn : L.Nodup) : sumL (fun p => S.count p) L = (S.filter fun x => L.contains x).length := by
  induction S with
  | nil => exact sumL_zero fun _ _ => rfl
  | cons x S ih =>
    have e : sumL (fun p => (x :: S).count p) L = sumL (fun p => S.count p) L + sumL (fun p => if p = x then 1 else 0) L := by
      rw [← sumL_add]
      refine sumL_congr fun p _ => ?_
      rw [List.count_cons]
      by_cases h : x = p
      · subst h; simp
      · have h' : ¬ p = x := fun e => h e.symm
        simp [h, h']
    have e2 : ∀ L : List (List UInt8), L.Nodup → sumL (fun p => if p = x then 1 else 0) L = if L.contains x then 1 else 0 := by
      intro L
      induction L with
      | nil => intro _; rfl
      | cons y L ihL =>
        intro hn
        rw [List.nodup_cons] at hn
        simp only [sumL]
        rw [ihL hn.2]
        by_cases h : y = x
        · subst h
          have : L.contains y = false := by
            cases hc : L.contains y with
            | false => rfl
            | true => exact absurd (List.contains_iff_mem.1 hc) hn.1
          simp [hn.1]
        · have h' : ¬ x = y := fun e => h e.symm
          simp [h, h']
    rw [e, e2 L hn, ih, List.filter_cons]
    by_cases h : L.contains x = true
    · rw [if_pos h, if_pos h]; rfl
    · rw [if_neg h, if_neg h]; rfl
/-- the ways of all parts of a size -/
theorem ways_size (w : List UInt8) (s : Nat) : sumL (fun p => (subs w).count p) ((partsL [w]).filter fun p => p.length == s) = binom w.length s := by
  rw [sum_counts ((srt_nodup (srt_partsL _)).filter _), ← subs_size w s]
  congr 1
  refine List.filter_congr fun p hp => ?_
  rw [Bool.eq_iff_iff, List.contains_iff_mem, List.mem_filter, mem_partsL]
  have hs := mem_subs.1 hp
  simp [hs]
theorem sumL_take {α : Type} (f : α → Nat) : ∀ (l : List α) (k : Nat) (h : k < l.length), sumL f (l.take (k + 1)) = sumL f (l.take k) + f l[k]
  | a :: l, 0, _ => by simp [sumL]
  | a :: l, k + 1, h => by
    have ih := sumL_take f l k (by simpa using h)
    simp only [List.take_succ_cons, sumL, ih, List.getElem_cons_succ]; omega
theorem sumL_take_le {α : Type} (f : α → Nat) : ∀ (l : List α) (k : Nat), sumL f (l.take k) ≤ sumL f l
  | [], k => by simp
  | a :: l, 0 => by simp [sumL]
  | a :: l, k + 1 => by have := sumL_take_le f l k; simp only [List.take_succ_cons, sumL]; omega
end Go.Proofs.Short
