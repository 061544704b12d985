/-
  Plain mathematics of package short, continued: all places of a part, and ways from either end.
-/
import Derived.Test.YtlbepjmiligpcaaDoorMath
set_option linter.unusedSimpArgs false
set_option linter.unusedVariables false
namespace Go.Proofs.Short

/-- all places of a part in what a word has from index i on, in ascending order -/
def plL : List UInt8 → Nat → List UInt8 → List (List Nat)
  | _, _, [] => [[]]
  | [], _, _ :: _ => []
  | a :: w, i, c :: p => if a = c then (plL w (i + 1) p).map (i :: ·) ++ plL w (i + 1) (c :: p) else plL w (i + 1) (c :: p)
theorem plL_nil (w : List UInt8) (i : Nat) : plL w i [] = [[]] := by cases w <;> rfl
theorem plL_none (i : Nat) (c : UInt8) (p : List UInt8) : plL [] i (c :: p) = [] := rfl

theorem waysR_snoc : ∀ (w p : List UInt8) (a c : UInt8), waysR (w ++ [a]) (p ++ [c]) = waysR w (p ++ [c]) + if a = c then waysR w p else 0
  | [], [], a, c => by simp [waysR]
  | [], d :: p, a, c => by
    cases p with
    | nil => simp [waysR]
    | cons e p => simp [waysR]
  | b :: w, [], a, c => by
    have ih := waysR_snoc w [] a c
    simp only [List.nil_append, List.cons_append, waysR, waysR_nil] at ih ⊢
    rw [ih]; omega
  | b :: w, d :: p, a, c => by
    have i1 := waysR_snoc w (d :: p) a c
    have i2 := waysR_snoc w p a c
    simp only [List.cons_append, waysR] at i1 i2 ⊢
    rw [i1, i2]
    by_cases h1 : b = d
    · by_cases h2 : a = c <;> simp [h1, h2] <;> omega
    · by_cases h2 : a = c <;> simp [h1, h2]
theorem waysR_rev : ∀ (w p : List UInt8), waysR w.reverse p.reverse = waysR w p
  | _, [] => by simp [waysR_nil]
  | [], c :: p => by
    cases h : p.reverse with
    | nil => simp [h, waysR]
    | cons d q => simp [h, waysR]
  | a :: w, c :: p => by
    have i1 := waysR_rev w (c :: p)
    have i2 := waysR_rev w p
    rw [List.reverse_cons] at i1
    rw [List.reverse_cons, List.reverse_cons, waysR_snoc, i1, i2, waysR]
theorem waysL_eq (w p : List UInt8) : waysL w p = waysR w p := waysR_rev w p
theorem plL_length : ∀ (w : List UInt8) (i : Nat) (p : List UInt8), (plL w i p).length = waysR w p
  | w, i, [] => by rw [plL_nil, waysR_nil]; rfl
  | [], i, c :: p => rfl
  | a :: w, i, c :: p => by
    have i1 := plL_length w (i + 1) (c :: p)
    have i2 := plL_length w (i + 1) p
    unfold plL waysR
    split
    · rw [List.length_append, List.length_map, i1, i2]; omega
    · rw [i1]; omega
theorem waysR_pos : ∀ (w p : List UInt8), 0 < waysR w p ↔ leftL w p = true
  | w, [] => by rw [waysR_nil, leftL_nil]; simp
  | [], c :: p => by simp [waysR, leftL]
  | a :: w, c :: p => by
    have i1 := waysR_pos w (c :: p)
    have i2 := waysR_pos w p
    unfold waysR leftL
    split
    · constructor
      · intro h
        by_cases h2 : 0 < waysR w p
        · exact i2.1 h2
        · exact leftL_of_tail (i1.1 (by omega))
      · intro h; have := i2.2 h; omega
    · rw [← i1]; simp
theorem firstL_pl : ∀ (w : List UInt8) (i : Nat) (p : List UInt8), firstL i w p = (plL w i p).head?
  | w, i, [] => by rw [plL_nil, firstL_nil]; rfl
  | [], i, c :: p => rfl
  | a :: w, i, c :: p => by
    have i1 := firstL_pl w (i + 1) (c :: p)
    have i2 := firstL_pl w (i + 1) p
    unfold plL firstL
    split
    · rw [i2]
      cases h : plL w (i + 1) p with
      | cons x l => simp
      | nil =>
        have h1 : ¬ 0 < waysR w p := by rw [← plL_length w (i + 1) p, h]; simp
        have h2 : ¬ 0 < waysR w (c :: p) := fun h3 => h1 ((waysR_pos w p).2 (leftL_of_tail ((waysR_pos w _).1 h3)))
        have h4 : plL w (i + 1) (c :: p) = [] := List.length_eq_zero_iff.1 (by rw [plL_length]; omega)
        rw [h4]; rfl
    · exact i1
/-- each place of a list of places is short -/
theorem plL_each : ∀ (w : List UInt8) (i : Nat) (p : List UInt8), ∀ l ∈ plL w i p, l.length = p.length
  | w, i, [], l, h => by rw [plL_nil] at h; simp at h; simp [h]
  | [], i, c :: p, l, h => by simp [plL] at h
  | a :: w, i, c :: p, l, h => by
    unfold plL at h
    split at h
    · rcases List.mem_append.1 h with h | h
      · obtain ⟨m, hm, rfl⟩ := List.mem_map.1 h
        simp [plL_each w (i + 1) p m hm]
      · exact plL_each w (i + 1) (c :: p) l h
    · exact plL_each w (i + 1) (c :: p) l h
theorem count_mapc (a : UInt8) (p : List UInt8) : ∀ l : List (List UInt8), (l.map (a :: ·)).count (a :: p) = l.count p
  | [] => rfl
  | x :: l => by
    rw [List.map_cons, List.count_cons, List.count_cons, count_mapc a p l]
    simp
theorem waysR_count : ∀ (w p : List UInt8), waysR w p = (subs w).count p
  | w, [] => by
    rw [waysR_nil]
    induction w with
    | nil => rfl
    | cons a w ih =>
      rw [subs, List.count_append, ← ih, List.count_eq_zero.2]
      simp
  | [], c :: p => by simp [waysR, subs]
  | a :: w, c :: p => by
    have i1 := waysR_count w (c :: p)
    have i2 := waysR_count w p
    rw [waysR, subs, List.count_append, ← i1]
    congr 1
    split
    · rename_i h; subst h
      rw [i2, count_mapc]
    · rename_i h
      refine (List.count_eq_zero.2 ?_).symm
      simp [h]
end Go.Proofs.Short
