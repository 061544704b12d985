/-
  The mathematics of volumes: how many ends the greedy cut puts, and that no other has fewer.
-/
import Derived.Test.YtkaoelhhabecnaaVa
set_option linter.unusedSimpArgs false
set_option linter.unusedVariables false
namespace Go.Proofs.Ytkaoelhhabecnaa
open Go Go.Proofs.Eng
/-- how many ends stand inside, when so many lines are in the volume that is being filled -/
def nb (R : Int) : List Int → Int → Nat
  | [], _ => 0
  | m :: t, c => if c + m > R then nb R t m + 1 else nb R t (c + m)
theorem nb_le {R R' : Int} (h : R ≤ R') : ∀ (t : List Int) (c c' : Int), (∀ x, x ∈ t → 0 ≤ x ∧ x ≤ R) → 0 ≤ c → c ≤ R → 0 ≤ c' → c' ≤ R' → (c' ≤ c → nb R' t c' ≤ nb R t c) ∧ nb R' t c' ≤ nb R t c + 1
  | [], c, c', _, _, _, _, _ => ⟨fun _ => Nat.le_refl _, Nat.le_succ _⟩
  | m :: t, c, c', hx, h0, h1, h2, h3 => by
    have hm := hx m List.mem_cons_self
    have ht : ∀ x, x ∈ t → 0 ≤ x ∧ x ≤ R := fun x q => hx x (List.mem_cons_of_mem _ q)
    simp only [nb]
    by_cases a : c + m > R
    · rw [if_pos a]
      by_cases b : c' + m > R'
      · rw [if_pos b]
        have := nb_le h t m m ht (by omega) (by omega) (by omega) (by omega)
        have := this.1 (by omega)
        exact ⟨fun _ => by omega, by omega⟩
      · rw [if_neg b]
        have := nb_le h t m (c' + m) ht (by omega) (by omega) (by omega) (by omega)
        exact ⟨fun _ => this.2, by omega⟩
    · rw [if_neg a]
      by_cases b : c' + m > R'
      · rw [if_pos b]
        have := nb_le h t (c + m) m ht (by omega) (by omega) (by omega) (by omega)
        have := this.1 (by omega)
        exact ⟨fun q => by omega, by omega⟩
      · rw [if_neg b]
        have := nb_le h t (c + m) (c' + m) ht (by omega) (by omega) (by omega) (by omega)
        exact ⟨fun q => this.1 (by omega), this.2⟩
theorem nb_mono {R : Int} {t : List Int} {c c' : Int} (hx : ∀ x, x ∈ t → 0 ≤ x ∧ x ≤ R) (h0 : 0 ≤ c) (h : c ≤ c') (h1 : c' ≤ R) : nb R t c ≤ nb R t c' ∧ nb R t c' ≤ nb R t c + 1 :=
  ⟨(nb_le (Int.le_refl R) t c' c hx (by omega) h1 h0 (by omega)).1 h, (nb_le (Int.le_refl R) t c c' hx h0 (by omega) (by omega) h1).2⟩
/-- a line more for one article: as many ends, or one more -/
theorem nb_more {R : Int} : ∀ (s : List Int) (m : Int) (t : List Int) (c : Int), (∀ x, x ∈ s ++ (m + 1) :: t → 0 ≤ x ∧ x ≤ R) → 0 ≤ m → 0 ≤ c → c ≤ R → nb R (s ++ m :: t) c ≤ nb R (s ++ (m + 1) :: t) c ∧ nb R (s ++ (m + 1) :: t) c ≤ nb R (s ++ m :: t) c + 1
  | [], m, t, c, hx, hm, h0, h1 => by
    have h2 := hx (m + 1) (by simp)
    have ht : ∀ x, x ∈ t → 0 ≤ x ∧ x ≤ R := fun x q => hx x (by simp [q])
    simp only [List.nil_append, nb]
    by_cases a : c + m > R
    · rw [if_pos a, if_pos (by omega)]
      have := nb_mono ht (c := m) (c' := m + 1) (by omega) (by omega) (by omega)
      omega
    · rw [if_neg a]
      by_cases b : c + (m + 1) > R
      · rw [if_pos b]
        have k1 := nb_mono ht (c := m + 1) (c' := c + m) (by omega) (by omega) (by omega)
        omega
      · rw [if_neg b]
        have := nb_mono ht (c := c + m) (c' := c + (m + 1)) (by omega) (by omega) (by omega)
        omega
  | x :: s, m, t, c, hx, hm, h0, h1 => by
    have h2 := hx x (by simp)
    have ht : ∀ y, y ∈ s ++ (m + 1) :: t → 0 ≤ y ∧ y ≤ R := fun y q => hx y (by rw [List.cons_append]; exact List.mem_cons_of_mem _ q)
    simp only [List.cons_append, nb]
    by_cases a : c + x > R
    · rw [if_pos a, if_pos a]
      have := nb_more s m t x ht hm (by omega) (by omega)
      omega
    · rw [if_neg a, if_neg a]
      exact nb_more s m t (c + x) ht hm (by omega) (by omega)
/-- the ends that the greedy cut puts, from an article on -/
def fl (R : Int) : List Int → Int → Nat → List Int
  | [], _, i => [(i : Int)]
  | m :: t, c, i => if c + m > R then (i : Int) :: fl R t m (i + 1) else fl R t (c + m) (i + 1)
theorem fl_len (R : Int) : ∀ (t : List Int) (c : Int) (i : Nat), (fl R t c i).length = nb R t c + 1
  | [], c, i => rfl
  | m :: t, c, i => by
    simp only [fl, nb]
    split
    · rw [List.length_cons, fl_len]
    · exact fl_len R t _ _
end Go.Proofs.Ytkaoelhhabecnaa

