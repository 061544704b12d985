/-
  The plans within a table among all plans; rows that have enough columns have a plan.
-/
import Derived.Test.YtkbeaheladmeiaaPC
import Derived.Test.YtkbeaheladmeiaaPD
set_option linter.unusedSimpArgs false
set_option linter.unusedVariables false
namespace Go.Proofs.Ytkbeaheladmeiaa
open Go Go.Proofs.Eng
set_option maxRecDepth 100000
set_option maxHeartbeats 2000000
/-! ### the plans within a table among all plans -/
def allP (n : Nat) : Nat → List Int → List (List Int)
  | 0, L => [L]
  | k + 1, L => (List.range n).flatMap fun (c : Nat) => if (c : Int) ∉ L then allP n k (L ++ [(c : Int)]) else []
theorem allP_pl {n : Nat} (h1 : 1 ≤ n) (h4 : n ≤ 4) : allP n n [] = plL n := by
  match n, h1, h4 with
  | 1, _, _ | 2, _, _ | 3, _, _ | 4, _, _ => decide +kernel
/-- all numbers from row b on are above 0 -/
def posF (n : Nat) (T : List (List Int)) (b : Nat) (p : List Int) : Bool := (List.range n).all fun r => decide (r < b) || decide (0 < cel T r (p.getD r 0).toNat)
theorem posF_step {n : Nat} {T : List (List Int)} {b : Nat} {p : List Int} (hb : b < n) : posF n T b p = (decide (0 < cel T b (p.getD b 0).toNat) && posF n T (b + 1) p) := by
  rw [Bool.eq_iff_iff, Bool.and_eq_true]
  simp only [posF, List.all_eq_true, List.mem_range, Bool.or_eq_true, decide_eq_true_eq]
  constructor
  · intro h
    refine ⟨(h b hb).resolve_left (by omega), fun r hr => ?_⟩
    rcases h r hr with q | q
    · exact .inl (by omega)
    · exact .inr q
  · rintro ⟨h1, h2⟩ r hr
    rcases Nat.lt_trichotomy r b with q | rfl | q
    · exact .inl q
    · exact .inr h1
    · exact (h2 r hr).elim (fun q2 => by omega) .inr
theorem allP_pre {n : Nat} : ∀ (k : Nat) (L : List Int) (p : List Int), p ∈ allP n k L → ∃ t, p = L ++ t ∧ t.length = k
  | 0, L, p, h => ⟨[], by simpa [allP] using h, rfl⟩
  | k + 1, L, p, h => by
    simp only [allP, List.mem_flatMap] at h
    obtain ⟨c, hc, h⟩ := h
    split at h
    · obtain ⟨t, h1, h2⟩ := allP_pre k _ p h
      exact ⟨(c : Int) :: t, by rw [h1]; simp, by simp [h2]⟩
    · cases h
theorem getD_pre {L t : List Int} {c : Int} : (L ++ [c] ++ t).getD L.length 0 = c := by
  rw [List.getD_eq_getElem?_getD, List.append_assoc, List.getElem?_append_right (Nat.le_refl _)]; simp
theorem ext_filter {n : Nat} {T : List (List Int)} : ∀ (k : Nat) (L : List Int), L.length + k = n → ext n T k L = (allP n k L).filter (posF n T L.length)
  | 0, L, hl => by
    have : posF n T L.length L = true := by
      simp only [posF, List.all_eq_true, List.mem_range, Bool.or_eq_true, decide_eq_true_eq]
      intro r hr; exact .inl (by omega)
    simp [ext, allP, this]
  | k + 1, L, hl => by
    simp only [ext, allP, List.filter_flatMap]
    congr 1
    funext c
    by_cases h1 : (c : Int) ∈ L
    · rw [if_neg (fun q => q.2 h1), if_neg (fun q => q h1)]; rfl
    · rw [if_pos h1]
      have hstep : ∀ p, p ∈ allP n k (L ++ [(c : Int)]) → posF n T L.length p = (decide (0 < cel T L.length c) && posF n T (L.length + 1) p) := fun p hp => by
        obtain ⟨t, rfl, _⟩ := allP_pre k _ p hp
        rw [posF_step (by omega), getD_pre]; rfl
      by_cases h2 : 0 < cel T L.length c
      · rw [if_pos ⟨h2, h1⟩, ext_filter k _ (by simp; omega), List.length_append]
        refine List.filter_congr fun p hp => ?_
        rw [hstep p hp, decide_eq_true h2, Bool.true_and]; rfl
      · rw [if_neg (fun q => h2 q.1)]
        symm
        rw [List.filter_eq_nil_iff]
        intro p hp
        rw [hstep p hp, decide_eq_false h2]; simp
theorem plL_len {n : Nat} (h1 : 1 ≤ n) (h4 : n ≤ 4) : ∀ p, p ∈ plL n → okP n p := by
  have h : ∀ p, p ∈ plL n → p.length = n ∧ (∀ c, c ∈ p → 0 ≤ c ∧ c < (n : Int)) ∧ p.Nodup := by
    match n, h1, h4 with
    | 1, _, _ | 2, _, _ | 3, _, _ | 4, _, _ => decide +kernel
  exact h
theorem wgt_pos {n : Nat} {T : List (List Int)} (hg : gT n T) {p : List Int} (hp : okP n p) : decide (0 < wgt T p) = posF n T 0 p := by
  obtain ⟨hl, hi, hd⟩ := hp
  have hb := wgt_b hg hi (by omega)
  have hz := prI_zero (nums T p)
  rw [Bool.eq_iff_iff]
  simp only [posF, List.all_eq_true, List.mem_range, Bool.or_eq_true, decide_eq_true_eq]
  have hnn : wgt T p ≠ 0 ↔ (0 : Int) ∉ nums T p := not_congr hz
  constructor
  · intro h r hr
    right
    have h0 : (0 : Int) ∉ nums T p := hnn.1 (by omega)
    have hc := hi _ (getD_mem (d := 0) (l := p) (i := r) (by omega))
    have := (hg.b (r := r) (c := (p.getD r 0).toNat) hr (by omega)).1
    rcases Int.lt_or_eq_of_le this with q | q
    · exact q
    · exact absurd (List.mem_map.2 ⟨r, List.mem_range.2 (by omega), q.symm⟩) h0
  · intro h
    have : wgt T p ≠ 0 := hnn.2 fun q => by
      obtain ⟨r, hr, e⟩ := List.mem_map.1 q
      have hr := List.mem_range.1 hr
      rcases h r (by omega) with q2 | q2
      · omega
      · omega
    omega
/-- the plans within a table are those of all plans whose weight is above 0 -/
theorem withP_eq {n : Nat} {T : List (List Int)} (hg : gT n T) : withP n T = (plL n).filter fun p => decide (0 < wgt T p) := by
  unfold withP
  rw [ext_filter n [] (by simp), allP_pl hg.n1 hg.n4]
  refine List.filter_congr fun p hp => ?_
  rw [wgt_pos hg (plL_len hg.n1 hg.n4 p hp)]; rfl
/-! ### lists without repetition -/
theorem nodup_le : ∀ (A R : List Nat), A.Nodup → (∀ x, x ∈ A → x ∈ R) → A.length ≤ R.length
  | [], _, _, _ => Nat.zero_le _
  | a :: A, R, hd, hs => by
    rw [List.nodup_cons] at hd
    have ha := hs a List.mem_cons_self
    have h1 := nodup_le A (R.erase a) hd.2 fun x hx => (List.mem_erase_of_ne (fun e : x = a => hd.1 (by rw [← e]; exact hx))).2 (hs x (List.mem_cons_of_mem _ hx))
    have h2 := List.length_erase_of_mem ha
    have h3 : 0 < R.length := List.length_pos_of_mem ha
    rw [List.length_cons]; omega
theorem filter_or (p q : Nat → Bool) : ∀ C : List Nat, (C.filter fun c => p c || q c).length = (C.filter p).length + ((C.filter fun c => !p c).filter q).length
  | [] => rfl
  | c :: C => by
    have ih := filter_or p q C
    cases hp : p c <;> cases hq : q c <;> simp [hp, hq, ih] <;> omega
theorem filter_not (p : Nat → Bool) : ∀ C : List Nat, (C.filter p).length + (C.filter fun c => !p c).length = C.length
  | [] => rfl
  | c :: C => by
    have ih := filter_not p C
    cases hp : p c <;> simp [hp] <;> omega
theorem filter_drop1 (p : Nat → Bool) (x : Nat) : ∀ C : List Nat, C.Nodup → (C.filter p).length ≤ ((C.filter fun c => !(c == x)).filter p).length + 1
  | [], _ => Nat.zero_le _
  | c :: C, hd => by
    rw [List.nodup_cons] at hd
    have ih := filter_drop1 p x C hd.2
    by_cases hc : c = x
    · subst hc
      have e : (C.filter fun d => !(d == c)) = C := List.filter_eq_self.2 fun d hdm => by
        simp only [Bool.not_eq_true', beq_eq_false_iff_ne]
        exact fun q => hd.1 (q ▸ hdm)
      rw [List.filter_cons_of_neg (p := fun d => !(d == c)) (by simp), e, List.filter_cons]
      split
      · simp
      · omega
    · rw [List.filter_cons_of_pos (p := fun d => !(d == x)) (by simpa using hc)]
      cases hp : p c <;> simp only [List.filter_cons, hp, Bool.false_eq_true, if_false, if_true, List.length_cons] <;> omega
/-- the columns that some of the rows have -/
def nbr (adj : Nat → Nat → Bool) (C A : List Nat) : List Nat := C.filter fun c => A.any fun r => adj r c
theorem nbr_app (adj : Nat → Nat → Bool) (C A B : List Nat) : (nbr adj C (A ++ B)).length = (nbr adj C A).length + (nbr adj (C.filter fun c => !(A.any fun r => adj r c)) B).length := by
  unfold nbr
  rw [← filter_or]
  congr 2
  funext c
  rw [List.any_append]
/-- if any rows have at least as many columns as they are, each has one of its own -/
theorem hall (adj : Nat → Nat → Bool) : ∀ (m : Nat) (R C : List Nat), R.length ≤ m → R.Nodup → C.Nodup → (∀ A : List Nat, A.Nodup → (∀ x, x ∈ A → x ∈ R) → A.length ≤ (nbr adj C A).length) →
    ∃ g : Nat → Nat, (∀ r, r ∈ R → adj r (g r) = true ∧ g r ∈ C) ∧ ∀ r s, r ∈ R → s ∈ R → r ≠ s → g r ≠ g s := by
  intro m
  induction m with
  | zero =>
    intro R C hm _ _ _
    have : R = [] := List.length_eq_zero_iff.1 (by omega)
    subst this
    exact ⟨id, fun r h => (by cases h), fun r s h => (by cases h)⟩
  | succ m ih =>
    intro R C hm hR hC hc
    by_cases ht : ∃ A : List Nat, A.Nodup ∧ (∀ x, x ∈ A → x ∈ R) ∧ A ≠ [] ∧ A.length < R.length ∧ (nbr adj C A).length = A.length
    · obtain ⟨A, hA, hs, hne, hlt, htight⟩ := ht
      have hA0 : 0 < A.length := List.length_pos_iff.2 hne
      obtain ⟨gA, a1, a2⟩ := ih A C (by omega) hA hC fun A2 h1 h2 => hc A2 h1 fun x hx => hs x (h2 x hx)
      have hBl : (R.filter fun r => !decide (r ∈ A)).length ≤ m := by
        have h1 := filter_not (fun r => decide (r ∈ A)) R
        have h2 := nodup_le A (R.filter fun r => decide (r ∈ A)) hA fun x hx => List.mem_filter.2 ⟨hs x hx, by simpa using hx⟩
        omega
      obtain ⟨gB, b1, b2⟩ := ih (R.filter fun r => !decide (r ∈ A)) (C.filter fun c => !(A.any fun r => adj r c)) hBl (hR.filter _) (hC.filter _) fun B h1 h2 => by
        have h3 := hc (A ++ B) (by
          rw [List.nodup_append]
          refine ⟨hA, h1, fun a ha b hb => ?_⟩
          have := (List.mem_filter.1 (h2 b hb)).2
          intro e
          subst e
          simp [ha] at this) fun x hx => by
          rcases List.mem_append.1 hx with q | q
          · exact hs x q
          · exact (List.mem_filter.1 (h2 x q)).1
        rw [nbr_app, List.length_append, htight] at h3
        omega
      have hcross : ∀ r s, r ∈ A → s ∈ R → s ∉ A → gA r ≠ gB s := fun r s hr hs2 hsA e => by
        have h1 := a1 r hr
        have h2 := (List.mem_filter.1 (b1 s (List.mem_filter.2 ⟨hs2, by simpa using hsA⟩)).2).2
        rw [← e] at h2
        have h3 : (A.any fun r => adj r (gA r)) = true ∨ True := .inr trivial
        have : (A.any fun r' => adj r' (gA r)) = true := List.any_eq_true.2 ⟨r, hr, h1.1⟩
        rw [this] at h2; cases h2
      refine ⟨fun r => if r ∈ A then gA r else gB r, fun r hr => ?_, fun r s hr hs2 hne2 => ?_⟩
      · by_cases q : r ∈ A
        · simp only [if_pos q]; exact a1 r q
        · simp only [if_neg q]
          have := b1 r (List.mem_filter.2 ⟨hr, by simpa using q⟩)
          exact ⟨this.1, (List.mem_filter.1 this.2).1⟩
      · by_cases q : r ∈ A <;> by_cases q2 : s ∈ A
        · simp only [if_pos q, if_pos q2]; exact a2 r s q q2 hne2
        · simp only [if_pos q, if_neg q2]; exact hcross r s q hs2 q2
        · simp only [if_neg q, if_pos q2]; exact fun e => hcross s r q2 hr q e.symm
        · simp only [if_neg q, if_neg q2]
          exact b2 r s (List.mem_filter.2 ⟨hr, by simpa using q⟩) (List.mem_filter.2 ⟨hs2, by simpa using q2⟩) hne2
    · cases R with
      | nil => exact ⟨id, fun r h => (by cases h), fun r s h => (by cases h)⟩
      | cons r0 R =>
        rw [List.nodup_cons] at hR
        have h1 := hc [r0] (by simp) (fun x hx => by rw [List.mem_singleton] at hx; subst hx; exact List.mem_cons_self)
        obtain ⟨c0, hc0⟩ : ∃ c0, c0 ∈ nbr adj C [r0] := List.exists_mem_of_length_pos (by simp only [List.length_cons, List.length_nil] at h1; omega)
        obtain ⟨hcC, hadj⟩ := List.mem_filter.1 hc0
        have hadj : adj r0 c0 = true := by simpa using hadj
        obtain ⟨g, g1, g2⟩ := ih R (C.filter fun c => !(c == c0)) (by simp only [List.length_cons] at hm; omega) hR.2 (hC.filter _) fun A hA hs => by
          by_cases hn : A = []
          · subst hn; exact Nat.zero_le _
          · have hle := nodup_le A R hA hs
            have h2 := hc A hA fun x hx => List.mem_cons_of_mem _ (hs x hx)
            have h3 : (nbr adj C A).length ≠ A.length := fun e => ht ⟨A, hA, fun x hx => List.mem_cons_of_mem _ (hs x hx), hn, by simp only [List.length_cons]; omega, e⟩
            have h4 := filter_drop1 (fun c => A.any fun r => adj r c) c0 C hC
            unfold nbr at h2 h3 ⊢
            omega
        have hg0 : ∀ s, s ∈ R → g s ≠ c0 := fun s hs e => by
          have := (List.mem_filter.1 (g1 s hs).2).2
          rw [e] at this; simp at this
        refine ⟨fun r => if r = r0 then c0 else g r, fun r hr => ?_, fun r s hr hs hne => ?_⟩
        · by_cases q : r = r0
          · simp only [if_pos q]; subst q; exact ⟨hadj, hcC⟩
          · simp only [if_neg q]
            have := g1 r ((List.mem_cons.1 hr).resolve_left q)
            exact ⟨this.1, (List.mem_filter.1 this.2).1⟩
        · by_cases q : r = r0 <;> by_cases q2 : s = r0
          · exact absurd (q.trans q2.symm) hne
          · simp only [if_pos q, if_neg q2]
            exact fun e => hg0 s ((List.mem_cons.1 hs).resolve_left q2) e.symm
          · simp only [if_neg q, if_pos q2]
            exact hg0 r ((List.mem_cons.1 hr).resolve_left q)
          · simp only [if_neg q, if_neg q2]
            exact g2 r s ((List.mem_cons.1 hr).resolve_left q) ((List.mem_cons.1 hs).resolve_left q2) hne
end Go.Proofs.Ytkbeaheladmeiaa

set_option linter.unusedSimpArgs false
set_option linter.unusedVariables false
namespace Go.Proofs.Ytkbeaheladmeiaa
open Go Go.Proofs.Eng
set_option maxRecDepth 100000
set_option maxHeartbeats 2000000
/-! ### the law's search of the first of the shortest lists -/
/-! ### Bar -/
end Go.Proofs.Ytkbeaheladmeiaa

set_option linter.unusedSimpArgs false
set_option linter.unusedVariables false
namespace Go.Proofs.Ytkbeaheladmeiaa
open Go Go.Proofs.Eng
set_option maxRecDepth 100000
set_option maxHeartbeats 2000000
/-! ### the heap of the law -/
def wr (W : List (List Int)) : Nat × Option Ob := match W with | [] => (0, none) | x :: t => (1, some ⟨37, 1, al false x :: t.map (al false)⟩)
/-! ### the plans within -/
/-! ### the rows of a set -/
/-! ### the columns of a set of rows -/
end Go.Proofs.Ytkbeaheladmeiaa

set_option linter.unusedSimpArgs false
set_option linter.unusedVariables false
namespace Go.Proofs.Ytkbeaheladmeiaa
open Go Go.Proofs.Eng
set_option maxRecDepth 100000
set_option maxHeartbeats 2000000
/-! ### same -/
/-! ### one set: whether its rows are taken -/
end Go.Proofs.Ytkbeaheladmeiaa

