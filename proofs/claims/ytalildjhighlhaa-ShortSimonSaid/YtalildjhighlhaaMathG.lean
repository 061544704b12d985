/-
  Plain mathematics: two different words of as many letters are told apart by a part of at most half as many letters, and one.
-/
import Derived.Test.YtalildjhighlhaaMathF
namespace Go.Proofs.Short
theorem more_count {α : Type} [DecidableEq α] : ∀ (a b : List α), b.length < a.length → ∃ d, b.count d < a.count d
  | [], b, h => absurd h (by simp)
  | x :: t, b, h => by
    by_cases hx : b.count x < (x :: t).count x
    · exact ⟨x, hx⟩
    · have hm : x ∈ b := List.count_pos_iff.1 (by rw [List.count_cons_self] at hx; omega)
      have hl := List.length_erase_of_mem hm
      have hp := List.length_pos_of_mem hm
      simp only [List.length_cons] at h
      obtain ⟨d, hd⟩ := more_count t (b.erase x) (by omega)
      refine ⟨d, ?_⟩
      by_cases e : d = x
      · subst e
        rw [List.count_erase_self] at hd
        rw [List.count_cons_self]
        omega
      · rw [List.count_erase_of_ne e] at hd
        rw [List.count_cons_of_ne (Ne.symm e)]; exact hd
theorem two_counts {α : Type} [DecidableEq α] {c d : α} (h : c ≠ d) : ∀ a : List α, a.count c + a.count d ≤ a.length
  | [] => by simp
  | x :: t => by
    have ih := two_counts h t
    simp only [List.count_cons, List.length_cons, beq_iff_eq]
    by_cases h1 : x = c
    · have : x ≠ d := fun e => h (h1.symm.trans e)
      simp [h1, h]; omega
    · by_cases h2 : x = d
      · simp [h1, h2]
        have : d ≠ c := Ne.symm h
        simp [this]; omega
      · simp [h1, h2]; omega
theorem first_other {α : Type} [DecidableEq α] : ∀ {a b : List α}, a.length = b.length → a ≠ b → ∃ u x v y w, a = u ++ x :: v ∧ b = u ++ y :: w ∧ x ≠ y ∧ v.length = w.length
  | [], [], _, h => absurd rfl h
  | [], _ :: _, h, _ => absurd h (by simp)
  | _ :: _, [], h, _ => absurd h (by simp)
  | x :: s, y :: t, h, hne => by
    by_cases e : x = y
    · subst e
      obtain ⟨u, x', v, y', w, h1, h2, h3, h4⟩ := first_other (a := s) (b := t) (by simpa using h) (fun e => hne (by rw [e]))
      exact ⟨x :: u, x', v, y', w, by rw [h1]; rfl, by rw [h2]; rfl, h3, h4⟩
    · exact ⟨[], x, s, y, t, rfl, rfl, e, by simpa using h⟩
theorem block_not {α : Type} [DecidableEq α] {x y : α} (hxy : x ≠ y) {u w : List α} {s t : Nat} (hs : u.count x < s)
    (h : (List.replicate s x ++ List.replicate t y).Sublist (u ++ y :: w)) : t ≤ w.count y := by
  obtain ⟨l1, l2, e, h1, h2⟩ := List.sublist_append_iff.1 h
  have hc := h1.count_le x
  rcases List.append_eq_append_iff.1 e with ⟨a', e1, e2⟩ | ⟨c', e1, e2⟩
  · have := congrArg (List.count x) e1
    rw [List.count_append, List.count_replicate_self] at this
    omega
  · cases c' with
    | nil =>
      have := congrArg (List.count x) e1
      rw [List.append_nil, List.count_replicate_self] at this
      omega
    | cons z c'' =>
      have hz : z = x := by
        have hm : z ∈ List.replicate s x := by rw [e1]; simp
        exact List.eq_of_mem_replicate hm
      subst hz
      rw [e2] at h2
      have h3 : (z :: (c'' ++ List.replicate t y)).Sublist w := by
        rcases List.sublist_cons_iff.1 h2 with h3 | ⟨r, h3, _⟩
        · exact h3
        · exact absurd (List.cons.inj h3).1 hxy
      have h4 := h3.count_le y
      rw [List.count_cons_of_ne hxy, List.count_append, List.count_replicate_self] at h4
      omega
theorem rep_sub {α : Type} [DecidableEq α] {n : Nat} {c : α} {l : List α} (h : n ≤ l.count c) : (List.replicate n c).Sublist l := List.replicate_sublist_iff.2 h
theorem rep_count {α : Type} [DecidableEq α] {n : Nat} {c : α} {l : List α} (h : (List.replicate n c).Sublist l) : n ≤ l.count c := List.replicate_sublist_iff.1 h
/-- two different words of as many letters are told apart by a part of at most half as many letters, and one -/
theorem simon {α : Type} [DecidableEq α] {a b : List α} (hl : a.length = b.length) (hne : a ≠ b) : ∃ p : List α, p.length ≤ a.length / 2 + 1 ∧ ((p.Sublist a ∧ ¬ p.Sublist b) ∨ (p.Sublist b ∧ ¬ p.Sublist a)) := by
  by_cases hall : ∀ c, a.count c = b.count c
  · obtain ⟨u, x, v, y, w, rfl, rfl, hxy, hvw⟩ := first_other hl hne
    have hx := hall x
    have hy := hall y
    simp only [List.count_append, List.count_cons, beq_iff_eq, if_true, hxy, hxy.symm, if_false, if_neg hxy, if_neg hxy.symm] at hx hy
    have h1 := two_counts hxy u
    have h2 := two_counts hxy v
    simp only [List.length_append, List.length_cons]
    by_cases hmin : u.count x + 1 + v.count y ≤ (u.length + (v.length + 1)) / 2 + 1
    · refine ⟨List.replicate (u.count x + 1) x ++ List.replicate (v.count y) y, by simpa using hmin, .inl ⟨?_, fun h => ?_⟩⟩
      · have : u ++ x :: v = (u ++ [x]) ++ v := by simp
        rw [this]
        exact List.Sublist.append (rep_sub (by simp)) (rep_sub (Nat.le_refl _))
      · have := block_not hxy (Nat.lt_succ_self _) h
        omega
    · refine ⟨List.replicate (u.count y + 1) y ++ List.replicate (w.count x) x, by simp; omega, .inr ⟨?_, fun h => ?_⟩⟩
      · have : u ++ y :: w = (u ++ [y]) ++ w := by simp
        rw [this]
        exact List.Sublist.append (rep_sub (by simp)) (rep_sub (Nat.le_refl _))
      · have := block_not hxy.symm (Nat.lt_succ_self _) h
        omega
  · have : ∃ c, a.count c ≠ b.count c := Classical.not_forall.1 hall
    obtain ⟨c, hc⟩ := this
    have key : ∀ (a b : List α), a.length = b.length → a.count c < b.count c → ∃ d, c ≠ d ∧ b.count d < a.count d := by
      intro a b hl h
      have hm : c ∈ b := List.count_pos_iff.1 (by omega)
      have hp := List.length_pos_of_mem hm
      obtain ⟨d, hd⟩ := more_count a (b.erase c) (by rw [List.length_erase_of_mem hm]; omega)
      by_cases e : d = c
      · subst e; rw [List.count_erase_self] at hd; omega
      · rw [List.count_erase_of_ne e] at hd; exact ⟨d, Ne.symm e, hd⟩
    have fin : ∀ (a b : List α), a.length = b.length → a.count c < b.count c → ∃ p : List α, p.length ≤ a.length / 2 + 1 ∧ ((p.Sublist a ∧ ¬ p.Sublist b) ∨ (p.Sublist b ∧ ¬ p.Sublist a)) := by
      intro a b hl h
      obtain ⟨d, hcd, hd⟩ := key a b hl h
      have h2 := two_counts hcd a
      by_cases hmin : a.count c + 1 ≤ a.length / 2 + 1
      · refine ⟨List.replicate (a.count c + 1) c, by simpa using hmin, .inr ⟨rep_sub h, fun h' => ?_⟩⟩
        have := rep_count h'; omega
      · refine ⟨List.replicate (b.count d + 1) d, by simp; omega, .inl ⟨rep_sub hd, fun h' => ?_⟩⟩
        have := rep_count h'; omega
    by_cases hlt : a.count c < b.count c
    · exact fin a b hl hlt
    · obtain ⟨p, h1, h2⟩ := fin b a hl.symm (by omega)
      exact ⟨p, by omega, h2.symm⟩
end Go.Proofs.Short
