/-
  Piles and pages of all folds, as the statements ask for them.
-/
import Derived.Test.YtbkmicimpgabgaaDoorFactP
set_option linter.unusedSimpArgs false
set_option linter.unusedVariables false
namespace Go.Proofs.Quire
theorem pileL_C (f : List Bool) (h : f.length ≤ 6) : pileL f = pileC f := by unfold pileL; rw [(closed f h).1]; rfl
theorem trn_get (f : List Bool) (s : Nat) (h : s < 2 ^ f.length) : (trnC f).getD s false = (s % 2 == 1) := by
  unfold trnC
  rw [List.getD_eq_getElem?_getD, List.getElem?_map, List.getElem?_range h]; rfl
theorem perm_of (f : List Bool) (h : f.length ≤ 6) : (pileC f).length = 2 ^ f.length ∧ (∀ x ∈ pileC f, x < 2 ^ f.length) ∧ (pileC f).Nodup ∧ (∀ s, s < 2 ^ f.length → s ∈ pileC f) ∧
    (2 ^ f.length ≠ 1 → ∀ t, t < 2 ^ f.length → (pileC f).getD (if t % 2 = 0 then t + 1 else t - 1) 0 = 2 ^ f.length - 1 - (pileC f).getD t 0) := by
  have hp := folds_all perm_k f h
  simp only [permB, Bool.and_eq_true, Bool.or_eq_true] at hp
  obtain ⟨h1, h2, h3, h4, h5⟩ := hp
  refine ⟨Nat.eq_of_beq_eq_true h1, fun x hx => ?_, nodup_of _ h3, fun s hs => ?_, fun hne t ht => ?_⟩
  · have := List.all_eq_true.1 h2 x hx
    exact Nat.le_of_ble_eq_true this
  · have := range_all h4 hs
    obtain ⟨y, hy, e⟩ := List.any_eq_true.1 this
    rw [Nat.eq_of_beq_eq_true e]; exact hy
  · rcases h5 with h5 | h5
    · exact absurd (Nat.eq_of_beq_eq_true h5) hne
    · exact Nat.eq_of_beq_eq_true (range_all h5 ht)
theorem mem_getD {l : List Nat} {s : Nat} (h : s ∈ l) : ∃ t, t < l.length ∧ l.getD t 0 = s := by
  obtain ⟨t, ht, e⟩ := List.mem_iff_getElem.1 h
  exact ⟨t, ht, by rw [List.getD_eq_getElem?_getD, List.getElem?_eq_getElem ht]; exact e⟩
def atL (f : List Bool) : List Nat := plS (pileL f) 0 (List.replicate (2 ^ f.length) 0)
theorem pair_facts (f : List Bool) (h : f.length ≤ 6) : okS (2 ^ f.length) (pileL f) (List.replicate (2 ^ f.length) false) = true ∧
    ∀ s, s < 2 ^ f.length → (2 ^ f.length ≠ 1 → (atL f).getD s 0 / 2 = (atL f).getD (2 ^ f.length - 1 - s) 0 / 2) ∧ (atL f).getD s 0 < 2 ^ f.length ∧
      (pagesS f).1.getD s 0 = (if s % 2 = 1 then 2 * (atL f).getD s 0 + 2 else 2 * (atL f).getD s 0 + 1) ∧ (pagesS f).2.getD s 0 = (if s % 2 = 1 then 2 * (atL f).getD s 0 + 1 else 2 * (atL f).getD s 0 + 2) := by
  obtain ⟨p1, p2, p3, p4, p5⟩ := perm_of f h
  have hpg : pagesS f = pgS (trnC f) (pileC f) 0 (List.replicate (2 ^ f.length) 0) (List.replicate (2 ^ f.length) 0) := by
    unfold pagesS
    rw [pileL_C f h, (closed f h).2.1, show (trnC f).length = 2 ^ f.length by simp [trnC]]
  have hat : atL f = plS (pileC f) 0 (List.replicate (2 ^ f.length) 0) := by unfold atL; rw [pileL_C f h]
  have hin := plS_in (pileC f) 0 (List.replicate (2 ^ f.length) 0) p3 (fun x hx => by rw [List.length_replicate]; exact p2 x hx)
  have hpn := pgS_in (trnC f) (pileC f) 0 (List.replicate (2 ^ f.length) 0) (List.replicate (2 ^ f.length) 0) p3 (fun x hx => by rw [List.length_replicate]; exact ⟨p2 x hx, p2 x hx⟩)
  rw [hpg, hat, pileL_C f h]
  refine ⟨okS_of _ _ _ List.length_replicate (fun x hx => ⟨p2 x hx, ?_⟩) p3, fun s hs => ?_⟩
  · rw [List.getD_eq_getElem?_getD, List.getElem?_replicate]; split <;> rfl
  · obtain ⟨t, ht, rfl⟩ := mem_getD (p4 s hs)
    have ht2 : t < 2 ^ f.length := by omega
    obtain ⟨q1, q2⟩ := hpn t ht
    rw [hin t ht, q1, q2, trn_get f _ hs]
    simp only [Nat.zero_add]
    refine ⟨fun hne => ?_, ht2, ?_, ?_⟩
    · rw [← p5 hne t ht2]
      have ht' : (if t % 2 = 0 then t + 1 else t - 1) < (pileC f).length := by
        have : 2 ^ f.length % 2 = 0 := by
          obtain ⟨m, hm⟩ : ∃ m, f.length = m + 1 := ⟨f.length - 1, by rcases hf : f.length with _ | m; rw [hf] at hne; simp at hne; omega⟩
          rw [hm, Nat.pow_succ]; omega
        split <;> omega
      rw [hin _ ht']
      split <;> omega
    · by_cases e : (pileC f).getD t 0 % 2 = 1 <;> simp [e]
    · by_cases e : (pileC f).getD t 0 % 2 = 1 <;> simp [e]
theorem pages_len (f : List Bool) (h : f.length ≤ 6) : (pagesS f).1.length = 2 ^ f.length ∧ (pagesS f).2.length = 2 ^ f.length := by
  obtain ⟨h1, h2⟩ := pgS_len (stripL f).trn (pileL f) 0 (List.replicate (stripL f).trn.length 0) (List.replicate (stripL f).trn.length 0)
  have h3 : (stripL f).trn.length = 2 ^ f.length := (strip_inv f).1
  unfold pagesS
  rw [h1, h2, List.length_replicate, h3]; exact ⟨rfl, rfl⟩
theorem okS_step {n : Nat} {l : List Nat} {k : Nat} {m : List Bool} (hk : k < l.length) (h : okS n (l.drop k) m = true) : l.getD k 0 < n ∧ m.getD (l.getD k 0) false = false ∧ okS n (l.drop (k + 1)) (m.set (l.getD k 0) true) = true := by
  have e : l.drop k = l.getD k 0 :: l.drop (k + 1) := by
    rw [List.drop_eq_getElem_cons hk, List.getD_eq_getElem?_getD, List.getElem?_eq_getElem hk]; rfl
  rw [e, okS, Bool.and_eq_true, Bool.and_eq_true] at h
  exact ⟨Nat.le_of_ble_eq_true h.1, by simpa using h.2.1, h.2.2⟩
end Go.Proofs.Quire
