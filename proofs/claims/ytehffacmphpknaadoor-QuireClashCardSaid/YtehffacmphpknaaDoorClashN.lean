/-
  Creases of folds in which one is turned round: what folds they tell if none clash.
-/
import Derived.Test.YtehffacmphpknaaDoorTriedM
import Derived.Test.YtehffacmphpknaaDoorExchH
set_option linter.unusedSimpArgs false
set_option linter.unusedVariables false
namespace Go.Proofs.YtehffacmphpknaaDoor
open Go.RowKit Go.Lib Go.Proofs.Quire

theorem tz_three : ∀ m, m < 6 → tzN (3 * 2 ^ m) = m ∧ oddN (3 * 2 ^ m) = 3 := by decide +kernel
/-- one crease the other way round -/
def badL (c : List UInt8) (at_ : Nat) : List UInt8 := c.take at_ ++ [swapU 118 104 (c.getD at_ 0)] ++ c.drop (at_ + 1)
theorem badL_len (c : List UInt8) (a : Nat) (h : a < c.length) : (badL c a).length = c.length := by
  unfold badL; rw [List.length_append, List.length_append, List.length_take, List.length_drop]; simp; omega
theorem badL_get (c : List UInt8) (a i : Nat) (h : a < c.length) (hi : i < c.length) : (badL c a).getD i 0 = if i = a then swapU 118 104 (c.getD a 0) else c.getD i 0 := by
  unfold badL
  rw [List.append_assoc, List.getD_eq_getElem?_getD]
  have hlt : (c.take a).length = a := by rw [List.length_take]; omega
  rcases Nat.lt_trichotomy i a with h1 | h1 | h1
  · rw [List.getElem?_append_left (by omega), List.getElem?_take, if_pos h1, if_neg (by omega), ← List.getD_eq_getElem?_getD]
  · rw [List.getElem?_append_right (by omega), hlt, h1, if_pos rfl]; simp
  · rw [List.getElem?_append_right (by omega), hlt, if_neg (by omega)]
    rw [show i - a = (i - a - 1) + 1 by omega, List.singleton_append, List.getElem?_cons_succ, List.getElem?_drop, show a + 1 + (i - a - 1) = i by omega, ← List.getD_eq_getElem?_getD]
theorem badL_mem (c : List UInt8) (a : Nat) (ha : a < c.length) (hc : ∀ x ∈ c, x = 118 ∨ x = 104) : ∀ x ∈ badL c a, x = 118 ∨ x = 104 := by
  intro x hx
  unfold badL at hx
  simp only [List.mem_append, List.mem_singleton] at hx
  rcases hx with (hx | hx) | hx
  · exact hc x (List.mem_of_mem_take hx)
  · rw [hx]
    have := hc (c.getD a 0) (by rw [getD_lt _ _ _ ha]; exact List.getElem_mem _)
    rcases this with e | e <;> rw [e] <;> decide
  · exact hc x (List.mem_of_mem_drop hx)
theorem ways_map (cs : List UInt8) (k : Nat) (hk : k ≤ 6) : waysL cs 7 (2 ^ k) = (foldsB (waysL cs 7 (2 ^ k))).map wayOf := by
  have hl := waysL_len0 cs 7 k (by omega)
  refine ext_getD (by unfold foldsB; simp) (fun j hj => ?_)
  rw [hl] at hj
  have h1 := (waysL_get cs 7 k j (by omega) hj).1
  have h2 := foldsB_ways cs k j hk hj
  rw [getD_map1 wayOf _ j false 0 (by unfold foldsB; rw [List.length_map, hl]; exact hj), h2, h1]
theorem creB_flip {f g : List Bool} (hl : f.length = g.length) (i : Nat) : (creB f i = creB g i) ↔ f.getD (f.length - 1 - tzN (i + 1)) false = g.getD (f.length - 1 - tzN (i + 1)) false := by
  unfold creB
  rw [hl]
  generalize f.getD _ false = a
  generalize g.getD _ false = b
  generalize (oddN (i + 1) % 4 == 1) = z
  cases a <;> cases b <;> cases z <;> decide
theorem bad_ways (f : List Bool) (a : Nat) (h1 : 1 ≤ f.length) (h6 : f.length ≤ 6) (ha : a < 2 ^ f.length - 1)
    (h : creS (foldsB (waysL (badL (creS f) a) 7 (2 ^ f.length))) = badL (creS f) a) :
    waysL (badL (creS f) a) 7 (2 ^ f.length) = ((f.map wayOf).take 1).map (swapU 111 117) ++ (f.map wayOf).drop 1 := by
  have hcl := creS_len f
  have h64 : 2 ^ f.length ≤ 64 := Nat.le_trans (Nat.pow_le_pow_right (by omega) h6) (by decide)
  have hac : a < (creS f).length := by omega
  rw [ways_map _ _ h6]
  generalize hg : foldsB (waysL (badL (creS f) a) 7 (2 ^ f.length)) = g at h
  have hgl : g.length = f.length := by rw [← hg]; unfold foldsB; rw [List.length_map, waysL_len0 _ _ _ (by omega)]
  have hcmp : ∀ i, i < 2 ^ f.length - 1 → (creB f i = creB g i ↔ i ≠ a) := fun i hi => by
    have e1 := creS_get f h6 i hi
    have e2 := creS_get g (by omega) i (by rw [hgl]; exact hi)
    rw [h, badL_get _ _ _ hac (by omega)] at e2
    have e3 := creS_get f h6 a ha
    by_cases e : i = a
    · subst e
      rw [if_pos rfl, e1] at e2
      cases hb1 : creB f i <;> cases hb2 : creB g i <;> rw [hb1, hb2] at e2 <;> simp [swapU] at e2 ⊢
    · rw [if_neg e, e1] at e2
      cases hb1 : creB f i <;> cases hb2 : creB g i <;> rw [hb1, hb2] at e2 <;> simp [e] at e2 ⊢
  have hsame : ∀ j, 1 ≤ j → j < f.length → f.getD j false = g.getD j false := fun j hj hjl => by
    obtain ⟨m, hm⟩ : ∃ m, f.length - 1 - j = m := ⟨_, rfl⟩
    have p1 : 1 ≤ 2 ^ m := Nat.one_le_two_pow
    have p2 : 4 * 2 ^ m ≤ 2 ^ f.length := by
      have : 2 ^ (m + 2) ≤ 2 ^ f.length := Nat.pow_le_pow_right (by omega) (by omega)
      rw [Nat.pow_succ, Nat.pow_succ] at this; omega
    obtain ⟨t1, _⟩ := tz_pow m (by omega)
    obtain ⟨t3, _⟩ := tz_three m (by omega)
    have hj2 : f.length - 1 - m = j := by omega
    by_cases e : 2 ^ m - 1 = a
    · have := (hcmp (3 * 2 ^ m - 1) (by omega)).2 (by omega)
      rw [creB_flip hgl.symm, Nat.sub_add_cancel (by omega), t3, hj2] at this
      exact this
    · have := (hcmp (2 ^ m - 1) (by omega)).2 e
      rw [creB_flip hgl.symm, Nat.sub_add_cancel (by omega), t1, hj2] at this
      exact this
  have hdiff : f.getD 0 false ≠ g.getD 0 false := fun e => by
    have hne : ¬ creB f a = creB g a := fun e2 => ((hcmp a ha).1 e2) rfl
    apply hne
    rw [creB_flip hgl.symm]
    rcases Nat.eq_zero_or_pos (f.length - 1 - tzN (a + 1)) with e0 | e0
    · rw [e0]; exact e
    · exact hsame _ e0 (by omega)
  have hfl : (f.map wayOf).length = f.length := List.length_map _
  refine ext_getD (by rw [List.length_map, List.length_append, List.length_map, List.length_take, List.length_drop, hfl]; omega) (fun j hj => ?_)
  rw [List.length_map, hgl] at hj
  rw [getD_map1 wayOf g j false 0 (by omega)]
  rcases j with _ | j
  · obtain ⟨x, f, rfl⟩ : ∃ x f', f = x :: f' := by
      cases f with
      | nil => simp at h1
      | cons x f' => exact ⟨x, f', rfl⟩
    simp only [List.map_cons, List.take_succ_cons, List.take_zero, List.map_nil, List.singleton_append, List.getD_cons_zero]
    have e : g.getD 0 false = !x := by
      rw [List.getD_cons_zero] at hdiff
      cases x <;> cases h5 : g.getD 0 false <;> simp_all
    rw [e]; cases x <;> rfl
  · rw [← hsame (j + 1) (by omega) hj]
    obtain ⟨x, f, rfl⟩ : ∃ x f', f = x :: f' := by
      cases f with
      | nil => simp at h1
      | cons x f' => exact ⟨x, f', rfl⟩
    simp only [List.map_cons, List.take_succ_cons, List.take_zero, List.map_nil, List.drop_succ_cons, List.drop_zero, List.singleton_append, List.getD_cons_succ]
    rw [getD_map1 wayOf f j false 0 (by simpa using hj)]
end Go.Proofs.YtehffacmphpknaaDoor
