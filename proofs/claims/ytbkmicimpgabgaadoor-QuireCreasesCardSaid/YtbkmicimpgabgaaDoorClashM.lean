/-
  Creases that clash: without a clash they are those of the folds that they tell; and folds by numbers, all of them.
-/
import Derived.Test.YtbkmicimpgabgaaDoorClosed
import Derived.Test.YtbkmicimpgabgaaDoorFolds
import Derived.Test.YtbkmicimpgabgaaDoorFoldHa
set_option linter.unusedSimpArgs false
set_option linter.unusedVariables false
namespace Go.Proofs.Quire
theorem firstJ_none (f : Nat → Nat → Bool) (i : Nat) : ∀ m j, firstJ f i m j = none ↔ ∀ t, t < m → f i (j + t) = false
  | 0, j => by simp [firstJ]
  | m + 1, j => by
    rw [firstJ]
    cases h : f i j with
    | true => simp; exact ⟨0, by omega, by simpa using h⟩
    | false =>
      simp only [Bool.false_eq_true, if_false]
      rw [firstJ_none f i m (j + 1)]
      constructor
      · intro h2 t ht
        rcases t with _ | t
        · exact h
        · have := h2 t (by omega); rw [show j + (t + 1) = j + 1 + t by omega]; exact this
      · intro h2 t ht
        have := h2 (t + 1) (by omega); rw [show j + 1 + t = j + (t + 1) by omega]; exact this
theorem firstP_none (f : Nat → Nat → Bool) (n : Nat) : ∀ m i, firstP f n m i = none ↔ ∀ s, s < m → ∀ t, t < n - (i + s + 1) → f (i + s) (i + s + 1 + t) = false
  | 0, i => by simp [firstP]
  | m + 1, i => by
    rw [firstP]
    cases h : firstJ f i (n - (i + 1)) (i + 1) with
    | some j =>
      simp only [reduceCtorEq, false_iff]
      intro h2
      have : firstJ f i (n - (i + 1)) (i + 1) = none := (firstJ_none f i _ _).2 (fun t ht => h2 0 (by omega) t (by omega))
      rw [this] at h; cases h
    | none =>
      rw [firstP_none f n m (i + 1)]
      have h0 := (firstJ_none f i _ _).1 h
      constructor
      · intro h2 s hs t ht
        rcases s with _ | s
        · exact h0 t ht
        · have := h2 s (by omega) t (by omega)
          rw [show i + (s + 1) = i + 1 + s by omega]; exact this
      · intro h2 s hs t ht
        have := h2 (s + 1) (by omega) t (by omega)
        rw [show i + 1 + s = i + (s + 1) by omega]; exact this
theorem firstP_none0 (f : Nat → Nat → Bool) (n : Nat) : firstP f n n 0 = none ↔ ∀ i j, i < j → j < n → f i j = false := by
  rw [firstP_none]
  constructor
  · intro h i j hij hj
    have := h i (by omega) (j - i - 1) (by omega)
    rw [show 0 + i = i by omega, show i + 1 + (j - i - 1) = j by omega] at this; exact this
  · intro h s hs t ht
    exact h _ _ (by omega) (by omega)
theorem tz_facts : ∀ n, n < 64 → 0 < n → oddN n % 2 = 1 ∧ oddN n * 2 ^ tzN n = n := by decide +kernel
theorem tz_pow : ∀ m, m < 7 → tzN (2 ^ m) = m ∧ oddN (2 ^ m) = 1 := by decide +kernel
theorem tz_lt {n k : Nat} (h : n < 2 ^ k) (h0 : 0 < n) (h64 : n < 64) : tzN n < k := by
  obtain ⟨h1, h2⟩ := tz_facts n h64 h0
  rcases Nat.lt_or_ge (tzN n) k with h3 | h3
  · exact h3
  · have h4 : 2 ^ k ≤ 2 ^ tzN n := Nat.pow_le_pow_right (by omega) h3
    have h5 : 1 * 2 ^ tzN n ≤ oddN n * 2 ^ tzN n := Nat.mul_le_mul_right _ (by omega)
    omega
/-- the letter of a crease by the folds -/
def creB (f : List Bool) (i : Nat) : Bool := (f.getD (f.length - 1 - tzN (i + 1)) false) == (oddN (i + 1) % 4 == 1)
theorem getD_map1 {α β : Type} (g : α → β) (l : List α) (i : Nat) (d : α) (e : β) (h : i < l.length) : (l.map g).getD i e = g (l.getD i d) := by
  rw [List.getD_eq_getElem?_getD, List.getD_eq_getElem?_getD, List.getElem?_map, List.getElem?_eq_getElem h]; rfl
theorem creS_get (f : List Bool) (h : f.length ≤ 6) (i : Nat) (hi : i < 2 ^ f.length - 1) : (creS f).getD i 0 = if creB f i then 118 else 104 := by
  have hl : (creC f).length = 2 ^ f.length - 1 := by simp [creC]
  unfold creS
  rw [(closed f h).2.2, getD_map1 UInt8.ofNat _ i 0 0 (by omega)]
  unfold creC
  rw [List.getD_eq_getElem?_getD, List.getElem?_map, List.getElem?_range hi]
  simp only [Option.map_some, Option.getD_some]
  show UInt8.ofNat (if creB f i = true then 118 else 104) = if creB f i = true then 118 else 104
  cases creB f i <;> rfl
theorem ext_getD {a b : List UInt8} (hl : a.length = b.length) (h : ∀ i, i < a.length → a.getD i 0 = b.getD i 0) : a = b := by
  apply List.ext_getElem hl
  intro i h1 h2
  have := h i h1
  rw [List.getD_eq_getElem?_getD, List.getD_eq_getElem?_getD, List.getElem?_eq_getElem h1, List.getElem?_eq_getElem h2] at this
  exact this
/-- the folds that creases tell, as booleans -/
theorem waysL_get (cs : List UInt8) : ∀ (fu k j : Nat), k ≤ fu → j < k → (waysL cs fu (2 ^ k)).getD j 0 = wayOf (cs.getD (2 ^ (k - 1 - j) - 1) 0 == 118) ∧ (waysL cs fu (2 ^ k)).length = k
  | 0, k, j, h, hj => by omega
  | fu + 1, k, j, h, hj => by
    obtain ⟨k, rfl⟩ : ∃ k', k = k' + 1 := ⟨k - 1, by omega⟩
    have h1 : 1 < 2 ^ (k + 1) := by have : 1 ≤ 2 ^ k := Nat.one_le_two_pow; rw [Nat.pow_succ]; omega
    have h2 : 2 ^ (k + 1) / 2 = 2 ^ k := by rw [Nat.pow_succ]; omega
    rw [waysL, if_pos h1, h2]
    rcases k with _ | k
    · obtain rfl : j = 0 := by omega
      have he : waysL cs fu (2 ^ 0) = [] := waysL_end _ _ _ (by simp)
      rw [he]; exact ⟨rfl, rfl⟩
    · rcases j with _ | j
      · refine ⟨rfl, ?_⟩
        rw [List.length_cons, (waysL_get cs fu (k + 1) 0 (by omega) (by omega)).2]
      · obtain ⟨e1, e2⟩ := waysL_get cs fu (k + 1) j (by omega) (by omega)
        rw [List.getD_cons_succ, e1, List.length_cons, e2]
        rw [show k + 1 + 1 - 1 - (j + 1) = k + 1 - 1 - j by omega]; exact ⟨rfl, rfl⟩
theorem waysL_len0 (cs : List UInt8) (fu k : Nat) (h : k ≤ fu) : (waysL cs fu (2 ^ k)).length = k := by
  rcases k with _ | k
  · rw [waysL_end _ _ _ (by simp)]; rfl
  · exact (waysL_get cs fu (k + 1) 0 h (by omega)).2
theorem wayOf_eq (b : Bool) : (wayOf b == 111) = b := by cases b <;> rfl
theorem foldsB_ways (cs : List UInt8) (k j : Nat) (hk : k ≤ 6) (hj : j < k) : (foldsB (waysL cs 7 (2 ^ k))).getD j false = (cs.getD (2 ^ (k - 1 - j) - 1) 0 == 118) := by
  obtain ⟨e1, e2⟩ := waysL_get cs 7 k j (by omega) hj
  unfold foldsB
  rw [getD_map1 _ _ j 0 false (by omega), e1, wayOf_eq]
theorem pow_lt_pow {a b : Nat} (h : a < b) : 2 ^ a < 2 ^ b := Nat.pow_lt_pow_right (by omega) h
/-- creases without a clash are those of the folds that they tell -/
theorem noclash (cs : List UInt8) (k : Nat) (hk : k ≤ 6) (hl : cs.length + 1 = 2 ^ k) (hc : ∀ c ∈ cs, c = 118 ∨ c = 104) :
    firstP (clashB cs) cs.length cs.length 0 = none ↔ creS (foldsB (waysL cs 7 (2 ^ k))) = cs := by
  have h64 : 2 ^ k ≤ 64 := Nat.le_trans (Nat.pow_le_pow_right (by omega) hk) (by decide)
  have hfl : (foldsB (waysL cs 7 (2 ^ k))).length = k := by unfold foldsB; rw [List.length_map, waysL_len0 _ _ _ (by omega)]
  have hcl := creS_len (foldsB (waysL cs 7 (2 ^ k)))
  rw [hfl] at hcl
  have hlet : ∀ i, i < cs.length → cs.getD i 0 = 118 ∨ cs.getD i 0 = 104 := fun i hi => by
    rw [List.getD_eq_getElem?_getD, List.getElem?_eq_getElem hi]; exact hc _ (List.getElem_mem hi)
  -- the letter at a place, by the first place of its power
  have hget : ∀ i, i < cs.length → creB (foldsB (waysL cs 7 (2 ^ k))) i = ((cs.getD (2 ^ tzN (i + 1) - 1) 0 == 118) == (oddN (i + 1) % 4 == 1)) := fun i hi => by
    have ht := tz_lt (n := i + 1) (k := k) (by omega) (by omega) (by omega)
    unfold creB
    rw [hfl, foldsB_ways cs k _ hk (by omega), show k - 1 - (k - 1 - tzN (i + 1)) = tzN (i + 1) by omega]
  rw [firstP_none0]
  constructor
  · intro h
    refine ext_getD (by omega) (fun i hi => ?_)
    have hi' : i < cs.length := by omega
    rw [creS_get _ (by omega) i (by rw [hfl]; omega), hget i hi']
    obtain ⟨o1, o2⟩ := tz_facts (i + 1) (by omega) (by omega)
    have ht := tz_lt (n := i + 1) (k := k) (by omega) (by omega) (by omega)
    by_cases hp : oddN (i + 1) = 1
    · rw [hp, Nat.one_mul] at o2
      rw [o2, hp, Nat.add_sub_cancel]
      rcases hlet i hi' with e | e <;> rw [e] <;> decide
    · have hlt : 2 ^ tzN (i + 1) < i + 1 := by
        have : 2 * 2 ^ tzN (i + 1) ≤ oddN (i + 1) * 2 ^ tzN (i + 1) := Nat.mul_le_mul_right _ (by omega)
        have h1 : 1 ≤ 2 ^ tzN (i + 1) := Nat.one_le_two_pow
        omega
      have h1 : 1 ≤ 2 ^ tzN (i + 1) := Nat.one_le_two_pow
      have hcl2 := h (2 ^ tzN (i + 1) - 1) i (by omega) hi'
      unfold clashB at hcl2
      rw [Nat.sub_add_cancel h1] at hcl2
      obtain ⟨t1, t2⟩ := tz_pow (tzN (i + 1)) (by omega)
      rw [t1, t2, if_pos rfl] at hcl2
      have hq : (decide ((oddN (i + 1) - 1) % 4 = 0)) = (oddN (i + 1) % 4 == 1) := by
        rw [Bool.eq_iff_iff]; simp only [decide_eq_true_eq, beq_iff_eq]; omega
      rw [hq] at hcl2
      generalize (oddN (i + 1) % 4 == 1) = z at hcl2
      rcases hlet i hi' with e | e <;> rcases hlet (2 ^ tzN (i + 1) - 1) (by omega) with e2 | e2 <;> rw [e, e2] at hcl2 <;> rw [e, e2] <;> cases z <;> first | rfl | (exact absurd hcl2 (by decide))
  · intro h i j hij hj
    unfold clashB
    split
    · rename_i ht
      have hi' : i < cs.length := by omega
      have gi : cs.getD i 0 = if creB (foldsB (waysL cs 7 (2 ^ k))) i then 118 else 104 := by
        have := creS_get (foldsB (waysL cs 7 (2 ^ k))) (by omega) i (by rw [hfl]; omega)
        rw [h] at this; exact this
      have gj : cs.getD j 0 = if creB (foldsB (waysL cs 7 (2 ^ k))) j then 118 else 104 := by
        have := creS_get (foldsB (waysL cs 7 (2 ^ k))) (by omega) j (by rw [hfl]; omega)
        rw [h] at this; exact this
      rw [hget i hi'] at gi
      rw [hget j hj, ← ht] at gj
      obtain ⟨o1, _⟩ := tz_facts (i + 1) (by omega) (by omega)
      obtain ⟨o2, _⟩ := tz_facts (j + 1) (by omega) (by omega)
      have hle := odd_le (i := i + 1) (j := j + 1) (by omega) ht
      rw [gi, gj]
      generalize (cs.getD (2 ^ tzN (i + 1) - 1) 0 == 118) = a
      have h3 : decide ((oddN (j + 1) - oddN (i + 1)) % 4 = 0) = ((oddN (i + 1) % 4 == 1) == (oddN (j + 1) % 4 == 1)) := by
        have h1 : oddN (i + 1) % 4 = 1 ∨ oddN (i + 1) % 4 = 3 := by omega
        have h2 : oddN (j + 1) % 4 = 1 ∨ oddN (j + 1) % 4 = 3 := by omega
        rw [Bool.eq_iff_iff]
        simp only [decide_eq_true_eq]
        rcases h1 with e1 | e1 <;> rcases h2 with e2 | e2 <;> rw [e1, e2] <;> simp <;> omega
      rw [h3]
      generalize (oddN (i + 1) % 4 == 1) = z1
      generalize (oddN (j + 1) % 4 == 1) = z2
      cases a <;> cases z1 <;> cases z2 <;> rfl
    · rfl
/-- the folds that the creases of folds tell are these folds -/
theorem ways_cre (f : List Bool) (h : f.length ≤ 6) : waysL (creS f) 7 (2 ^ f.length) = f.map wayOf := by
  have hb : ∀ j, j < f.length → (creS f).getD (2 ^ (f.length - 1 - j) - 1) 0 = if f.getD j false then 118 else 104 := fun j hj => by
    have h1 : 1 ≤ 2 ^ (f.length - 1 - j) := Nat.one_le_two_pow
    have h2 := pow_lt_pow (show f.length - 1 - j < f.length by omega)
    rw [creS_get f h _ (by omega)]
    unfold creB
    rw [Nat.sub_add_cancel h1]
    obtain ⟨t1, t2⟩ := tz_pow (f.length - 1 - j) (by omega)
    rw [t1, t2, show f.length - 1 - (f.length - 1 - j) = j by omega]
    cases f.getD j false <;> rfl
  refine ext_getD (by rw [waysL_len0 _ _ _ (by omega), List.length_map]) (fun j hj => ?_)
  rw [waysL_len0 _ _ _ (by omega)] at hj
  rw [(waysL_get (creS f) 7 f.length j (by omega) hj).1, hb j hj, getD_map1 wayOf f j false 0 hj]
  cases f.getD j false <;> rfl
end Go.Proofs.Quire
