/-
  Plain mathematics: what the arches of a word are, and the words by numbers in ascending order.
-/
import Derived.Test.YtalildjhighlhaaMathF
namespace Go.Proofs.Short
/-- how many of the six letters a word has -/
def diffN (v : List UInt8) : Nat := ((alphaL 6).filter fun c => v.contains c).length
theorem diff_eq {v met : List UInt8} (hn : met.Nodup) (hm : ∀ c, c ∈ met ↔ c ∈ v) (h6 : ∀ c ∈ met, c ∈ alphaL 6) : diffN v = met.length := by
  unfold diffN
  refine ((List.perm_ext_iff_of_nodup ((alpha_nodup 6).filter _) hn).2 fun c => ?_).length_eq
  rw [List.mem_filter, List.contains_iff_mem]
  exact ⟨fun h => (hm c).2 h.2, fun h => ⟨h6 c h, (hm c).1 h⟩⟩
theorem alpha_up {k : Nat} {c : UInt8} (h : c ∈ alphaL k) : c ∈ alphaL 6 := by
  unfold alphaL at h ⊢; exact List.mem_of_mem_take h
theorem arch_parts {k : Nat} (h1 : 1 ≤ k) : ∀ (w : List UInt8) (i : Nat) (met u : List UInt8), (∀ c ∈ w, c ∈ alphaL k) → met.Nodup → (∀ c ∈ met, c ∈ alphaL k) → (∀ c, c ∈ met ↔ c ∈ u) → met.length < k →
    (archesL k i met w = [] → diffN (u ++ w) < k) ∧
    ∀ e rest, archesL k i met w = e :: rest → ∃ j, e = i + j + 1 ∧ j < w.length ∧ diffN (u ++ w.take (j + 1)) = k ∧ diffN (u ++ w.take j) < k ∧ rest = archesL k e [] (w.drop (j + 1))
  | [], i, met, u, _, hn, hm, hu, hl => ⟨fun _ => by rw [List.append_nil, diff_eq hn hu fun c hc => alpha_up (hm c hc)]; exact hl, fun e rest h => by cases h⟩
  | a :: w, i, met, u, hw, hn, hm, hu, hl => by
    have ha := hw a (by simp)
    have hww : ∀ c ∈ w, c ∈ alphaL k := fun c hc => hw c (by simp [hc])
    have e1 : archesL k i met (a :: w) = if (if a ∈ met then met else a :: met).length = k then (i + 1) :: archesL k (i + 1) [] w else archesL k (i + 1) (if a ∈ met then met else a :: met) w := rfl
    have hun : ∀ c, c ∈ (if a ∈ met then met else a :: met) ↔ c ∈ u ++ [a] := fun c => by
      rw [List.mem_append, List.mem_singleton, ← hu c]
      by_cases h : a ∈ met
      · rw [if_pos h]; exact ⟨.inl, fun h' => h'.elim id fun e => e ▸ h⟩
      · rw [if_neg h, List.mem_cons, or_comm]
    have hnn : (if a ∈ met then met else a :: met).Nodup := by
      by_cases h : a ∈ met
      · rw [if_pos h]; exact hn
      · rw [if_neg h]; exact List.nodup_cons.2 ⟨h, hn⟩
    have hmm : ∀ c ∈ (if a ∈ met then met else a :: met), c ∈ alphaL k := fun c hc => by
      by_cases h : a ∈ met
      · rw [if_pos h] at hc; exact hm c hc
      · rw [if_neg h] at hc
        rcases List.mem_cons.1 hc with rfl | hc
        · exact ha
        · exact hm c hc
    have hll : (if a ∈ met then met else a :: met).length ≤ met.length + 1 := by split <;> simp
    rw [e1]
    generalize (if a ∈ met then met else a :: met) = m' at hun hnn hmm hll
    by_cases hk : m'.length = k
    · rw [if_pos hk]
      refine ⟨(by intro h; cases h), fun e rest h => ?_⟩
      obtain ⟨rfl, rfl⟩ := List.cons.inj h
      refine ⟨0, rfl, by simp, ?_, ?_, rfl⟩
      · show diffN (u ++ [a]) = k
        rw [diff_eq hnn hun fun c hc => alpha_up (hmm c hc), hk]
      · rw [List.take_zero, List.append_nil, diff_eq hn hu fun c hc => alpha_up (hm c hc)]; exact hl
    · rw [if_neg hk]
      obtain ⟨ih1, ih2⟩ := arch_parts h1 w (i + 1) m' (u ++ [a]) hww hnn hmm hun (by omega)
      have ec : ∀ v : List UInt8, u ++ [a] ++ v = u ++ a :: v := fun v => by simp
      refine ⟨fun h => by have := ih1 h; rwa [ec] at this, fun e rest h => ?_⟩
      obtain ⟨j, h1, h2, h3, h4, h5⟩ := ih2 e rest h
      rw [ec] at h3 h4
      exact ⟨j + 1, by omega, by simp; omega, h3, h4, h5⟩
/-- a word by its number -/
def digL (k : Nat) : Nat → Nat → List UInt8
  | 0, _ => []
  | n + 1, x => digL k n (x / k) ++ [UInt8.ofNat (97 + x % k)]
theorem dig_len (k : Nat) : ∀ n x, (digL k n x).length = n
  | 0, _ => rfl
  | n + 1, x => by unfold digL; rw [List.length_append, dig_len k n]; rfl
theorem dig_cons {k : Nat} (h1 : 1 ≤ k) : ∀ n x, x < k ^ (n + 1) → digL k (n + 1) x = UInt8.ofNat (97 + x / k ^ n) :: digL k n (x % k ^ n)
  | 0, x, h => by
    simp at h
    simp [digL, Nat.mod_eq_of_lt h]
  | n + 1, x, h => by
    have hx : x / k < k ^ (n + 1) := by rw [Nat.div_lt_iff_lt_mul h1]; rw [Nat.pow_succ] at h; exact h
    show digL k (n + 1) (x / k) ++ [UInt8.ofNat (97 + x % k)] = UInt8.ofNat (97 + x / k ^ (n + 1)) :: (digL k n ((x % k ^ (n + 1)) / k) ++ [UInt8.ofNat (97 + (x % k ^ (n + 1)) % k)])
    rw [dig_cons h1 n (x / k) hx]
    have e1 : x / k / k ^ n = x / k ^ (n + 1) := by rw [Nat.div_div_eq_div_mul, Nat.pow_succ, Nat.mul_comm]
    have e2 : x / k % k ^ n = (x % k ^ (n + 1)) / k := by rw [Nat.pow_succ, Nat.mul_comm, Nat.mod_mul_right_div_self]
    have e3 : (x % k ^ (n + 1)) % k = x % k := by rw [Nat.pow_succ, Nat.mul_comm, Nat.mod_mul_right_mod]
    rw [e1, e2, e3]; rfl
theorem range_mul (b : Nat) : ∀ a, List.range (a * b) = (List.range a).flatMap fun i => (List.range b).map fun j => i * b + j
  | 0 => by simp
  | a + 1 => by
    rw [Nat.succ_mul, List.range_add, range_mul b a, List.range_succ, List.flatMap_append]
    simp
theorem alpha_range {k : Nat} (h6 : k ≤ 6) : alphaL k = (List.range k).map fun i => UInt8.ofNat (97 + i) := by
  have : ∀ k < 7, alphaL k = (List.range k).map fun i => UInt8.ofNat (97 + i) := by decide
  exact this k (by omega)
theorem flatMap_congr' {α β : Type} {f g : α → List β} : ∀ {l : List α}, (∀ a ∈ l, f a = g a) → l.flatMap f = l.flatMap g
  | [], _ => rfl
  | a :: l, h => by rw [List.flatMap_cons, List.flatMap_cons, h a (by simp), flatMap_congr' fun b hb => h b (by simp [hb])]
/-- all words of a size are those by numbers -/
theorem words_dig {k : Nat} (h1 : 1 ≤ k) (h6 : k ≤ 6) : ∀ n, wordsL k n = (List.range (k ^ n)).map (digL k n)
  | 0 => rfl
  | n + 1 => by
    have e : wordsL k (n + 1) = (alphaL k).flatMap fun c => (wordsL k n).map (c :: ·) := rfl
    have hp : 0 < k ^ n := Nat.pow_pos h1
    rw [e, words_dig h1 h6 n, Nat.pow_succ, Nat.mul_comm, range_mul, List.map_flatMap, alpha_range h6, List.flatMap_map]
    refine flatMap_congr' fun i hi => ?_
    rw [List.map_map, List.map_map]
    refine List.map_congr_left fun j hj => ?_
    rw [List.mem_range] at hi hj
    have hx : i * k ^ n + j < k ^ (n + 1) := by
      rw [Nat.pow_succ, Nat.mul_comm (k ^ n) k]
      calc i * k ^ n + j < i * k ^ n + k ^ n := by omega
        _ = (i + 1) * k ^ n := by rw [Nat.succ_mul]
        _ ≤ k * k ^ n := Nat.mul_le_mul_right _ (by omega)
    show UInt8.ofNat (97 + i) :: digL k n j = digL k (n + 1) (i * k ^ n + j)
    rw [dig_cons h1 n _ hx]
    have e1 : (i * k ^ n + j) / k ^ n = i := by rw [Nat.add_comm, Nat.add_mul_div_right _ _ hp, Nat.div_eq_of_lt hj, Nat.zero_add]
    have e2 : (i * k ^ n + j) % k ^ n = j := by rw [Nat.add_comm, Nat.add_mul_mod_self_right, Nat.mod_eq_of_lt hj]
    rw [e1, e2]
/-- the number of the first word that is no part -/
theorem miss_number {k : Nat} (h1 : 1 ≤ k) (h6 : k ≤ 6) (w : List UInt8) : ∃ q, q < k ^ (missL k w).length ∧ digL k (missL k w).length q = missL k w ∧ leftL w (missL k w) = false ∧ ∀ r, r < q → leftL w (digL k (missL k w).length r) = true := by
  have h := words_find h1 w
  rw [words_dig h1 h6] at h
  obtain ⟨hp, q, hq, he, hb⟩ := List.find?_eq_some_iff_getElem.1 h
  have hq' : q < k ^ (missL k w).length := by simpa using hq
  refine ⟨q, hq', by simpa using he, by simpa using hp, fun r hr => ?_⟩
  have := hb r hr
  simpa using this
theorem miss_before {k : Nat} (h1 : 1 ≤ k) (h6 : k ≤ 6) (w : List UInt8) {n x : Nat} (hn : n < (missL k w).length) (hx : x < k ^ n) : leftL w (digL k n x) = true :=
  words_short h1 w hn _ (by rw [words_dig h1 h6]; exact List.mem_map.2 ⟨x, List.mem_range.2 hx, rfl⟩)
end Go.Proofs.Short
