/-
  Plain mathematics of package short, continued: the first of the shortest words that are missing, among all words in their order.
-/
import Derived.Test.YtlbepjmiligpcaaDoorMathC
set_option linter.unusedSimpArgs false
set_option linter.unusedVariables false
namespace Go.Proofs.Short

def wordsL (k : Nat) : Nat → List (List UInt8)
  | 0 => [[]]
  | n + 1 => (alphaL k).flatMap fun c => (wordsL k n).map (c :: ·)
theorem mem_wordsL (k : Nat) : ∀ (n : Nat) (p : List UInt8), p ∈ wordsL k n ↔ p.length = n ∧ ∀ c ∈ p, c ∈ alphaL k
  | 0, p => by
    simp only [wordsL, List.mem_singleton]
    constructor
    · rintro rfl; simp
    · rintro ⟨h, _⟩; exact List.length_eq_zero_iff.1 h
  | n + 1, p => by
    simp only [wordsL, List.mem_flatMap, List.mem_map]
    constructor
    · rintro ⟨c, hc, q, hq, rfl⟩
      obtain ⟨h1, h2⟩ := (mem_wordsL k n q).1 hq
      refine ⟨by simp [h1], fun d hd => ?_⟩
      rcases List.mem_cons.1 hd with rfl | hd
      · exact hc
      · exact h2 d hd
    · rintro ⟨h1, h2⟩
      cases p with
      | nil => simp at h1
      | cons c q => exact ⟨c, h2 c (List.mem_cons_self ..), q, (mem_wordsL k n q).2 ⟨by simpa using h1, fun d hd => h2 d (List.mem_cons_of_mem _ hd)⟩, rfl⟩
theorem ltW_cons' (c : UInt8) (x y : List UInt8) : ltW (c :: x) (c :: y) = ltW x y := by
  have e : Lib.compareBytes (c :: x) (c :: y) = Lib.compareBytes x y := by simp [Lib.compareBytes]
  rw [Bool.eq_iff_iff, ltW_iff, ltW_iff, e]
  simp
theorem alpha_pair (k : Nat) : (alphaL k).Pairwise (fun c d => c < d) := by
  have : (alphaL 6).Pairwise (fun c d => c < d) := by decide
  exact this.sublist (List.take_sublist k _)
theorem srt_wordsL (k : Nat) : ∀ n, Srt (wordsL k n)
  | 0 => by simp [wordsL, Srt]
  | n + 1 => by
    unfold Srt wordsL
    rw [List.pairwise_flatMap]
    refine ⟨fun c _ => ?_, (alpha_pair k).imp fun {c d} hcd x hx y hy => ?_⟩
    · rw [List.pairwise_map]
      exact (srt_wordsL k n).imp fun {x y} h => by rw [ltW_cons']; exact h
    · obtain ⟨q, hq, rfl⟩ := List.mem_map.1 hx
      obtain ⟨s, hs, rfl⟩ := List.mem_map.1 hy
      exact ltW_head (by rw [((mem_wordsL k n q).1 hq).1, ((mem_wordsL k n s).1 hs).1]) hcd

theorem better_ne {f x : List UInt8} (hx : x ≠ []) : better f x ≠ [] := by
  unfold better
  split
  · exact hx
  · split
    · exact hx
    · assumption
theorem best_fold : ∀ (xs : List (List UInt8)) (f : List UInt8), f ≠ [] → (∀ x ∈ xs, x ≠ []) →
    (xs.foldl better f = f ∨ xs.foldl better f ∈ xs) ∧ ltW f (xs.foldl better f) = false ∧ ∀ x ∈ xs, ltW x (xs.foldl better f) = false
  | [], f, _, _ => ⟨.inl rfl, ltW_irrefl f, by simp⟩
  | x :: xs, f, hf, hxs => by
    have hx := hxs x (List.mem_cons_self ..)
    have ih := best_fold xs (better f x) (better_ne hx) (fun y hy => hxs y (List.mem_cons_of_mem _ hy))
    rw [List.foldl_cons]
    obtain ⟨h1, h2, h3⟩ := ih
    have key : (better f x = x ∧ ltW x f = true) ∨ (better f x = f ∧ ltW x f = false) := by
      unfold better
      rw [if_neg hf]
      cases h : ltW x f with
      | true => left; simp
      | false => right; simp
    have nolt : ∀ {u v m : List UInt8}, ltW v u = true → ltW v m = false → ltW u m = false := fun {u v m} a b => by
      cases h : ltW u m with
      | false => rfl
      | true => rw [ltW_trans a h] at b; exact absurd b (by decide)
    rcases key with ⟨e, hlt⟩ | ⟨e, hlt⟩
    · rw [e] at h1 h2 h3 ⊢
      refine ⟨.inr ?_, nolt hlt h2, fun y hy => ?_⟩
      · rcases h1 with h1 | h1
        · rw [h1]; exact List.mem_cons_self ..
        · exact List.mem_cons_of_mem _ h1
      · rcases List.mem_cons.1 hy with rfl | hy
        · exact h2
        · exact h3 y hy
    · rw [e] at h1 h2 h3 ⊢
      refine ⟨h1.imp id (List.mem_cons_of_mem _), h2, fun y hy => ?_⟩
      rcases List.mem_cons.1 hy with rfl | hy
      · cases h : ltW f y with
        | true => exact nolt h h2
        | false => rw [ltW_total hlt h]; exact h2
      · exact h3 y hy

/-- the word that is missing by its first letter c -/
def nxL (k : Nat) (c : UInt8) (rest : List UInt8) : List UInt8 := match idxL c rest with
  | none => [c]
  | some i => c :: missL k (rest.drop (i + 1))
theorem missT_getD (k : Nat) : ∀ (w : List UInt8) (i : Nat), i ≤ w.length → (missT k w).getD i [] = missL k (w.drop i)
  | w, 0, _ => by simp [missL]
  | [], i + 1, h => by simp at h
  | a :: w, i + 1, h => by
    have := missT_getD k w i (by simpa using h)
    rw [List.drop_succ_cons, ← this]; rfl
theorem idx_lt' {c : UInt8} : ∀ {l : List UInt8} {i : Nat}, idxL c l = some i → i < l.length
  | [], i, h => by simp [idxL] at h
  | a :: l, i, h => by
    unfold idxL at h
    split at h
    · simp at h; subst h; simp
    · cases h2 : idxL c l with
      | none => rw [h2] at h; simp at h
      | some j => rw [h2] at h; simp at h; subst h; have := idx_lt' h2; simp; omega
theorem missL_fold (k : Nat) : ∀ w : List UInt8, missL k w = ((alphaL k).map fun c => nxL k c w).foldl better []
  | [] => by
    rw [List.foldl_map]; rfl
  | a :: w => by
    have e : missL k (a :: w) = firstMissL (a :: w) (missT k w) k := rfl
    rw [e, List.foldl_map]
    unfold firstMissL
    congr 1
    funext f c
    congr 1
    unfold missBy nxL
    cases h : idxL c (a :: w) with
    | none => rfl
    | some i =>
      have := idx_lt' h
      show c :: _ = c :: _
      rw [missT_getD k w i (by simp at this; omega), List.drop_succ_cons]
theorem nxL_ne (k : Nat) (c : UInt8) (w : List UInt8) : nxL k c w ≠ [] := by unfold nxL; split <;> simp
/-- missL's place among all words -/
theorem missL_min {k : Nat} (hk : 1 ≤ k) (w : List UInt8) : (∃ c ∈ alphaL k, missL k w = nxL k c w) ∧ ∀ c ∈ alphaL k, ltW (nxL k c w) (missL k w) = false := by
  rw [missL_fold]
  cases hA : alphaL k with
  | nil =>
    obtain ⟨j, rfl⟩ : ∃ j, k = j + 1 := ⟨k - 1, by omega⟩
    simp [alphaL] at hA
  | cons d l =>
    rw [List.map_cons, List.foldl_cons]
    have e : better [] (nxL k d w) = nxL k d w := if_pos rfl
    rw [e]
    obtain ⟨h1, h2, h3⟩ := best_fold (l.map fun c => nxL k c w) (nxL k d w) (nxL_ne k d w) (fun x hx => by
      obtain ⟨c, _, rfl⟩ := List.mem_map.1 hx; exact nxL_ne k c w)
    refine ⟨?_, fun c hc => ?_⟩
    · rcases h1 with h1 | h1
      · exact ⟨d, List.mem_cons_self .., h1⟩
      · obtain ⟨c, hc, e⟩ := List.mem_map.1 h1
        exact ⟨c, List.mem_cons_of_mem _ hc, e.symm⟩
    · rcases List.mem_cons.1 hc with rfl | hc
      · exact h2
      · exact h3 _ (List.mem_map.2 ⟨c, hc, rfl⟩)
theorem missL_spec {k : Nat} (hk : 1 ≤ k) : ∀ (n : Nat) (w : List UInt8), w.length ≤ n →
    (∀ c ∈ missL k w, c ∈ alphaL k) ∧ leftL w (missL k w) = false ∧ ∀ p : List UInt8, (∀ c ∈ p, c ∈ alphaL k) → leftL w p = false → ltW p (missL k w) = false := by
  intro n
  induction n with
  | zero =>
    intro w hw
    have : w = [] := List.length_eq_zero_iff.1 (by omega)
    subst this
    obtain ⟨⟨c, hc, e⟩, hmin⟩ := missL_min hk []
    have en : ∀ d, nxL k d [] = [d] := fun d => rfl
    refine ⟨by rw [e, en]; simpa using hc, by rw [e, en]; rfl, fun p hp hl => ?_⟩
    cases p with
    | nil => rw [leftL_nil] at hl; exact absurd hl (by decide)
    | cons d q =>
      have h1 := hmin d (hp d (List.mem_cons_self ..))
      rw [en] at h1
      cases h : ltW (d :: q) (missL k []) with
      | false => rfl
      | true =>
        exfalso
        have h2 : ltW (d :: q) [d] = false := by
          cases h3 : ltW (d :: q) [d] with
          | false => rfl
          | true =>
            rw [ltW_iff] at h3
            rcases h3 with h3 | ⟨h3, h4⟩
            · simp at h3
            · have : q = [] := by simpa using h3
              subst this
              rw [Lib.compareBytes] at h4; simp [Lib.compareBytes] at h4
        cases h3 : ltW [d] (d :: q) with
        | true => rw [ltW_trans h3 h] at h1; exact absurd h1 (by decide)
        | false => rw [← ltW_total h2 h3, h] at h1; exact absurd h1 (by decide)
  | succ n ih =>
    intro w hw
    obtain ⟨⟨c, hc, e⟩, hmin⟩ := missL_min hk w
    refine ⟨?_, ?_, fun p hp hl => ?_⟩
    · rw [e]
      unfold nxL
      cases h : idxL c w with
      | none => simpa using hc
      | some i =>
        have := idx_lt' h
        obtain ⟨h1, _⟩ := ih (w.drop (i + 1)) (by simp; omega)
        intro d hd
        rcases List.mem_cons.1 hd with rfl | hd
        · exact hc
        · exact h1 d hd
    · rw [e]
      cases hL : leftL w (nxL k c w) with
      | false => rfl
      | true =>
        exfalso
        unfold nxL at hL
        cases h : idxL c w with
        | none =>
          rw [h] at hL
          obtain ⟨i, hi, _⟩ := (cons_left c [] w).1 hL
          rw [h] at hi; exact absurd hi (by simp)
        | some i =>
          rw [h] at hL
          obtain ⟨j, hj, hl⟩ := (cons_left c _ w).1 hL
          rw [h] at hj; injection hj with hj; subst hj
          have := idx_lt' h
          rw [(ih (w.drop (i + 1)) (by simp; omega)).2.1] at hl
          exact absurd hl (by decide)
    · cases p with
      | nil => rw [leftL_nil] at hl; exact absurd hl (by decide)
      | cons d q =>
        have h1 := hmin d (hp d (List.mem_cons_self ..))
        have h2 : ltW (d :: q) (nxL k d w) = false := by
          unfold nxL
          cases h : idxL d w with
          | none =>
            cases h3 : ltW (d :: q) [d] with
            | false => rfl
            | true =>
              rw [ltW_iff] at h3
              rcases h3 with h3 | ⟨h3, h4⟩
              · simp at h3
              · have : q = [] := by simpa using h3
                subst this
                simp [Lib.compareBytes] at h4
          | some i =>
            have := idx_lt' h
            show ltW (d :: q) (d :: missL k (w.drop (i + 1))) = false
            rw [ltW_cons']
            refine (ih (w.drop (i + 1)) (by simp; omega)).2.2 q (fun x hx => hp x (List.mem_cons_of_mem _ hx)) ?_
            cases h5 : leftL (w.drop (i + 1)) q with
            | false => rfl
            | true => rw [(cons_left d q w).2 ⟨i, h, h5⟩] at hl; exact absurd hl (by decide)
        cases h : ltW (d :: q) (missL k w) with
        | false => rfl
        | true =>
          exfalso
          cases h3 : ltW (nxL k d w) (d :: q) with
          | true => rw [ltW_trans h3 h] at h1; exact absurd h1 (by decide)
          | false => rw [← ltW_total h2 h3, h] at h1; exact absurd h1 (by decide)
/-- words that are shorter are parts -/
theorem words_short {k : Nat} (hk : 1 ≤ k) (w : List UInt8) {n : Nat} (hn : n < (missL k w).length) : ∀ p ∈ wordsL k n, leftL w p = true := fun p hp => by
  obtain ⟨h1, h2⟩ := (mem_wordsL k n p).1 hp
  cases h : leftL w p with
  | true => rfl
  | false =>
    have := (missL_spec hk w.length w (Nat.le_refl _)).2.2 p h2 h
    rw [show ltW p (missL k w) = true from ltW_iff.2 (.inl (by omega))] at this
    exact absurd this (by decide)
/-- .. and among those of its size missL is the first that is none -/
theorem words_find {k : Nat} (hk : 1 ≤ k) (w : List UInt8) : (wordsL k (missL k w).length).find? (fun p => !leftL w p) = some (missL k w) := by
  obtain ⟨h1, h2, h3⟩ := missL_spec hk w.length w (Nat.le_refl _)
  cases h : (wordsL k (missL k w).length).find? (fun p => !leftL w p) with
  | none =>
    have := List.find?_eq_none.1 h (missL k w) ((mem_wordsL k _ _).2 ⟨rfl, h1⟩)
    rw [h2] at this; exact absurd this (by decide)
  | some p =>
    obtain ⟨hp, as, bs, e, hbef⟩ := List.find?_eq_some_iff_append.1 h
    have hpm : p ∈ wordsL k (missL k w).length := by rw [e]; simp
    have hpl : leftL w p = false := by simpa using hp
    have ha := h3 p ((mem_wordsL k _ p).1 hpm).2 hpl
    cases hb : ltW (missL k w) p with
    | false => rw [ltW_total ha hb]
    | true =>
      exfalso
      have hm : missL k w ∈ wordsL k (missL k w).length := (mem_wordsL k _ _).2 ⟨rfl, h1⟩
      have hs := srt_wordsL k (missL k w).length
      rw [e] at hm hs
      unfold Srt at hs
      rw [List.pairwise_append] at hs
      rcases List.mem_append.1 hm with hm | hm
      · have := hbef _ hm; rw [h2] at this; exact absurd this (by decide)
      · rcases List.mem_cons.1 hm with hm | hm
        · rw [hm, ltW_irrefl] at hb; exact absurd hb (by decide)
        · have := (List.pairwise_cons.1 hs.2.1).1 _ hm
          rw [ltW_asymm this] at hb; exact absurd hb (by decide)
end Go.Proofs.Short
