/-
  Plain mathematics of package short, continued: the parts of one size in ascending order, as the reference lists them.
-/
import Derived.Test.YtlbepjmiligpcaaDoorMathB
set_option linter.unusedSimpArgs false
set_option linter.unusedVariables false
namespace Go.Proofs.Short

/-- the parts of n letters: of what is behind the first a, then the first b, and so on -/
def szL : Nat → List UInt8 → List (List UInt8)
  | 0, _ => [[]]
  | n + 1, w => (alphaL 6).flatMap fun c => match idxL c w with
    | none => []
    | some i => (szL n (w.drop (i + 1))).map (c :: ·)
/-- .. of one letter's -/
def szF (n : Nat) (w : List UInt8) (c : UInt8) : List (List UInt8) := match idxL c w with
    | none => []
    | some i => (szL n (w.drop (i + 1))).map (c :: ·)
theorem szL_succ (n : Nat) (w : List UInt8) : szL (n + 1) w = (alphaL 6).flatMap (szF n w) := rfl
theorem szF_none {n : Nat} {w : List UInt8} {c : UInt8} (h : idxL c w = none) : szF n w c = [] := by unfold szF; rw [h]
theorem szF_some {n : Nat} {w : List UInt8} {c : UInt8} {i : Nat} (h : idxL c w = some i) : szF n w c = (szL n (w.drop (i + 1))).map (c :: ·) := by unfold szF; rw [h]
theorem cons_left (c : UInt8) (q : List UInt8) : ∀ w : List UInt8, leftL w (c :: q) = true ↔ ∃ i, idxL c w = some i ∧ leftL (w.drop (i + 1)) q = true
  | [] => by simp [leftL, idxL]
  | a :: w => by
    have e : leftL (a :: w) (c :: q) = if a = c then leftL w q else leftL w (c :: q) := rfl
    have e2 : idxL c (a :: w) = if a = c then some 0 else (idxL c w).map (· + 1) := rfl
    rw [e, e2]
    split
    · simp
    · rw [cons_left c q w]
      constructor
      · rintro ⟨i, h1, h2⟩; exact ⟨i + 1, by rw [h1]; rfl, h2⟩
      · rintro ⟨i, h1, h2⟩
        cases h : idxL c w with
        | none => rw [h] at h1; simp at h1
        | some j => rw [h] at h1; simp at h1; subst h1; exact ⟨j, rfl, h2⟩
theorem idx_mem {c : UInt8} : ∀ {w : List UInt8} {i : Nat}, idxL c w = some i → c ∈ w
  | [], i, h => by simp [idxL] at h
  | a :: w, i, h => by
    unfold idxL at h
    split at h
    · rename_i e; simp [e]
    · cases h2 : idxL c w with
      | none => rw [h2] at h; simp at h
      | some j => exact List.mem_cons_of_mem _ (idx_mem h2)
theorem okc_alpha {c : UInt8} (h : okc c = true) : c ∈ alphaL 6 := by
  unfold okc at h; simp at h
  have e : c = c.toNat.toUInt8 := by simp
  have : c.toNat = 97 ∨ c.toNat = 98 ∨ c.toNat = 99 ∨ c.toNat = 100 ∨ c.toNat = 101 ∨ c.toNat = 102 := by omega
  rcases this with h | h | h | h | h | h <;> rw [e, h] <;> decide
theorem all_drop_n {w : List UInt8} (h : w.all okc = true) (i : Nat) : (w.drop i).all okc = true :=
  List.all_eq_true.2 fun x hx => List.all_eq_true.1 h x (List.mem_of_mem_drop hx)
theorem mem_szL : ∀ (n : Nat) (w : List UInt8), w.all okc = true → ∀ p, p ∈ szL n w ↔ p.length = n ∧ p.Sublist w
  | 0, w, _, p => by
    simp only [szL, List.mem_singleton]
    constructor
    · rintro rfl; exact ⟨rfl, List.nil_sublist _⟩
    · rintro ⟨h, _⟩; exact List.length_eq_zero_iff.1 h
  | n + 1, w, hw, p => by
    rw [szL_succ, List.mem_flatMap]
    constructor
    · rintro ⟨c, _, hp⟩
      cases h : idxL c w with
      | none => rw [szF_none h] at hp; simp at hp
      | some i =>
        rw [szF_some h] at hp
        obtain ⟨q, hq, rfl⟩ := List.mem_map.1 hp
        obtain ⟨h1, h2⟩ := (mem_szL n _ (all_drop_n hw _) q).1 hq
        exact ⟨by simp [h1], leftL_iff.1 ((cons_left c q w).2 ⟨i, h, leftL_iff.2 h2⟩)⟩
    · rintro ⟨h1, h2⟩
      cases p with
      | nil => simp at h1
      | cons c q =>
        obtain ⟨i, hi, hl⟩ := (cons_left c q w).1 (leftL_iff.2 h2)
        refine ⟨c, okc_alpha (List.all_eq_true.1 hw c (idx_mem hi)), ?_⟩
        rw [szF_some hi]
        exact List.mem_map.2 ⟨q, (mem_szL n _ (all_drop_n hw _) q).2 ⟨by simpa using h1, leftL_iff.1 hl⟩, rfl⟩
theorem ltW_cons {c : UInt8} {x y : List UInt8} (h : x.length = y.length) : ltW (c :: x) (c :: y) = ltW x y := by
  have e : Lib.compareBytes (c :: x) (c :: y) = Lib.compareBytes x y := by simp [Lib.compareBytes]
  rw [Bool.eq_iff_iff, ltW_iff, ltW_iff, e]
  simp [h]
theorem ltW_head {c d : UInt8} {x y : List UInt8} (h : x.length = y.length) (hcd : c < d) : ltW (c :: x) (d :: y) = true := by
  rw [ltW_iff]
  right
  refine ⟨by simp [h], ?_⟩
  simp [Lib.compareBytes, hcd]
theorem srt_szL : ∀ (n : Nat) (w : List UInt8), w.all okc = true → Srt (szL n w)
  | 0, w, _ => by simp [szL, Srt]
  | n + 1, w, hw => by
    unfold Srt
    rw [szL_succ, List.pairwise_flatMap]
    have hlen : ∀ c, ∀ x ∈ szF n w c, ∃ q, x = c :: q ∧ q.length = n := fun c x hx => by
      cases h : idxL c w with
      | none => rw [szF_none h] at hx; simp at hx
      | some i =>
        rw [szF_some h] at hx
        obtain ⟨q, hq, rfl⟩ := List.mem_map.1 hx
        exact ⟨q, rfl, ((mem_szL n _ (all_drop_n hw _) q).1 hq).1⟩
    refine ⟨fun c _ => ?_, ?_⟩
    · cases h : idxL c w with
      | none => rw [szF_none h]; exact List.Pairwise.nil
      | some i =>
        rw [szF_some h, List.pairwise_map]
        refine (List.Pairwise.and_mem.1 (srt_szL n _ (all_drop_n hw (i + 1)))).imp ?_
        rintro x y ⟨hx, hy, hxy⟩
        rw [ltW_cons (by rw [((mem_szL n _ (all_drop_n hw _) x).1 hx).1, ((mem_szL n _ (all_drop_n hw _) y).1 hy).1])]
        exact hxy
    · have : (alphaL 6).Pairwise (fun c d => c < d) := by decide
      refine this.imp fun {c d} hcd x hx y hy => ?_
      obtain ⟨q, rfl, hq⟩ := hlen c x hx
      obtain ⟨s, rfl, hs⟩ := hlen d y hy
      exact ltW_head (by rw [hq, hs]) hcd
theorem szL_sized (n : Nat) (w : List UInt8) (hw : w.all okc = true) : szL n w = (partsL [w]).filter fun p => p.length == n := by
  refine srt_ext (srt_szL n w hw) ((srt_partsL [w]).filter _) fun p => ?_
  rw [mem_szL n w hw, List.mem_filter, mem_partsL]
  simp [and_comm]
/-- how many words of a list have fewer than k letters -/
def cumL (l : List (List UInt8)) (k : Nat) : Nat := (l.filter fun p => decide (p.length < k)).length
theorem cumL_zero (l : List (List UInt8)) : cumL l 0 = 0 := by simp [cumL]
theorem cumL_succ (k : Nat) : ∀ l : List (List UInt8), cumL l (k + 1) = cumL l k + (l.filter fun p => p.length == k).length
  | [] => rfl
  | p :: l => by
    have ih := cumL_succ k l
    unfold cumL at ih ⊢
    by_cases h1 : p.length < k
    · have h2 : p.length < k + 1 := by omega
      have h3 : p.length ≠ k := by omega
      simp only [List.filter_cons, h1, h2, decide_true, if_true, List.length_cons]
      simp [h3]; omega
    · by_cases h3 : p.length = k
      · have h2 : p.length < k + 1 := by omega
        simp only [List.filter_cons, h1, h2, h3, decide_true, decide_false, if_true]
        simp; omega
      · have h2 : ¬ p.length < k + 1 := by omega
        simp only [List.filter_cons, h1, h2, decide_false]
        simp [h3]; omega
theorem cumL_all {l : List (List UInt8)} {k : Nat} (h : ∀ p ∈ l, p.length < k) : cumL l k = l.length := by
  unfold cumL
  rw [List.filter_eq_self.2]
  intro p hp; simp [h p hp]
end Go.Proofs.Short
