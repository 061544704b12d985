/-
  Plain mathematics: no word has more parts than the one in which the letters come again and again.
-/
import Derived.Test.YtalildjhighlhaaMathF
namespace Go.Proofs.Short
def cumN (f : Nat → Nat) : Nat → Nat
  | 0 => 0
  | k + 1 => cumN f k + f k
def sumL {α : Type} (f : α → Nat) : List α → Nat
  | [] => 0
  | a :: l => f a + sumL f l
theorem sumL_add {α : Type} (f g : α → Nat) : ∀ l : List α, sumL (fun a => f a + g a) l = sumL f l + sumL g l
  | [] => rfl
  | a :: l => by simp only [sumL, sumL_add f g l]; omega
theorem sumL_zero {α : Type} {f : α → Nat} : ∀ {l : List α}, (∀ a ∈ l, f a = 0) → sumL f l = 0
  | [], _ => rfl
  | a :: l, h => by simp only [sumL, h a (by simp), sumL_zero (l := l) fun b hb => h b (by simp [hb])]
theorem sumL_congr {α : Type} {f g : α → Nat} : ∀ {l : List α}, (∀ a ∈ l, f a = g a) → sumL f l = sumL g l
  | [], _ => rfl
  | a :: l, h => by simp only [sumL, h a (by simp), sumL_congr (l := l) fun b hb => h b (by simp [hb])]
theorem cumN_sumL {α : Type} (g : Nat → α → Nat) (l : List α) : ∀ k, cumN (fun n => sumL (g n) l) k = sumL (fun c => cumN (fun n => g n c) k) l
  | 0 => by simp only [cumN]; exact (sumL_zero fun _ _ => rfl).symm
  | k + 1 => by simp only [cumN]; rw [cumN_sumL g l k, ← sumL_add]
theorem cumN_congr {f g : Nat → Nat} (h : ∀ n, f n = g n) (k : Nat) : cumN f k = cumN g k := by rw [funext h]
theorem cumN_shift (f : Nat → Nat) : ∀ k, cumN f (k + 1) = f 0 + cumN (fun n => f (n + 1)) k
  | 0 => by simp [cumN]
  | k + 1 => by
    have h := cumN_shift f k
    show cumN f (k + 1) + f (k + 1) = f 0 + (cumN (fun n => f (n + 1)) k + f (k + 1))
    omega
theorem len_flatMap {α β : Type} (f : α → List β) : ∀ l : List α, (l.flatMap f).length = sumL (fun a => (f a).length) l
  | [] => rfl
  | a :: l => by rw [List.flatMap_cons, List.length_append, len_flatMap f l]; rfl
/-- how many parts a word has -/
def totL (w : List UInt8) : Nat := (partsL [w]).length
theorem tot_cum {w : List UInt8} (hw : w.all okc = true) {N : Nat} (hN : w.length < N) : totL w = cumN (fun n => (szL n w).length) N := by
  have h : ∀ k, cumL (partsL [w]) k = cumN (fun n => (szL n w).length) k := by
    intro k
    induction k with
    | zero => exact cumL_zero _
    | succ k ih => rw [cumL_succ, ih, ← szL_sized k w hw]; rfl
  rw [← h N]
  exact (cumL_all fun p hp => by
    obtain ⟨y, hy, hs⟩ := mem_partsL.1 hp
    have := hs.length_le
    simp at hy; subst hy; omega).symm
def tS (w : List UInt8) (c : UInt8) : Nat := match idxL c w with
  | none => 0
  | some i => totL (w.drop (i + 1))
theorem tot_rec {w : List UInt8} (hw : w.all okc = true) : totL w = 1 + sumL (tS w) (alphaL 6) := by
  rw [tot_cum hw (show w.length < w.length + 1 + 1 by omega), cumN_shift]
  have h0 : (szL 0 w).length = 1 := rfl
  rw [h0, cumN_congr (g := fun n => sumL (fun c => (szF n w c).length) (alphaL 6)) (fun n => by rw [szL_succ, len_flatMap]), cumN_sumL]
  congr 1
  refine sumL_congr fun c _ => ?_
  unfold tS
  cases hi : idxL c w with
  | none =>
    have : ∀ k, cumN (fun n => (szF n w c).length) k = 0 := by
      intro k
      induction k with
      | zero => rfl
      | succ k ih =>
        show cumN (fun n => (szF n w c).length) k + (szF k w c).length = 0
        rw [ih, szF_none hi]; rfl
    exact this _
  | some i =>
    show _ = totL (w.drop (i + 1))
    rw [tot_cum (all_drop_n hw (i + 1)) (N := w.length + 1) (by simp; omega)]
    exact cumN_congr (fun n => by rw [szF_some hi]; simp) _
theorem tS_cons (w : List UInt8) (a c : UInt8) : tS (a :: w) c = if a = c then totL w else tS w c := by
  have e : idxL c (a :: w) = if a = c then some 0 else (idxL c w).map (· + 1) := rfl
  unfold tS
  rw [e]
  by_cases h : a = c
  · rw [if_pos h, if_pos h]; rfl
  · rw [if_neg h, if_neg h]
    cases idxL c w with
    | none => rfl
    | some i => rfl
/-- what letters that were not met yet bring -/
def aS (met w : List UInt8) : Nat := sumL (fun c => if c ∈ met then 0 else tS w c) (alphaL 6)
theorem aS_nil (w : List UInt8) : aS [] w = sumL (tS w) (alphaL 6) := sumL_congr fun c _ => by simp
theorem aS_met {a : UInt8} {met w : List UInt8} (h : a ∈ met) : aS met (a :: w) = aS met w := sumL_congr fun c _ => by
  by_cases hc : c ∈ met
  · rw [if_pos hc, if_pos hc]
  · rw [if_neg hc, if_neg hc, tS_cons, if_neg (fun e : a = c => hc (by rw [← e]; exact h))]
theorem sumL_split {α : Type} [DecidableEq α] {f : α → Nat} {a : α} : ∀ {l : List α}, l.Nodup → a ∈ l → sumL f l = f a + sumL (fun c => if c = a then 0 else f c) l
  | [], _, h => absurd h (by simp)
  | b :: l, hn, h => by
    rw [List.nodup_cons] at hn
    by_cases e : b = a
    · subst e
      simp only [sumL, if_true]
      rw [sumL_congr (l := l) (g := f) (f := fun c => if c = b then 0 else f c) fun c hc => by rw [if_neg (fun e : c = b => hn.1 (by rw [← e]; exact hc))]]
      omega
    · have ha : a ∈ l := by
        rcases List.mem_cons.1 h with h | h
        · exact absurd h.symm e
        · exact h
      simp only [sumL, if_neg e]
      rw [sumL_split hn.2 ha]; omega
theorem aS_new {a : UInt8} {met w : List UInt8} (h : a ∉ met) (ha : a ∈ alphaL 6) : aS met (a :: w) = totL w + aS (a :: met) w := by
  unfold aS
  rw [sumL_split (alpha_nodup 6) ha, if_neg h, tS_cons, if_pos rfl]
  congr 1
  refine sumL_congr fun c _ => ?_
  by_cases e : c = a
  · subst e; simp
  · rw [if_neg e]
    by_cases hc : c ∈ met
    · rw [if_pos hc, if_pos (List.mem_cons_of_mem _ hc)]
    · rw [if_neg hc, if_neg (by simp [e, hc]), tS_cons, if_neg (fun h => e h.symm)]
/-- the greatest numbers: of words of m - 1, m - 2, .. letters -/
def glL (k : Nat) : Nat → List Nat
  | 0 => []
  | m + 1 => (1 + ((glL k m).take k).sum) :: glL k m
def gG (k m : Nat) : Nat := 1 + ((glL k m).take k).sum
theorem gl_mono (k : Nat) : ∀ m j, ((glL k m).take j).sum ≤ ((glL k (m + 1)).take j).sum
  | _, 0 => by simp
  | 0, j + 1 => by simp [glL]
  | m + 1, j + 1 => by
    have h1 := gl_mono k m j
    have h2 := gl_mono k m k
    have e1 : glL k (m + 1 + 1) = (1 + ((glL k (m + 1)).take k).sum) :: glL k (m + 1) := rfl
    have e2 : glL k (m + 1) = (1 + ((glL k m).take k).sum) :: glL k m := rfl
    rw [e1, List.take_succ_cons, List.sum_cons]
    conv => lhs; rw [e2, List.take_succ_cons, List.sum_cons]
    omega
theorem tot_nil : totL [] = 1 := by rw [tot_rec rfl]; rfl
theorem tot_le {k : Nat} (h6 : k ≤ 6) : ∀ (w : List UInt8), (∀ c ∈ w, c ∈ alphaL k) →
    totL w ≤ gG k w.length ∧ ∀ met : List UInt8, met.Nodup → (∀ c ∈ met, c ∈ alphaL k) → aS met w ≤ ((glL k w.length).take (k - met.length)).sum
  | [], _ => ⟨by rw [tot_nil]; unfold gG; omega, fun met _ _ => by
      have : aS met [] = 0 := sumL_zero fun c _ => by split <;> rfl
      rw [this]; omega⟩
  | a :: w, hw => by
    obtain ⟨ih1, ih2⟩ := tot_le h6 w fun c hc => hw c (by simp [hc])
    have ha := hw a (by simp)
    have ha6 : a ∈ alphaL 6 := by
      unfold alphaL at ha ⊢; exact List.mem_of_mem_take ha
    have key : ∀ met : List UInt8, met.Nodup → (∀ c ∈ met, c ∈ alphaL k) → aS met (a :: w) ≤ ((glL k (a :: w).length).take (k - met.length)).sum := by
      intro met hn hm
      by_cases h : a ∈ met
      · rw [aS_met h]
        exact Nat.le_trans (ih2 met hn hm) (gl_mono k _ _)
      · rw [aS_new h ha6]
        have hl : (a :: met).length ≤ (alphaL k).length := nodup_le (List.nodup_cons.2 ⟨h, hn⟩) fun c hc => by
          rcases List.mem_cons.1 hc with rfl | hc
          · exact ha
          · exact hm c hc
        have hk : (alphaL k).length = k := by unfold alphaL; simp; omega
        rw [hk, List.length_cons] at hl
        have h2 := ih2 (a :: met) (List.nodup_cons.2 ⟨h, hn⟩) (fun c hc => by
          rcases List.mem_cons.1 hc with rfl | hc
          · exact ha
          · exact hm c hc)
        obtain ⟨j, hj⟩ : ∃ j, k - met.length = j + 1 := ⟨k - met.length - 1, by omega⟩
        have hj2 : k - (a :: met).length = j := by simp; omega
        rw [hj2] at h2
        show _ ≤ ((gG k w.length :: glL k w.length).take (k - met.length)).sum
        rw [hj, List.take_succ_cons, List.sum_cons]
        omega
    refine ⟨?_, key⟩
    rw [tot_rec (List.all_eq_true.2 fun c hc => by
      have h4 : c ∈ [97, 98, 99, 100, 101, 102] := List.mem_of_mem_take (hw c hc)
      simp at h4
      rcases h4 with rfl | rfl | rfl | rfl | rfl | rfl <;> decide), ← aS_nil]
    have := key [] (by simp) (by simp)
    unfold gG
    simpa using this
/-- a word in which no letter comes again before all have come -/
def goodB (k : Nat) : List UInt8 → List UInt8 → Bool
  | _, [] => true
  | met, a :: w => (decide (k ≤ met.length) || (!met.contains a && goodB k (a :: met) w)) && goodB k [] w
theorem alpha_all {k : Nat} {w : List UInt8} (hw : ∀ c ∈ w, c ∈ alphaL k) : w.all okc = true := List.all_eq_true.2 fun c hc => by
  have h4 : c ∈ [97, 98, 99, 100, 101, 102] := List.mem_of_mem_take (hw c hc)
  simp at h4
  rcases h4 with rfl | rfl | rfl | rfl | rfl | rfl <;> decide
theorem good_eq {k : Nat} (h6 : k ≤ 6) : ∀ (w : List UInt8) (met : List UInt8), (∀ c ∈ w, c ∈ alphaL k) → met.Nodup → (∀ c ∈ met, c ∈ alphaL k) → goodB k met w = true →
    aS met w = ((glL k w.length).take (k - met.length)).sum
  | [], met, _, _, _, _ => by
      have : aS met [] = 0 := sumL_zero fun c _ => by split <;> rfl
      rw [this]; simp [glL]
  | a :: w, met, hw, hn, hm, hg => by
    have hww : ∀ c ∈ w, c ∈ alphaL k := fun c hc => hw c (by simp [hc])
    have ha := hw a (by simp)
    have ha6 : a ∈ alphaL 6 := by unfold alphaL at ha ⊢; exact List.mem_of_mem_take ha
    have hk : (alphaL k).length = k := by unfold alphaL; simp; omega
    unfold goodB at hg
    simp only [Bool.and_eq_true, Bool.or_eq_true, decide_eq_true_eq, Bool.not_eq_true'] at hg
    obtain ⟨hg1, hg2⟩ := hg
    have h0 := good_eq h6 w [] hww (by simp) (by simp) hg2
    have htot : totL w = gG k w.length := by
      rw [tot_rec (alpha_all hww), ← aS_nil, h0]; rfl
    rcases hg1 with hg1 | ⟨hg1, hg3⟩
    · have e : k - met.length = 0 := by omega
      rw [e, List.take_zero]
      refine sumL_zero fun c _ => ?_
      by_cases hc : c ∈ met
      · rw [if_pos hc]
      · rw [if_neg hc]
        have hck : c ∉ alphaL k := fun hck => by
          have := nodup_le (m := alphaL k) (List.nodup_cons.2 ⟨hc, hn⟩) fun d hd => by
            rcases List.mem_cons.1 hd with rfl | hd
            · exact hck
            · exact hm d hd
          rw [hk, List.length_cons] at this; omega
        unfold tS
        cases hi : idxL c (a :: w) with
        | none => rfl
        | some i => exact absurd (hw c (idx_mem hi)) hck
    · have hmem : a ∉ met := fun h => by
        have : met.contains a = true := List.contains_iff_mem.2 h
        rw [this] at hg1; exact absurd hg1 (by decide)
      rw [aS_new hmem ha6]
      have hnn : (a :: met).Nodup := List.nodup_cons.2 ⟨hmem, hn⟩
      have hmm : ∀ c ∈ a :: met, c ∈ alphaL k := fun c hc => by
        rcases List.mem_cons.1 hc with rfl | hc
        · exact ha
        · exact hm c hc
      have hl := nodup_le hnn hmm
      rw [hk, List.length_cons] at hl
      have h2 := good_eq h6 w (a :: met) hww hnn hmm hg3
      obtain ⟨j, hj⟩ : ∃ j, k - met.length = j + 1 := ⟨k - met.length - 1, by omega⟩
      have hj2 : k - (a :: met).length = j := by simp; omega
      rw [hj2] at h2
      show _ = ((gG k w.length :: glL k w.length).take (k - met.length)).sum
      rw [hj, List.take_succ_cons, List.sum_cons, h2, htot]
theorem good_tot {k : Nat} (h6 : k ≤ 6) {w : List UInt8} (hw : ∀ c ∈ w, c ∈ alphaL k) (hg : goodB k [] w = true) : totL w = gG k w.length := by
  rw [tot_rec (alpha_all hw), ← aS_nil, good_eq h6 w [] hw (by simp) (by simp) hg]; rfl
/-- no word has more parts than one in which no letter comes again before all have come -/
theorem most_parts {k : Nat} (h6 : k ≤ 6) {w v : List UInt8} (hw : ∀ c ∈ w, c ∈ alphaL k) (hv : ∀ c ∈ v, c ∈ alphaL k) (hl : w.length = v.length) (hg : goodB k [] v = true) : totL w ≤ totL v := by
  rw [good_tot h6 hv hg, ← hl]; exact (tot_le h6 w hw).1
end Go.Proofs.Short
