/-
  Plain mathematics of package short, continued: what is missing has one letter more than there are arches.
-/
import Derived.Test.YtlbepjmiligpcaaDoorMathD
set_option linter.unusedSimpArgs false
set_option linter.unusedVariables false
namespace Go.Proofs.Short

theorem nodup_le {α : Type} [DecidableEq α] : ∀ {l m : List α}, l.Nodup → (∀ x ∈ l, x ∈ m) → l.length ≤ m.length
  | [], m, _, _ => Nat.zero_le _
  | a :: l, m, hn, hs => by
    obtain ⟨h1, h2⟩ := List.nodup_cons.1 hn
    have ha : a ∈ m := hs a (List.mem_cons_self ..)
    have ih := nodup_le (l := l) (m := m.erase a) h2 fun x hx => (List.mem_erase_of_ne (fun (e : x = a) => h1 (by rw [← e]; exact hx))).2 (hs x (List.mem_cons_of_mem _ hx))
    have := List.length_erase_of_mem ha
    have := List.length_pos_of_mem ha
    simp; omega
/-- how long what is missing behind the first c is; 0: there is no c -/
def gL (k : Nat) (c : UInt8) (w : List UInt8) : Nat := match idxL c w with
  | none => 0
  | some i => (missL k (w.drop (i + 1))).length
theorem nxL_len (k : Nat) (c : UInt8) (w : List UInt8) : (nxL k c w).length = 1 + gL k c w := by
  unfold nxL gL
  cases idxL c w <;> simp; omega
theorem ltW_len {p q : List UInt8} (h : ltW p q = false) : q.length ≤ p.length := by
  cases Nat.lt_or_ge p.length q.length with
  | inl h2 => rw [show ltW p q = true from ltW_iff.2 (.inl h2)] at h; exact absurd h (by decide)
  | inr h2 => exact h2
/-- what is missing behind is not longer -/
theorem miss_drop {k : Nat} (hk : 1 ≤ k) (w : List UInt8) (i : Nat) : (missL k (w.drop i)).length ≤ (missL k w).length := by
  obtain ⟨h1, h2, _⟩ := missL_spec hk w.length w (Nat.le_refl _)
  refine ltW_len ((missL_spec hk _ (w.drop i) (Nat.le_refl _)).2.2 (missL k w) h1 ?_)
  cases h : leftL (w.drop i) (missL k w) with
  | false => rfl
  | true => rw [leftL_iff.2 ((leftL_iff.1 h).trans (List.drop_sublist i w))] at h2; exact absurd h2 (by decide)
theorem gL_le {k : Nat} (hk : 1 ≤ k) (c : UInt8) (w : List UInt8) : gL k c w ≤ (missL k w).length := by
  unfold gL
  cases idxL c w with
  | none => exact Nat.zero_le _
  | some i => exact miss_drop hk w (i + 1)
theorem gL_cons (k : Nat) (c a : UInt8) (w : List UInt8) : gL k c (a :: w) = if a = c then (missL k w).length else gL k c w := by
  have e2 : idxL c (a :: w) = if a = c then some 0 else (idxL c w).map (· + 1) := rfl
  unfold gL
  rw [e2]
  by_cases h : a = c
  · rw [if_pos h, if_pos h]; rfl
  · rw [if_neg h, if_neg h]
    cases idxL c w <;> rfl
def Least (k : Nat) (met w : List UInt8) (v : Nat) : Prop := (∃ c ∈ alphaL k, c ∉ met ∧ v = 1 + gL k c w) ∧ ∀ c ∈ alphaL k, c ∉ met → v ≤ 1 + gL k c w
theorem Least.eq {k : Nat} {met w : List UInt8} {u v : Nat} (h : Least k met w u) (h' : Least k met w v) : u = v := by
  obtain ⟨⟨c, h1, h2, h3⟩, h4⟩ := h
  obtain ⟨⟨d, g1, g2, g3⟩, g4⟩ := h'
  have := h4 d g1 g2
  have := g4 c h1 h2
  omega
theorem least_miss {k : Nat} (hk : 1 ≤ k) (w : List UInt8) : Least k [] w (missL k w).length := by
  obtain ⟨⟨c, hc, e⟩, hmin⟩ := missL_min hk w
  refine ⟨⟨c, hc, by simp, by rw [e, nxL_len]⟩, fun d hd _ => ?_⟩
  rw [← nxL_len]
  exact ltW_len (hmin d hd)
theorem alpha_nodup (k : Nat) : (alphaL k).Nodup := (alpha_pair k).imp fun {a b} h e => by
  subst e; rw [UInt8.lt_iff_toNat_lt] at h; omega
theorem fresh {k : Nat} (h6 : k ≤ 6) {met : List UInt8} (hl : met.length < k) : ∃ c ∈ alphaL k, c ∉ met := by
  refine Classical.byContradiction fun h => ?_
  have : (alphaL k).length ≤ met.length := nodup_le (alpha_nodup k) fun x hx => Classical.byContradiction fun hn => h ⟨x, hx, hn⟩
  have e : (alphaL k).length = k := by unfold alphaL; rw [List.length_take]; simp; omega
  omega
theorem least_arches {k : Nat} (h1 : 1 ≤ k) (h6 : k ≤ 6) : ∀ (w : List UInt8) (i : Nat) (met : List UInt8), (∀ c ∈ w, c ∈ alphaL k) → met.Nodup → (∀ c ∈ met, c ∈ alphaL k) → met.length < k →
    Least k met w ((archesL k i met w).length + 1)
  | [], i, met, _, _, _, hl => by
    obtain ⟨c, hc, hn⟩ := fresh h6 hl
    exact ⟨⟨c, hc, hn, rfl⟩, fun d _ _ => by simp [archesL]⟩
  | a :: w, i, met, hw, hnd, hms, hl => by
    have haa : a ∈ alphaL k := hw a (List.mem_cons_self ..)
    have hww : ∀ c ∈ w, c ∈ alphaL k := fun c hc => hw c (List.mem_cons_of_mem _ hc)
    have e1 : archesL k i met (a :: w) = if (if a ∈ met then met else a :: met).length = k then (i + 1) :: archesL k (i + 1) [] w else archesL k (i + 1) (if a ∈ met then met else a :: met) w := rfl
    rw [e1]
    by_cases ha : a ∈ met
    · rw [if_pos ha, if_neg (by omega)]
      obtain ⟨⟨c, hc, hn, e⟩, hmin⟩ := least_arches h1 h6 w (i + 1) met hww hnd hms hl
      have key : ∀ d, d ∉ met → gL k d (a :: w) = gL k d w := fun d hd => by rw [gL_cons, if_neg (fun (e : a = d) => hd (by rw [← e]; exact ha))]
      exact ⟨⟨c, hc, hn, by rw [key c hn]; exact e⟩, fun d hd hdn => by rw [key d hdn]; exact hmin d hd hdn⟩
    · rw [if_neg ha]
      have hnd' : (a :: met).Nodup := List.nodup_cons.2 ⟨ha, hnd⟩
      have hms' : ∀ c ∈ a :: met, c ∈ alphaL k := fun c hc => by
        rcases List.mem_cons.1 hc with rfl | hc
        · exact haa
        · exact hms c hc
      have hga : gL k a (a :: w) = (missL k w).length := by rw [gL_cons, if_pos rfl]
      by_cases hk : (a :: met).length = k
      · rw [if_pos hk]
        have hN := (least_arches h1 h6 w (i + 1) [] hww List.nodup_nil (by simp) (by simp; omega)).eq (least_miss h1 w)
        refine ⟨⟨a, haa, ha, by rw [hga]; simp; omega⟩, fun d hd hdn => ?_⟩
        have : d = a := Classical.byContradiction fun hne => by
          have h2 : (d :: a :: met).Nodup := List.nodup_cons.2 ⟨by simp [hne, hdn], hnd'⟩
          have h3 := nodup_le h2 (m := alphaL k) fun x hx => by
            rcases List.mem_cons.1 hx with rfl | hx
            · exact hd
            · exact hms' x hx
          have e : (alphaL k).length = k := by unfold alphaL; rw [List.length_take]; simp; omega
          simp at h3 hk; omega
        subst this
        rw [hga]; simp; omega
      · rw [if_neg hk]
        obtain ⟨⟨c, hc, hn, e⟩, hmin⟩ := least_arches h1 h6 w (i + 1) (a :: met) hww hnd' hms' (by simp at hk ⊢; omega)
        have hca : a ≠ c := fun e => hn (by rw [← e]; exact List.mem_cons_self ..)
        refine ⟨⟨c, hc, fun h => hn (List.mem_cons_of_mem _ h), by rw [gL_cons, if_neg hca]; exact e⟩, fun d hd hdn => ?_⟩
        by_cases hda : a = d
        · subst hda
          rw [hga, e]
          have := gL_le h1 c w
          omega
        · rw [gL_cons, if_neg hda]
          exact hmin d hd fun h => by
            rcases List.mem_cons.1 h with h | h
            · exact hda h.symm
            · exact hdn h
/-- M3: what is missing has one letter more than there are arches -/
theorem miss_arches {k : Nat} (h1 : 1 ≤ k) (h6 : k ≤ 6) (w : List UInt8) (hw : ∀ c ∈ w, c ∈ alphaL k) : (missL k w).length = (archesL k 0 [] w).length + 1 :=
  (least_miss h1 w).eq (least_arches h1 h6 w 0 [] hw List.nodup_nil (by simp) (by simp; omega))

/-! ### a letter more (ShortMore) -/
theorem srt_nodup {l : List (List UInt8)} (h : Srt l) : l.Nodup := h.imp fun {a b} hab e => by
  subst e; rw [ltW_irrefl] at hab; exact absurd hab (by decide)
theorem parts_more {u v : List UInt8} (h : u.Sublist v) (hl : u.length < v.length) : (partsL [u]).length < (partsL [v]).length := by
  have hv : v ∉ partsL [u] := fun hm => by
    obtain ⟨x, hx, hs⟩ := mem_partsL.1 hm
    have := hs.length_le
    simp at hx; subst hx; omega
  have hn : (v :: partsL [u]).Nodup := List.nodup_cons.2 ⟨hv, srt_nodup (srt_partsL [u])⟩
  have := nodup_le hn (m := partsL [v]) fun x hx => by
    rcases List.mem_cons.1 hx with rfl | hx
    · exact mem_partsL.2 ⟨x, by simp, List.Sublist.refl x⟩
    · obtain ⟨y, hy, hs⟩ := mem_partsL.1 hx
      simp at hy; subst hy
      exact mem_partsL.2 ⟨v, by simp, hs.trans h⟩
  simp at this; omega
theorem miss_mono {k : Nat} (hk : 1 ≤ k) {u v : List UInt8} (h : u.Sublist v) : (missL k u).length ≤ (missL k v).length := by
  obtain ⟨h1, h2, _⟩ := missL_spec hk v.length v (Nat.le_refl _)
  refine ltW_len ((missL_spec hk _ u (Nat.le_refl _)).2.2 (missL k v) h1 ?_)
  cases h3 : leftL u (missL k v) with
  | false => rfl
  | true => rw [leftL_iff.2 ((leftL_iff.1 h3).trans h)] at h2; exact absurd h2 (by decide)
theorem arches_more {k : Nat} (h1 : 1 ≤ k) (h6 : k ≤ 6) {u v : List UInt8} (h : u.Sublist v) (hv : ∀ c ∈ v, c ∈ alphaL k) : (archesL k 0 [] u).length ≤ (archesL k 0 [] v).length := by
  have e1 := miss_arches h1 h6 u fun c hc => hv c (h.subset hc)
  have e2 := miss_arches h1 h6 v hv
  have := miss_mono h1 h
  omega

/-! ### the opposite word (ShortBack) -/
theorem left_rev (w p : List UInt8) : leftL w.reverse p.reverse = leftL w p := by
  rw [Bool.eq_iff_iff, leftL_iff, leftL_iff, List.reverse_sublist]
end Go.Proofs.Short
