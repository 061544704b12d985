/-
  What QuireTurned says of piles: the opposite folds, and two squares exchanged.
-/
import Derived.Test.YtehffacmphpknaaDoorFactT
import Derived.Test.YtehffacmphpknaaDoorFactQ
import Derived.Test.YtehffacmphpknaaDoorFactU
import Derived.Test.YtehffacmphpknaaDoorExchH
set_option linter.unusedSimpArgs false
set_option linter.unusedVariables false
namespace Go.Proofs.YtehffacmphpknaaDoor
open Go.Proofs.Quire
theorem tur_of (f : List Bool) (h : f.length ≤ 6) : (pileL (f.map (!·))).reverse = pileL f ∧ creC (f.map (!·)) = (creC f).map (222 - ·) := by
  have ht := folds_all tur_k f h
  simp only [turB, Bool.and_eq_true] at ht
  rw [pileL_C f h, pileL_C _ (by rw [List.length_map]; exact h)]
  exact ⟨beq_iff_eq.1 ht.1, beq_iff_eq.1 ht.2⟩
theorem way_back (f : List Bool) (h : f.length ≤ 6) : waysOf (pileL f) = f.map wayOf := by
  have ht := folds_all way_k f h
  rw [pileL_C f h]; exact beq_iff_eq.1 ht
theorem foldsB_way (f : List Bool) : foldsB (f.map wayOf) = f := by
  unfold foldsB
  rw [List.map_map]
  induction f with
  | nil => rfl
  | cons o f ih => rw [List.map_cons, ih]; cases o <;> rfl
/-- piles tell their folds -/
theorem pile_inj (f g : List Bool) (hf : f.length ≤ 6) (hg : g.length ≤ 6) (h : pileL f = pileL g) : f = g := by
  have h1 := way_back f hf
  rw [h, way_back g hg] at h1
  rw [← foldsB_way f, ← foldsB_way g, h1]
theorem twE_nodup (n : Nat) : ∀ (xs : List Nat) (seen : List Bool), seen.length = n → xs.Nodup → (∀ x ∈ xs, x < n ∧ seen.getD x false = false) → twE n seen (xs.map fun x : Nat => (x : Int)) = 0
  | [], _, _, _, _ => rfl
  | x :: xs, seen, hs, hn, hx => by
    obtain ⟨h1, h2⟩ := hx x (List.mem_cons_self ..)
    rw [List.map_cons, twE, if_neg (by omega), Int.toNat_natCast, if_neg (by rw [h2]; decide)]
    rw [List.nodup_cons] at hn
    refine twE_nodup n xs _ (by rw [List.length_set]; exact hs) hn.2 (fun y hy => ?_)
    obtain ⟨h3, h4⟩ := hx y (List.mem_cons_of_mem _ hy)
    refine ⟨h3, ?_⟩
    have hne : x ≠ y := fun e => hn.1 (by rw [e]; exact hy)
    rw [List.getD_eq_getElem?_getD, List.getElem?_set_ne hne, ← List.getD_eq_getElem?_getD]; exact h4
theorem ones_pow : ∀ k, k ≤ 6 → onesN (2 ^ k) = 1 := by decide
/-- two squares of a pile exchanged -/
def swp (l : List Nat) (x y : Nat) : List Nat := (l.set x (l.getD y 0)).set y (l.getD x 0)
theorem swp_len (l : List Nat) (x y : Nat) : (swp l x y).length = l.length := by simp [swp]
theorem swp_getD (l : List Nat) (x y : Nat) (hx : x < l.length) (hy : y < l.length) (i : Nat) (hi : i < l.length) :
    (swp l x y).getD i 0 = if i = y then l.getD x 0 else if i = x then l.getD y 0 else l.getD i 0 := by
  unfold swp
  by_cases h1 : i = y
  · subst h1; rw [if_pos rfl, List.getD_eq_getElem?_getD, List.getElem?_set_self (by simpa using hi)]; rfl
  · rw [if_neg h1, List.getD_eq_getElem?_getD, List.getElem?_set_ne (fun e => h1 e.symm)]
    by_cases h2 : i = x
    · subst h2; rw [if_pos rfl, List.getElem?_set_self hi]; rfl
    · rw [if_neg h2, List.getElem?_set_ne (fun e => h2 e.symm), ← List.getD_eq_getElem?_getD]
theorem gmem {l : List Nat} {i : Nat} (h : i < l.length) : l.getD i 0 ∈ l := by rw [getD_lt _ _ _ h]; exact List.getElem_mem _
theorem getD_inj {l : List Nat} (hn : l.Nodup) {i j : Nat} (hi : i < l.length) (hj : j < l.length) (h : l.getD i 0 = l.getD j 0) : i = j := by
  rw [getD_lt _ _ _ hi, getD_lt _ _ _ hj] at h
  exact (List.getElem_inj hn).1 h
theorem nodup_getD {l : List Nat} (h : ∀ i j, i < l.length → j < l.length → l.getD i 0 = l.getD j 0 → i = j) : l.Nodup := by
  rw [List.nodup_iff_pairwise_ne] 
  rw [List.pairwise_iff_getElem]
  intro i j hi hj hij e
  have := h i j hi hj (by rw [getD_lt _ _ _ hi, getD_lt _ _ _ hj]; exact e)
  omega
theorem swp_nodup {l : List Nat} (hn : l.Nodup) {x y : Nat} (hx : x < l.length) (hy : y < l.length) : (swp l x y).Nodup := by
  refine nodup_getD (fun i j hi hj e => ?_)
  rw [swp_len] at hi hj
  rw [swp_getD l x y hx hy i hi, swp_getD l x y hx hy j hj] at e
  repeat' split at e
  all_goals first
    | omega
    | (have := getD_inj hn (by assumption) (by assumption) e; omega)
theorem swp_ne {l : List Nat} (hn : l.Nodup) {x y : Nat} (hx : x < l.length) (hy : y < l.length) (hxy : x ≠ y) : swp l x y ≠ l := fun e => by
  have h1 := swp_getD l x y hx hy y hy
  rw [if_pos rfl, e] at h1
  exact hxy (getD_inj hn hx hy h1.symm)
theorem mem_lt {l : List Nat} {n : Nat} (h : ∀ i, i < l.length → l.getD i 0 < n) : ∀ x ∈ l, x < n := fun x hx => by
  obtain ⟨t, ht, e⟩ := mem_getD hx
  rw [← e]; exact h t ht
/-- what Folded says of a pile with two squares exchanged -/
theorem bad_told (f : List Bool) (h : f.length ≤ 6) (x y : Nat) (hx : x < 2 ^ f.length) (hy : y < 2 ^ f.length) (hxy : x ≠ y) :
    (∃ k : List UInt8, foldedP ((swp (pileL f) x y).map fun x : Nat => (x : Int)) = (k, 0) ∧ chkF k = 0 ∧ pileP k = swp (pileL f) x y ∧ ∀ fs, foldsB fs = f → k ≠ fs) ∨
    (foldedP ((swp (pileL f) x y).map fun x : Nat => (x : Int)) = ([], 12) ∧ ∀ g : List Bool, g.length = f.length → pileL g ≠ swp (pileL f) x y) := by
  obtain ⟨p1, p2, p3, p4, _⟩ := perm_of f h
  rw [← pileL_C f h] at p1 p2 p3 p4
  have hx' : x < (pileL f).length := by rw [p1]; exact hx
  have hy' : y < (pileL f).length := by rw [p1]; exact hy
  have hne := swp_ne p3 hx' hy' hxy
  have hnd := swp_nodup p3 hx' hy'
  have hlt : ∀ z ∈ swp (pileL f) x y, z < 2 ^ f.length := mem_lt (fun i hi => by
    rw [swp_len] at hi
    rw [swp_getD _ _ _ hx' hy' i hi]
    split
    · exact p2 _ (gmem hx')
    · split
      · exact p2 _ (gmem hy')
      · exact p2 _ (gmem hi))
  have hlen : (swp (pileL f) x y).length = 2 ^ f.length := by rw [swp_len]; exact p1
  generalize hb : swp (pileL f) x y = b at hne hnd hlt hlen ⊢
  have hmap : (b.map fun x : Nat => (x : Int)).map Int.toNat = b := by rw [List.map_map]; exact List.map_id' b
  have hpow : 2 ^ f.length ≤ 2 ^ 6 := Nat.pow_le_pow_right (by omega) h
  have hE : pileE (b.map fun x : Nat => (x : Int)) = 0 := by
    unfold pileE
    rw [List.length_map, hlen, if_neg (by omega), if_pos (ones_pow _ h)]
    exact twE_nodup _ b _ List.length_replicate hnd (fun z hz => ⟨hlt z hz, by rw [List.getD_eq_getElem?_getD, List.getElem?_replicate]; split <;> rfl⟩)
  have hF : foldedP (b.map fun x : Nat => (x : Int)) = if pileL (foldsB (waysOf b)) = b then (waysOf b, 0) else ([], 12) := by
    unfold foldedP; rw [if_pos hE, hmap]
  rw [hF]
  by_cases hp : pileL (foldsB (waysOf b)) = b
  · left
    have hmem : ∀ n g, ∀ c ∈ waysP (plS b 0 (List.replicate b.length 0)) n g, c = 111 ∨ c = 117 := by
      intro n
      induction n with
      | zero => intro g c hc; simp [waysP] at hc
      | succ n ih =>
        intro g c hc
        unfold waysP at hc
        split at hc
        · rcases List.mem_cons.1 hc with rfl | hc
          · unfold wayOf; split
            · exact .inl rfl
            · exact .inr rfl
          · exact ih _ _ hc
        · simp at hc
    have hwl : (waysOf b).length ≤ 6 := waysP_len _ 7 _ 6 (by rw [hlen]; omega)
    have hc0 : chkF (waysOf b) = 0 := chkL_all2 hwl (hmem 7 _)
    refine ⟨waysOf b, if_pos hp, hc0, ?_, fun fs hfs e => ?_⟩
    · unfold pileP; rw [if_pos hc0, hp]
    · rw [e, hfs] at hp; exact hne hp.symm
  · right
    refine ⟨if_neg hp, fun g hg e => hp ?_⟩
    rw [← e, way_back g (by omega), foldsB_way]
/-- o and u exchanged -/
theorem foldsB_swap (l : List UInt8) (h : ∀ c ∈ l, c = 111 ∨ c = 117) : foldsB (l.map (swapU 111 117)) = (foldsB l).map (!·) := by
  unfold foldsB
  rw [List.map_map, List.map_map]
  refine List.map_congr_left (fun c hc => ?_)
  rcases h c hc with rfl | rfl <;> rfl
theorem swap_chk (l : List UInt8) (hl : l.length ≤ 6) (h : ∀ c ∈ l, c = 111 ∨ c = 117) : chkF (l.map (swapU 111 117)) = 0 :=
  chkL_all2 (by rw [List.length_map]; exact hl) (fun c hc => by
    obtain ⟨d, hd, rfl⟩ := List.mem_map.1 hc
    rcases h d hd with rfl | rfl
    · exact .inr rfl
    · exact .inl rfl)
/-- v and h exchanged -/
theorem cre_swap (f : List Bool) (h : f.length ≤ 6) : (creS f).map (swapU 118 104) = creS (f.map (!·)) := by
  rw [creS_C f h, creS_C _ (by rw [List.length_map]; exact h), (tur_of f h).2, List.map_map, List.map_map]
  have hl : (creC f).length = 2 ^ f.length - 1 := by
    have := creS_len f
    rw [creS_C f h, List.length_map] at this; omega
  refine List.map_congr_left (fun c hc => ?_)
  obtain ⟨t, ht, e⟩ := mem_getD hc
  rcases creC_val f t (by omega) with e2 | e2
  · rw [← e, e2]; rfl
  · rw [← e, e2]; rfl
end Go.Proofs.YtehffacmphpknaaDoor
