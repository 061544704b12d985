/-
  Other names of letters: ways, counts and arches stay.
-/
import Derived.Test.YtlbepjmiligpcaaDoorMathF
set_option linter.unusedSimpArgs false
set_option linter.unusedVariables false
namespace Go.Proofs.Short
/-- f tells the letters a to f apart, and leads to such letters -/
def Ren (f : UInt8 → UInt8) : Prop := (∀ a ∈ alphaL 6, f a ∈ alphaL 6) ∧ ∀ a ∈ alphaL 6, ∀ b ∈ alphaL 6, f a = f b → a = b
theorem waysR_ren {f : UInt8 → UInt8} (h : Ren f) : ∀ w p : List UInt8, (∀ c ∈ w, c ∈ alphaL 6) → (∀ c ∈ p, c ∈ alphaL 6) → waysR (w.map f) (p.map f) = waysR w p
  | w, [], _, _ => by rw [List.map_nil, waysR_nil, waysR_nil]
  | [], _ :: _, _, _ => rfl
  | a :: w, c :: p, hw, hp => by
    have h1 := waysR_ren h w (c :: p) (fun d hd => hw d (List.mem_cons_of_mem _ hd)) hp
    have h2 := waysR_ren h w p (fun d hd => hw d (List.mem_cons_of_mem _ hd)) (fun d hd => hp d (List.mem_cons_of_mem _ hd))
    rw [List.map_cons] at h1
    rw [List.map_cons, List.map_cons, waysR, waysR, h1, h2]
    by_cases e : a = c
    · rw [if_pos e, if_pos (by rw [e])]
    · rw [if_neg e, if_neg (fun e2 => e (h.2 a (hw a (List.mem_cons_self ..)) c (hp c (List.mem_cons_self ..)) e2))]
theorem waysL_ren {f : UInt8 → UInt8} (h : Ren f) {w p : List UInt8} (hw : ∀ c ∈ w, c ∈ alphaL 6) (hp : ∀ c ∈ p, c ∈ alphaL 6) : waysL (w.map f) (p.map f) = waysL w p := by
  unfold waysL
  rw [← List.map_reverse, ← List.map_reverse]
  exact waysR_ren h _ _ (fun c hc => hw c (List.mem_reverse.1 hc)) (fun c hc => hp c (List.mem_reverse.1 hc))
theorem map_inj {f : UInt8 → UInt8} (h : Ren f) : ∀ p q : List UInt8, (∀ c ∈ p, c ∈ alphaL 6) → (∀ c ∈ q, c ∈ alphaL 6) → p.map f = q.map f → p = q
  | [], [], _, _, _ => rfl
  | [], _ :: _, _, _, e => by simp at e
  | _ :: _, [], _, _, e => by simp at e
  | a :: p, b :: q, hp, hq, e => by
    rw [List.map_cons, List.map_cons] at e
    injection e with e1 e2
    rw [h.2 a (hp a (List.mem_cons_self ..)) b (hq b (List.mem_cons_self ..)) e1, map_inj h p q (fun c hc => hp c (List.mem_cons_of_mem _ hc)) (fun c hc => hq c (List.mem_cons_of_mem _ hc)) e2]
theorem nodup_map {f : UInt8 → UInt8} (h : Ren f) : ∀ L : List (List UInt8), (∀ p ∈ L, ∀ c ∈ p, c ∈ alphaL 6) → L.Nodup → (L.map fun p => p.map f).Nodup
  | [], _, _ => List.nodup_nil
  | p :: L, hL, hn => by
    obtain ⟨h1, h2⟩ := List.nodup_cons.1 hn
    rw [List.map_cons]
    refine List.nodup_cons.2 ⟨fun hm => ?_, nodup_map h L (fun q hq => hL q (List.mem_cons_of_mem _ hq)) h2⟩
    obtain ⟨q, hq, e⟩ := List.mem_map.1 hm
    have := map_inj h q p (hL q (List.mem_cons_of_mem _ hq)) (hL p (List.mem_cons_self ..)) e
    exact h1 (this ▸ hq)
theorem parts_ren {f : UInt8 → UInt8} (h : Ren f) {x : List UInt8} (hx : ∀ c ∈ x, c ∈ alphaL 6) : (partsL [x.map f]).length = (partsL [x]).length := by
  have hin : ∀ p ∈ partsL [x], ∀ c ∈ p, c ∈ alphaL 6 := fun p hp c hc => by
    obtain ⟨w, hw, hs⟩ := mem_partsL.1 hp
    rw [List.mem_singleton.1 hw] at hs
    exact hx c (hs.subset hc)
  have hp : List.Perm (partsL [x.map f]) ((partsL [x]).map fun p => p.map f) := by
    refine (List.perm_ext_iff_of_nodup (srt_nodup (srt_partsL _)) (nodup_map h _ hin (srt_nodup (srt_partsL _)))).2 fun q => ?_
    rw [mem_partsL, List.mem_map]
    constructor
    · rintro ⟨w, hw, hs⟩
      rw [List.mem_singleton.1 hw, List.sublist_map_iff] at hs
      obtain ⟨p, hp, e⟩ := hs
      exact ⟨p, mem_partsL.2 ⟨x, List.mem_singleton.2 rfl, hp⟩, e.symm⟩
    · rintro ⟨p, hp, e⟩
      obtain ⟨w, hw, hs⟩ := mem_partsL.1 hp
      rw [List.mem_singleton.1 hw] at hs
      exact ⟨_, List.mem_singleton.2 rfl, e ▸ hs.map f⟩
  rw [hp.length_eq, List.length_map]
theorem arches_ren {f : UInt8 → UInt8} (h : Ren f) (k : Nat) : ∀ (w : List UInt8) (i : Nat) (met : List UInt8), (∀ c ∈ w, c ∈ alphaL 6) → (∀ c ∈ met, c ∈ alphaL 6) → archesL k i (met.map f) (w.map f) = archesL k i met w
  | [], _, _, _, _ => rfl
  | a :: w, i, met, hw, hm => by
    have hww : ∀ c ∈ w, c ∈ alphaL 6 := fun c hc => hw c (List.mem_cons_of_mem _ hc)
    have ha := hw a (List.mem_cons_self ..)
    have hiff : f a ∈ met.map f ↔ a ∈ met := by
      constructor
      · intro hx
        obtain ⟨b, hb, e⟩ := List.mem_map.1 hx
        rw [← h.2 b (hm b hb) a ha e]; exact hb
      · intro hx; exact List.mem_map.2 ⟨a, hx, rfl⟩
    have hmet : (if f a ∈ met.map f then met.map f else f a :: met.map f) = (if a ∈ met then met else a :: met).map f := by
      by_cases e : a ∈ met
      · rw [if_pos e, if_pos (hiff.2 e)]
      · rw [if_neg e, if_neg (fun x => e (hiff.1 x))]; rfl
    have hm2 : ∀ c ∈ (if a ∈ met then met else a :: met), c ∈ alphaL 6 := fun c hc => by
      split at hc
      · exact hm c hc
      · rcases List.mem_cons.1 hc with rfl | hc
        · exact ha
        · exact hm c hc
    rw [List.map_cons]
    show (let met' := if f a ∈ met.map f then met.map f else f a :: met.map f; if met'.length = k then (i + 1) :: archesL k (i + 1) [] (w.map f) else archesL k (i + 1) met' (w.map f)) = (let met' := if a ∈ met then met else a :: met; if met'.length = k then (i + 1) :: archesL k (i + 1) [] w else archesL k (i + 1) met' w)
    rw [hmet]
    have h1 := arches_ren h k w (i + 1) [] hww (by simp)
    have h2 := arches_ren h k w (i + 1) _ hww hm2
    rw [List.map_nil] at h1
    simp only [List.length_map, h1, h2]
/-- two places of a list exchanged: the letters stay -/
def swapL (l : List UInt8) (i k : Nat) : List UInt8 := (l.set i (l.getD k 0)).set k (l.getD i 0)
theorem swapL_len (l : List UInt8) (i k : Nat) : (swapL l i k).length = l.length := by simp [swapL]
/-- a list of the six letters, in any order -/
def Six (l : List UInt8) : Prop := l.length = 6 ∧ (∀ c ∈ l, c ∈ alphaL 6) ∧ l.Nodup
theorem swapL_get (l : List UInt8) (i k : Nat) (hi : i < l.length) (hk : k < l.length) (j : Nat) (hj : j < l.length) :
    (swapL l i k).getD j 0 = if j = k then l.getD i 0 else if j = i then l.getD k 0 else l.getD j 0 := by
  unfold swapL
  by_cases e1 : j = k
  · subst e1; rw [if_pos rfl, List.getD_eq_getElem?_getD, List.getElem?_set_self (by simpa using hj)]; rfl
  · rw [if_neg e1, List.getD_eq_getElem?_getD, List.getElem?_set_ne (fun e => e1 e.symm)]
    by_cases e2 : j = i
    · subst e2; rw [if_pos rfl, List.getElem?_set_self hj]; rfl
    · rw [if_neg e2, List.getElem?_set_ne (fun e => e2 e.symm), ← List.getD_eq_getElem?_getD]
theorem getD_mem6 {l : List UInt8} {i : Nat} (h : i < l.length) : l.getD i 0 ∈ l := by
  rw [List.getD_eq_getElem?_getD, List.getElem?_eq_getElem h]; exact List.getElem_mem _
theorem nodup_getD_iff {l : List UInt8} : l.Nodup ↔ ∀ i j, i < l.length → j < l.length → l.getD i 0 = l.getD j 0 → i = j := by
  constructor
  · intro hn i j hi hj e
    rw [List.getD_eq_getElem?_getD, List.getD_eq_getElem?_getD, List.getElem?_eq_getElem hi, List.getElem?_eq_getElem hj] at e
    exact (List.getElem_inj hn).1 e
  · intro h
    refine List.pairwise_iff_getElem.2 fun i j hi hj hij e => ?_
    have := h i j hi hj (by rw [List.getD_eq_getElem?_getD, List.getD_eq_getElem?_getD, List.getElem?_eq_getElem hi, List.getElem?_eq_getElem hj]; exact e)
    omega
theorem six_swap {l : List UInt8} (h : Six l) {i k : Nat} (hi : i < 6) (hk : k < 6) : Six (swapL l i k) := by
  obtain ⟨h1, h2, h3⟩ := h
  refine ⟨by rw [swapL_len, h1], fun c hc => ?_, nodup_getD_iff.2 fun a b ha hb e => ?_⟩
  · obtain ⟨j, hj, rfl⟩ := List.mem_iff_getElem.1 hc
    rw [swapL_len] at hj
    have e : (swapL l i k)[j]'(by rw [swapL_len]; exact hj) = (swapL l i k).getD j 0 := by
      rw [List.getD_eq_getElem?_getD, List.getElem?_eq_getElem (by rw [swapL_len]; exact hj)]; rfl
    rw [e, swapL_get l i k (by omega) (by omega) j hj]
    split
    · exact h2 _ (getD_mem6 (by omega))
    · split
      · exact h2 _ (getD_mem6 (by omega))
      · exact h2 _ (getD_mem6 hj)
  · rw [swapL_len] at ha hb
    have key : ∀ j, j < 6 → ∃ t, t < 6 ∧ (swapL l i k).getD j 0 = l.getD t 0 ∧ ((j = k ∧ t = i) ∨ (j ≠ k ∧ j = i ∧ t = k) ∨ (j ≠ k ∧ j ≠ i ∧ t = j)) := fun j hj => by
      rw [swapL_get l i k (by omega) (by omega) j (by omega)]
      by_cases e1 : j = k
      · exact ⟨i, hi, by rw [if_pos e1], .inl ⟨e1, rfl⟩⟩
      · rw [if_neg e1]
        by_cases e2 : j = i
        · exact ⟨k, hk, by rw [if_pos e2], .inr (.inl ⟨e1, e2, rfl⟩)⟩
        · exact ⟨j, hj, by rw [if_neg e2], .inr (.inr ⟨e1, e2, rfl⟩)⟩
    obtain ⟨ta, hta, ea, ca⟩ := key a (by omega)
    obtain ⟨tb, htb, eb, cb⟩ := key b (by omega)
    rw [ea, eb] at e
    have := nodup_getD_iff.1 h3 _ _ (by omega) (by omega) e
    omega
/-- the new name of a letter -/
def nameL (to : List UInt8) (c : UInt8) : UInt8 := to.getD (c.toNat - 97) 0
theorem alpha6_nat {c : UInt8} (h : c ∈ alphaL 6) : 97 ≤ c.toNat ∧ c.toNat ≤ 102 := by
  have h4 : c ∈ [97, 98, 99, 100, 101, 102] := h
  simp at h4
  rcases h4 with rfl | rfl | rfl | rfl | rfl | rfl <;> decide
theorem ren_of {to : List UInt8} (h : Six to) : Ren (nameL to) := by
  obtain ⟨h1, h2, h3⟩ := h
  refine ⟨fun a ha => ?_, fun a ha b hb e => ?_⟩
  · have := alpha6_nat ha
    exact h2 _ (getD_mem6 (by omega))
  · have ha' := alpha6_nat ha
    have hb' := alpha6_nat hb
    have := nodup_getD_iff.1 h3 _ _ (by omega) (by omega) e
    exact UInt8.toNat_inj.1 (by omega)
theorem six_abc : Six [97, 98, 99, 100, 101, 102] := ⟨rfl, fun c hc => hc, by decide⟩
end Go.Proofs.Short
