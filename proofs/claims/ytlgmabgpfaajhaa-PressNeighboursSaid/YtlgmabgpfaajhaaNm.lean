/-
  Two neighbours of an order exchanged.
-/
import Derived.Test.YtlgmabgpfaajhaaNr
set_option linter.unusedSimpArgs false
set_option linter.unusedVariables false
namespace Go.Proofs.Ytlgmabgpfaajhaa
open Go Go.Proofs.Eng
def swO (o : List Int) (p : Nat) : List Int := (o.set p (o.getD (p + 1) 0)).set (p + 1) (o.getD p 0)
theorem sw_get {o : List Int} {p : Nat} (h : p + 1 < o.length) (a : Nat) : (swO o p).getD a 0 = if p + 1 = a then o.getD p 0 else if p = a then o.getD (p + 1) 0 else o.getD a 0 := by
  unfold swO
  rw [set_get (by rw [List.length_set]; exact h), set_get (by omega)]
theorem sw_len (o : List Int) (p : Nat) : (swO o p).length = o.length := by unfold swO; simp
theorem okD_inj {o : List Int} (h : okD o) : ∀ a b, a < b → b < o.length → o.getD a 0 ≠ o.getD b 0 := by
  intro a b hab hb e
  refine h b hb ?_
  rw [← e]
  have h1 : a < (o.take b).length := by rw [List.length_take]; omega
  have h2 := getD_mem (l := o.take b) (d := 0) h1
  have h3 : (o.take b).getD a 0 = o.getD a 0 := by
    rw [List.getD_eq_getElem?_getD, List.getElem?_take_of_lt hab, List.getD_eq_getElem?_getD]
  rwa [h3] at h2
theorem inj_okD {o : List Int} (h : ∀ a b, a < b → b < o.length → o.getD a 0 ≠ o.getD b 0) : okD o := by
  intro i hi hm
  obtain ⟨j, hj, e⟩ := List.getElem_of_mem hm
  rw [List.length_take] at hj
  rw [List.getElem_take] at e
  have e2 : o.getD j 0 = o[j] := by rw [List.getD_eq_getElem?_getD, List.getElem?_eq_getElem (by omega)]; rfl
  exact h j i (by omega) hi (by rw [e2]; exact e)
theorem sw_okD {o : List Int} {p : Nat} (hp : p + 1 < o.length) (h : okD o) : okD (swO o p) := by
  have hi := okD_inj h
  refine inj_okD fun a b hab hb => ?_
  rw [sw_len] at hb
  rw [sw_get hp, sw_get hp]
  by_cases a1 : p + 1 = a
  · rw [if_pos a1, if_neg (by omega), if_neg (by omega)]
    exact hi p b (by omega) hb
  · rw [if_neg a1]
    by_cases a2 : p = a
    · rw [if_pos a2]
      by_cases b1 : p + 1 = b
      · rw [if_pos b1]; exact fun e => hi p (p + 1) (by omega) hp e.symm
      · rw [if_neg b1, if_neg (by omega)]; exact hi (p + 1) b (by omega) hb
    · rw [if_neg a2]
      by_cases b1 : p + 1 = b
      · rw [if_pos b1]; exact hi a p (by omega) (by omega)
      · rw [if_neg b1]
        by_cases b2 : p = b
        · rw [if_pos b2]; exact hi a (p + 1) (by omega) hp
        · rw [if_neg b2]; exact hi a b hab hb
theorem sw_okO {o : List Int} {p n : Nat} (hp : p + 1 < o.length) (h : okO n o) : okO n (swO o p) := by
  intro x hx
  obtain ⟨j, hj, rfl⟩ := List.getElem_of_mem hx
  have e2 : (swO o p).getD j 0 = (swO o p)[j] := by rw [List.getD_eq_getElem?_getD, List.getElem?_eq_getElem hj]; rfl
  rw [sw_len] at hj
  rw [← e2, sw_get hp]
  by_cases a1 : p + 1 = j
  · rw [if_pos a1]; exact h _ (getD_mem (by omega))
  · rw [if_neg a1]
    by_cases a2 : p = j
    · rw [if_pos a2]; exact h _ (getD_mem hp)
    · rw [if_neg a2]; exact h _ (getD_mem hj)
theorem ord_get {l : List (Int × Int)} {o : List Int} {i : Nat} (h : i < o.length) : (ordL l o).getD i (0, 0) = l.getD (o.getD i 0).toNat (0, 0) := by
  unfold ordL
  rw [List.getD_eq_getElem?_getD, List.getElem?_map, List.getElem?_eq_getElem h]
  have e : o.getD i 0 = o[i] := by rw [List.getD_eq_getElem?_getD, List.getElem?_eq_getElem h]; rfl
  rw [e]; rfl
theorem ord_get0 {l : List (Int × Int)} {o : List Int} {i : Nat} (h : o.length ≤ i) : (ordL l o).getD i (0, 0) = (0, 0) := by
  unfold ordL
  rw [List.getD_eq_getElem?_getD, List.getElem?_map, List.getElem?_eq_none h]; rfl
theorem sw_exC {l : List (Int × Int)} {o : List Int} {p : Nat} (hp : p + 1 < o.length) : exC (ordL l o) (ordL l (swO o p)) p := by
  refine ⟨?_, ?_, fun i h1 h2 => ?_⟩
  · rw [ord_get (by rw [sw_len]; omega), ord_get hp, sw_get hp, if_neg (by omega), if_pos rfl]
  · rw [ord_get (by rw [sw_len]; omega), ord_get (by omega), sw_get hp, if_pos rfl]
  · by_cases hi : i < o.length
    · rw [ord_get (by rw [sw_len]; exact hi), ord_get hi, sw_get hp, if_neg (by omega), if_neg (by omega)]
    · rw [ord_get0 (by rw [sw_len]; omega), ord_get0 (by omega)]
theorem sw_time {l : List (Int × Int)} {o : List Int} {p : Nat} (hp : p + 1 < o.length) (hg : goE l (o.getD p 0).toNat (o.getD (p + 1) 0).toNat = true) : (lastN (ordL l o) o.length).2 ≤ (lastN (ordL l (swO o p)) o.length).2 := by
  have hm : mn2 ((ordL l o).getD p (0, 0)).1 ((ordL l o).getD (p + 1) (0, 0)).2 ≤ mn2 ((ordL l o).getD (p + 1) (0, 0)).1 ((ordL l o).getD p (0, 0)).2 := by
    rw [ord_get (by omega), ord_get hp]
    exact of_decide_eq_true hg
  have := ex_le (sw_exC (l := l) hp) hm (o.length - (p + 2))
  rw [show p + 2 + (o.length - (p + 2)) = o.length by omega] at this
  exact this.2
end Go.Proofs.Ytlgmabgpfaajhaa

