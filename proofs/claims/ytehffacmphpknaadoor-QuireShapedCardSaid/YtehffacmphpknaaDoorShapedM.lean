/-
  What the statement makes of a list that is to be a pile: the first error.
-/
import Derived.Test.YtehffacmphpknaaDoorTriedM
import Derived.Test.YtehffacmphpknaaDoorChkPile
set_option linter.unusedSimpArgs false
set_option linter.unusedVariables false
namespace Go.Proofs.Quire
/-- one step: the error so far, the numbers so far, one more -/
def shE (n : Int) (z : Int) (p : List Int) (x : Int) : Int := if z = 0 then (if x < 0 ∨ n ≤ x then 2 else if p.contains x then 6 else 0) else z
def shw (n : Int) : Int → List Int → List Int → Int
  | z, _, [] => z
  | z, p, x :: xs => shw n (shE n z p x) (p ++ [x]) xs
theorem shw_stay (n : Int) : ∀ (xs : List Int) (z : Int) (p : List Int), z ≠ 0 → shw n z p xs = z
  | [], _, _, _ => rfl
  | x :: xs, z, p, h => by rw [shw, shE, if_neg h]; exact shw_stay n xs z _ h
theorem shw_tw (n : Nat) : ∀ (xs p : List Int) (seen : List Bool), seen.length = n → (∀ y : Nat, y < n → seen.getD y false = p.contains (y : Int)) → shw n 0 p xs = twE n seen xs
  | [], _, _, _, _ => rfl
  | x :: xs, p, seen, hl, h => by
    rw [shw, twE, shE, if_pos rfl]
    by_cases hr : x < 0 ∨ (n : Int) ≤ x
    · rw [if_pos hr, if_pos hr]; exact shw_stay _ _ _ _ (by decide)
    · rw [if_neg hr, if_neg hr]
      obtain ⟨y, rfl⟩ : ∃ y : Nat, x = y := ⟨x.toNat, by omega⟩
      have hy : y < n := by omega
      rw [Int.toNat_natCast, h y hy]
      by_cases hc : p.contains (y : Int) = true
      · rw [if_pos hc, if_pos hc]; exact shw_stay _ _ _ _ (by decide)
      · rw [if_neg hc, if_neg hc]
        refine shw_tw n xs _ _ (by rw [List.length_set, hl]) (fun u hu => ?_)
        by_cases e : u = y
        · subst e
          rw [List.getD_eq_getElem?_getD, List.getElem?_set_self (by omega)]
          simp
        · rw [List.getD_eq_getElem?_getD, List.getElem?_set_ne (fun e' => e e'.symm), ← List.getD_eq_getElem?_getD, h u hu]
          rw [Bool.eq_iff_iff]
          simp
          intro h2; omega
theorem shE_vals (n z : Int) (p : List Int) (x : Int) (h : z = 0 ∨ z = 2 ∨ z = 6) : shE n z p x = 0 ∨ shE n z p x = 2 ∨ shE n z p x = 6 := by
  unfold shE
  split
  · split
    · exact .inr (.inl rfl)
    · split
      · exact .inr (.inr rfl)
      · exact .inl rfl
  · exact h
/-- the list that the numbers make -/
def small20 (l : List Int) : List Int := l.map fun x => x.tmod 20 - 1
theorem ones_iff : ∀ n, n < 65 → 0 < n → ((2 ^ tzN n = n) ↔ onesN n = 1) := by decide +kernel
theorem pile_shw {xs : List Int} (h : xs.length ≤ 16) : pileE xs = if onesN xs.length = 1 then shw xs.length 0 [] xs else 5 := by
  unfold pileE
  rw [if_neg (by omega)]
  by_cases ho : onesN xs.length = 1
  · rw [if_pos ho, if_pos ho]
    exact (shw_tw xs.length xs [] _ List.length_replicate (fun y hy => by rw [List.getD_eq_getElem?_getD, List.getElem?_replicate]; split <;> rfl)).symm
  · rw [if_neg ho, if_neg ho]
end Go.Proofs.Quire
