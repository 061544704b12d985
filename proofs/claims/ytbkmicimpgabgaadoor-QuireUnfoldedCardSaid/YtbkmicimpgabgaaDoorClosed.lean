/-
  The strip behind at most six folds, outright.
-/
import Derived.Test.YtbkmicimpgabgaaDoorCloA
import Derived.Test.YtbkmicimpgabgaaDoorCloB
import Derived.Test.YtbkmicimpgabgaaDoorCloC
import Derived.Test.YtbkmicimpgabgaaDoorCloD
set_option linter.unusedSimpArgs false
set_option linter.unusedVariables false
namespace Go.Proofs.Quire
theorem clo6 (a0 a1 a2 a3 a4 a5 : Bool) : closedB [a0, a1, a2, a3, a4, a5] = true := by
  cases a0 <;> cases a1 <;> cases a2 <;> cases a3 <;> cases a4 <;> cases a5
  exact clo_uuuuuu
  exact clo_uuuuuo
  exact clo_uuuuou
  exact clo_uuuuoo
  exact clo_uuuouu
  exact clo_uuuouo
  exact clo_uuuoou
  exact clo_uuuooo
  exact clo_uuouuu
  exact clo_uuouuo
  exact clo_uuouou
  exact clo_uuouoo
  exact clo_uuoouu
  exact clo_uuoouo
  exact clo_uuooou
  exact clo_uuoooo
  exact clo_uouuuu
  exact clo_uouuuo
  exact clo_uouuou
  exact clo_uouuoo
  exact clo_uououu
  exact clo_uououo
  exact clo_uouoou
  exact clo_uouooo
  exact clo_uoouuu
  exact clo_uoouuo
  exact clo_uoouou
  exact clo_uoouoo
  exact clo_uooouu
  exact clo_uooouo
  exact clo_uoooou
  exact clo_uooooo
  exact clo_ouuuuu
  exact clo_ouuuuo
  exact clo_ouuuou
  exact clo_ouuuoo
  exact clo_ouuouu
  exact clo_ouuouo
  exact clo_ouuoou
  exact clo_ouuooo
  exact clo_ououuu
  exact clo_ououuo
  exact clo_ououou
  exact clo_ououoo
  exact clo_ouoouu
  exact clo_ouoouo
  exact clo_ouooou
  exact clo_ouoooo
  exact clo_oouuuu
  exact clo_oouuuo
  exact clo_oouuou
  exact clo_oouuoo
  exact clo_oououu
  exact clo_oououo
  exact clo_oouoou
  exact clo_oouooo
  exact clo_ooouuu
  exact clo_ooouuo
  exact clo_ooouou
  exact clo_ooouoo
  exact clo_oooouu
  exact clo_oooouo
  exact clo_ooooou
  exact clo_oooooo
theorem closed_all : ∀ f : List Bool, f.length ≤ 6 → closedB f = true
  | [], _ => clo0
  | [a], _ => clo1 a
  | [a, b], _ => clo2 a b
  | [a, b, c], _ => clo3 a b c
  | [a, b, c, d], _ => clo4 a b c d
  | [a, b, c, d, e], _ => clo5 a b c d e
  | [a, b, c, d, e, g], _ => clo6 a b c d e g
  | _ :: _ :: _ :: _ :: _ :: _ :: _ :: _, h => absurd h (by simp)
theorem closed (f : List Bool) (h : f.length ≤ 6) : (stripL f).cols = [pileC f] ∧ (stripL f).trn = trnC f ∧ (stripL f).cre = creC f := by
  have := closed_all f h
  unfold closedB at this
  simp only [Bool.and_eq_true, beq_iff_eq] at this
  exact this
/-- all lists of so many folds -/
def allF : Nat → List (List Bool)
  | 0 => [[]]
  | k + 1 => (allF k).map (false :: ·) ++ (allF k).map (true :: ·)
theorem mem_allF : ∀ f : List Bool, f ∈ allF f.length
  | [] => by simp [allF]
  | o :: f => by
    have := mem_allF f
    cases o <;> simp [allF, this]
theorem all_of {P : List Bool → Bool} {k : Nat} (h : (allF k).all P = true) (f : List Bool) (hf : f.length = k) : P f = true := List.all_eq_true.1 h f (hf ▸ mem_allF f)
end Go.Proofs.Quire
