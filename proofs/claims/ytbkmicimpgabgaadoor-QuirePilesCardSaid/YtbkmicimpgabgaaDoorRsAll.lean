/-
  The reference behind at most six folds, outright.
-/
import Derived.Test.YtbkmicimpgabgaaDoorRsA
import Derived.Test.YtbkmicimpgabgaaDoorRsC
set_option linter.unusedSimpArgs false
set_option linter.unusedVariables false
namespace Go.Proofs.Quire
theorem rs6 (a0 a1 a2 a3 a4 a5 : Bool) : refB [a0, a1, a2, a3, a4, a5] = true := by
  cases a0 <;> cases a1 <;> cases a2 <;> cases a3 <;> cases a4 <;> cases a5
  exact rs_uuuuuu
  exact rs_uuuuuo
  exact rs_uuuuou
  exact rs_uuuuoo
  exact rs_uuuouu
  exact rs_uuuouo
  exact rs_uuuoou
  exact rs_uuuooo
  exact rs_uuouuu
  exact rs_uuouuo
  exact rs_uuouou
  exact rs_uuouoo
  exact rs_uuoouu
  exact rs_uuoouo
  exact rs_uuooou
  exact rs_uuoooo
  exact rs_uouuuu
  exact rs_uouuuo
  exact rs_uouuou
  exact rs_uouuoo
  exact rs_uououu
  exact rs_uououo
  exact rs_uouoou
  exact rs_uouooo
  exact rs_uoouuu
  exact rs_uoouuo
  exact rs_uoouou
  exact rs_uoouoo
  exact rs_uooouu
  exact rs_uooouo
  exact rs_uoooou
  exact rs_uooooo
  exact rs_ouuuuu
  exact rs_ouuuuo
  exact rs_ouuuou
  exact rs_ouuuoo
  exact rs_ouuouu
  exact rs_ouuouo
  exact rs_ouuoou
  exact rs_ouuooo
  exact rs_ououuu
  exact rs_ououuo
  exact rs_ououou
  exact rs_ououoo
  exact rs_ouoouu
  exact rs_ouoouo
  exact rs_ouooou
  exact rs_ouoooo
  exact rs_oouuuu
  exact rs_oouuuo
  exact rs_oouuou
  exact rs_oouuoo
  exact rs_oououu
  exact rs_oououo
  exact rs_oouoou
  exact rs_oouooo
  exact rs_ooouuu
  exact rs_ooouuo
  exact rs_ooouou
  exact rs_ooouoo
  exact rs_oooouu
  exact rs_oooouo
  exact rs_ooooou
  exact rs_oooooo
theorem refs_all : ∀ f : List Bool, f.length ≤ 6 → refB f = true
  | [], _ => rs0
  | [a], _ => rs1 a
  | [a, b], _ => rs2 a b
  | [a, b, c], _ => rs3 a b c
  | [a, b, c, d], _ => rs4 a b c d
  | [a, b, c, d, e], _ => rs5 a b c d e
  | [a, b, c, d, e, g], _ => rs6 a b c d e g
  | _ :: _ :: _ :: _ :: _ :: _ :: _ :: _, h => absurd h (by simp)
theorem refs (f : List Bool) (h : f.length ≤ 6) : (refL f).cols = [pileC f] ∧ (refL f).trn.map (fun n => n % 2 == 1) = trnC f ∧ (refL f).cre = creC f := by
  have := refs_all f h
  unfold refB at this
  simp only [Bool.and_eq_true, beq_iff_eq] at this
  exact this
end Go.Proofs.Quire
