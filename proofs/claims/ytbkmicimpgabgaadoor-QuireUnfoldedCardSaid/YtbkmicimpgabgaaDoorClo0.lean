/-
  The strip behind all its folds, outright: its pile, which squares are turned, and its creases; at most five folds.
-/
import Derived.Test.YtbkmicimpgabgaaDoorMath
import Derived.KernelRfl
set_option linter.unusedSimpArgs false
set_option linter.unusedVariables false
namespace Go.Proofs.Quire
/-- the pile by the first fold: each square of half the strip becomes two -/
def pileC : List Bool → List Nat
  | [] => [0]
  | o :: r => (pileC r).flatMap fun x => if o == (x % 2 == 1) then [x, 2 ^ (r.length + 1) - 1 - x] else [2 ^ (r.length + 1) - 1 - x, x]
def creC (f : List Bool) : List Nat := (List.range (2 ^ f.length - 1)).map fun i => if (f.getD (f.length - 1 - tzN (i + 1)) false) == (oddN (i + 1) % 4 == 1) then 118 else 104
def trnC (f : List Bool) : List Bool := (List.range (2 ^ f.length)).map fun i => i % 2 == 1
def closedB (f : List Bool) : Bool := (stripL f).cols == [pileC f] && ((stripL f).trn == trnC f && (stripL f).cre == creC f)
theorem clo_u : closedB [false] = true := by kernel_rfl
theorem clo_o : closedB [true] = true := by kernel_rfl
theorem clo_uu : closedB [false, false] = true := by kernel_rfl
theorem clo_uo : closedB [false, true] = true := by kernel_rfl
theorem clo_ou : closedB [true, false] = true := by kernel_rfl
theorem clo_oo : closedB [true, true] = true := by kernel_rfl
theorem clo_uuu : closedB [false, false, false] = true := by kernel_rfl
theorem clo_uuo : closedB [false, false, true] = true := by kernel_rfl
theorem clo_uou : closedB [false, true, false] = true := by kernel_rfl
theorem clo_uoo : closedB [false, true, true] = true := by kernel_rfl
theorem clo_ouu : closedB [true, false, false] = true := by kernel_rfl
theorem clo_ouo : closedB [true, false, true] = true := by kernel_rfl
theorem clo_oou : closedB [true, true, false] = true := by kernel_rfl
theorem clo_ooo : closedB [true, true, true] = true := by kernel_rfl
theorem clo_uuuu : closedB [false, false, false, false] = true := by kernel_rfl
theorem clo_uuuo : closedB [false, false, false, true] = true := by kernel_rfl
theorem clo_uuou : closedB [false, false, true, false] = true := by kernel_rfl
theorem clo_uuoo : closedB [false, false, true, true] = true := by kernel_rfl
theorem clo_uouu : closedB [false, true, false, false] = true := by kernel_rfl
theorem clo_uouo : closedB [false, true, false, true] = true := by kernel_rfl
theorem clo_uoou : closedB [false, true, true, false] = true := by kernel_rfl
theorem clo_uooo : closedB [false, true, true, true] = true := by kernel_rfl
theorem clo_ouuu : closedB [true, false, false, false] = true := by kernel_rfl
theorem clo_ouuo : closedB [true, false, false, true] = true := by kernel_rfl
theorem clo_ouou : closedB [true, false, true, false] = true := by kernel_rfl
theorem clo_ouoo : closedB [true, false, true, true] = true := by kernel_rfl
theorem clo_oouu : closedB [true, true, false, false] = true := by kernel_rfl
theorem clo_oouo : closedB [true, true, false, true] = true := by kernel_rfl
theorem clo_ooou : closedB [true, true, true, false] = true := by kernel_rfl
theorem clo_oooo : closedB [true, true, true, true] = true := by kernel_rfl
theorem clo_uuuuu : closedB [false, false, false, false, false] = true := by kernel_rfl
theorem clo_uuuuo : closedB [false, false, false, false, true] = true := by kernel_rfl
theorem clo_uuuou : closedB [false, false, false, true, false] = true := by kernel_rfl
theorem clo_uuuoo : closedB [false, false, false, true, true] = true := by kernel_rfl
theorem clo_uuouu : closedB [false, false, true, false, false] = true := by kernel_rfl
theorem clo_uuouo : closedB [false, false, true, false, true] = true := by kernel_rfl
theorem clo_uuoou : closedB [false, false, true, true, false] = true := by kernel_rfl
theorem clo_uuooo : closedB [false, false, true, true, true] = true := by kernel_rfl
theorem clo_uouuu : closedB [false, true, false, false, false] = true := by kernel_rfl
theorem clo_uouuo : closedB [false, true, false, false, true] = true := by kernel_rfl
theorem clo_uouou : closedB [false, true, false, true, false] = true := by kernel_rfl
theorem clo_uouoo : closedB [false, true, false, true, true] = true := by kernel_rfl
theorem clo_uoouu : closedB [false, true, true, false, false] = true := by kernel_rfl
theorem clo_uoouo : closedB [false, true, true, false, true] = true := by kernel_rfl
theorem clo_uooou : closedB [false, true, true, true, false] = true := by kernel_rfl
theorem clo_uoooo : closedB [false, true, true, true, true] = true := by kernel_rfl
theorem clo_ouuuu : closedB [true, false, false, false, false] = true := by kernel_rfl
theorem clo_ouuuo : closedB [true, false, false, false, true] = true := by kernel_rfl
theorem clo_ouuou : closedB [true, false, false, true, false] = true := by kernel_rfl
theorem clo_ouuoo : closedB [true, false, false, true, true] = true := by kernel_rfl
theorem clo_ououu : closedB [true, false, true, false, false] = true := by kernel_rfl
theorem clo_ououo : closedB [true, false, true, false, true] = true := by kernel_rfl
theorem clo_ouoou : closedB [true, false, true, true, false] = true := by kernel_rfl
theorem clo_ouooo : closedB [true, false, true, true, true] = true := by kernel_rfl
theorem clo_oouuu : closedB [true, true, false, false, false] = true := by kernel_rfl
theorem clo_oouuo : closedB [true, true, false, false, true] = true := by kernel_rfl
theorem clo_oouou : closedB [true, true, false, true, false] = true := by kernel_rfl
theorem clo_oouoo : closedB [true, true, false, true, true] = true := by kernel_rfl
theorem clo_ooouu : closedB [true, true, true, false, false] = true := by kernel_rfl
theorem clo_ooouo : closedB [true, true, true, false, true] = true := by kernel_rfl
theorem clo_oooou : closedB [true, true, true, true, false] = true := by kernel_rfl
theorem clo_ooooo : closedB [true, true, true, true, true] = true := by kernel_rfl
theorem clo0 : closedB [] = true := by kernel_rfl
theorem clo1 (a0 : Bool) : closedB [a0] = true := by
  cases a0
  exact clo_u
  exact clo_o
theorem clo2 (a0 a1 : Bool) : closedB [a0, a1] = true := by
  cases a0 <;> cases a1
  exact clo_uu
  exact clo_uo
  exact clo_ou
  exact clo_oo
theorem clo3 (a0 a1 a2 : Bool) : closedB [a0, a1, a2] = true := by
  cases a0 <;> cases a1 <;> cases a2
  exact clo_uuu
  exact clo_uuo
  exact clo_uou
  exact clo_uoo
  exact clo_ouu
  exact clo_ouo
  exact clo_oou
  exact clo_ooo
theorem clo4 (a0 a1 a2 a3 : Bool) : closedB [a0, a1, a2, a3] = true := by
  cases a0 <;> cases a1 <;> cases a2 <;> cases a3
  exact clo_uuuu
  exact clo_uuuo
  exact clo_uuou
  exact clo_uuoo
  exact clo_uouu
  exact clo_uouo
  exact clo_uoou
  exact clo_uooo
  exact clo_ouuu
  exact clo_ouuo
  exact clo_ouou
  exact clo_ouoo
  exact clo_oouu
  exact clo_oouo
  exact clo_ooou
  exact clo_oooo
theorem clo5 (a0 a1 a2 a3 a4 : Bool) : closedB [a0, a1, a2, a3, a4] = true := by
  cases a0 <;> cases a1 <;> cases a2 <;> cases a3 <;> cases a4
  exact clo_uuuuu
  exact clo_uuuuo
  exact clo_uuuou
  exact clo_uuuoo
  exact clo_uuouu
  exact clo_uuouo
  exact clo_uuoou
  exact clo_uuooo
  exact clo_uouuu
  exact clo_uouuo
  exact clo_uouou
  exact clo_uouoo
  exact clo_uoouu
  exact clo_uoouo
  exact clo_uooou
  exact clo_uoooo
  exact clo_ouuuu
  exact clo_ouuuo
  exact clo_ouuou
  exact clo_ouuoo
  exact clo_ououu
  exact clo_ououo
  exact clo_ouoou
  exact clo_ouooo
  exact clo_oouuu
  exact clo_oouuo
  exact clo_oouou
  exact clo_oouoo
  exact clo_ooouu
  exact clo_ooouo
  exact clo_oooou
  exact clo_ooooo
end Go.Proofs.Quire
