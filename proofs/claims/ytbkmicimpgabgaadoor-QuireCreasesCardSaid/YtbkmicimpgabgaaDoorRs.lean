/-
  The reference's strip as a plain function: has, creases, turns, columns; outright for at most five folds.
-/
import Derived.Test.YtbkmicimpgabgaaDoorClo0
set_option linter.unusedSimpArgs false
set_option linter.unusedVariables false
namespace Go.Proofs.Quire
def hasB (n : Nat) : List Nat → Bool
  | [] => false
  | x :: l => if x = n then true else hasB n l
/-- whether the middle parts squares i and i + 1 -/
def condR (cols : List (List Nat)) (half i : Nat) : Bool :=
  (hasB i (cols.getD (half - 1) []) && hasB (i + 1) (cols.getD half [])) || (hasB (i + 1) (cols.getD (half - 1) []) && hasB i (cols.getD half []))
def creR (cols : List (List Nat)) (half : Nat) (t : List Nat) (o : Bool) : Nat → Nat → List Nat → List Nat
  | 0, _, c => c
  | m + 1, i, c => creR cols half t o m (i + 1) (if condR cols half i then c.set i (if o = decide (t.getD i 0 % 2 = 0) then 118 else 104) else c)
def inc1 : List Nat → List Nat → List Nat
  | [], t => t
  | x :: c, t => inc1 c (t.set x (t.getD x 0 + 1))
def incS : List (List Nat) → List Nat → List Nat
  | [], t => t
  | c :: cs, t => incS cs (inc1 c t)
def colR (o : Bool) (cols : List (List Nat)) : Nat → Nat → List (List Nat) → List (List Nat)
  | 0, _, acc => acc
  | m + 1, i, acc => colR o cols m (i + 1) (acc ++ [joinC o (cols.getD i []) (cols.getD (cols.length - 1 - i) []).reverse])
/-- columns, turns and creases -/
structure Rs where
  cols : List (List Nat)
  trn : List Nat
  cre : List Nat
def ref1 (o : Bool) (s : Rs) : Rs :=
  { cols := colR o s.cols (s.cols.length / 2) 0 []
    trn := incS (s.cols.drop (s.cols.length / 2)) s.trn
    cre := creR s.cols (s.cols.length / 2) s.trn o s.cre.length 0 s.cre }
def newR (k : Nat) : Rs := { cols := (List.range (2 ^ k)).map fun i => [i], trn := List.replicate (2 ^ k) 0, cre := List.replicate (2 ^ k - 1) 0 }
def refS : List Bool → Rs → Rs
  | [], s => s
  | o :: os, s => refS os (ref1 o s)
def refL (f : List Bool) : Rs := refS f (newR f.length)
def refB (f : List Bool) : Bool := (refL f).cols == [pileC f] && ((refL f).trn.map (fun n => n % 2 == 1) == trnC f && (refL f).cre == creC f)
theorem rs_u : refB [false] = true := by kernel_rfl
theorem rs_o : refB [true] = true := by kernel_rfl
theorem rs_uu : refB [false, false] = true := by kernel_rfl
theorem rs_uo : refB [false, true] = true := by kernel_rfl
theorem rs_ou : refB [true, false] = true := by kernel_rfl
theorem rs_oo : refB [true, true] = true := by kernel_rfl
theorem rs_uuu : refB [false, false, false] = true := by kernel_rfl
theorem rs_uuo : refB [false, false, true] = true := by kernel_rfl
theorem rs_uou : refB [false, true, false] = true := by kernel_rfl
theorem rs_uoo : refB [false, true, true] = true := by kernel_rfl
theorem rs_ouu : refB [true, false, false] = true := by kernel_rfl
theorem rs_ouo : refB [true, false, true] = true := by kernel_rfl
theorem rs_oou : refB [true, true, false] = true := by kernel_rfl
theorem rs_ooo : refB [true, true, true] = true := by kernel_rfl
theorem rs_uuuu : refB [false, false, false, false] = true := by kernel_rfl
theorem rs_uuuo : refB [false, false, false, true] = true := by kernel_rfl
theorem rs_uuou : refB [false, false, true, false] = true := by kernel_rfl
theorem rs_uuoo : refB [false, false, true, true] = true := by kernel_rfl
theorem rs_uouu : refB [false, true, false, false] = true := by kernel_rfl
theorem rs_uouo : refB [false, true, false, true] = true := by kernel_rfl
theorem rs_uoou : refB [false, true, true, false] = true := by kernel_rfl
theorem rs_uooo : refB [false, true, true, true] = true := by kernel_rfl
theorem rs_ouuu : refB [true, false, false, false] = true := by kernel_rfl
theorem rs_ouuo : refB [true, false, false, true] = true := by kernel_rfl
theorem rs_ouou : refB [true, false, true, false] = true := by kernel_rfl
theorem rs_ouoo : refB [true, false, true, true] = true := by kernel_rfl
theorem rs_oouu : refB [true, true, false, false] = true := by kernel_rfl
theorem rs_oouo : refB [true, true, false, true] = true := by kernel_rfl
theorem rs_ooou : refB [true, true, true, false] = true := by kernel_rfl
theorem rs_oooo : refB [true, true, true, true] = true := by kernel_rfl
theorem rs_uuuuu : refB [false, false, false, false, false] = true := by kernel_rfl
theorem rs_uuuuo : refB [false, false, false, false, true] = true := by kernel_rfl
theorem rs_uuuou : refB [false, false, false, true, false] = true := by kernel_rfl
theorem rs_uuuoo : refB [false, false, false, true, true] = true := by kernel_rfl
theorem rs_uuouu : refB [false, false, true, false, false] = true := by kernel_rfl
theorem rs_uuouo : refB [false, false, true, false, true] = true := by kernel_rfl
theorem rs_uuoou : refB [false, false, true, true, false] = true := by kernel_rfl
theorem rs_uuooo : refB [false, false, true, true, true] = true := by kernel_rfl
theorem rs_uouuu : refB [false, true, false, false, false] = true := by kernel_rfl
theorem rs_uouuo : refB [false, true, false, false, true] = true := by kernel_rfl
theorem rs_uouou : refB [false, true, false, true, false] = true := by kernel_rfl
theorem rs_uouoo : refB [false, true, false, true, true] = true := by kernel_rfl
theorem rs_uoouu : refB [false, true, true, false, false] = true := by kernel_rfl
theorem rs_uoouo : refB [false, true, true, false, true] = true := by kernel_rfl
theorem rs_uooou : refB [false, true, true, true, false] = true := by kernel_rfl
theorem rs_uoooo : refB [false, true, true, true, true] = true := by kernel_rfl
theorem rs_ouuuu : refB [true, false, false, false, false] = true := by kernel_rfl
theorem rs_ouuuo : refB [true, false, false, false, true] = true := by kernel_rfl
theorem rs_ouuou : refB [true, false, false, true, false] = true := by kernel_rfl
theorem rs_ouuoo : refB [true, false, false, true, true] = true := by kernel_rfl
theorem rs_ououu : refB [true, false, true, false, false] = true := by kernel_rfl
theorem rs_ououo : refB [true, false, true, false, true] = true := by kernel_rfl
theorem rs_ouoou : refB [true, false, true, true, false] = true := by kernel_rfl
theorem rs_ouooo : refB [true, false, true, true, true] = true := by kernel_rfl
theorem rs_oouuu : refB [true, true, false, false, false] = true := by kernel_rfl
theorem rs_oouuo : refB [true, true, false, false, true] = true := by kernel_rfl
theorem rs_oouou : refB [true, true, false, true, false] = true := by kernel_rfl
theorem rs_oouoo : refB [true, true, false, true, true] = true := by kernel_rfl
theorem rs_ooouu : refB [true, true, true, false, false] = true := by kernel_rfl
theorem rs_ooouo : refB [true, true, true, false, true] = true := by kernel_rfl
theorem rs_oooou : refB [true, true, true, true, false] = true := by kernel_rfl
theorem rs_ooooo : refB [true, true, true, true, true] = true := by kernel_rfl
theorem rs0 : refB [] = true := by kernel_rfl
theorem rs1 (a0 : Bool) : refB [a0] = true := by
  cases a0
  exact rs_u
  exact rs_o
theorem rs2 (a0 a1 : Bool) : refB [a0, a1] = true := by
  cases a0 <;> cases a1
  exact rs_uu
  exact rs_uo
  exact rs_ou
  exact rs_oo
theorem rs3 (a0 a1 a2 : Bool) : refB [a0, a1, a2] = true := by
  cases a0 <;> cases a1 <;> cases a2
  exact rs_uuu
  exact rs_uuo
  exact rs_uou
  exact rs_uoo
  exact rs_ouu
  exact rs_ouo
  exact rs_oou
  exact rs_ooo
theorem rs4 (a0 a1 a2 a3 : Bool) : refB [a0, a1, a2, a3] = true := by
  cases a0 <;> cases a1 <;> cases a2 <;> cases a3
  exact rs_uuuu
  exact rs_uuuo
  exact rs_uuou
  exact rs_uuoo
  exact rs_uouu
  exact rs_uouo
  exact rs_uoou
  exact rs_uooo
  exact rs_ouuu
  exact rs_ouuo
  exact rs_ouou
  exact rs_ouoo
  exact rs_oouu
  exact rs_oouo
  exact rs_ooou
  exact rs_oooo
theorem rs5 (a0 a1 a2 a3 a4 : Bool) : refB [a0, a1, a2, a3, a4] = true := by
  cases a0 <;> cases a1 <;> cases a2 <;> cases a3 <;> cases a4
  exact rs_uuuuu
  exact rs_uuuuo
  exact rs_uuuou
  exact rs_uuuoo
  exact rs_uuouu
  exact rs_uuouo
  exact rs_uuoou
  exact rs_uuooo
  exact rs_uouuu
  exact rs_uouuo
  exact rs_uouou
  exact rs_uouoo
  exact rs_uoouu
  exact rs_uoouo
  exact rs_uooou
  exact rs_uoooo
  exact rs_ouuuu
  exact rs_ouuuo
  exact rs_ouuou
  exact rs_ouuoo
  exact rs_ououu
  exact rs_ououo
  exact rs_ouoou
  exact rs_ouooo
  exact rs_oouuu
  exact rs_oouuo
  exact rs_oouou
  exact rs_oouoo
  exact rs_ooouu
  exact rs_ooouo
  exact rs_oooou
  exact rs_ooooo
end Go.Proofs.Quire
