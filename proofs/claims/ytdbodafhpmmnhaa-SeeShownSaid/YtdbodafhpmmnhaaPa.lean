/-
  Pairs of numbers as plain data; two of them are equal where both numbers are.
-/
import Derived.Test.YtdbodafhpmmnhaaXW
import Derived.Test.YtdbodafhpmmnhaaEngT
import Derived.WalkKit
set_option linter.unusedSimpArgs false
set_option linter.unusedVariables false
namespace Go.Proofs.Ytdbodafhpmmnhaa
open Go Go.Proofs.Eng
set_option maxRecDepth 100000
/-- pairs of numbers, and a book, as plain data -/
def a2 (p : Int × Int) : AV := .ag [ai p.1, ai p.2]
def ap (full : Bool) (l : List (Int × Int)) : AV := .sl 2 full (l.map a2)
def bkA (m : Int) (ps : AV) : AV := .ag [ai m, ps]
def inB (m n : Int) : Bool := decide (0 ≤ n) && decide (n < m)
def nilA : AV := .v (.slice none 0 0)
theorem d00 : decide ((0 : Int) < 0) = false := rfl
theorem tmod_b {a n : Int} (h : 0 ≤ a) (hn : 0 < n) : 0 ≤ a.tmod n ∧ a.tmod n < n := by
  rw [Int.tmod_eq_emod_of_nonneg h]
  exact ⟨Int.emod_nonneg _ (by omega), Int.emod_lt_of_pos _ hn⟩
theorem pureRun_bind (P : Program) {α β : Type} (s : Sem α) (f : α → Sem β) : pureRun P (s >>= f) = (pureRun P s).bind fun a => pureRun P (f a) := by
  show pureRun P (Sem.bind s f) = _
  induction s with
  | pure a => rfl
  | program k ih => exact ih P
  | _ => rfl
theorem pureRun_pure (P : Program) {α : Type} (a : α) : pureRun P (pure a : Sem α) = some a := rfl
theorem und2 : pureRun Try.prog (underlying 41) = some (.array 2 3) := by kernel_rfl
theorem und1 : pureRun Try.prog (underlying 3) = some (.int .i64) := by kernel_rfl
theorem siz1 : pureRun Try.prog (sizeOf 3) = some 1 := by kernel_rfl
theorem agg1 : pureRun Try.prog (isAgg 3) = some false := by kernel_rfl
theorem eq1 (n : Nat) (a b : Int) : pureRun Try.prog (Op.equalIn (n + 1) 3 (.int .i64 a) (.int .i64 b)) = some (a == b) := by
  rw [Op.equalIn]
  simp only [pureRun_bind, und1, Option.bind_some, if_true, pureRun_pure]
theorem part0 (x y : Value) : pureRun Try.prog (part 3 #[x, y] 0) = some x := by
  simp only [part, pureRun_bind, agg1, Option.bind_some]; rfl
theorem part1 (x y : Value) : pureRun Try.prog (part 3 #[x, y] 1) = some y := by
  simp only [part, pureRun_bind, agg1, Option.bind_some]; rfl
theorem eq2 (a b c d : Int) : pureRun Try.prog (Op.equalIn 10000 41 (.agg #[.int .i64 a, .int .i64 b]) (.agg #[.int .i64 c, .int .i64 d])) = some (a == c && b == d) := by
  rw [show (10000 : Nat) = 9998 + 1 + 1 from rfl, Op.equalIn]
  simp only [pureRun_bind, und2, siz1, Option.bind_some, Std.Legacy.Range.forIn_eq_forIn_range', Std.Legacy.Range.size, Nat.sub_zero, Nat.add_sub_cancel, Nat.div_one, List.range'_succ, List.range'_zero, List.forIn_cons, List.forIn_nil]
  simp only [Nat.zero_mul, Nat.mul_one, Nat.zero_add, part0, part1, Option.bind_some, eq1]
  by_cases h1 : a = c
  · by_cases h2 : b = d <;> simp [h1, h2, pureRun_bind, part1, eq1, pureRun_pure]
  · simp [h1, pureRun_pure]
theorem grdT : Try.prog.eqGuardType Try.prog.depth 41 = false := by kernel_rfl
theorem pureRun_program (P : Program) : pureRun P program = some P := rfl
theorem grd2 (x y : Operand) (u v : Array Value) : pureRun Try.prog (eqGuard .eql 41 x y (.agg u) (.agg v)) = some () := by
  simp only [eqGuard, pureRun_bind, pureRun_program, Option.bind_some, grdT, Bool.not_false, if_true, pureRun_pure]
  rfl
theorem raw_eq2 (a b c d : Int) (σ : List AV) (η : List (Nat × (Nat × Option Ob))) (i j ty dst : Nat) (hi : σ.getD i .any = a2 (a, b)) (hj : σ.getD j .any = a2 (c, d)) :
    stF_raw Try.prog dst ⟨σ, η⟩ (.binOp .eql 41 (.tmp i) (.tmp j) 41) ty = some (.val (ab (a == c && b == d))) := by
  have e1 : toVal (evalF σ (.t i)) = some (.agg #[.int .i64 a, .int .i64 b]) := by
    show toVal (getF σ i) = _
    rw [getF_eq, hi]; rfl
  have e2 : toVal (evalF σ (.t j)) = some (.agg #[.int .i64 c, .int .i64 d]) := by
    show toVal (getF σ j) = _
    rw [getF_eq, hj]; rfl
  unfold stF_raw
  rw [if_pos ⟨rfl, by simp [Op.operands, argT, e1, e2]⟩]
  have h3 : pureRun Try.prog (execOp (fun x => ((argT x).bind fun xa => toVal (evalF σ xa)).getD (.bool false)) { dst := none, op := .binOp .eql 41 (.tmp i) (.tmp j) 41, type := ty, pos := "", after := #[], guard := none }) = some (.value (.bool (a == c && b == d))) := by
    simp only [execOp, argT, Option.bind_some, e1, e2, Option.getD_some, pureRun_bind, grd2]
    have h4 : pureRun Try.prog (binOp .eql 41 (.agg #[.int .i64 a, .int .i64 b]) (.agg #[.int .i64 c, .int .i64 d])) = some (.bool (a == c && b == d)) := by
      simp only [binOp, pureRun_bind, Op.equal]
      have := eq2 a b c d
      unfold Op.maxDepth
      rw [this]; rfl
    rw [h4]; rfl
  rw [h3]; rfl
end Go.Proofs.Ytdbodafhpmmnhaa

