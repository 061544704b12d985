/-
  headwordtop's folds by numbers, of at most two folds.
-/
import Derived.Test.YthhhibpnhokjfabXL
import Derived.Test.YthhhibpnhokjfabEngU
import Derived.KernelRfl
set_option linter.unusedSimpArgs false
set_option linter.unusedVariables false
namespace Go.Proofs.Ythhhibpnhokjfab
open Go Go.Proofs.Eng
set_option maxRecDepth 100000
def opA (σ : List AV) (x : Operand) : AV := (argT x).elim .any (evalA σ)
theorem toVal_op {σ : List AV} {x : Operand} {k : IntKind} {a : Int} (hi : opA σ x = .v (.int k a)) : ((argT x).bind fun xa => toVal (evalF σ xa)) = some (.int k a) := by
  unfold opA at hi
  cases hx : argT x with
  | none => rw [hx] at hi; cases hi
  | some xa =>
    rw [hx] at hi
    simp only [Option.elim] at hi
    simp only [Option.bind_some, evalF_eq, hi, toVal]
def rawX (P : Program) (dst : Nat) (c : Cfg) (o : Op) (ty : Nat) : Option Res := stF_raw P dst c o ty
theorem und1 : pureRun Try.prog (underlying 3) = some (.int .i64) := by kernel_rfl
theorem undT : pureRun Try.prog (underlying 5) = some (.int .u8) := by kernel_rfl
theorem pure_bind (P : Program) {α β : Type} (s : Sem α) (f : α → Sem β) : pureRun P (s >>= f) = (pureRun P s).bind fun a => pureRun P (f a) := pureRun_bind s f
theorem pure_pure (P : Program) {α : Type} (a : α) : pureRun P (pure a : Sem α) = some a := rfl
/-- a byte as a number -/
def rawC (x : AV) (fb : Option Res) : Option Res :=
  match x with
  | .v (.int .u8 z) => some (.val (.v (.int .i64 (IntKind.i64.wrap z))))
  | _ => fb
theorem raw_conv (dst : Nat) (c : Cfg) (x : Operand) (ty : TypeId) : stF_raw Try.prog dst c (.convert 5 3 x) ty = rawC (opA c.σ x) (rawX Try.prog dst c (.convert 5 3 x) ty) := by
  unfold rawC
  split
  · rename_i z hi
    have e1 := toVal_op hi
    unfold stF_raw
    rw [if_pos ⟨rfl, by simp [Op.operands, e1]⟩]
    have h3 : pureRun Try.prog (execOp (fun x => ((argT x).bind fun xa => toVal (evalF c.σ xa)).getD (.bool false)) { dst := none, op := .convert 5 3 x, type := ty, pos := "", after := #[], guard := none }) = some (.value (.int .i64 (IntKind.i64.wrap z))) := by
      simp only [execOp, e1, Option.getD_some, pure_bind, convert, undT, und1, Option.bind_some, Conv.intToInt, pure_pure]
    rw [h3]; rfl
  · rfl
def strA (l : List UInt8) : AV := .v (.string (ByteArray.mk l.toArray))
/-- a letter of "ou" -/
def rawS (x y : AV) (fb : Option Res) : Option Res :=
  match x, y with
  | .v (.int .u8 0), .v (.int .u8 1) => some (.val (.v (.string (ByteArray.mk (List.toArray [111])))))
  | .v (.int .u8 1), .v (.int .u8 2) => some (.val (.v (.string (ByteArray.mk (List.toArray [117])))))
  | _, _ => fb
theorem raw_cut (dst : Nat) (c : Cfg) (x y : Operand) (ty : TypeId) : stF_raw Try.prog dst c (.slice 9 (.const (.string (ByteArray.mk (List.toArray [111, 117])))) (some x) (some y) none) ty = rawS (opA c.σ x) (opA c.σ y) (rawX Try.prog dst c (.slice 9 (.const (.string (ByteArray.mk (List.toArray [111, 117])))) (some x) (some y) none) ty) := by
  unfold rawS
  split
  · rename_i hi hj
    have e1 := toVal_op hi
    have e2 := toVal_op hj
    unfold stF_raw
    rw [if_pos ⟨rfl, by simp [Op.operands, e1, e2]; rfl⟩]
    have h3 : pureRun Try.prog (execOp (fun x => ((argT x).bind fun xa => toVal (evalF c.σ xa)).getD (.bool false)) { dst := none, op := .slice 9 (.const (.string (ByteArray.mk (List.toArray [111, 117])))) (some x) (some y) none, type := ty, pos := "", after := #[], guard := none }) = some (.value (.string (ByteArray.mk (List.toArray [111])))) := by
      simp only [execOp, e1, e2, Option.getD_some, Option.map_some, Option.map_none]
      kernel_rfl
    rw [h3]; rfl
  · rename_i hi hj
    have e1 := toVal_op hi
    have e2 := toVal_op hj
    unfold stF_raw
    rw [if_pos ⟨rfl, by simp [Op.operands, e1, e2]; rfl⟩]
    have h3 : pureRun Try.prog (execOp (fun x => ((argT x).bind fun xa => toVal (evalF c.σ xa)).getD (.bool false)) { dst := none, op := .slice 9 (.const (.string (ByteArray.mk (List.toArray [111, 117])))) (some x) (some y) none, type := ty, pos := "", after := #[], guard := none }) = some (.value (.string (ByteArray.mk (List.toArray [117])))) := by
      simp only [execOp, e1, e2, Option.getD_some, Option.map_some, Option.map_none]
      kernel_rfl
    rw [h3]; rfl
  · rfl
end Go.Proofs.Ythhhibpnhokjfab

