/-
  Bytes as numbers; the law's table by numbers.
-/
import Derived.Test.YtkbeaheladmeiaaNC
set_option linter.unusedSimpArgs false
set_option linter.unusedVariables false
namespace Go.Proofs.Ytkbeaheladmeiaa
open Go Go.Proofs.Eng
set_option maxRecDepth 100000
set_option maxHeartbeats 2000000
def u8 (z : Int) : AV := .v (.int .u8 z)
theorem ofWE {f : Nat} {fn : XFunc} {args : List AV} {G : AV → Prop} (fuel : Nat) (hf : xf f = some fn)
    (h : W Try.prog (RelU Try.prog xf) 0 [.code fn.body] (Go.Proofs.Eng.start fn args []) fun o c => (o = .ret ∨ o = .normal) ∧ ∃ rs, fn.results.mapM (resOf Try.prog c) = some rs ∧ ∃ r, G r ∧ reify c.η fuel (retOf rs) = some r) : ∃ r, G r ∧ Runs Try.prog xf f args r := by
  obtain ⟨o, c, h1, ho, rs, h3, r, hg, h4⟩ := h
  exact ⟨r, hg, Runs.ofW fuel hf ⟨o, c, h1, ho, rs, h3, h4⟩⟩
theorem undT : pureRun Try.prog (underlying 5) = some (.int .u8) := by kernel_rfl
/-- a byte as a number -/
def rawC (x : AV) (fb : Option Res) : Option Res :=
  match x with
  | .v (.int .u8 z) => some (.val (.v (.int .i64 (IntKind.i64.wrap z))))
  | _ => fb
theorem raw_conv (dst : Nat) (c : Cfg) (x : Operand) (ty : TypeId) : stF_raw Try.prog dst c (.convert 5 3 x) ty = rawC (opA c.σ x) (rawX Try.prog dst c (.convert 5 3 x) ty) := by
  unfold rawC
  split
  · rename_i z hi
    have e1 := toVal_op hi
    unfold stF_raw
    rw [if_pos ⟨rfl, by simp [Op.operands, e1]⟩]
    have h3 : pureRun Try.prog (execOp (fun x => ((argT x).bind fun xa => toVal (evalF c.σ xa)).getD (.bool false)) { dst := none, op := .convert 5 3 x, type := ty, pos := "", after := #[], guard := none }) = some (.value (.int .i64 (IntKind.i64.wrap z))) := by
      simp only [execOp, e1, Option.getD_some, pureRun_bind, convert, undT, und1, Option.bind_some, Conv.intToInt, pureRun_pure]
    rw [h3]; rfl
  · rfl
theorem toVal_opB {σ : List AV} {x : Operand} {a : Bool} (hi : opA σ x = .v (.bool a)) : ((argT x).bind fun xa => toVal (evalF σ xa)) = some (.bool a) := by
  unfold opA at hi
  cases h : argT x with
  | none => rw [h] at hi; cases hi
  | some xa =>
    rw [h] at hi
    simp only [Option.elim] at hi
    rw [Option.bind_some, evalF_eq, hi]; rfl
def rawE (x y : AV) (fb : Option Res) : Option Res :=
  match x, y with
  | .v (.bool a), .v (.bool b) => some (.val (.v (.bool (a == b))))
  | _, _ => fb
theorem raw_beq (dst : Nat) (c : Cfg) (x y : Operand) (ty : TypeId) :
    stF_raw Try.prog dst c (.binOp .eql 4 x y 4) ty = rawE (opA c.σ x) (opA c.σ y) (rawX Try.prog dst c (.binOp .eql 4 x y 4) ty) := by
  unfold rawE
  split
  · rename_i a b hi hj
    have e1 := toVal_opB hi
    have e2 := toVal_opB hj
    unfold stF_raw
    rw [if_pos ⟨rfl, by simp [Op.operands, e1, e2]⟩]
    have h3 : pureRun Try.prog (execOp (fun x => ((argT x).bind fun xa => toVal (evalF c.σ xa)).getD (.bool false)) { dst := none, op := .binOp .eql 4 x y 4, type := ty, pos := "", after := #[], guard := none }) = some (.value (.bool (a == b))) := by
      simp only [execOp, e1, e2, Option.getD_some]
      have hg : ∀ u v : Value, u = .bool a → v = .bool b → pureRun Try.prog (eqGuard .eql 4 x y u v) = some () := fun u v hu hv => by
        have grd : Try.prog.eqGuardType Try.prog.depth 4 = false := by kernel_rfl
        subst hu hv
        simp only [eqGuard, pureRun_bind, pureRun_program, Option.bind_some, grd, Bool.not_false, if_true, pureRun_pure]
        rfl
      have h4 : pureRun Try.prog (binOp .eql 4 (.bool a) (.bool b)) = some (.bool (a == b)) := by cases a <;> cases b <;> kernel_rfl
      rw [pureRun_bind, pureRun_bind, hg _ _ rfl rfl, Option.bind_some, h4]; rfl
    rw [h3]; rfl
  · rfl
theorem get_u8 {l : List Int} {i : Nat} (h : i < l.length) : (l.map u8)[i]? = some (u8 (l.getD i 0)) := by
  rw [List.getElem?_map, List.getElem?_eq_getElem h, List.getD_eq_getElem?_getD, List.getElem?_eq_getElem h]; rfl
/-- a ledger by numbers -/
def ldg (a b e : Int) (D H : List Int) : AV := .ag (u8 a :: u8 b :: u8 e :: (D.map u8 ++ H.map u8))
theorem noRef_ldg (a b e : Int) (D H : List Int) : noRef (ldg a b e D H) = true := noRefs_of fun x hx => by
  simp only [List.mem_cons, List.mem_append, List.mem_map] at hx
  rcases hx with rfl | rfl | rfl | h | h
  · rfl
  · rfl
  · rfl
  · obtain ⟨z, _, rfl⟩ := h; rfl
  · obtain ⟨z, _, rfl⟩ := h; rfl
/-- how many rows -/
def sz (a : Int) : Nat := (1 + a.tmod 4).toNat
theorem sz_b {a : Int} (ha : 0 ≤ a ∧ a ≤ 255) : (sz a : Int) = 1 + a.tmod 4 ∧ 1 ≤ sz a ∧ sz a ≤ 4 := by
  have := tmod_b (a := a) (n := 4) ha.1 (by omega)
  unfold sz; omega
theorem size_run {a : Int} (ha : 0 ≤ a ∧ a ≤ 255) (b e : Int) {D H : List Int} (hD : D.length = 16) (hH : H.length = 8) : Runs Try.prog xf 37 [ldg a b e D H] (ai (sz a)) := by
  have h1 := tmod_b (a := a) (n := 4) ha.1 (by omega)
  have hs := sz_b ha
  have wa : IntKind.i64.wrap a = a := wrap_id (by omega) (by omega)
  have w1 : IntKind.i64.wrap (1 + a.tmod 4) = (sz a : Int) := by rw [wrap_id (by omega) (by omega), hs.1]
  have z4 : ((4 : Int) = 0) = False := eq_false (by decide)
  refine Runs.ofW (fn := xf37) 20 (by kernel_rfl) (W_run 80 ?_)
  simp (maxSteps := 2000000) only [SA, Nat.reduceDiv, Nat.reduceSub, Nat.reduceAdd, Int.reduceLT, Int.reduceLE, Int.reduceToNat, Nat.reduceMul, Nat.reduceEqDiff, reduceCtorEq, Nat.reduceBEq, Nat.reduceLeDiff, Nat.reduceLT, xf37, ai, u8, ldg, wa, w1, z4, hD, hH, List.length_append, raw_conv, rawC, opA, argT, Option.elim]
  exact W_ret1 (WX_nil ⟨.inl rfl, _, rfl, rfl⟩)
def rv (g : Nat) (R : List Int) : AV := match R with | [] => nilA | x :: t => .os 41 (g + 1) (t.length + 1) 1 0 (t.length + 1)
theorem toData_other {k g v s : Nat} {xs : List AV} {k' a b c d e : Nat} (h : k' ≠ k) : toData k g v s xs (.os k' a b c d e) = .os k' a b c d e := by simp [toData, h]
end Go.Proofs.Ytkbeaheladmeiaa

