/-
  Two truth values compared; a list of one's own.
-/
import Derived.Test.YtlgmabgpfaajhaaPn
set_option linter.unusedSimpArgs false
set_option linter.unusedVariables false
namespace Go.Proofs.Ytlgmabgpfaajhaa
open Go Go.Proofs.Eng
set_option maxRecDepth 100000
set_option maxHeartbeats 1000000
theorem toVal_opB {σ : List AV} {x : Operand} {a : Bool} (hi : opA σ x = .v (.bool a)) : ((argT x).bind fun xa => toVal (evalF σ xa)) = some (.bool a) := by
  unfold opA at hi
  cases h : argT x with
  | none => rw [h] at hi; cases hi
  | some xa =>
    rw [h] at hi
    simp only [Option.elim] at hi
    rw [Option.bind_some, evalF_eq, hi]; rfl
def rawN (x y : AV) (fb : Option Res) : Option Res :=
  match x, y with
  | .v (.bool a), .v (.bool b) => some (.val (.v (.bool (a != b))))
  | _, _ => fb
theorem raw_bne (dst : Nat) (c : Cfg) (x y : Operand) (ty : TypeId) :
    stF_raw Try.prog dst c (.binOp .neq 4 x y 4) ty = rawN (opA c.σ x) (opA c.σ y) (rawX Try.prog dst c (.binOp .neq 4 x y 4) ty) := by
  unfold rawN
  split
  · rename_i a b hi hj
    have e1 := toVal_opB hi
    have e2 := toVal_opB hj
    unfold stF_raw
    rw [if_pos ⟨rfl, by simp [Op.operands, e1, e2]⟩]
    have h3 : pureRun Try.prog (execOp (fun x => ((argT x).bind fun xa => toVal (evalF c.σ xa)).getD (.bool false)) { dst := none, op := .binOp .neq 4 x y 4, type := ty, pos := "", after := #[], guard := none }) = some (.value (.bool (a != b))) := by
      simp only [execOp, e1, e2, Option.getD_some]
      have hg : ∀ u v : Value, u = .bool a → v = .bool b → pureRun Try.prog (eqGuard .neq 4 x y u v) = some () := fun u v hu hv => by
        have grd : Try.prog.eqGuardType Try.prog.depth 4 = false := by kernel_rfl
        subst hu hv
        simp only [eqGuard, pureRun_bind, pureRun_program, Option.bind_some, grd, Bool.not_false, if_true, pureRun_pure]
        rfl
      have h4 : pureRun Try.prog (binOp .neq 4 (.bool a) (.bool b)) = some (.bool (a != b)) := by cases a <;> cases b <;> kernel_rfl
      rw [pureRun_bind, pureRun_bind, hg _ _ rfl rfl, Option.bind_some, h4]; rfl
    rw [h3]; rfl
  · rfl
theorem clone_run (g : Bool) (x : Int) (t : List Int) (hl : t.length ≤ 100) : RunsR Try.prog xf 1000 16 [al g (x :: t)] [] (.os 1005 1 (t.length + 1) 1 0 (t.length + 1)) [(1005, (1, some ⟨3, 1, (x :: t).map ai⟩))] := by
  have q1 : (t.length + 1) * 8 ≤ 100000000000000 := by omega
  have q2 : t.length + 1 ≤ 100000000000000 := by omega
  refine RunsR.ofW (fn := xf16) (by kernel_rfl) (W_run 80 ?_)
  simp only [go_some, go_none, go_zero, nxt_op, nxt_guard, nxt_skip, nxt_label, nxt_region, nxt_drawn, nxt_seq, nxt_block, nxt_scope, nxt_exit, nxt_blk, nxt_lp, nxt_cond, nxt_loop, nxt_ret, nxt_stop, nxt_nil, Eng.start, frG, frF, isCall, stp, exec1, exec1K, dK, Nat.reduceDiv, keyA, wantedA, stepF, stF_mv, stF_bin, stF_len, stF_un, stF_pick, stF_load, stF_iadr, stF_box, stF_fadr, stF_store, stF_ext, stF_fld, stF_idx, stF_aadr, stF_app, stF_bldS, stF_slc, stF_slcA, stF_bld, stF_isnil, stF_mki, stF_mkf, stF_mkb, stF_nilc, stF_mks, mapF_eq, evalF_eq, evalA, setAF, setA, setF_eq, putF_eq, lookF_eq, List.getD_cons_zero, List.getD_cons_succ, List.set_cons_zero, List.set_cons_succ, List.replicate, List.length_cons, List.length_nil, Nat.zero_add, Nat.reduceSub, Nat.reduceAdd, List.cons_append, List.nil_append, Option.getD, drop, Nat.beq, List.length_map, binV, binI, unV, if_true, Eng.asInt, Eng.part, cellsOf, toNat_cast, cast_nonneg, true_and, and_true, if_pos, giveOp, gvK, List.getElem?_cons_zero, List.getElem?_cons_succ, Bool.not_true, Bool.not_false, ofVal, eq_self, and_self, true_implies, dfF, touch, regF, quietF, pairOK, noCs, Go.Value.oneCell', decide_true, decide_false, Nat.mul_one, asBound, fullOf, Option.isSome_none, Option.isSome_some, Nat.zero_le, Bool.false_eq_true, false_implies, Int.cast_ofNat_Int, Int.reduceLT, Int.reduceLE, Int.reduceToNat, Nat.reduceMul, Int.le_refl, Eng.look, putAt, Nat.reduceEqDiff, reduceCtorEq, Nat.reduceBEq, if_false, List.all_cons, List.all_nil, tf_beq, ft_beq, lvSub, lvOK, isNone, width, solid, splice, List.take_zero, List.drop_zero, List.drop_nil, List.take_nil, List.drop_succ_cons, List.take_succ_cons, List.append_nil, beq_self_eq_true, Bool.and_true, Bool.true_and, Bool.and_self, ge_iff_le, gt_iff_lt, Nat.le_refl, Nat.reduceLeDiff, Nat.reduceLT, xf16, ai, al, nilA, q1, q2, Go.Proofs.Eng.elems, List.map_cons, List.map_nil, List.nil_append, reduceCtorEq]
  exact W_ret1 (WX_nil ⟨.inl rfl, _, rfl, rfl, rfl⟩)
end Go.Proofs.Ytlgmabgpfaajhaa

