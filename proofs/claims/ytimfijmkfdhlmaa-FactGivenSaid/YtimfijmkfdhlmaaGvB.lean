/-
  The law's explained; sets of articles as lists; the first list is no longer than any that explains.
-/
import Derived.Test.YtimfijmkfdhlmaaSrD
import Derived.Test.YtimfijmkfdhlmaaPcWF
set_option linter.unusedSimpArgs false
set_option linter.unusedVariables false
namespace Go.Proofs.Ytimfijmkfdhlmaa
open Go Go.Proofs.Eng
set_option maxRecDepth 100000
set_option maxHeartbeats 4000000
theorem ne00 : ((0 : Int) != 0) = false := rfl
theorem first_run {pv : AV} {l : List (Int × Int)} (hx : isP pv l) (n : Nat) (hn : l.length ≤ 1000) (hn7 : n ≤ 7) (hfull : fnd n l n 0 [] ≠ []) (hc : chkE (n : Int) l = 0) {f : List Int} {L : List (List Int)} (hL : shtL n l n 0 = f :: L) :
    Runs Try.prog xf 19 [bkA (n : Int) pv] (.tup [al false f, ai 0]) := by
  have hs := short_run hx n hn hn7 hfull
  have hk := check_any hx (n : Int) hn
  rw [hc] at hk
  rw [hL] at hs
  refine Runs.ofW (fn := xf19) 20 (by kernel_rfl) (W_run 60 ?_)
  simp only [go_some, go_none, go_zero, nxt_op, nxt_guard, nxt_skip, nxt_region, nxt_drawn, nxt_seq, nxt_block, nxt_scope, nxt_exit, nxt_blk, nxt_lp, nxt_cond, nxt_loop, nxt_ret, nxt_stop, nxt_nil, Eng.start, frG, frF, isCall, stp, exec1, exec1K, keyA, wantedA, stepF, stF_mv, stF_bin, stF_len, stF_un, stF_pick, stF_load, stF_iadr, stF_box, stF_fadr, stF_store, stF_ext, stF_fld, stF_idx, stF_aadr, stF_app, stF_bldS, stF_slc, stF_slcA, stF_bld, stF_isnil, stF_mki, stF_mkf, stF_mkb, mapF_eq, evalF_eq, evalA, setAF, setA, setF_eq, putF_eq, lookF_eq, List.getD_cons_zero, List.getD_cons_succ, List.set_cons_zero, List.set_cons_succ, List.replicate, List.length_cons, List.length_nil, Nat.zero_add, Nat.reduceSub, Nat.reduceAdd, List.cons_append, List.nil_append, Option.getD, drop, Nat.beq, List.length_map, binV, binI, unV, if_true, Eng.asInt, Eng.part, cellsOf, toNat_cast, cast_nonneg, true_and, and_true, if_pos, giveOp, List.getElem?_cons_zero, List.getElem?_cons_succ, Bool.not_true, Bool.not_false, ofVal, eq_self, and_self, true_implies, dfF, touch, regF, quietF, pairOK, noCs, Go.Value.oneCell', decide_true, decide_false, Nat.mul_one, asBound, fullOf, Option.isSome_none, Option.isSome_some, Nat.zero_le, Bool.false_eq_true, false_implies, Int.cast_ofNat_Int, Int.reduceLT, Int.reduceLE, Int.reduceToNat, Nat.reduceMul, Int.le_refl, Eng.look, putAt, Nat.reduceEqDiff, reduceCtorEq, Nat.reduceBEq, if_false, List.all_cons, List.all_nil, tf_beq, ft_beq, lvSub, lvOK, isNone, width, solid, splice, List.take_zero, List.drop_zero, List.drop_nil, List.take_nil, List.drop_succ_cons, List.take_succ_cons, List.append_nil, beq_self_eq_true, Bool.and_true, Bool.true_and, Bool.and_self, ge_iff_le, gt_iff_lt, Nat.le_refl, Nat.reduceLeDiff, Nat.reduceLT, xf19, bkA]
  refine W_call (args := [bkA (n : Int) pv]) rfl (noRef_b1 hx _) hk rfl (W_run 60 ?_)
  simp only [go_some, go_none, go_zero, nxt_op, nxt_guard, nxt_skip, nxt_region, nxt_drawn, nxt_seq, nxt_block, nxt_scope, nxt_exit, nxt_blk, nxt_lp, nxt_cond, nxt_loop, nxt_ret, nxt_stop, nxt_nil, Eng.start, frG, frF, isCall, stp, exec1, exec1K, keyA, wantedA, stepF, stF_mv, stF_bin, stF_len, stF_un, stF_pick, stF_load, stF_iadr, stF_box, stF_fadr, stF_store, stF_ext, stF_fld, stF_idx, stF_aadr, stF_app, stF_bldS, stF_slc, stF_slcA, stF_bld, stF_isnil, stF_mki, stF_mkf, stF_mkb, mapF_eq, evalF_eq, evalA, setAF, setA, setF_eq, putF_eq, lookF_eq, List.getD_cons_zero, List.getD_cons_succ, List.set_cons_zero, List.set_cons_succ, List.replicate, List.length_cons, List.length_nil, Nat.zero_add, Nat.reduceSub, Nat.reduceAdd, List.cons_append, List.nil_append, Option.getD, drop, Nat.beq, List.length_map, binV, binI, unV, if_true, Eng.asInt, Eng.part, cellsOf, toNat_cast, cast_nonneg, true_and, and_true, if_pos, giveOp, List.getElem?_cons_zero, List.getElem?_cons_succ, Bool.not_true, Bool.not_false, ofVal, eq_self, and_self, true_implies, dfF, touch, regF, quietF, pairOK, noCs, Go.Value.oneCell', decide_true, decide_false, Nat.mul_one, asBound, fullOf, Option.isSome_none, Option.isSome_some, Nat.zero_le, Bool.false_eq_true, false_implies, Int.cast_ofNat_Int, Int.reduceLT, Int.reduceLE, Int.reduceToNat, Nat.reduceMul, Int.le_refl, Eng.look, putAt, Nat.reduceEqDiff, reduceCtorEq, Nat.reduceBEq, if_false, List.all_cons, List.all_nil, tf_beq, ft_beq, lvSub, lvOK, isNone, width, solid, splice, List.take_zero, List.drop_zero, List.drop_nil, List.take_nil, List.drop_succ_cons, List.take_succ_cons, List.append_nil, beq_self_eq_true, Bool.and_true, Bool.true_and, Bool.and_self, ge_iff_le, gt_iff_lt, Nat.le_refl, Nat.reduceLeDiff, Nat.reduceLT, ai, ne00]
  refine W_call (args := [bkA (n : Int) pv]) rfl (noRef_b1 hx _) hs (by simp only [lls, noRef]; exact noRefs_of fun x hx => by obtain ⟨y, _, rfl⟩ := List.mem_map.1 hx; exact noRef_al _ _) (W_run 60 ?_)
  simp only [go_some, go_none, go_zero, nxt_op, nxt_guard, nxt_skip, nxt_region, nxt_drawn, nxt_seq, nxt_block, nxt_scope, nxt_exit, nxt_blk, nxt_lp, nxt_cond, nxt_loop, nxt_ret, nxt_stop, nxt_nil, Eng.start, frG, frF, isCall, stp, exec1, exec1K, keyA, wantedA, stepF, stF_mv, stF_bin, stF_len, stF_un, stF_pick, stF_load, stF_iadr, stF_box, stF_fadr, stF_store, stF_ext, stF_fld, stF_idx, stF_aadr, stF_app, stF_bldS, stF_slc, stF_slcA, stF_bld, stF_isnil, stF_mki, stF_mkf, stF_mkb, mapF_eq, evalF_eq, evalA, setAF, setA, setF_eq, putF_eq, lookF_eq, List.getD_cons_zero, List.getD_cons_succ, List.set_cons_zero, List.set_cons_succ, List.replicate, List.length_cons, List.length_nil, Nat.zero_add, Nat.reduceSub, Nat.reduceAdd, List.cons_append, List.nil_append, Option.getD, drop, Nat.beq, List.length_map, binV, binI, unV, if_true, Eng.asInt, Eng.part, cellsOf, toNat_cast, cast_nonneg, true_and, and_true, if_pos, giveOp, List.getElem?_cons_zero, List.getElem?_cons_succ, Bool.not_true, Bool.not_false, ofVal, eq_self, and_self, true_implies, dfF, touch, regF, quietF, pairOK, noCs, Go.Value.oneCell', decide_true, decide_false, Nat.mul_one, asBound, fullOf, Option.isSome_none, Option.isSome_some, Nat.zero_le, Bool.false_eq_true, false_implies, Int.cast_ofNat_Int, Int.reduceLT, Int.reduceLE, Int.reduceToNat, Nat.reduceMul, Int.le_refl, Eng.look, putAt, Nat.reduceEqDiff, reduceCtorEq, Nat.reduceBEq, if_false, List.all_cons, List.all_nil, tf_beq, ft_beq, lvSub, lvOK, isNone, width, solid, splice, List.take_zero, List.drop_zero, List.drop_nil, List.take_nil, List.drop_succ_cons, List.take_succ_cons, List.append_nil, beq_self_eq_true, Bool.and_true, Bool.true_and, Bool.and_self, ge_iff_le, gt_iff_lt, Nat.le_refl, Nat.reduceLeDiff, Nat.reduceLT, ai, lls, al, List.map_cons]
  refine W_ret1 (WX_nil ⟨.inl rfl, _, rfl, ?_⟩)
  show ([al false f, ai 0].mapM (reify _ 19)).map AV.tup = _
  rw [List.mapM_cons, reify_al]; rfl
/-- the articles of a set -/
def memb (c : Nat) : List Int := ((List.range 7).filter fun i => c.testBit i).map fun (i : Nat) => (i : Int)
def mR (c : Nat) : AV := match memb c with | [] => nilA | x :: l => .os 1016 1 (l.length + 1) 1 0 (l.length + 1)
def mH (c : Nat) (H : Nat × Option Ob) : Heap := match memb c with | [] => [(5, H)] | x :: l => [(5, H), (1016, (1, some ⟨3, 1, (x :: l).map ai⟩))]
theorem bit_eq : ∀ c : Fin 128, ∀ q : Fin 7, IntKind.i64.wrap (((BitVec.ofInt IntKind.i64.bits ((c.val : Int).fdiv (2 ^ min q.val IntKind.i64.bits)) &&& BitVec.ofInt IntKind.i64.bits 1).toNat : Nat) : Int) = if c.val.testBit q.val then 1 else 0 := by decide +kernel
theorem count_run : ∀ c : Nat, c < 128 → Runs Try.prog xf 33 [.v (.int .u8 (c : Int))] (ai ((memb c).length : Int))
  | 0, _ => Runs.execM (fr := fr) (fuel := 10000) mm0_ok 40 (by kernel_rfl)
  | 1, _ => Runs.execM (fr := fr) (fuel := 10000) mm0_ok 40 (by kernel_rfl)
  | 2, _ => Runs.execM (fr := fr) (fuel := 10000) mm0_ok 40 (by kernel_rfl)
  | 3, _ => Runs.execM (fr := fr) (fuel := 10000) mm0_ok 40 (by kernel_rfl)
  | 4, _ => Runs.execM (fr := fr) (fuel := 10000) mm0_ok 40 (by kernel_rfl)
  | 5, _ => Runs.execM (fr := fr) (fuel := 10000) mm0_ok 40 (by kernel_rfl)
  | 6, _ => Runs.execM (fr := fr) (fuel := 10000) mm0_ok 40 (by kernel_rfl)
  | 7, _ => Runs.execM (fr := fr) (fuel := 10000) mm0_ok 40 (by kernel_rfl)
  | 8, _ => Runs.execM (fr := fr) (fuel := 10000) mm0_ok 40 (by kernel_rfl)
  | 9, _ => Runs.execM (fr := fr) (fuel := 10000) mm0_ok 40 (by kernel_rfl)
  | 10, _ => Runs.execM (fr := fr) (fuel := 10000) mm0_ok 40 (by kernel_rfl)
  | 11, _ => Runs.execM (fr := fr) (fuel := 10000) mm0_ok 40 (by kernel_rfl)
  | 12, _ => Runs.execM (fr := fr) (fuel := 10000) mm0_ok 40 (by kernel_rfl)
  | 13, _ => Runs.execM (fr := fr) (fuel := 10000) mm0_ok 40 (by kernel_rfl)
  | 14, _ => Runs.execM (fr := fr) (fuel := 10000) mm0_ok 40 (by kernel_rfl)
  | 15, _ => Runs.execM (fr := fr) (fuel := 10000) mm0_ok 40 (by kernel_rfl)
  | 16, _ => Runs.execM (fr := fr) (fuel := 10000) mm0_ok 40 (by kernel_rfl)
  | 17, _ => Runs.execM (fr := fr) (fuel := 10000) mm0_ok 40 (by kernel_rfl)
  | 18, _ => Runs.execM (fr := fr) (fuel := 10000) mm0_ok 40 (by kernel_rfl)
  | 19, _ => Runs.execM (fr := fr) (fuel := 10000) mm0_ok 40 (by kernel_rfl)
  | 20, _ => Runs.execM (fr := fr) (fuel := 10000) mm0_ok 40 (by kernel_rfl)
  | 21, _ => Runs.execM (fr := fr) (fuel := 10000) mm0_ok 40 (by kernel_rfl)
  | 22, _ => Runs.execM (fr := fr) (fuel := 10000) mm0_ok 40 (by kernel_rfl)
  | 23, _ => Runs.execM (fr := fr) (fuel := 10000) mm0_ok 40 (by kernel_rfl)
  | 24, _ => Runs.execM (fr := fr) (fuel := 10000) mm0_ok 40 (by kernel_rfl)
  | 25, _ => Runs.execM (fr := fr) (fuel := 10000) mm0_ok 40 (by kernel_rfl)
  | 26, _ => Runs.execM (fr := fr) (fuel := 10000) mm0_ok 40 (by kernel_rfl)
  | 27, _ => Runs.execM (fr := fr) (fuel := 10000) mm0_ok 40 (by kernel_rfl)
  | 28, _ => Runs.execM (fr := fr) (fuel := 10000) mm0_ok 40 (by kernel_rfl)
  | 29, _ => Runs.execM (fr := fr) (fuel := 10000) mm0_ok 40 (by kernel_rfl)
  | 30, _ => Runs.execM (fr := fr) (fuel := 10000) mm0_ok 40 (by kernel_rfl)
  | 31, _ => Runs.execM (fr := fr) (fuel := 10000) mm0_ok 40 (by kernel_rfl)
  | 32, _ => Runs.execM (fr := fr) (fuel := 10000) mm0_ok 40 (by kernel_rfl)
  | 33, _ => Runs.execM (fr := fr) (fuel := 10000) mm0_ok 40 (by kernel_rfl)
  | 34, _ => Runs.execM (fr := fr) (fuel := 10000) mm0_ok 40 (by kernel_rfl)
  | 35, _ => Runs.execM (fr := fr) (fuel := 10000) mm0_ok 40 (by kernel_rfl)
  | 36, _ => Runs.execM (fr := fr) (fuel := 10000) mm0_ok 40 (by kernel_rfl)
  | 37, _ => Runs.execM (fr := fr) (fuel := 10000) mm0_ok 40 (by kernel_rfl)
  | 38, _ => Runs.execM (fr := fr) (fuel := 10000) mm0_ok 40 (by kernel_rfl)
  | 39, _ => Runs.execM (fr := fr) (fuel := 10000) mm0_ok 40 (by kernel_rfl)
  | 40, _ => Runs.execM (fr := fr) (fuel := 10000) mm0_ok 40 (by kernel_rfl)
  | 41, _ => Runs.execM (fr := fr) (fuel := 10000) mm0_ok 40 (by kernel_rfl)
  | 42, _ => Runs.execM (fr := fr) (fuel := 10000) mm0_ok 40 (by kernel_rfl)
  | 43, _ => Runs.execM (fr := fr) (fuel := 10000) mm0_ok 40 (by kernel_rfl)
  | 44, _ => Runs.execM (fr := fr) (fuel := 10000) mm0_ok 40 (by kernel_rfl)
  | 45, _ => Runs.execM (fr := fr) (fuel := 10000) mm0_ok 40 (by kernel_rfl)
  | 46, _ => Runs.execM (fr := fr) (fuel := 10000) mm0_ok 40 (by kernel_rfl)
  | 47, _ => Runs.execM (fr := fr) (fuel := 10000) mm0_ok 40 (by kernel_rfl)
  | 48, _ => Runs.execM (fr := fr) (fuel := 10000) mm0_ok 40 (by kernel_rfl)
  | 49, _ => Runs.execM (fr := fr) (fuel := 10000) mm0_ok 40 (by kernel_rfl)
  | 50, _ => Runs.execM (fr := fr) (fuel := 10000) mm0_ok 40 (by kernel_rfl)
  | 51, _ => Runs.execM (fr := fr) (fuel := 10000) mm0_ok 40 (by kernel_rfl)
  | 52, _ => Runs.execM (fr := fr) (fuel := 10000) mm0_ok 40 (by kernel_rfl)
  | 53, _ => Runs.execM (fr := fr) (fuel := 10000) mm0_ok 40 (by kernel_rfl)
  | 54, _ => Runs.execM (fr := fr) (fuel := 10000) mm0_ok 40 (by kernel_rfl)
  | 55, _ => Runs.execM (fr := fr) (fuel := 10000) mm0_ok 40 (by kernel_rfl)
  | 56, _ => Runs.execM (fr := fr) (fuel := 10000) mm0_ok 40 (by kernel_rfl)
  | 57, _ => Runs.execM (fr := fr) (fuel := 10000) mm0_ok 40 (by kernel_rfl)
  | 58, _ => Runs.execM (fr := fr) (fuel := 10000) mm0_ok 40 (by kernel_rfl)
  | 59, _ => Runs.execM (fr := fr) (fuel := 10000) mm0_ok 40 (by kernel_rfl)
  | 60, _ => Runs.execM (fr := fr) (fuel := 10000) mm0_ok 40 (by kernel_rfl)
  | 61, _ => Runs.execM (fr := fr) (fuel := 10000) mm0_ok 40 (by kernel_rfl)
  | 62, _ => Runs.execM (fr := fr) (fuel := 10000) mm0_ok 40 (by kernel_rfl)
  | 63, _ => Runs.execM (fr := fr) (fuel := 10000) mm0_ok 40 (by kernel_rfl)
  | 64, _ => Runs.execM (fr := fr) (fuel := 10000) mm0_ok 40 (by kernel_rfl)
  | 65, _ => Runs.execM (fr := fr) (fuel := 10000) mm0_ok 40 (by kernel_rfl)
  | 66, _ => Runs.execM (fr := fr) (fuel := 10000) mm0_ok 40 (by kernel_rfl)
  | 67, _ => Runs.execM (fr := fr) (fuel := 10000) mm0_ok 40 (by kernel_rfl)
  | 68, _ => Runs.execM (fr := fr) (fuel := 10000) mm0_ok 40 (by kernel_rfl)
  | 69, _ => Runs.execM (fr := fr) (fuel := 10000) mm0_ok 40 (by kernel_rfl)
  | 70, _ => Runs.execM (fr := fr) (fuel := 10000) mm0_ok 40 (by kernel_rfl)
  | 71, _ => Runs.execM (fr := fr) (fuel := 10000) mm0_ok 40 (by kernel_rfl)
  | 72, _ => Runs.execM (fr := fr) (fuel := 10000) mm0_ok 40 (by kernel_rfl)
  | 73, _ => Runs.execM (fr := fr) (fuel := 10000) mm0_ok 40 (by kernel_rfl)
  | 74, _ => Runs.execM (fr := fr) (fuel := 10000) mm0_ok 40 (by kernel_rfl)
  | 75, _ => Runs.execM (fr := fr) (fuel := 10000) mm0_ok 40 (by kernel_rfl)
  | 76, _ => Runs.execM (fr := fr) (fuel := 10000) mm0_ok 40 (by kernel_rfl)
  | 77, _ => Runs.execM (fr := fr) (fuel := 10000) mm0_ok 40 (by kernel_rfl)
  | 78, _ => Runs.execM (fr := fr) (fuel := 10000) mm0_ok 40 (by kernel_rfl)
  | 79, _ => Runs.execM (fr := fr) (fuel := 10000) mm0_ok 40 (by kernel_rfl)
  | 80, _ => Runs.execM (fr := fr) (fuel := 10000) mm0_ok 40 (by kernel_rfl)
  | 81, _ => Runs.execM (fr := fr) (fuel := 10000) mm0_ok 40 (by kernel_rfl)
  | 82, _ => Runs.execM (fr := fr) (fuel := 10000) mm0_ok 40 (by kernel_rfl)
  | 83, _ => Runs.execM (fr := fr) (fuel := 10000) mm0_ok 40 (by kernel_rfl)
  | 84, _ => Runs.execM (fr := fr) (fuel := 10000) mm0_ok 40 (by kernel_rfl)
  | 85, _ => Runs.execM (fr := fr) (fuel := 10000) mm0_ok 40 (by kernel_rfl)
  | 86, _ => Runs.execM (fr := fr) (fuel := 10000) mm0_ok 40 (by kernel_rfl)
  | 87, _ => Runs.execM (fr := fr) (fuel := 10000) mm0_ok 40 (by kernel_rfl)
  | 88, _ => Runs.execM (fr := fr) (fuel := 10000) mm0_ok 40 (by kernel_rfl)
  | 89, _ => Runs.execM (fr := fr) (fuel := 10000) mm0_ok 40 (by kernel_rfl)
  | 90, _ => Runs.execM (fr := fr) (fuel := 10000) mm0_ok 40 (by kernel_rfl)
  | 91, _ => Runs.execM (fr := fr) (fuel := 10000) mm0_ok 40 (by kernel_rfl)
  | 92, _ => Runs.execM (fr := fr) (fuel := 10000) mm0_ok 40 (by kernel_rfl)
  | 93, _ => Runs.execM (fr := fr) (fuel := 10000) mm0_ok 40 (by kernel_rfl)
  | 94, _ => Runs.execM (fr := fr) (fuel := 10000) mm0_ok 40 (by kernel_rfl)
  | 95, _ => Runs.execM (fr := fr) (fuel := 10000) mm0_ok 40 (by kernel_rfl)
  | 96, _ => Runs.execM (fr := fr) (fuel := 10000) mm0_ok 40 (by kernel_rfl)
  | 97, _ => Runs.execM (fr := fr) (fuel := 10000) mm0_ok 40 (by kernel_rfl)
  | 98, _ => Runs.execM (fr := fr) (fuel := 10000) mm0_ok 40 (by kernel_rfl)
  | 99, _ => Runs.execM (fr := fr) (fuel := 10000) mm0_ok 40 (by kernel_rfl)
  | 100, _ => Runs.execM (fr := fr) (fuel := 10000) mm0_ok 40 (by kernel_rfl)
  | 101, _ => Runs.execM (fr := fr) (fuel := 10000) mm0_ok 40 (by kernel_rfl)
  | 102, _ => Runs.execM (fr := fr) (fuel := 10000) mm0_ok 40 (by kernel_rfl)
  | 103, _ => Runs.execM (fr := fr) (fuel := 10000) mm0_ok 40 (by kernel_rfl)
  | 104, _ => Runs.execM (fr := fr) (fuel := 10000) mm0_ok 40 (by kernel_rfl)
  | 105, _ => Runs.execM (fr := fr) (fuel := 10000) mm0_ok 40 (by kernel_rfl)
  | 106, _ => Runs.execM (fr := fr) (fuel := 10000) mm0_ok 40 (by kernel_rfl)
  | 107, _ => Runs.execM (fr := fr) (fuel := 10000) mm0_ok 40 (by kernel_rfl)
  | 108, _ => Runs.execM (fr := fr) (fuel := 10000) mm0_ok 40 (by kernel_rfl)
  | 109, _ => Runs.execM (fr := fr) (fuel := 10000) mm0_ok 40 (by kernel_rfl)
  | 110, _ => Runs.execM (fr := fr) (fuel := 10000) mm0_ok 40 (by kernel_rfl)
  | 111, _ => Runs.execM (fr := fr) (fuel := 10000) mm0_ok 40 (by kernel_rfl)
  | 112, _ => Runs.execM (fr := fr) (fuel := 10000) mm0_ok 40 (by kernel_rfl)
  | 113, _ => Runs.execM (fr := fr) (fuel := 10000) mm0_ok 40 (by kernel_rfl)
  | 114, _ => Runs.execM (fr := fr) (fuel := 10000) mm0_ok 40 (by kernel_rfl)
  | 115, _ => Runs.execM (fr := fr) (fuel := 10000) mm0_ok 40 (by kernel_rfl)
  | 116, _ => Runs.execM (fr := fr) (fuel := 10000) mm0_ok 40 (by kernel_rfl)
  | 117, _ => Runs.execM (fr := fr) (fuel := 10000) mm0_ok 40 (by kernel_rfl)
  | 118, _ => Runs.execM (fr := fr) (fuel := 10000) mm0_ok 40 (by kernel_rfl)
  | 119, _ => Runs.execM (fr := fr) (fuel := 10000) mm0_ok 40 (by kernel_rfl)
  | 120, _ => Runs.execM (fr := fr) (fuel := 10000) mm0_ok 40 (by kernel_rfl)
  | 121, _ => Runs.execM (fr := fr) (fuel := 10000) mm0_ok 40 (by kernel_rfl)
  | 122, _ => Runs.execM (fr := fr) (fuel := 10000) mm0_ok 40 (by kernel_rfl)
  | 123, _ => Runs.execM (fr := fr) (fuel := 10000) mm0_ok 40 (by kernel_rfl)
  | 124, _ => Runs.execM (fr := fr) (fuel := 10000) mm0_ok 40 (by kernel_rfl)
  | 125, _ => Runs.execM (fr := fr) (fuel := 10000) mm0_ok 40 (by kernel_rfl)
  | 126, _ => Runs.execM (fr := fr) (fuel := 10000) mm0_ok 40 (by kernel_rfl)
  | 127, _ => Runs.execM (fr := fr) (fuel := 10000) mm0_ok 40 (by kernel_rfl)
  | c + 128, h => absurd h (by omega)
theorem mem_run (H : Nat × Option Ob) : ∀ c : Nat, c < 128 → RunsR Try.prog xf 1000 32 [ai (c : Int)] [(5, H)] (mR c) (mH c H)
  | 0, _ => RunsR.execM (fr := fr) (fuel := 10000) mm0_ok 40 (by kernel_rfl)
  | 1, _ => RunsR.execM (fr := fr) (fuel := 10000) mm0_ok 40 (by kernel_rfl)
  | 2, _ => RunsR.execM (fr := fr) (fuel := 10000) mm0_ok 40 (by kernel_rfl)
  | 3, _ => RunsR.execM (fr := fr) (fuel := 10000) mm0_ok 40 (by kernel_rfl)
  | 4, _ => RunsR.execM (fr := fr) (fuel := 10000) mm0_ok 40 (by kernel_rfl)
  | 5, _ => RunsR.execM (fr := fr) (fuel := 10000) mm0_ok 40 (by kernel_rfl)
  | 6, _ => RunsR.execM (fr := fr) (fuel := 10000) mm0_ok 40 (by kernel_rfl)
  | 7, _ => RunsR.execM (fr := fr) (fuel := 10000) mm0_ok 40 (by kernel_rfl)
  | 8, _ => RunsR.execM (fr := fr) (fuel := 10000) mm0_ok 40 (by kernel_rfl)
  | 9, _ => RunsR.execM (fr := fr) (fuel := 10000) mm0_ok 40 (by kernel_rfl)
  | 10, _ => RunsR.execM (fr := fr) (fuel := 10000) mm0_ok 40 (by kernel_rfl)
  | 11, _ => RunsR.execM (fr := fr) (fuel := 10000) mm0_ok 40 (by kernel_rfl)
  | 12, _ => RunsR.execM (fr := fr) (fuel := 10000) mm0_ok 40 (by kernel_rfl)
  | 13, _ => RunsR.execM (fr := fr) (fuel := 10000) mm0_ok 40 (by kernel_rfl)
  | 14, _ => RunsR.execM (fr := fr) (fuel := 10000) mm0_ok 40 (by kernel_rfl)
  | 15, _ => RunsR.execM (fr := fr) (fuel := 10000) mm0_ok 40 (by kernel_rfl)
  | 16, _ => RunsR.execM (fr := fr) (fuel := 10000) mm0_ok 40 (by kernel_rfl)
  | 17, _ => RunsR.execM (fr := fr) (fuel := 10000) mm0_ok 40 (by kernel_rfl)
  | 18, _ => RunsR.execM (fr := fr) (fuel := 10000) mm0_ok 40 (by kernel_rfl)
  | 19, _ => RunsR.execM (fr := fr) (fuel := 10000) mm0_ok 40 (by kernel_rfl)
  | 20, _ => RunsR.execM (fr := fr) (fuel := 10000) mm0_ok 40 (by kernel_rfl)
  | 21, _ => RunsR.execM (fr := fr) (fuel := 10000) mm0_ok 40 (by kernel_rfl)
  | 22, _ => RunsR.execM (fr := fr) (fuel := 10000) mm0_ok 40 (by kernel_rfl)
  | 23, _ => RunsR.execM (fr := fr) (fuel := 10000) mm0_ok 40 (by kernel_rfl)
  | 24, _ => RunsR.execM (fr := fr) (fuel := 10000) mm0_ok 40 (by kernel_rfl)
  | 25, _ => RunsR.execM (fr := fr) (fuel := 10000) mm0_ok 40 (by kernel_rfl)
  | 26, _ => RunsR.execM (fr := fr) (fuel := 10000) mm0_ok 40 (by kernel_rfl)
  | 27, _ => RunsR.execM (fr := fr) (fuel := 10000) mm0_ok 40 (by kernel_rfl)
  | 28, _ => RunsR.execM (fr := fr) (fuel := 10000) mm0_ok 40 (by kernel_rfl)
  | 29, _ => RunsR.execM (fr := fr) (fuel := 10000) mm0_ok 40 (by kernel_rfl)
  | 30, _ => RunsR.execM (fr := fr) (fuel := 10000) mm0_ok 40 (by kernel_rfl)
  | 31, _ => RunsR.execM (fr := fr) (fuel := 10000) mm0_ok 40 (by kernel_rfl)
  | 32, _ => RunsR.execM (fr := fr) (fuel := 10000) mm0_ok 40 (by kernel_rfl)
  | 33, _ => RunsR.execM (fr := fr) (fuel := 10000) mm0_ok 40 (by kernel_rfl)
  | 34, _ => RunsR.execM (fr := fr) (fuel := 10000) mm0_ok 40 (by kernel_rfl)
  | 35, _ => RunsR.execM (fr := fr) (fuel := 10000) mm0_ok 40 (by kernel_rfl)
  | 36, _ => RunsR.execM (fr := fr) (fuel := 10000) mm0_ok 40 (by kernel_rfl)
  | 37, _ => RunsR.execM (fr := fr) (fuel := 10000) mm0_ok 40 (by kernel_rfl)
  | 38, _ => RunsR.execM (fr := fr) (fuel := 10000) mm0_ok 40 (by kernel_rfl)
  | 39, _ => RunsR.execM (fr := fr) (fuel := 10000) mm0_ok 40 (by kernel_rfl)
  | 40, _ => RunsR.execM (fr := fr) (fuel := 10000) mm0_ok 40 (by kernel_rfl)
  | 41, _ => RunsR.execM (fr := fr) (fuel := 10000) mm0_ok 40 (by kernel_rfl)
  | 42, _ => RunsR.execM (fr := fr) (fuel := 10000) mm0_ok 40 (by kernel_rfl)
  | 43, _ => RunsR.execM (fr := fr) (fuel := 10000) mm0_ok 40 (by kernel_rfl)
  | 44, _ => RunsR.execM (fr := fr) (fuel := 10000) mm0_ok 40 (by kernel_rfl)
  | 45, _ => RunsR.execM (fr := fr) (fuel := 10000) mm0_ok 40 (by kernel_rfl)
  | 46, _ => RunsR.execM (fr := fr) (fuel := 10000) mm0_ok 40 (by kernel_rfl)
  | 47, _ => RunsR.execM (fr := fr) (fuel := 10000) mm0_ok 40 (by kernel_rfl)
  | 48, _ => RunsR.execM (fr := fr) (fuel := 10000) mm0_ok 40 (by kernel_rfl)
  | 49, _ => RunsR.execM (fr := fr) (fuel := 10000) mm0_ok 40 (by kernel_rfl)
  | 50, _ => RunsR.execM (fr := fr) (fuel := 10000) mm0_ok 40 (by kernel_rfl)
  | 51, _ => RunsR.execM (fr := fr) (fuel := 10000) mm0_ok 40 (by kernel_rfl)
  | 52, _ => RunsR.execM (fr := fr) (fuel := 10000) mm0_ok 40 (by kernel_rfl)
  | 53, _ => RunsR.execM (fr := fr) (fuel := 10000) mm0_ok 40 (by kernel_rfl)
  | 54, _ => RunsR.execM (fr := fr) (fuel := 10000) mm0_ok 40 (by kernel_rfl)
  | 55, _ => RunsR.execM (fr := fr) (fuel := 10000) mm0_ok 40 (by kernel_rfl)
  | 56, _ => RunsR.execM (fr := fr) (fuel := 10000) mm0_ok 40 (by kernel_rfl)
  | 57, _ => RunsR.execM (fr := fr) (fuel := 10000) mm0_ok 40 (by kernel_rfl)
  | 58, _ => RunsR.execM (fr := fr) (fuel := 10000) mm0_ok 40 (by kernel_rfl)
  | 59, _ => RunsR.execM (fr := fr) (fuel := 10000) mm0_ok 40 (by kernel_rfl)
  | 60, _ => RunsR.execM (fr := fr) (fuel := 10000) mm0_ok 40 (by kernel_rfl)
  | 61, _ => RunsR.execM (fr := fr) (fuel := 10000) mm0_ok 40 (by kernel_rfl)
  | 62, _ => RunsR.execM (fr := fr) (fuel := 10000) mm0_ok 40 (by kernel_rfl)
  | 63, _ => RunsR.execM (fr := fr) (fuel := 10000) mm0_ok 40 (by kernel_rfl)
  | 64, _ => RunsR.execM (fr := fr) (fuel := 10000) mm0_ok 40 (by kernel_rfl)
  | 65, _ => RunsR.execM (fr := fr) (fuel := 10000) mm0_ok 40 (by kernel_rfl)
  | 66, _ => RunsR.execM (fr := fr) (fuel := 10000) mm0_ok 40 (by kernel_rfl)
  | 67, _ => RunsR.execM (fr := fr) (fuel := 10000) mm0_ok 40 (by kernel_rfl)
  | 68, _ => RunsR.execM (fr := fr) (fuel := 10000) mm0_ok 40 (by kernel_rfl)
  | 69, _ => RunsR.execM (fr := fr) (fuel := 10000) mm0_ok 40 (by kernel_rfl)
  | 70, _ => RunsR.execM (fr := fr) (fuel := 10000) mm0_ok 40 (by kernel_rfl)
  | 71, _ => RunsR.execM (fr := fr) (fuel := 10000) mm0_ok 40 (by kernel_rfl)
  | 72, _ => RunsR.execM (fr := fr) (fuel := 10000) mm0_ok 40 (by kernel_rfl)
  | 73, _ => RunsR.execM (fr := fr) (fuel := 10000) mm0_ok 40 (by kernel_rfl)
  | 74, _ => RunsR.execM (fr := fr) (fuel := 10000) mm0_ok 40 (by kernel_rfl)
  | 75, _ => RunsR.execM (fr := fr) (fuel := 10000) mm0_ok 40 (by kernel_rfl)
  | 76, _ => RunsR.execM (fr := fr) (fuel := 10000) mm0_ok 40 (by kernel_rfl)
  | 77, _ => RunsR.execM (fr := fr) (fuel := 10000) mm0_ok 40 (by kernel_rfl)
  | 78, _ => RunsR.execM (fr := fr) (fuel := 10000) mm0_ok 40 (by kernel_rfl)
  | 79, _ => RunsR.execM (fr := fr) (fuel := 10000) mm0_ok 40 (by kernel_rfl)
  | 80, _ => RunsR.execM (fr := fr) (fuel := 10000) mm0_ok 40 (by kernel_rfl)
  | 81, _ => RunsR.execM (fr := fr) (fuel := 10000) mm0_ok 40 (by kernel_rfl)
  | 82, _ => RunsR.execM (fr := fr) (fuel := 10000) mm0_ok 40 (by kernel_rfl)
  | 83, _ => RunsR.execM (fr := fr) (fuel := 10000) mm0_ok 40 (by kernel_rfl)
  | 84, _ => RunsR.execM (fr := fr) (fuel := 10000) mm0_ok 40 (by kernel_rfl)
  | 85, _ => RunsR.execM (fr := fr) (fuel := 10000) mm0_ok 40 (by kernel_rfl)
  | 86, _ => RunsR.execM (fr := fr) (fuel := 10000) mm0_ok 40 (by kernel_rfl)
  | 87, _ => RunsR.execM (fr := fr) (fuel := 10000) mm0_ok 40 (by kernel_rfl)
  | 88, _ => RunsR.execM (fr := fr) (fuel := 10000) mm0_ok 40 (by kernel_rfl)
  | 89, _ => RunsR.execM (fr := fr) (fuel := 10000) mm0_ok 40 (by kernel_rfl)
  | 90, _ => RunsR.execM (fr := fr) (fuel := 10000) mm0_ok 40 (by kernel_rfl)
  | 91, _ => RunsR.execM (fr := fr) (fuel := 10000) mm0_ok 40 (by kernel_rfl)
  | 92, _ => RunsR.execM (fr := fr) (fuel := 10000) mm0_ok 40 (by kernel_rfl)
  | 93, _ => RunsR.execM (fr := fr) (fuel := 10000) mm0_ok 40 (by kernel_rfl)
  | 94, _ => RunsR.execM (fr := fr) (fuel := 10000) mm0_ok 40 (by kernel_rfl)
  | 95, _ => RunsR.execM (fr := fr) (fuel := 10000) mm0_ok 40 (by kernel_rfl)
  | 96, _ => RunsR.execM (fr := fr) (fuel := 10000) mm0_ok 40 (by kernel_rfl)
  | 97, _ => RunsR.execM (fr := fr) (fuel := 10000) mm0_ok 40 (by kernel_rfl)
  | 98, _ => RunsR.execM (fr := fr) (fuel := 10000) mm0_ok 40 (by kernel_rfl)
  | 99, _ => RunsR.execM (fr := fr) (fuel := 10000) mm0_ok 40 (by kernel_rfl)
  | 100, _ => RunsR.execM (fr := fr) (fuel := 10000) mm0_ok 40 (by kernel_rfl)
  | 101, _ => RunsR.execM (fr := fr) (fuel := 10000) mm0_ok 40 (by kernel_rfl)
  | 102, _ => RunsR.execM (fr := fr) (fuel := 10000) mm0_ok 40 (by kernel_rfl)
  | 103, _ => RunsR.execM (fr := fr) (fuel := 10000) mm0_ok 40 (by kernel_rfl)
  | 104, _ => RunsR.execM (fr := fr) (fuel := 10000) mm0_ok 40 (by kernel_rfl)
  | 105, _ => RunsR.execM (fr := fr) (fuel := 10000) mm0_ok 40 (by kernel_rfl)
  | 106, _ => RunsR.execM (fr := fr) (fuel := 10000) mm0_ok 40 (by kernel_rfl)
  | 107, _ => RunsR.execM (fr := fr) (fuel := 10000) mm0_ok 40 (by kernel_rfl)
  | 108, _ => RunsR.execM (fr := fr) (fuel := 10000) mm0_ok 40 (by kernel_rfl)
  | 109, _ => RunsR.execM (fr := fr) (fuel := 10000) mm0_ok 40 (by kernel_rfl)
  | 110, _ => RunsR.execM (fr := fr) (fuel := 10000) mm0_ok 40 (by kernel_rfl)
  | 111, _ => RunsR.execM (fr := fr) (fuel := 10000) mm0_ok 40 (by kernel_rfl)
  | 112, _ => RunsR.execM (fr := fr) (fuel := 10000) mm0_ok 40 (by kernel_rfl)
  | 113, _ => RunsR.execM (fr := fr) (fuel := 10000) mm0_ok 40 (by kernel_rfl)
  | 114, _ => RunsR.execM (fr := fr) (fuel := 10000) mm0_ok 40 (by kernel_rfl)
  | 115, _ => RunsR.execM (fr := fr) (fuel := 10000) mm0_ok 40 (by kernel_rfl)
  | 116, _ => RunsR.execM (fr := fr) (fuel := 10000) mm0_ok 40 (by kernel_rfl)
  | 117, _ => RunsR.execM (fr := fr) (fuel := 10000) mm0_ok 40 (by kernel_rfl)
  | 118, _ => RunsR.execM (fr := fr) (fuel := 10000) mm0_ok 40 (by kernel_rfl)
  | 119, _ => RunsR.execM (fr := fr) (fuel := 10000) mm0_ok 40 (by kernel_rfl)
  | 120, _ => RunsR.execM (fr := fr) (fuel := 10000) mm0_ok 40 (by kernel_rfl)
  | 121, _ => RunsR.execM (fr := fr) (fuel := 10000) mm0_ok 40 (by kernel_rfl)
  | 122, _ => RunsR.execM (fr := fr) (fuel := 10000) mm0_ok 40 (by kernel_rfl)
  | 123, _ => RunsR.execM (fr := fr) (fuel := 10000) mm0_ok 40 (by kernel_rfl)
  | 124, _ => RunsR.execM (fr := fr) (fuel := 10000) mm0_ok 40 (by kernel_rfl)
  | 125, _ => RunsR.execM (fr := fr) (fuel := 10000) mm0_ok 40 (by kernel_rfl)
  | 126, _ => RunsR.execM (fr := fr) (fuel := 10000) mm0_ok 40 (by kernel_rfl)
  | 127, _ => RunsR.execM (fr := fr) (fuel := 10000) mm0_ok 40 (by kernel_rfl)
  | c + 128, h => absurd h (by omega)
end Go.Proofs.Ytimfijmkfdhlmaa


set_option linter.unusedSimpArgs false
set_option linter.unusedVariables false
namespace Go.Proofs.Ytimfijmkfdhlmaa
open Go Go.Proofs.Eng
set_option maxRecDepth 100000
set_option maxHeartbeats 4000000
def explC (c : Nat) (p : Int × Int) : Bool := c.testBit p.1.toNat || c.testBit p.2.toNat
theorem b10 : ((1 : Int) == 0) = false := rfl
theorem exl_loop (full : Bool) (c : Nat) (hc : c < 128) (m : Int) (l : List (Int × Int)) (hl : ∀ p, p ∈ l → 0 ≤ p.1 ∧ p.1 < 7 ∧ 0 ≤ p.2 ∧ p.2 < 7) (hn : l.length ≤ 1000) (K : List Fr) (Q : Out → Cfg → Prop) (x0 x4 : AV)
    (hK : l.all (explC c) = true → ∀ j3 j5 j6 j7 j11 j12 j13 j14 j15 j16 j17 j18 j19 j20 j21 j22 j23 j24 j25 j26 j27 j28 : AV, ∀ (g : Nat) (o : Option Ob), W Try.prog (RelU Try.prog xf) 0 K ⟨(x0 :: (ai (c : Int)) :: (.ptr (bkA m (ap full l))) :: j3 :: x4 :: j5 :: j6 :: j7 :: (ap full l) :: (ai l.length) :: (ai l.length) :: j11 :: j12 :: j13 :: j14 :: j15 :: j16 :: j17 :: j18 :: j19 :: j20 :: j21 :: j22 :: j23 :: j24 :: j25 :: j26 :: j27 :: j28 :: []), [(6, (g, o))]⟩ Q)
    (hR : l.all (explC c) = false → ∀ j3 j5 j6 j7 j11 j12 j13 j14 j15 j16 j17 j18 j19 j20 j21 j22 j23 j24 j25 j26 j27 j28 j10 : AV, ∀ (g : Nat) (o : Option Ob), WX Try.prog (RelU Try.prog xf) 0 K .ret ⟨(x0 :: (ai (c : Int)) :: (.ptr (bkA m (ap full l))) :: j3 :: (ab false) :: j5 :: j6 :: j7 :: (ap full l) :: (ai l.length) :: j10 :: j11 :: j12 :: j13 :: j14 :: j15 :: j16 :: j17 :: j18 :: j19 :: j20 :: j21 :: j22 :: j23 :: j24 :: j25 :: j26 :: j27 :: j28 :: []), [(6, (g, o))]⟩ Q) :
    ∀ (k i : Nat), i + k = l.length → (l.take i).all (explC c) = true → ∀ j3 j5 j6 j7 j11 j12 j13 j14 j15 j16 j17 j18 j19 j20 j21 j22 j23 j24 j25 j26 j27 j28 : AV, ∀ (g : Nat) (o : Option Ob), W Try.prog (RelU Try.prog xf) 0 (.code (.loop xf31_L0) :: .blk 0 :: .stop :: K) ⟨(x0 :: (ai (c : Int)) :: (.ptr (bkA m (ap full l))) :: j3 :: x4 :: j5 :: j6 :: j7 :: (ap full l) :: (ai l.length) :: (ai i) :: j11 :: j12 :: j13 :: j14 :: j15 :: j16 :: j17 :: j18 :: j19 :: j20 :: j21 :: j22 :: j23 :: j24 :: j25 :: j26 :: j27 :: j28 :: []), [(6, (g, o))]⟩ Q := by
  intro k
  induction k with
  | zero =>
    intro i hi ha j3 j5 j6 j7 j11 j12 j13 j14 j15 j16 j17 j18 j19 j20 j21 j22 j23 j24 j25 j26 j27 j28 g o
    have : i = l.length := by omega
    subst this
    rw [List.take_length] at ha
    have h0 : decide (l.length < l.length) = false := by simp
    refine W_loop (W_run 60 ?_)
    simp only [go_some, go_none, go_zero, nxt_op, nxt_guard, nxt_skip, nxt_region, nxt_drawn, nxt_seq, nxt_block, nxt_scope, nxt_exit, nxt_blk, nxt_lp, nxt_cond, nxt_loop, nxt_ret, nxt_stop, nxt_nil, Eng.start, frG, frF, isCall, stp, exec1, exec1K, keyA, wantedA, stepF, stF_mv, stF_bin, stF_len, stF_un, stF_pick, stF_load, stF_iadr, stF_box, stF_fadr, stF_store, stF_ext, stF_fld, stF_idx, stF_aadr, stF_app, stF_bldS, stF_slc, stF_slcA, stF_bld, stF_isnil, stF_mki, stF_mkf, stF_mkb, mapF_eq, evalF_eq, evalA, setAF, setA, setF_eq, putF_eq, lookF_eq, List.getD_cons_zero, List.getD_cons_succ, List.set_cons_zero, List.set_cons_succ, List.replicate, List.length_cons, List.length_nil, Nat.zero_add, Nat.reduceSub, Nat.reduceAdd, List.cons_append, List.nil_append, Option.getD, drop, Nat.beq, List.length_map, binV, binI, unV, if_true, Eng.asInt, Eng.part, cellsOf, toNat_cast, cast_nonneg, true_and, and_true, if_pos, giveOp, List.getElem?_cons_zero, List.getElem?_cons_succ, Bool.not_true, Bool.not_false, ofVal, eq_self, and_self, true_implies, dfF, touch, regF, quietF, pairOK, noCs, Go.Value.oneCell', decide_true, decide_false, Nat.mul_one, asBound, fullOf, Option.isSome_none, Option.isSome_some, Nat.zero_le, Bool.false_eq_true, false_implies, Int.cast_ofNat_Int, Int.reduceLT, Int.reduceLE, Int.reduceToNat, Nat.reduceMul, Int.le_refl, Eng.look, putAt, Nat.reduceEqDiff, reduceCtorEq, Nat.reduceBEq, if_false, List.all_cons, List.all_nil, tf_beq, ft_beq, lvSub, lvOK, isNone, width, solid, splice, List.take_zero, List.drop_zero, List.drop_nil, List.take_nil, List.drop_succ_cons, List.take_succ_cons, List.append_nil, beq_self_eq_true, Bool.and_true, Bool.true_and, Bool.and_self, ge_iff_le, gt_iff_lt, Nat.le_refl, Nat.reduceLeDiff, Nat.reduceLT, xf31_L0, ai, ap, lt_cast, h0]
    exact W_stop (hK ha _ _ _ _ _ _ _ _ _ _ _ _ _ _ _ _ _ _ _ _ _ _ _ _)
  | succ k ih =>
    intro i hi ha j3 j5 j6 j7 j11 j12 j13 j14 j15 j16 j17 j18 j19 j20 j21 j22 j23 j24 j25 j26 j27 j28 g o
    have h1 : i < l.length := by omega
    have h0 : decide (i < l.length) = true := decide_eq_true h1
    have hall : (l.take (i + 1)).all (explC c) = explC c (l.getD i (0, 0)) := by rw [all_take (d := (0, 0)) h1, ha, Bool.true_and]
    have next := ih (i + 1) (by omega)
    obtain ⟨p1, p2, p3, p4⟩ := hl _ (getD_mem (d := (0, 0)) h1)
    obtain ⟨q1, e1⟩ : ∃ q : Nat, (l.getD i (0, 0)).1 = (q : Int) := ⟨_, (Int.toNat_of_nonneg p1).symm⟩
    obtain ⟨q2, e2⟩ : ∃ q : Nat, (l.getD i (0, 0)).2 = (q : Int) := ⟨_, (Int.toNat_of_nonneg p3).symm⟩
    have n1 : ((q1 : Int) < 0) = False := by simp
    have n2 : ((q2 : Int) < 0) = False := by simp
    have w1 : IntKind.i64.wrap ((i : Int) + 1) = ((i + 1 : Nat) : Int) := by rw [wrap_id (by omega) (by omega)]; omega
    have H1 : IntKind.i64.wrap (((BitVec.ofInt IntKind.i64.bits ((c : Int).fdiv (2 ^ min q1 IntKind.i64.bits)) &&& BitVec.ofInt IntKind.i64.bits 1).toNat : Nat) : Int) = if c.testBit q1 then 1 else 0 := bit_eq ⟨c, hc⟩ ⟨q1, by omega⟩
    have H2 : IntKind.i64.wrap (((BitVec.ofInt IntKind.i64.bits ((c : Int).fdiv (2 ^ min q2 IntKind.i64.bits)) &&& BitVec.ofInt IntKind.i64.bits 1).toNat : Nat) : Int) = if c.testBit q2 then 1 else 0 := bit_eq ⟨c, hc⟩ ⟨q2, by omega⟩
    have hX : explC c (l.getD i (0, 0)) = (c.testBit q1 || c.testBit q2) := by unfold explC; rw [e1, e2]; rfl
    refine W_loop (W_run 160 ?_)
    cases t1 : c.testBit q1 with
    | true =>
      rw [t1, if_pos rfl] at H1
      have hit : explC c (l.getD i (0, 0)) = true := by rw [hX, t1]; rfl
      simp only [go_some, go_none, go_zero, nxt_op, nxt_guard, nxt_skip, nxt_region, nxt_drawn, nxt_seq, nxt_block, nxt_scope, nxt_exit, nxt_blk, nxt_lp, nxt_cond, nxt_loop, nxt_ret, nxt_stop, nxt_nil, Eng.start, frG, frF, isCall, stp, exec1, exec1K, keyA, wantedA, stepF, stF_mv, stF_bin, stF_len, stF_un, stF_pick, stF_load, stF_iadr, stF_box, stF_fadr, stF_store, stF_ext, stF_fld, stF_idx, stF_aadr, stF_app, stF_bldS, stF_slc, stF_slcA, stF_bld, stF_isnil, stF_mki, stF_mkf, stF_mkb, mapF_eq, evalF_eq, evalA, setAF, setA, setF_eq, putF_eq, lookF_eq, List.getD_cons_zero, List.getD_cons_succ, List.set_cons_zero, List.set_cons_succ, List.replicate, List.length_cons, List.length_nil, Nat.zero_add, Nat.reduceSub, Nat.reduceAdd, List.cons_append, List.nil_append, Option.getD, drop, Nat.beq, List.length_map, binV, binI, unV, if_true, Eng.asInt, Eng.part, cellsOf, toNat_cast, cast_nonneg, true_and, and_true, if_pos, giveOp, List.getElem?_cons_zero, List.getElem?_cons_succ, Bool.not_true, Bool.not_false, ofVal, eq_self, and_self, true_implies, dfF, touch, regF, quietF, pairOK, noCs, Go.Value.oneCell', decide_true, decide_false, Nat.mul_one, asBound, fullOf, Option.isSome_none, Option.isSome_some, Nat.zero_le, Bool.false_eq_true, false_implies, Int.cast_ofNat_Int, Int.reduceLT, Int.reduceLE, Int.reduceToNat, Nat.reduceMul, Int.le_refl, Eng.look, putAt, Nat.reduceEqDiff, reduceCtorEq, Nat.reduceBEq, if_false, List.all_cons, List.all_nil, tf_beq, ft_beq, lvSub, lvOK, isNone, width, solid, splice, List.take_zero, List.drop_zero, List.drop_nil, List.take_nil, List.drop_succ_cons, List.take_succ_cons, List.append_nil, beq_self_eq_true, Bool.and_true, Bool.true_and, Bool.and_self, ge_iff_le, gt_iff_lt, Nat.le_refl, Nat.reduceLeDiff, Nat.reduceLT, xf31_L0, ai, ap, lt_cast, h0, get_ap h1, a2, e1, e2, n1, n2, H1, H2, b10, w1]
      exact next (hall.trans hit) _ _ _ _ _ _ _ _ _ _ _ _ _ _ _ _ _ _ _ _ _ _ _ _
    | false =>
      rw [t1, if_neg (by simp)] at H1
      cases t2 : c.testBit q2 with
      | true =>
        rw [t2, if_pos rfl] at H2
        have hit : explC c (l.getD i (0, 0)) = true := by rw [hX, t1, t2]; rfl
        simp only [go_some, go_none, go_zero, nxt_op, nxt_guard, nxt_skip, nxt_region, nxt_drawn, nxt_seq, nxt_block, nxt_scope, nxt_exit, nxt_blk, nxt_lp, nxt_cond, nxt_loop, nxt_ret, nxt_stop, nxt_nil, Eng.start, frG, frF, isCall, stp, exec1, exec1K, keyA, wantedA, stepF, stF_mv, stF_bin, stF_len, stF_un, stF_pick, stF_load, stF_iadr, stF_box, stF_fadr, stF_store, stF_ext, stF_fld, stF_idx, stF_aadr, stF_app, stF_bldS, stF_slc, stF_slcA, stF_bld, stF_isnil, stF_mki, stF_mkf, stF_mkb, mapF_eq, evalF_eq, evalA, setAF, setA, setF_eq, putF_eq, lookF_eq, List.getD_cons_zero, List.getD_cons_succ, List.set_cons_zero, List.set_cons_succ, List.replicate, List.length_cons, List.length_nil, Nat.zero_add, Nat.reduceSub, Nat.reduceAdd, List.cons_append, List.nil_append, Option.getD, drop, Nat.beq, List.length_map, binV, binI, unV, if_true, Eng.asInt, Eng.part, cellsOf, toNat_cast, cast_nonneg, true_and, and_true, if_pos, giveOp, List.getElem?_cons_zero, List.getElem?_cons_succ, Bool.not_true, Bool.not_false, ofVal, eq_self, and_self, true_implies, dfF, touch, regF, quietF, pairOK, noCs, Go.Value.oneCell', decide_true, decide_false, Nat.mul_one, asBound, fullOf, Option.isSome_none, Option.isSome_some, Nat.zero_le, Bool.false_eq_true, false_implies, Int.cast_ofNat_Int, Int.reduceLT, Int.reduceLE, Int.reduceToNat, Nat.reduceMul, Int.le_refl, Eng.look, putAt, Nat.reduceEqDiff, reduceCtorEq, Nat.reduceBEq, if_false, List.all_cons, List.all_nil, tf_beq, ft_beq, lvSub, lvOK, isNone, width, solid, splice, List.take_zero, List.drop_zero, List.drop_nil, List.take_nil, List.drop_succ_cons, List.take_succ_cons, List.append_nil, beq_self_eq_true, Bool.and_true, Bool.true_and, Bool.and_self, ge_iff_le, gt_iff_lt, Nat.le_refl, Nat.reduceLeDiff, Nat.reduceLT, xf31_L0, ai, ap, lt_cast, h0, get_ap h1, a2, e1, e2, n1, n2, H1, H2, b10, w1]
        exact next (hall.trans hit) _ _ _ _ _ _ _ _ _ _ _ _ _ _ _ _ _ _ _ _ _ _ _ _
      | false =>
        rw [t2, if_neg (by simp)] at H2
        have hbad : l.all (explC c) = false := all_bad h1 (d := (0, 0)) (by rw [hX, t1, t2]; rfl)
        simp only [go_some, go_none, go_zero, nxt_op, nxt_guard, nxt_skip, nxt_region, nxt_drawn, nxt_seq, nxt_block, nxt_scope, nxt_exit, nxt_blk, nxt_lp, nxt_cond, nxt_loop, nxt_ret, nxt_stop, nxt_nil, Eng.start, frG, frF, isCall, stp, exec1, exec1K, keyA, wantedA, stepF, stF_mv, stF_bin, stF_len, stF_un, stF_pick, stF_load, stF_iadr, stF_box, stF_fadr, stF_store, stF_ext, stF_fld, stF_idx, stF_aadr, stF_app, stF_bldS, stF_slc, stF_slcA, stF_bld, stF_isnil, stF_mki, stF_mkf, stF_mkb, mapF_eq, evalF_eq, evalA, setAF, setA, setF_eq, putF_eq, lookF_eq, List.getD_cons_zero, List.getD_cons_succ, List.set_cons_zero, List.set_cons_succ, List.replicate, List.length_cons, List.length_nil, Nat.zero_add, Nat.reduceSub, Nat.reduceAdd, List.cons_append, List.nil_append, Option.getD, drop, Nat.beq, List.length_map, binV, binI, unV, if_true, Eng.asInt, Eng.part, cellsOf, toNat_cast, cast_nonneg, true_and, and_true, if_pos, giveOp, List.getElem?_cons_zero, List.getElem?_cons_succ, Bool.not_true, Bool.not_false, ofVal, eq_self, and_self, true_implies, dfF, touch, regF, quietF, pairOK, noCs, Go.Value.oneCell', decide_true, decide_false, Nat.mul_one, asBound, fullOf, Option.isSome_none, Option.isSome_some, Nat.zero_le, Bool.false_eq_true, false_implies, Int.cast_ofNat_Int, Int.reduceLT, Int.reduceLE, Int.reduceToNat, Nat.reduceMul, Int.le_refl, Eng.look, putAt, Nat.reduceEqDiff, reduceCtorEq, Nat.reduceBEq, if_false, List.all_cons, List.all_nil, tf_beq, ft_beq, lvSub, lvOK, isNone, width, solid, splice, List.take_zero, List.drop_zero, List.drop_nil, List.take_nil, List.drop_succ_cons, List.take_succ_cons, List.append_nil, beq_self_eq_true, Bool.and_true, Bool.true_and, Bool.and_self, ge_iff_le, gt_iff_lt, Nat.le_refl, Nat.reduceLeDiff, Nat.reduceLT, xf31_L0, ai, ap, lt_cast, h0, get_ap h1, a2, e1, e2, n1, n2, H1, H2, b10, w1]
        exact W_ret1 (WX_pop (hR hbad _ _ _ _ _ _ _ _ _ _ _ _ _ _ _ _ _ _ _ _ _ _ _ _ _))
theorem exl_run {pv : AV} {l : List (Int × Int)} (hx : isP pv l) (c : Nat) (hc : c < 128) (m : Int) (hl : ∀ p, p ∈ l → 0 ≤ p.1 ∧ p.1 < 7 ∧ 0 ≤ p.2 ∧ p.2 < 7) (hn : l.length ≤ 1000) : Runs Try.prog xf 31 [bkA m pv, ai (c : Int)] (ab (l.all (explC c))) := by
  refine Runs.ofW (fn := xf31) 20 (by kernel_rfl) (W_run 60 ?_)
  rcases hx.cas with ep | ⟨fp, ep⟩
  · obtain ⟨ep, el⟩ := ep; subst ep; subst el
    simp only [go_some, go_none, go_zero, nxt_op, nxt_guard, nxt_skip, nxt_region, nxt_drawn, nxt_seq, nxt_block, nxt_scope, nxt_exit, nxt_blk, nxt_lp, nxt_cond, nxt_loop, nxt_ret, nxt_stop, nxt_nil, Eng.start, frG, frF, isCall, stp, exec1, exec1K, keyA, wantedA, stepF, stF_mv, stF_bin, stF_len, stF_un, stF_pick, stF_load, stF_iadr, stF_box, stF_fadr, stF_store, stF_ext, stF_fld, stF_idx, stF_aadr, stF_app, stF_bldS, stF_slc, stF_slcA, stF_bld, stF_isnil, stF_mki, stF_mkf, stF_mkb, mapF_eq, evalF_eq, evalA, setAF, setA, setF_eq, putF_eq, lookF_eq, List.getD_cons_zero, List.getD_cons_succ, List.set_cons_zero, List.set_cons_succ, List.replicate, List.length_cons, List.length_nil, Nat.zero_add, Nat.reduceSub, Nat.reduceAdd, List.cons_append, List.nil_append, Option.getD, drop, Nat.beq, List.length_map, binV, binI, unV, if_true, Eng.asInt, Eng.part, cellsOf, toNat_cast, cast_nonneg, true_and, and_true, if_pos, giveOp, List.getElem?_cons_zero, List.getElem?_cons_succ, Bool.not_true, Bool.not_false, ofVal, eq_self, and_self, true_implies, dfF, touch, regF, quietF, pairOK, noCs, Go.Value.oneCell', decide_true, decide_false, Nat.mul_one, asBound, fullOf, Option.isSome_none, Option.isSome_some, Nat.zero_le, Bool.false_eq_true, false_implies, Int.cast_ofNat_Int, Int.reduceLT, Int.reduceLE, Int.reduceToNat, Nat.reduceMul, Int.le_refl, Eng.look, putAt, Nat.reduceEqDiff, reduceCtorEq, Nat.reduceBEq, if_false, List.all_cons, List.all_nil, tf_beq, ft_beq, lvSub, lvOK, isNone, width, solid, splice, List.take_zero, List.drop_zero, List.drop_nil, List.take_nil, List.drop_succ_cons, List.take_succ_cons, List.append_nil, beq_self_eq_true, Bool.and_true, Bool.true_and, Bool.and_self, ge_iff_le, gt_iff_lt, Nat.le_refl, Nat.reduceLeDiff, Nat.reduceLT, xf31, bkA, ai, nilA]
    refine W_loop (W_run 60 ?_)
    simp only [go_some, go_none, go_zero, nxt_op, nxt_guard, nxt_skip, nxt_region, nxt_drawn, nxt_seq, nxt_block, nxt_scope, nxt_exit, nxt_blk, nxt_lp, nxt_cond, nxt_loop, nxt_ret, nxt_stop, nxt_nil, Eng.start, frG, frF, isCall, stp, exec1, exec1K, keyA, wantedA, stepF, stF_mv, stF_bin, stF_len, stF_un, stF_pick, stF_load, stF_iadr, stF_box, stF_fadr, stF_store, stF_ext, stF_fld, stF_idx, stF_aadr, stF_app, stF_bldS, stF_slc, stF_slcA, stF_bld, stF_isnil, stF_mki, stF_mkf, stF_mkb, mapF_eq, evalF_eq, evalA, setAF, setA, setF_eq, putF_eq, lookF_eq, List.getD_cons_zero, List.getD_cons_succ, List.set_cons_zero, List.set_cons_succ, List.replicate, List.length_cons, List.length_nil, Nat.zero_add, Nat.reduceSub, Nat.reduceAdd, List.cons_append, List.nil_append, Option.getD, drop, Nat.beq, List.length_map, binV, binI, unV, if_true, Eng.asInt, Eng.part, cellsOf, toNat_cast, cast_nonneg, true_and, and_true, if_pos, giveOp, List.getElem?_cons_zero, List.getElem?_cons_succ, Bool.not_true, Bool.not_false, ofVal, eq_self, and_self, true_implies, dfF, touch, regF, quietF, pairOK, noCs, Go.Value.oneCell', decide_true, decide_false, Nat.mul_one, asBound, fullOf, Option.isSome_none, Option.isSome_some, Nat.zero_le, Bool.false_eq_true, false_implies, Int.cast_ofNat_Int, Int.reduceLT, Int.reduceLE, Int.reduceToNat, Nat.reduceMul, Int.le_refl, Eng.look, putAt, Nat.reduceEqDiff, reduceCtorEq, Nat.reduceBEq, if_false, List.all_cons, List.all_nil, tf_beq, ft_beq, lvSub, lvOK, isNone, width, solid, splice, List.take_zero, List.drop_zero, List.drop_nil, List.take_nil, List.drop_succ_cons, List.take_succ_cons, List.append_nil, beq_self_eq_true, Bool.and_true, Bool.true_and, Bool.and_self, ge_iff_le, gt_iff_lt, Nat.le_refl, Nat.reduceLeDiff, Nat.reduceLT, xf31_L0, xf31_R0, d00, ai]
    exact W_ret1 (WX_pop (WX_nil ⟨.inl rfl, _, rfl, rfl⟩))
  · subst ep
    simp only [go_some, go_none, go_zero, nxt_op, nxt_guard, nxt_skip, nxt_region, nxt_drawn, nxt_seq, nxt_block, nxt_scope, nxt_exit, nxt_blk, nxt_lp, nxt_cond, nxt_loop, nxt_ret, nxt_stop, nxt_nil, Eng.start, frG, frF, isCall, stp, exec1, exec1K, keyA, wantedA, stepF, stF_mv, stF_bin, stF_len, stF_un, stF_pick, stF_load, stF_iadr, stF_box, stF_fadr, stF_store, stF_ext, stF_fld, stF_idx, stF_aadr, stF_app, stF_bldS, stF_slc, stF_slcA, stF_bld, stF_isnil, stF_mki, stF_mkf, stF_mkb, mapF_eq, evalF_eq, evalA, setAF, setA, setF_eq, putF_eq, lookF_eq, List.getD_cons_zero, List.getD_cons_succ, List.set_cons_zero, List.set_cons_succ, List.replicate, List.length_cons, List.length_nil, Nat.zero_add, Nat.reduceSub, Nat.reduceAdd, List.cons_append, List.nil_append, Option.getD, drop, Nat.beq, List.length_map, binV, binI, unV, if_true, Eng.asInt, Eng.part, cellsOf, toNat_cast, cast_nonneg, true_and, and_true, if_pos, giveOp, List.getElem?_cons_zero, List.getElem?_cons_succ, Bool.not_true, Bool.not_false, ofVal, eq_self, and_self, true_implies, dfF, touch, regF, quietF, pairOK, noCs, Go.Value.oneCell', decide_true, decide_false, Nat.mul_one, asBound, fullOf, Option.isSome_none, Option.isSome_some, Nat.zero_le, Bool.false_eq_true, false_implies, Int.cast_ofNat_Int, Int.reduceLT, Int.reduceLE, Int.reduceToNat, Nat.reduceMul, Int.le_refl, Eng.look, putAt, Nat.reduceEqDiff, reduceCtorEq, Nat.reduceBEq, if_false, List.all_cons, List.all_nil, tf_beq, ft_beq, lvSub, lvOK, isNone, width, solid, splice, List.take_zero, List.drop_zero, List.drop_nil, List.take_nil, List.drop_succ_cons, List.take_succ_cons, List.append_nil, beq_self_eq_true, Bool.and_true, Bool.true_and, Bool.and_self, ge_iff_le, gt_iff_lt, Nat.le_refl, Nat.reduceLeDiff, Nat.reduceLT, xf31, bkA, ai, ap]
    refine W_alone (W_named6 (exl_loop fp c hc m l hl hn _ _ _ _ (fun ha j3 j5 j6 j7 j11 j12 j13 j14 j15 j16 j17 j18 j19 j20 j21 j22 j23 j24 j25 j26 j27 j28 g o => W_run 60 ?_) (fun ha j3 j5 j6 j7 j11 j12 j13 j14 j15 j16 j17 j18 j19 j20 j21 j22 j23 j24 j25 j26 j27 j28 j10 g o => ?_) l.length 0 (by omega) (by simp) _ _ _ _ _ _ _ _ _ _ _ _ _ _ _ _ _ _ _ _ _ _ 0 none))
    · simp only [go_some, go_none, go_zero, nxt_op, nxt_guard, nxt_skip, nxt_region, nxt_drawn, nxt_seq, nxt_block, nxt_scope, nxt_exit, nxt_blk, nxt_lp, nxt_cond, nxt_loop, nxt_ret, nxt_stop, nxt_nil, Eng.start, frG, frF, isCall, stp, exec1, exec1K, keyA, wantedA, stepF, stF_mv, stF_bin, stF_len, stF_un, stF_pick, stF_load, stF_iadr, stF_box, stF_fadr, stF_store, stF_ext, stF_fld, stF_idx, stF_aadr, stF_app, stF_bldS, stF_slc, stF_slcA, stF_bld, stF_isnil, stF_mki, stF_mkf, stF_mkb, mapF_eq, evalF_eq, evalA, setAF, setA, setF_eq, putF_eq, lookF_eq, List.getD_cons_zero, List.getD_cons_succ, List.set_cons_zero, List.set_cons_succ, List.replicate, List.length_cons, List.length_nil, Nat.zero_add, Nat.reduceSub, Nat.reduceAdd, List.cons_append, List.nil_append, Option.getD, drop, Nat.beq, List.length_map, binV, binI, unV, if_true, Eng.asInt, Eng.part, cellsOf, toNat_cast, cast_nonneg, true_and, and_true, if_pos, giveOp, List.getElem?_cons_zero, List.getElem?_cons_succ, Bool.not_true, Bool.not_false, ofVal, eq_self, and_self, true_implies, dfF, touch, regF, quietF, pairOK, noCs, Go.Value.oneCell', decide_true, decide_false, Nat.mul_one, asBound, fullOf, Option.isSome_none, Option.isSome_some, Nat.zero_le, Bool.false_eq_true, false_implies, Int.cast_ofNat_Int, Int.reduceLT, Int.reduceLE, Int.reduceToNat, Nat.reduceMul, Int.le_refl, Eng.look, putAt, Nat.reduceEqDiff, reduceCtorEq, Nat.reduceBEq, if_false, List.all_cons, List.all_nil, tf_beq, ft_beq, lvSub, lvOK, isNone, width, solid, splice, List.take_zero, List.drop_zero, List.drop_nil, List.take_nil, List.drop_succ_cons, List.take_succ_cons, List.append_nil, beq_self_eq_true, Bool.and_true, Bool.true_and, Bool.and_self, ge_iff_le, gt_iff_lt, Nat.le_refl, Nat.reduceLeDiff, Nat.reduceLT, xf31_R0, ai]
      exact W_ret1 (WX_pop (WX_nil ⟨.inl rfl, _, rfl, by rw [ha]; rfl⟩))
    · exact WX_pop (WX_nil ⟨.inl rfl, _, rfl, by rw [ha]; rfl⟩)
/-! ### sets and lists -/
theorem mem_memb {c q : Nat} (hq : q < 7) : (q : Int) ∈ memb c ↔ c.testBit q = true := by
  unfold memb
  simp only [List.mem_map, List.mem_filter, List.mem_range]
  constructor
  · rintro ⟨a, ⟨_, h⟩, e⟩
    have : a = q := by omega
    subst this; exact h
  · intro h
    exact ⟨q, ⟨hq, h⟩, rfl⟩
theorem expl_memb {l : List (Int × Int)} {c : Nat} (hl : ∀ p, p ∈ l → 0 ≤ p.1 ∧ p.1 < 7 ∧ 0 ≤ p.2 ∧ p.2 < 7) : explB l (memb c) = l.all (explC c) := by
  unfold explB
  rw [Bool.eq_iff_iff, List.all_eq_true, List.all_eq_true]
  have key : ∀ q : Int, 0 ≤ q → q < 7 → memD (memb c) q = c.testBit q.toNat := fun q h0 h7 => by
    rw [Bool.eq_iff_iff, memD_iff, ← mem_memb (by omega), Int.toNat_of_nonneg h0]
  constructor
  · intro h p hp
    obtain ⟨h1, h2, h3, h4⟩ := hl p hp
    have := h p hp
    simp only [hitB, key _ h1 h2, key _ h3 h4] at this
    exact this
  · intro h p hp
    obtain ⟨h1, h2, h3, h4⟩ := hl p hp
    have := h p hp
    simp only [hitB, key _ h1 h2, key _ h3 h4]
    exact this
theorem mem_fnd {n : Nat} {l : List (Int × Int)} : ∀ (e : List Nat) (a : Nat) (w : List Int), e.Pairwise (· < ·) → (∀ x, x ∈ e → a ≤ x ∧ x < n) → explB l (w ++ e.map fun (x : Nat) => (x : Int)) = true → (w ++ e.map fun (x : Nat) => (x : Int)) ∈ fnd n l e.length a w
  | [], a, w, _, _, h => by
    simp only [List.map_nil, List.append_nil] at h ⊢
    show w ∈ fnd n l 0 a w
    unfold fnd
    rw [if_pos h]; exact List.mem_singleton.2 rfl
  | x :: e, a, w, hs, hb, h => by
    obtain ⟨h1, h2⟩ := List.pairwise_cons.1 hs
    have e1 : w ++ (x :: e).map (fun (x : Nat) => (x : Int)) = (w ++ [(x : Int)]) ++ e.map fun (x : Nat) => (x : Int) := by simp
    rw [e1] at h ⊢
    obtain ⟨b1, b2⟩ := hb x List.mem_cons_self
    show _ ∈ (List.range' a (n - a)).flatMap fun y => fnd n l e.length (y + 1) (w ++ [(y : Int)])
    exact List.mem_flatMap.2 ⟨x, List.mem_range'_1.2 ⟨b1, by omega⟩, mem_fnd e (x + 1) _ h2 (fun y hy => ⟨h1 y hy, (hb y (List.mem_cons_of_mem _ hy)).2⟩) h⟩
theorem fnd_length {n : Nat} {l : List (Int × Int)} : ∀ (k a : Nat) (w f : List Int), f ∈ fnd n l k a w → f.length = w.length + k
  | 0, a, w, f, h => by
    unfold fnd at h
    split at h
    · rw [List.mem_singleton.1 h]; rfl
    · cases h
  | k + 1, a, w, f, h => by
    have h : f ∈ (List.range' a (n - a)).flatMap fun y => fnd n l k (y + 1) (w ++ [(y : Int)]) := h
    obtain ⟨y, _, hy⟩ := List.mem_flatMap.1 h
    have := fnd_length k _ _ f hy
    simp at this; omega
theorem sht_short {n : Nat} {l : List (Int × Int)} {k : Nat} (hk : fnd n l k 0 [] ≠ []) : ∀ (d s : Nat), s ≤ k → k ≤ s + d → ∀ f, f ∈ shtL n l d s → f.length ≤ k
  | 0, s, h1, h2, f, hf => by
    have := fnd_length _ _ _ f (show f ∈ fnd n l s 0 [] from hf)
    simp at this; omega
  | d + 1, s, h1, h2, f, hf => by
    unfold shtL at hf
    split at hf
    · rename_i h3
      have : s ≠ k := fun e => hk (by rw [← e]; exact h3)
      exact sht_short hk d (s + 1) (by omega) (by omega) f hf
    · have := fnd_length _ _ _ f hf
      simp at this; omega
theorem sht_ne {n : Nat} {l : List (Int × Int)} {k : Nat} (hk : fnd n l k 0 [] ≠ []) : ∀ (d s : Nat), s + d = k → shtL n l d s ≠ []
  | 0, s, h => by
    have : s = k := by omega
    subst this; exact hk
  | d + 1, s, h => by
    unfold shtL
    split
    · exact sht_ne hk d (s + 1) (by omega)
    · assumption
theorem memb_sorted (c : Nat) : ((List.range 7).filter fun i => c.testBit i).Pairwise (· < ·) := List.Pairwise.filter _ List.pairwise_lt_range
theorem fnd_memb {n : Nat} {l : List (Int × Int)} {c : Nat} (hc : c < 2 ^ n) (hl : ∀ p, p ∈ l → 0 ≤ p.1 ∧ p.1 < 7 ∧ 0 ≤ p.2 ∧ p.2 < 7) (he : l.all (explC c) = true) : fnd n l (memb c).length 0 [] ≠ [] := by
  have h := mem_fnd (n := n) (l := l) ((List.range 7).filter fun i => c.testBit i) 0 [] (memb_sorted c) (fun x hx => ⟨Nat.zero_le _, ?_⟩) (by rw [List.nil_append]; exact (expl_memb hl).trans he)
  · intro e
    have e2 : (memb c).length = ((List.range 7).filter fun i => c.testBit i).length := by unfold memb; rw [List.length_map]
    rw [e2] at e
    rw [e] at h; cases h
  · have := (List.mem_filter.1 hx).2
    rcases Nat.lt_or_ge x n with q | q
    · exact q
    · exfalso
      have hlt : c < 2 ^ x := Nat.lt_of_lt_of_le hc (Nat.pow_le_pow_right (by omega) q)
      rw [Nat.testBit_lt_two_pow hlt] at this
      cases this
theorem full_ne {n : Nat} (hn : n ≤ 7) {l : List (Int × Int)} (hl : ∀ p, p ∈ l → 0 ≤ p.1 ∧ p.1 < p.2 ∧ p.2 < n) : fnd n l n 0 [] ≠ [] := by
  have h7 : ∀ p, p ∈ l → 0 ≤ p.1 ∧ p.1 < 7 ∧ 0 ≤ p.2 ∧ p.2 < 7 := fun p hp => by have := hl p hp; omega
  have hlen : ∀ n : Fin 8, (memb (2 ^ n.val - 1)).length = n.val := by decide +kernel
  have h := fnd_memb (n := n) (l := l) (c := 2 ^ n - 1) (by have := Nat.one_le_two_pow (n := n); omega) h7 (List.all_eq_true.2 fun p hp => ?_)
  · rw [hlen ⟨n, by omega⟩] at h; exact h
  · have := hl p hp
    unfold explC
    rw [Nat.testBit_two_pow_sub_one, decide_eq_true (show p.1.toNat < n by omega)]; rfl
/-- the orders of a set's list, and of one with an article that there is not -/
theorem ord_memb : ∀ n : Fin 8, ∀ c : Fin 128, 1 ≤ n.val → c.val < 2 ^ n.val → ordL (n.val : Int) (memb c.val) (memb c.val).length 0 = 0 ∧ ordL (n.val : Int) (memb c.val ++ [(n.val : Int)]) (memb c.val ++ [(n.val : Int)]).length 0 = 2 := by decide +kernel
end Go.Proofs.Ytimfijmkfdhlmaa

