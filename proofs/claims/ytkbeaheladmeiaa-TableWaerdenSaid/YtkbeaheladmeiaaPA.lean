/-
  The greater and the lesser of two numbers; lists of numbers; calls of functions as values.
-/
import Derived.Test.YtkbeaheladmeiaaXV
import Derived.Test.YtkbeaheladmeiaaEngT
import Derived.WalkKit
set_option linter.unusedSimpArgs false
set_option linter.unusedVariables false
namespace Go.Proofs.Ytkbeaheladmeiaa
open Go Go.Proofs.Eng
set_option maxRecDepth 100000
set_option maxHeartbeats 1000000
/-- the rules by which a stack is carried on, in one -/
theorem SA : type_of% (
  And.intro @Eng.go_some (And.intro @Eng.go_none (And.intro @Eng.go_zero (And.intro @Eng.nxt_op (And.intro @Eng.nxt_guard (And.intro @Eng.nxt_skip (And.intro @Eng.nxt_label (And.intro @Eng.nxt_region (
  And.intro @Eng.nxt_drawn (And.intro @Eng.nxt_seq (And.intro @Eng.nxt_block (And.intro @Eng.nxt_scope (And.intro @Eng.nxt_exit (And.intro @Eng.nxt_blk (And.intro @Eng.nxt_lp (And.intro @Eng.nxt_cond (
  And.intro @Eng.nxt_loop (And.intro @Eng.nxt_ret (And.intro @Eng.nxt_stop (And.intro @Eng.nxt_nil (And.intro @Eng.start.eq_1 (And.intro @Eng.frG.eq_1 (And.intro @Eng.frG.eq_2 (And.intro @Eng.frF.eq_1 (
  And.intro @Eng.frF.eq_2 (And.intro @Eng.isCall.eq_1 (And.intro @Eng.isCall.eq_2 (And.intro @Eng.isCall.eq_3 (And.intro @Eng.isCall.eq_4 (And.intro @Eng.stp.eq_1 (And.intro @Eng.stp.eq_2 (And.intro @Eng.exec1.eq_1 (
  And.intro @Eng.exec1K.eq_1 (And.intro @Eng.dK.eq_1 (And.intro @Eng.keyA.eq_1 (And.intro @Eng.keyA.eq_2 (And.intro @Eng.keyA.eq_3 (And.intro @Eng.keyA.eq_4 (And.intro @Eng.keyA.eq_5 (And.intro @Eng.keyA.eq_6 (
  And.intro @Eng.keyA.eq_7 (And.intro @Eng.keyA.eq_8 (And.intro @Eng.keyA.eq_9 (And.intro @Eng.keyA.eq_10 (And.intro @Eng.keyA.eq_11 (And.intro @Eng.keyA.eq_12 (And.intro @Eng.keyA.eq_13 (And.intro @Eng.keyA.eq_14 (
  And.intro @Eng.keyA.eq_15 (And.intro @Eng.wantedA.eq_1 (And.intro @Eng.wantedA.eq_2 (And.intro @Eng.stepF.eq_1 (And.intro @Eng.stepF.eq_2 (And.intro @Eng.stepF.eq_3 (And.intro @Eng.stepF.eq_4 (And.intro @Eng.stepF.eq_5 (
  And.intro @Eng.stepF.eq_6 (And.intro @Eng.stepF.eq_7 (And.intro @Eng.stepF.eq_8 (And.intro @Eng.stepF.eq_9 (And.intro @Eng.stepF.eq_10 (And.intro @Eng.stepF.eq_11 (And.intro @Eng.stepF.eq_12 (And.intro @Eng.stepF.eq_13 (
  And.intro @Eng.stepF.eq_14 (And.intro @Eng.stepF.eq_15 (And.intro @Eng.stepF.eq_16 (And.intro @Eng.stepF.eq_17 (And.intro @Eng.stepF.eq_18 (And.intro @Eng.stepF.eq_19 (And.intro @Eng.stepF.eq_20 (And.intro @Eng.stepF.eq_21 (
  And.intro @Eng.stepF.eq_22 (And.intro @Eng.stepF.eq_23 (And.intro @Eng.stepF.eq_24 (And.intro @Eng.stepF.eq_25 (And.intro @Eng.stepF.eq_26 (And.intro @Eng.stepF.eq_27 (And.intro @Eng.stepF.eq_28 (And.intro @Eng.stepF.eq_29 (
  And.intro @Eng.stepF.eq_30 (And.intro @Eng.stepF.eq_31 (And.intro @Eng.stepF.eq_32 (And.intro @Eng.stepF.eq_33 (And.intro @Eng.stepF.eq_34 (And.intro @Eng.stepF.eq_35 (And.intro @Eng.stepF.eq_36 (And.intro @Eng.stepF.eq_37 (
  And.intro @Eng.stepF.eq_38 (And.intro @Eng.stepF.eq_39 (And.intro @Eng.stepF.eq_40 (And.intro @Eng.stepF.eq_41 (And.intro @Eng.stepF.eq_42 (And.intro @Eng.stepF.eq_43 (And.intro @Eng.stepF.eq_44 (And.intro @Eng.stF_mv.eq_1 (
  And.intro @Eng.stF_bin.eq_1 (And.intro @Eng.stF_len.eq_1 (And.intro @Eng.stF_un.eq_1 (And.intro @Eng.stF_pick.eq_1 (And.intro @Eng.stF_load.eq_1 (And.intro @Eng.stF_iadr.eq_1 (And.intro @Eng.stF_box.eq_1 (And.intro @Eng.stF_box.eq_2 (
  And.intro @Eng.stF_fadr.eq_1 (And.intro @Eng.stF_store.eq_1 (And.intro @Eng.stF_ext.eq_1 (And.intro @Eng.stF_fld.eq_1 (And.intro @Eng.stF_idx.eq_1 (And.intro @Eng.stF_aadr.eq_1 (And.intro @Eng.stF_app.eq_1 (And.intro @Eng.stF_bldS.eq_1 (
  And.intro @Eng.stF_bldS.eq_2 (And.intro @Eng.stF_slc.eq_1 (And.intro @Eng.stF_slcA.eq_1 (And.intro @Eng.stF_bld.eq_1 (And.intro @Eng.stF_isnil.eq_1 (And.intro @Eng.stF_mki.eq_1 (And.intro @Eng.stF_mkf.eq_1 (And.intro @Eng.stF_mkb.eq_1 (
  And.intro @Eng.stF_nilc.eq_1 (And.intro @Eng.stF_mks.eq_1 (And.intro @Eng.stF_tas.eq_1 (And.intro @Eng.mapF_eq (And.intro @Eng.evalF_eq (And.intro @Eng.evalA.eq_1 (And.intro @Eng.evalA.eq_2 (And.intro @Eng.setAF.eq_1 (
  And.intro @Eng.setAF.eq_2 (And.intro @Eng.setA.eq_1 (And.intro @Eng.setA.eq_2 (And.intro @Eng.setF_eq (And.intro @Eng.putF_eq (And.intro @Eng.lookF_eq (And.intro @_root_.List.getD_cons_zero.{0} (And.intro @_root_.List.getD_cons_succ.{0} (
  And.intro @_root_.List.set_cons_zero.{0} (And.intro @_root_.List.set_cons_succ.{0} (And.intro @_root_.List.replicate.eq_1.{0} (And.intro @_root_.List.replicate.eq_2.{0} (And.intro @_root_.List.length_cons.{0} (And.intro @_root_.List.length_nil.{0} (And.intro @_root_.Nat.zero_add (And.intro @_root_.List.cons_append.{0} (
  And.intro @_root_.List.nil_append.{0} (And.intro @_root_.Option.getD.eq_1.{0} (And.intro @_root_.Option.getD.eq_2.{0} (And.intro @Eng.drop.eq_1 (And.intro @Eng.drop.eq_2 (And.intro @Eng.drop.eq_3 (And.intro @Eng.drop.eq_4 (And.intro @Eng.drop.eq_5 (
  And.intro @Eng.drop.eq_6 (And.intro @Eng.drop.eq_7 (And.intro @Eng.drop.eq_8 (And.intro @_root_.Nat.beq.eq_1 (And.intro @_root_.Nat.beq.eq_2 (And.intro @_root_.Nat.beq.eq_3 (And.intro @_root_.Nat.beq.eq_4 (And.intro @_root_.List.length_map.{0, 0} (
  And.intro @Eng.binV.eq_1 (And.intro @Eng.binV.eq_2 (And.intro @Eng.binV.eq_3 (And.intro @Eng.binV.eq_4 (And.intro @Eng.binV.eq_5 (And.intro @Eng.binI.eq_1 (And.intro @Eng.binI.eq_2 (And.intro @Eng.binI.eq_3 (
  And.intro @Eng.binI.eq_4 (And.intro @Eng.binI.eq_5 (And.intro @Eng.binI.eq_6 (And.intro @Eng.binI.eq_7 (And.intro @Eng.binI.eq_8 (And.intro @Eng.binI.eq_9 (And.intro @Eng.binI.eq_10 (And.intro @Eng.binI.eq_11 (
  And.intro @Eng.binI.eq_12 (And.intro @Eng.binI.eq_13 (And.intro @Eng.binI.eq_14 (And.intro @Eng.binI.eq_15 (And.intro @Eng.binI.eq_16 (And.intro @Eng.unV.eq_1 (And.intro @Eng.unV.eq_2 (And.intro @Eng.unV.eq_3 (
  And.intro @_root_.if_true.{1} (And.intro @Eng.asInt.eq_1 (And.intro @Eng.asInt.eq_2 (And.intro @Eng.part.eq_1 (And.intro @Eng.part.eq_2 (And.intro @Eng.cellsOf.eq_1 (And.intro @Eng.cellsOf.eq_2 (And.intro @Eng.toNat_cast (
  And.intro @Eng.cast_nonneg (And.intro @_root_.true_and (And.intro @_root_.and_true (And.intro @_root_.if_pos.{1} (And.intro @Eng.giveOp.eq_1 (And.intro @Eng.gvK.eq_1 (And.intro @_root_.List.getElem?_cons_zero.{0} (And.intro @_root_.List.getElem?_cons_succ.{0} (
  And.intro @_root_.Bool.not_true (And.intro @_root_.Bool.not_false (And.intro @Eng.ofVal.eq_1 (And.intro @Eng.ofVal.eq_2 (And.intro @_root_.eq_self.{1} (And.intro @_root_.and_self (And.intro @_root_.true_implies (And.intro @Eng.dfF.eq_1 (
  And.intro @Eng.dfF.eq_2 (And.intro @Eng.touch.eq_1 (And.intro @Eng.touch.eq_2 (And.intro @Eng.touch.eq_3 (And.intro @Eng.touch.eq_4 (And.intro @Eng.touch.eq_5 (And.intro @Eng.touch.eq_6 (And.intro @Eng.touch.eq_7 (
  And.intro @Eng.touch.eq_8 (And.intro @Eng.touch.eq_9 (And.intro @Eng.touch.eq_10 (And.intro @Eng.touch.eq_11 (And.intro @Eng.touch.eq_12 (And.intro @Eng.touch.eq_13 (And.intro @Eng.touch.eq_14 (And.intro @Eng.touch.eq_15 (
  And.intro @Eng.touch.eq_16 (And.intro @Eng.touch.eq_17 (And.intro @Eng.touch.eq_18 (And.intro @Eng.touch.eq_19 (And.intro @Eng.touch.eq_20 (And.intro @Eng.touch.eq_21 (And.intro @Eng.regF.eq_1 (And.intro @Eng.quietF.eq_1 (
  And.intro @Eng.quietF.eq_2 (And.intro @Eng.quietF.eq_3 (And.intro @Eng.pairOK.eq_1 (And.intro @Eng.pairOK.eq_2 (And.intro @Eng.noCs.eq_1 (And.intro @Go.Value.oneCell'.eq_1 (And.intro @Go.Value.oneCell'.eq_2 (And.intro @Go.Value.oneCell'.eq_3 (
  And.intro @_root_.decide_true (And.intro @_root_.decide_false (And.intro @_root_.Nat.mul_one (And.intro @Eng.asBound.eq_1 (And.intro @Eng.asBound.eq_2 (And.intro @Eng.fullOf.eq_1 (And.intro @Eng.fullOf.eq_2 (And.intro @_root_.Option.isSome_none.{0} (
  And.intro @_root_.Option.isSome_some.{0} (And.intro @_root_.Nat.zero_le (And.intro @_root_.Bool.false_eq_true (And.intro @_root_.false_implies (And.intro @_root_.Int.cast_ofNat_Int (And.intro @_root_.Int.le_refl (And.intro @Eng.look.eq_1 (And.intro @Eng.look.eq_2 (
  And.intro @Eng.putAt.eq_1 (And.intro @Eng.putAt.eq_2 (And.intro @_root_.if_false.{1} (And.intro @_root_.List.all_cons.{0} (And.intro @_root_.List.all_nil.{0} (And.intro @Eng.tf_beq (And.intro @Eng.ft_beq (And.intro @Eng.lvSub.eq_1 (
  And.intro @Eng.lvSub.eq_2 (And.intro @Eng.lvSub.eq_3 (And.intro @Eng.lvSub.eq_4 (And.intro @Eng.lvSub.eq_5 (And.intro @Eng.lvSub.eq_6 (And.intro @Eng.lvSub.eq_7 (And.intro @Eng.lvSub.eq_8 (And.intro @Eng.lvSub.eq_9 (
  And.intro @Eng.lvOK.eq_1 (And.intro @Eng.lvOK.eq_2 (And.intro @Eng.lvOK.eq_3 (And.intro @Eng.lvOK.eq_4 (And.intro @Eng.lvOK.eq_5 (And.intro @Eng.lvOK.eq_6 (And.intro @Eng.lvOK.eq_7 (And.intro @Eng.lvOK.eq_8 (
  And.intro @Eng.lvOK.eq_9 (And.intro @Eng.lvOK.eq_10 (And.intro @Eng.lvOK.eq_11 (And.intro @Eng.lvOK.eq_12 (And.intro @Eng.isNone.eq_1 (And.intro @Eng.isNone.eq_2 (And.intro @Eng.width.eq_1 (And.intro @Eng.solid.eq_1 (
  And.intro @Eng.solid.eq_2 (And.intro @Eng.solid.eq_3 (And.intro @Eng.solid.eq_4 (And.intro @Eng.splice.eq_1 (And.intro @_root_.List.take_zero.{0} (And.intro @_root_.List.drop_zero.{0} (And.intro @_root_.List.drop_nil.{0} (And.intro @_root_.List.take_nil.{0} (
  And.intro @_root_.List.drop_succ_cons.{0} (And.intro @_root_.List.take_succ_cons.{0} (And.intro @_root_.List.append_nil.{0} (And.intro @_root_.beq_self_eq_true.{0} (And.intro @_root_.Bool.and_true (And.intro @_root_.Bool.true_and (And.intro @_root_.Bool.and_self (And.intro @_root_.ge_iff_le.{0} (
  And.intro @_root_.gt_iff_lt.{0} (@_root_.Nat.le_refl)))))))))))))))))))))))))))))))))))))))))))))))))))))))))))))))))))))))))))))))))))))))))))))))))))))))))))))))))))))))))))))))))))))))))))))))))))))))))))))))))))))))))))))))))))))))))))))))))))))))))))))))))))))))))))))))))))))))))))))))))))))))))))))))))))))))))))))))))))))))))))))))))))))))))))))))))) :=
  And.intro @Eng.go_some (And.intro @Eng.go_none (And.intro @Eng.go_zero (And.intro @Eng.nxt_op (And.intro @Eng.nxt_guard (And.intro @Eng.nxt_skip (And.intro @Eng.nxt_label (And.intro @Eng.nxt_region (
  And.intro @Eng.nxt_drawn (And.intro @Eng.nxt_seq (And.intro @Eng.nxt_block (And.intro @Eng.nxt_scope (And.intro @Eng.nxt_exit (And.intro @Eng.nxt_blk (And.intro @Eng.nxt_lp (And.intro @Eng.nxt_cond (
  And.intro @Eng.nxt_loop (And.intro @Eng.nxt_ret (And.intro @Eng.nxt_stop (And.intro @Eng.nxt_nil (And.intro @Eng.start.eq_1 (And.intro @Eng.frG.eq_1 (And.intro @Eng.frG.eq_2 (And.intro @Eng.frF.eq_1 (
  And.intro @Eng.frF.eq_2 (And.intro @Eng.isCall.eq_1 (And.intro @Eng.isCall.eq_2 (And.intro @Eng.isCall.eq_3 (And.intro @Eng.isCall.eq_4 (And.intro @Eng.stp.eq_1 (And.intro @Eng.stp.eq_2 (And.intro @Eng.exec1.eq_1 (
  And.intro @Eng.exec1K.eq_1 (And.intro @Eng.dK.eq_1 (And.intro @Eng.keyA.eq_1 (And.intro @Eng.keyA.eq_2 (And.intro @Eng.keyA.eq_3 (And.intro @Eng.keyA.eq_4 (And.intro @Eng.keyA.eq_5 (And.intro @Eng.keyA.eq_6 (
  And.intro @Eng.keyA.eq_7 (And.intro @Eng.keyA.eq_8 (And.intro @Eng.keyA.eq_9 (And.intro @Eng.keyA.eq_10 (And.intro @Eng.keyA.eq_11 (And.intro @Eng.keyA.eq_12 (And.intro @Eng.keyA.eq_13 (And.intro @Eng.keyA.eq_14 (
  And.intro @Eng.keyA.eq_15 (And.intro @Eng.wantedA.eq_1 (And.intro @Eng.wantedA.eq_2 (And.intro @Eng.stepF.eq_1 (And.intro @Eng.stepF.eq_2 (And.intro @Eng.stepF.eq_3 (And.intro @Eng.stepF.eq_4 (And.intro @Eng.stepF.eq_5 (
  And.intro @Eng.stepF.eq_6 (And.intro @Eng.stepF.eq_7 (And.intro @Eng.stepF.eq_8 (And.intro @Eng.stepF.eq_9 (And.intro @Eng.stepF.eq_10 (And.intro @Eng.stepF.eq_11 (And.intro @Eng.stepF.eq_12 (And.intro @Eng.stepF.eq_13 (
  And.intro @Eng.stepF.eq_14 (And.intro @Eng.stepF.eq_15 (And.intro @Eng.stepF.eq_16 (And.intro @Eng.stepF.eq_17 (And.intro @Eng.stepF.eq_18 (And.intro @Eng.stepF.eq_19 (And.intro @Eng.stepF.eq_20 (And.intro @Eng.stepF.eq_21 (
  And.intro @Eng.stepF.eq_22 (And.intro @Eng.stepF.eq_23 (And.intro @Eng.stepF.eq_24 (And.intro @Eng.stepF.eq_25 (And.intro @Eng.stepF.eq_26 (And.intro @Eng.stepF.eq_27 (And.intro @Eng.stepF.eq_28 (And.intro @Eng.stepF.eq_29 (
  And.intro @Eng.stepF.eq_30 (And.intro @Eng.stepF.eq_31 (And.intro @Eng.stepF.eq_32 (And.intro @Eng.stepF.eq_33 (And.intro @Eng.stepF.eq_34 (And.intro @Eng.stepF.eq_35 (And.intro @Eng.stepF.eq_36 (And.intro @Eng.stepF.eq_37 (
  And.intro @Eng.stepF.eq_38 (And.intro @Eng.stepF.eq_39 (And.intro @Eng.stepF.eq_40 (And.intro @Eng.stepF.eq_41 (And.intro @Eng.stepF.eq_42 (And.intro @Eng.stepF.eq_43 (And.intro @Eng.stepF.eq_44 (And.intro @Eng.stF_mv.eq_1 (
  And.intro @Eng.stF_bin.eq_1 (And.intro @Eng.stF_len.eq_1 (And.intro @Eng.stF_un.eq_1 (And.intro @Eng.stF_pick.eq_1 (And.intro @Eng.stF_load.eq_1 (And.intro @Eng.stF_iadr.eq_1 (And.intro @Eng.stF_box.eq_1 (And.intro @Eng.stF_box.eq_2 (
  And.intro @Eng.stF_fadr.eq_1 (And.intro @Eng.stF_store.eq_1 (And.intro @Eng.stF_ext.eq_1 (And.intro @Eng.stF_fld.eq_1 (And.intro @Eng.stF_idx.eq_1 (And.intro @Eng.stF_aadr.eq_1 (And.intro @Eng.stF_app.eq_1 (And.intro @Eng.stF_bldS.eq_1 (
  And.intro @Eng.stF_bldS.eq_2 (And.intro @Eng.stF_slc.eq_1 (And.intro @Eng.stF_slcA.eq_1 (And.intro @Eng.stF_bld.eq_1 (And.intro @Eng.stF_isnil.eq_1 (And.intro @Eng.stF_mki.eq_1 (And.intro @Eng.stF_mkf.eq_1 (And.intro @Eng.stF_mkb.eq_1 (
  And.intro @Eng.stF_nilc.eq_1 (And.intro @Eng.stF_mks.eq_1 (And.intro @Eng.stF_tas.eq_1 (And.intro @Eng.mapF_eq (And.intro @Eng.evalF_eq (And.intro @Eng.evalA.eq_1 (And.intro @Eng.evalA.eq_2 (And.intro @Eng.setAF.eq_1 (
  And.intro @Eng.setAF.eq_2 (And.intro @Eng.setA.eq_1 (And.intro @Eng.setA.eq_2 (And.intro @Eng.setF_eq (And.intro @Eng.putF_eq (And.intro @Eng.lookF_eq (And.intro @_root_.List.getD_cons_zero.{0} (And.intro @_root_.List.getD_cons_succ.{0} (
  And.intro @_root_.List.set_cons_zero.{0} (And.intro @_root_.List.set_cons_succ.{0} (And.intro @_root_.List.replicate.eq_1.{0} (And.intro @_root_.List.replicate.eq_2.{0} (And.intro @_root_.List.length_cons.{0} (And.intro @_root_.List.length_nil.{0} (And.intro @_root_.Nat.zero_add (And.intro @_root_.List.cons_append.{0} (
  And.intro @_root_.List.nil_append.{0} (And.intro @_root_.Option.getD.eq_1.{0} (And.intro @_root_.Option.getD.eq_2.{0} (And.intro @Eng.drop.eq_1 (And.intro @Eng.drop.eq_2 (And.intro @Eng.drop.eq_3 (And.intro @Eng.drop.eq_4 (And.intro @Eng.drop.eq_5 (
  And.intro @Eng.drop.eq_6 (And.intro @Eng.drop.eq_7 (And.intro @Eng.drop.eq_8 (And.intro @_root_.Nat.beq.eq_1 (And.intro @_root_.Nat.beq.eq_2 (And.intro @_root_.Nat.beq.eq_3 (And.intro @_root_.Nat.beq.eq_4 (And.intro @_root_.List.length_map.{0, 0} (
  And.intro @Eng.binV.eq_1 (And.intro @Eng.binV.eq_2 (And.intro @Eng.binV.eq_3 (And.intro @Eng.binV.eq_4 (And.intro @Eng.binV.eq_5 (And.intro @Eng.binI.eq_1 (And.intro @Eng.binI.eq_2 (And.intro @Eng.binI.eq_3 (
  And.intro @Eng.binI.eq_4 (And.intro @Eng.binI.eq_5 (And.intro @Eng.binI.eq_6 (And.intro @Eng.binI.eq_7 (And.intro @Eng.binI.eq_8 (And.intro @Eng.binI.eq_9 (And.intro @Eng.binI.eq_10 (And.intro @Eng.binI.eq_11 (
  And.intro @Eng.binI.eq_12 (And.intro @Eng.binI.eq_13 (And.intro @Eng.binI.eq_14 (And.intro @Eng.binI.eq_15 (And.intro @Eng.binI.eq_16 (And.intro @Eng.unV.eq_1 (And.intro @Eng.unV.eq_2 (And.intro @Eng.unV.eq_3 (
  And.intro @_root_.if_true.{1} (And.intro @Eng.asInt.eq_1 (And.intro @Eng.asInt.eq_2 (And.intro @Eng.part.eq_1 (And.intro @Eng.part.eq_2 (And.intro @Eng.cellsOf.eq_1 (And.intro @Eng.cellsOf.eq_2 (And.intro @Eng.toNat_cast (
  And.intro @Eng.cast_nonneg (And.intro @_root_.true_and (And.intro @_root_.and_true (And.intro @_root_.if_pos.{1} (And.intro @Eng.giveOp.eq_1 (And.intro @Eng.gvK.eq_1 (And.intro @_root_.List.getElem?_cons_zero.{0} (And.intro @_root_.List.getElem?_cons_succ.{0} (
  And.intro @_root_.Bool.not_true (And.intro @_root_.Bool.not_false (And.intro @Eng.ofVal.eq_1 (And.intro @Eng.ofVal.eq_2 (And.intro @_root_.eq_self.{1} (And.intro @_root_.and_self (And.intro @_root_.true_implies (And.intro @Eng.dfF.eq_1 (
  And.intro @Eng.dfF.eq_2 (And.intro @Eng.touch.eq_1 (And.intro @Eng.touch.eq_2 (And.intro @Eng.touch.eq_3 (And.intro @Eng.touch.eq_4 (And.intro @Eng.touch.eq_5 (And.intro @Eng.touch.eq_6 (And.intro @Eng.touch.eq_7 (
  And.intro @Eng.touch.eq_8 (And.intro @Eng.touch.eq_9 (And.intro @Eng.touch.eq_10 (And.intro @Eng.touch.eq_11 (And.intro @Eng.touch.eq_12 (And.intro @Eng.touch.eq_13 (And.intro @Eng.touch.eq_14 (And.intro @Eng.touch.eq_15 (
  And.intro @Eng.touch.eq_16 (And.intro @Eng.touch.eq_17 (And.intro @Eng.touch.eq_18 (And.intro @Eng.touch.eq_19 (And.intro @Eng.touch.eq_20 (And.intro @Eng.touch.eq_21 (And.intro @Eng.regF.eq_1 (And.intro @Eng.quietF.eq_1 (
  And.intro @Eng.quietF.eq_2 (And.intro @Eng.quietF.eq_3 (And.intro @Eng.pairOK.eq_1 (And.intro @Eng.pairOK.eq_2 (And.intro @Eng.noCs.eq_1 (And.intro @Go.Value.oneCell'.eq_1 (And.intro @Go.Value.oneCell'.eq_2 (And.intro @Go.Value.oneCell'.eq_3 (
  And.intro @_root_.decide_true (And.intro @_root_.decide_false (And.intro @_root_.Nat.mul_one (And.intro @Eng.asBound.eq_1 (And.intro @Eng.asBound.eq_2 (And.intro @Eng.fullOf.eq_1 (And.intro @Eng.fullOf.eq_2 (And.intro @_root_.Option.isSome_none.{0} (
  And.intro @_root_.Option.isSome_some.{0} (And.intro @_root_.Nat.zero_le (And.intro @_root_.Bool.false_eq_true (And.intro @_root_.false_implies (And.intro @_root_.Int.cast_ofNat_Int (And.intro @_root_.Int.le_refl (And.intro @Eng.look.eq_1 (And.intro @Eng.look.eq_2 (
  And.intro @Eng.putAt.eq_1 (And.intro @Eng.putAt.eq_2 (And.intro @_root_.if_false.{1} (And.intro @_root_.List.all_cons.{0} (And.intro @_root_.List.all_nil.{0} (And.intro @Eng.tf_beq (And.intro @Eng.ft_beq (And.intro @Eng.lvSub.eq_1 (
  And.intro @Eng.lvSub.eq_2 (And.intro @Eng.lvSub.eq_3 (And.intro @Eng.lvSub.eq_4 (And.intro @Eng.lvSub.eq_5 (And.intro @Eng.lvSub.eq_6 (And.intro @Eng.lvSub.eq_7 (And.intro @Eng.lvSub.eq_8 (And.intro @Eng.lvSub.eq_9 (
  And.intro @Eng.lvOK.eq_1 (And.intro @Eng.lvOK.eq_2 (And.intro @Eng.lvOK.eq_3 (And.intro @Eng.lvOK.eq_4 (And.intro @Eng.lvOK.eq_5 (And.intro @Eng.lvOK.eq_6 (And.intro @Eng.lvOK.eq_7 (And.intro @Eng.lvOK.eq_8 (
  And.intro @Eng.lvOK.eq_9 (And.intro @Eng.lvOK.eq_10 (And.intro @Eng.lvOK.eq_11 (And.intro @Eng.lvOK.eq_12 (And.intro @Eng.isNone.eq_1 (And.intro @Eng.isNone.eq_2 (And.intro @Eng.width.eq_1 (And.intro @Eng.solid.eq_1 (
  And.intro @Eng.solid.eq_2 (And.intro @Eng.solid.eq_3 (And.intro @Eng.solid.eq_4 (And.intro @Eng.splice.eq_1 (And.intro @_root_.List.take_zero.{0} (And.intro @_root_.List.drop_zero.{0} (And.intro @_root_.List.drop_nil.{0} (And.intro @_root_.List.take_nil.{0} (
  And.intro @_root_.List.drop_succ_cons.{0} (And.intro @_root_.List.take_succ_cons.{0} (And.intro @_root_.List.append_nil.{0} (And.intro @_root_.beq_self_eq_true.{0} (And.intro @_root_.Bool.and_true (And.intro @_root_.Bool.true_and (And.intro @_root_.Bool.and_self (And.intro @_root_.ge_iff_le.{0} (
  And.intro @_root_.gt_iff_lt.{0} (@_root_.Nat.le_refl)))))))))))))))))))))))))))))))))))))))))))))))))))))))))))))))))))))))))))))))))))))))))))))))))))))))))))))))))))))))))))))))))))))))))))))))))))))))))))))))))))))))))))))))))))))))))))))))))))))))))))))))))))))))))))))))))))))))))))))))))))))))))))))))))))))))))))))))))))))))))))))))))))))))))))))))))
theorem d00 : decide ((0 : Int) < 0) = false := rfl
theorem tmod_b {a n : Int} (h : 0 ≤ a) (hn : 0 < n) : 0 ≤ a.tmod n ∧ a.tmod n < n := by
  rw [Int.tmod_eq_emod_of_nonneg h]
  exact ⟨Int.emod_nonneg _ (by omega), Int.emod_lt_of_pos _ hn⟩
def nilA : AV := .v (.slice none 0 0)
def isL (x : AV) (l : List Int) : Prop := (∃ f, x = al f l) ∨ (x = nilA ∧ l = [])
theorem noRef_al (full : Bool) (l : List Int) : noRef (al full l) = true := noRefs_of fun x hx => by obtain ⟨z, _, rfl⟩ := List.mem_map.1 hx; rfl
theorem isL.ref {x : AV} {l : List Int} (h : isL x l) : noRef x = true := by
  rcases h with ⟨f, rfl⟩ | ⟨rfl, _⟩
  · exact noRef_al f l
  · rfl
theorem pureRun_bind (P : Program) {α β : Type} (s : Sem α) (f : α → Sem β) : pureRun P (s >>= f) = (pureRun P s).bind fun a => pureRun P (f a) := by
  show pureRun P (Sem.bind s f) = _
  induction s with
  | pure a => rfl
  | program k ih => exact ih P
  | _ => rfl
theorem pureRun_pure (P : Program) {α : Type} (a : α) : pureRun P (pure a : Sem α) = some a := rfl
theorem und1 : pureRun Try.prog (underlying 3) = some (.int .i64) := by kernel_rfl
def opA (σ : List AV) (x : Operand) : AV := (argT x).elim .any (evalA σ)
theorem toVal_op {σ : List AV} {x : Operand} {k : IntKind} {a : Int} (hi : opA σ x = .v (.int k a)) : ((argT x).bind fun xa => toVal (evalF σ xa)) = some (.int k a) := by
  unfold opA at hi
  cases h : argT x with
  | none => rw [h] at hi; cases hi
  | some xa =>
    rw [h] at hi
    simp only [Option.elim] at hi
    rw [Option.bind_some, evalF_eq, hi]; rfl
/-- two numbers are looked at; if there are none, whatever else -/
def rawK (x y : AV) (op : Int → Int → Int) (fb : Option Res) : Option Res :=
  match x, y with
  | .v (.int .i64 a), .v (.int .i64 b) => some (.val (.v (.int .i64 (op a b))))
  | _, _ => fb
def rawX (P : Program) (dst : Nat) (c : Cfg) (o : Op) (ty : Nat) : Option Res := stF_raw P dst c o ty
def mx2 (a b : Int) : Int := if b > a then b else a
def mn2 (a b : Int) : Int := if b < a then b else a
theorem raw_max (dst : Nat) (c : Cfg) (x y : Operand) (ts : Array TypeId) (ty : TypeId) :
    stF_raw Try.prog dst c (.call ⟨.builtin .max, #[x, y], ts⟩) ty = rawK (opA c.σ x) (opA c.σ y) mx2 (rawX Try.prog dst c (.call ⟨.builtin .max, #[x, y], ts⟩) ty) := by
  unfold rawK
  split
  · rename_i a b hi hj
    have e1 := toVal_op hi
    have e2 := toVal_op hj
    unfold stF_raw
    rw [if_pos ⟨rfl, by simp [Op.operands, Call.operands, e1, e2]⟩]
    have h3 : pureRun Try.prog (execOp (fun x => ((argT x).bind fun xa => toVal (evalF c.σ xa)).getD (.bool false)) { dst := none, op := .call ⟨.builtin .max, #[x, y], ts⟩, type := ty, pos := "", after := #[], guard := none }) = some (.value (.int .i64 (mx2 a b))) := by
      simp only [execOp, resolve, invoke, pureRun_bind, pureRun_pure, Option.bind_some, List.map_toArray, List.map_cons, List.map_nil, e1, e2, Option.getD_some]
      show pureRun Try.prog (do pure (.value (← Builtin.max_ ts ty #[.int .i64 a, .int .i64 b])) : Sem Next) = _
      rw [pureRun_bind]
      have h4 : pureRun Try.prog (Builtin.max_ ts ty #[.int .i64 a, .int .i64 b]) = some (.int .i64 (mx2 a b)) := by
        simp [Builtin.max_, Builtin.max2, pureRun_bind, pureRun_pure, mx2]
      rw [h4]; rfl
    rw [h3]; rfl
  · rfl
theorem raw_min (dst : Nat) (c : Cfg) (x y : Operand) (ts : Array TypeId) (ty : TypeId) :
    stF_raw Try.prog dst c (.call ⟨.builtin .min, #[x, y], ts⟩) ty = rawK (opA c.σ x) (opA c.σ y) mn2 (rawX Try.prog dst c (.call ⟨.builtin .min, #[x, y], ts⟩) ty) := by
  unfold rawK
  split
  · rename_i a b hi hj
    have e1 := toVal_op hi
    have e2 := toVal_op hj
    unfold stF_raw
    rw [if_pos ⟨rfl, by simp [Op.operands, Call.operands, e1, e2]⟩]
    have h3 : pureRun Try.prog (execOp (fun x => ((argT x).bind fun xa => toVal (evalF c.σ xa)).getD (.bool false)) { dst := none, op := .call ⟨.builtin .min, #[x, y], ts⟩, type := ty, pos := "", after := #[], guard := none }) = some (.value (.int .i64 (mn2 a b))) := by
      simp only [execOp, resolve, invoke, pureRun_bind, pureRun_pure, Option.bind_some, List.map_toArray, List.map_cons, List.map_nil, e1, e2, Option.getD_some]
      show pureRun Try.prog (do pure (.value (← Builtin.min_ ts ty #[.int .i64 a, .int .i64 b])) : Sem Next) = _
      rw [pureRun_bind]
      have h4 : pureRun Try.prog (Builtin.min_ ts ty #[.int .i64 a, .int .i64 b]) = some (.int .i64 (mn2 a b)) := by
        simp [Builtin.min_, Builtin.min2, pureRun_bind, pureRun_pure, mn2]
      rw [h4]; rfl
    rw [h3]; rfl
  · rfl
theorem reify_os {α : Type} {η : List (Nat × (Nat × Option Ob))} {n k g e s : Nat} {f : α → AV} {l : List α} (hf : ∀ a, elemR (reify η n) (f a) = some (f a)) (hk : Go.Proofs.Eng.look η k = (g, some ⟨e, s, l.map f⟩)) :
    reify η (n + 1) (.os k g l.length s 0 l.length) = some (.sl s false (l.map f)) := by
  have hm : ∀ l : List α, (l.map f).mapM (elemR (reify η n)) = some (l.map f) := fun l => by
    induction l with
    | nil => rfl
    | cons a l ih => rw [List.map_cons, List.mapM_cons, hf, ih]; rfl
  simp only [reify, hk]
  rw [if_pos (by simp), List.drop_zero, List.take_of_length_le (by simp), hm]
  rfl
theorem elem_ai (η : List (Nat × (Nat × Option Ob))) (n : Nat) (z : Int) : elemR (reify η (n + 1)) (ai z) = some (ai z) := rfl
theorem reify_ints {η : List (Nat × (Nat × Option Ob))} {k g e : Nat} {l : List Int} (hk : Go.Proofs.Eng.look η k = (g, some ⟨e, 1, l.map ai⟩)) : reify η 20 (.os k g l.length 1 0 l.length) = some (al false l) := reify_os (elem_ai η 18) hk
theorem take_snoc {α : Type} {l : List α} {i : Nat} {d : α} (h : i < l.length) : l.take (i + 1) = l.take i ++ [l.getD i d] := by
  have e : l.getD i d = l[i] := by rw [List.getD_eq_getElem?_getD, List.getElem?_eq_getElem h]; rfl
  rw [e, ← List.take_append_getElem h]
def sumI (l : List Int) : Int := l.foldl (· + ·) 0
theorem sumI_snoc (l : List Int) (x : Int) : sumI (l ++ [x]) = sumI l + x := by simp [sumI, List.foldl_append]
theorem sumI_b {l : List Int} {b : Int} (hb : 0 ≤ b) : (∀ x, x ∈ l → 0 ≤ x ∧ x ≤ b) → 0 ≤ sumI l ∧ sumI l ≤ b * l.length := by
  intro h
  have key : ∀ (l : List Int) (a : Int), (∀ x, x ∈ l → 0 ≤ x ∧ x ≤ b) → a ≤ l.foldl (· + ·) a ∧ l.foldl (· + ·) a ≤ a + b * l.length := by
    intro l
    induction l with
    | nil => intro a _; simp
    | cons x t ih =>
      intro a hx
      obtain ⟨i1, i2⟩ := ih (a + x) fun y hy => hx y (List.mem_cons_of_mem _ hy)
      have := hx x List.mem_cons_self
      simp only [List.foldl_cons, List.length_cons]
      have e : b * ((t.length + 1 : Nat) : Int) = b * t.length + b := by rw [Int.natCast_add, Int.mul_add]; simp
      rw [e]
      omega
  have := key l 0 h
  unfold sumI; omega
theorem W_callvR {P : Program} {R : Rel} {kb : Nat} {k : List Fr} {c : Cfg} {Q : Out → Cfg → Prop} {l : Option Lv} {f kb' : Nat} {d : Option Nat} {x : XArg} {caps : List AV} {xs : List XArg} {args : List AV} {r : AV} {η' : Heap} (hx : evalA c.σ x = .fn f caps) (hc : callable P f = true) (ha : xs.map (evalA c.σ) ++ caps = args)
    (hr : R.q kb' f args c.η r η') (hl : limOK l .any = true) (h : W P R kb k ⟨setA c.σ d r, η'⟩ Q) : W P R kb (.op l ⟨d, .callv x xs, none⟩ :: k) c Q := by
  subst ha
  exact W_op (.callR c (d := 0) kb' f _ r η' rfl (by simp only [Go.Proofs.Eng.step, hx, hc, if_true]) hr) hl h
end Go.Proofs.Ytkbeaheladmeiaa

set_option linter.unusedSimpArgs false
set_option linter.unusedVariables false
namespace Go.Proofs.Ytkbeaheladmeiaa
open Go Go.Proofs.Eng
set_option maxRecDepth 100000
variable {R : Rel}
/-- the first place of an element, or -1 -/
def fidx {α : Type} [DecidableEq α] (l : List α) (p : α) : Int := if p ∈ l then (l.idxOf p : Int) else -1
theorem fidx_at {α : Type} [DecidableEq α] {l : List α} {p d : α} {i : Nat} (h : i < l.length) (hn : p ∉ l.take i) (he : l.getD i d = p) : fidx l p = i := by
  have e : l.getD i d = l[i] := by rw [List.getD_eq_getElem?_getD, List.getElem?_eq_getElem h]; rfl
  have hm : p ∈ l := by rw [← he, e]; exact List.getElem_mem h
  unfold fidx
  rw [if_pos hm]
  congr 1
  have h1 : l.idxOf p ≤ i := by
    rcases Nat.lt_or_ge i (l.idxOf p) with q | q
    · exact absurd (by rw [← he, e] : l[i] = p) (by have := List.not_of_lt_findIdx (p := (· == p)) q; simpa using this)
    · exact q
  have h2 : ¬ l.idxOf p < i := fun q => hn (by
    have hlt : l.idxOf p < l.length := List.idxOf_lt_length_of_mem hm
    have : l[l.idxOf p] = p := List.getElem_idxOf hlt
    rw [← this]
    exact List.mem_take_iff_getElem.2 ⟨l.idxOf p, by omega, by simp⟩)
  omega
theorem take_not {α : Type} [DecidableEq α] {l : List α} {p d : α} {i : Nat} (h : i < l.length) (hn : p ∉ l.take i) (he : l.getD i d ≠ p) : p ∉ l.take (i + 1) := by
  have e : l.getD i d = l[i] := by rw [List.getD_eq_getElem?_getD, List.getElem?_eq_getElem h]; rfl
  rw [← List.take_append_getElem h, List.mem_append]
  rintro (q | q)
  · exact hn q
  · rw [List.mem_singleton, ← e] at q; exact he q.symm
/-- whether an element is there -/
def memD {α : Type} [DecidableEq α] (l : List α) (p : α) : Bool := decide (0 ≤ fidx l p)
theorem memD_iff {α : Type} [DecidableEq α] {l : List α} {p : α} : memD l p = true ↔ p ∈ l := by
  unfold memD fidx
  by_cases h : p ∈ l
  · rw [if_pos h]; simp [h]
  · rw [if_neg h]; simp [h]
theorem idx1_loop (full : Bool) (l : List Int) (p : Int) (K : List Fr) (Q : Out → Cfg → Prop) (hn : l.length ≤ 100000) (x2 x3 x4 : AV)
    (hK : p ∉ l → ∀ j5 j9 j10 j11 j12 j13 j14 j15 j16 j17 j18 : AV, W Try.prog R 0 K ⟨[al full l, ai p, x2, x3, x4, j5, al full l, ai l.length, ai l.length, j9, j10, j11, j12, j13, j14, j15, j16, j17, j18], []⟩ Q)
    (hR : ∀ (j8 : AV), ∀ j5 j9 j10 j11 j12 j13 j14 j15 j16 j17 j18 : AV, WX Try.prog R 0 K .ret ⟨[al full l, ai p, x2, x3, ai (fidx l p), j5, al full l, ai l.length, j8, j9, j10, j11, j12, j13, j14, j15, j16, j17, j18], []⟩ Q) :
    ∀ (m i : Nat), i + m = l.length → p ∉ l.take i → ∀ j5 j9 j10 j11 j12 j13 j14 j15 j16 j17 j18 : AV, W Try.prog R 0 (.code (.loop xf76_L0) :: .blk 0 :: .stop :: K) ⟨[al full l, ai p, x2, x3, x4, j5, al full l, ai l.length, ai i, j9, j10, j11, j12, j13, j14, j15, j16, j17, j18], []⟩ Q := by
  intro m
  induction m with
  | zero =>
    intro i hi ha j5 j9 j10 j11 j12 j13 j14 j15 j16 j17 j18
    have : i = l.length := by omega
    subst this
    rw [List.take_length] at ha
    have h0 : decide (l.length < l.length) = false := by simp
    refine W_loop (W_run 60 ?_)
    simp (maxSteps := 2000000) only [SA, Nat.reduceDiv, Nat.reduceSub, Nat.reduceAdd, Int.reduceLT, Int.reduceLE, Int.reduceToNat, Nat.reduceMul, Nat.reduceEqDiff, reduceCtorEq, Nat.reduceBEq, Nat.reduceLeDiff, Nat.reduceLT, xf76_L0, ai, al, lt_cast, h0]
    exact W_stop (hK ha _ _ _ _ _ _ _ _ _ _ _)
  | succ m ih =>
    intro i hi ha j5 j9 j10 j11 j12 j13 j14 j15 j16 j17 j18
    have h1 : i < l.length := by omega
    have h0 : decide (i < l.length) = true := decide_eq_true h1
    refine W_loop (W_run 60 ?_)
    by_cases h2 : l.getD i 0 = p
    · have hf := fidx_at h1 ha h2
      have he : (p == l.getD i 0) = true := by rw [h2]; simp
      simp (maxSteps := 2000000) only [SA, Nat.reduceDiv, Nat.reduceSub, Nat.reduceAdd, Int.reduceLT, Int.reduceLE, Int.reduceToNat, Nat.reduceMul, Nat.reduceEqDiff, reduceCtorEq, Nat.reduceBEq, Nat.reduceLeDiff, Nat.reduceLT, xf76_L0, ai, al, lt_cast, h0, get_al h1, he]
      have := hR (ai i) (ai i) (ab true) (ai i) (ai p) (al full l) (ai i) (.ptr (ai (l.getD i 0))) (ai (l.getD i 0)) (ab true) (ai i) j18
      rw [hf] at this
      exact W_ret1 (WX_pop this)
    · have hf := take_not h1 ha h2
      have he : (p == l.getD i 0) = false := by rw [beq_eq_false_iff_ne]; exact fun e => h2 e.symm
      simp (maxSteps := 2000000) only [SA, Nat.reduceDiv, Nat.reduceSub, Nat.reduceAdd, Int.reduceLT, Int.reduceLE, Int.reduceToNat, Nat.reduceMul, Nat.reduceEqDiff, reduceCtorEq, Nat.reduceBEq, Nat.reduceLeDiff, Nat.reduceLT, xf76_L0, ai, al, lt_cast, h0, get_al h1, he]
      rw [wrap_id (by omega) (by omega)]
      exact ih (i + 1) (by omega) hf _ _ _ _ _ _ _ _ _ _ _
theorem idx1_run (full : Bool) (l : List Int) (p : Int) (hn : l.length ≤ 100000) : Runs Try.prog xf 76 [al full l, ai p] (ai (fidx l p)) := by
  refine Runs.ofW (fn := xf76) 20 (by kernel_rfl) (W_run 60 ?_)
  simp (maxSteps := 2000000) only [SA, Nat.reduceDiv, Nat.reduceSub, Nat.reduceAdd, Int.reduceLT, Int.reduceLE, Int.reduceToNat, Nat.reduceMul, Nat.reduceEqDiff, reduceCtorEq, Nat.reduceBEq, Nat.reduceLeDiff, Nat.reduceLT, xf76, ai, al]
  refine W_alone (idx1_loop full l p _ _ hn _ _ _ (fun hp => ?_) (fun j8 => ?_) l.length 0 (by omega) (by simp) _ _ _ _ _ _ _ _ _ _ _)
  · intros
    refine W_run 60 ?_
    simp (maxSteps := 2000000) only [SA, Nat.reduceDiv, Nat.reduceSub, Nat.reduceAdd, Int.reduceLT, Int.reduceLE, Int.reduceToNat, Nat.reduceMul, Nat.reduceEqDiff, reduceCtorEq, Nat.reduceBEq, Nat.reduceLeDiff, Nat.reduceLT, xf76_R0, ai, al]
    exact W_ret1 (WX_nil ⟨.inl rfl, _, rfl, by unfold fidx; rw [if_neg hp]; rfl⟩)
  · intros
    exact WX_pop (WX_nil ⟨.inl rfl, _, rfl, rfl⟩)
theorem idx1_has (full : Bool) (l : List Int) (p : Int) (hn : l.length ≤ 100000) : Runs Try.prog xf 43 [al full l, ai p] (ab (memD l p)) := by
  refine Runs.ofW (fn := xf43) 20 (by kernel_rfl) (W_run 60 ?_)
  simp (maxSteps := 2000000) only [SA, Nat.reduceDiv, Nat.reduceSub, Nat.reduceAdd, Int.reduceLT, Int.reduceLE, Int.reduceToNat, Nat.reduceMul, Nat.reduceEqDiff, reduceCtorEq, Nat.reduceBEq, Nat.reduceLeDiff, Nat.reduceLT, xf43, ai, al]
  refine W_call (args := [al full l, ai p]) rfl (by exact noRefs_of fun x hx => by simp only [List.mem_cons, List.not_mem_nil, or_false] at hx; rcases hx with rfl | rfl <;> first | exact noRef_al _ _ | rfl) (idx1_run full l p hn) rfl (W_run 60 ?_)
  simp (maxSteps := 2000000) only [SA, Nat.reduceDiv, Nat.reduceSub, Nat.reduceAdd, Int.reduceLT, Int.reduceLE, Int.reduceToNat, Nat.reduceMul, Nat.reduceEqDiff, reduceCtorEq, Nat.reduceBEq, Nat.reduceLeDiff, Nat.reduceLT, ai]
  exact W_ret1 (WX_nil ⟨.inl rfl, _, rfl, rfl⟩)
/-- the greatest of numbers -/
def mxF : List Int → Int
  | [] => 0
  | x :: t => t.foldl mx2 x
theorem mxF_take {l : List Int} {i : Nat} (h : i < l.length) (h0 : 0 < i) : mxF (l.take (i + 1)) = mx2 (mxF (l.take i)) (l.getD i 0) := by
  have e : l.getD i 0 = l[i] := by rw [List.getD_eq_getElem?_getD, List.getElem?_eq_getElem h]; rfl
  rw [e, ← List.take_append_getElem h]
  cases l with
  | nil => simp at h
  | cons x t =>
    obtain ⟨j, rfl⟩ : ∃ j, i = j + 1 := ⟨i - 1, by omega⟩
    simp only [List.take_succ_cons, List.cons_append, mxF, List.foldl_append, List.foldl_cons, List.foldl_nil]
theorem mx_ge {l : List Int} : ∀ {a : Int}, a ≤ l.foldl mx2 a ∧ ∀ x, x ∈ l → x ≤ l.foldl mx2 a := by
  induction l with
  | nil => intro a; exact ⟨Int.le_refl _, fun x h => by cases h⟩
  | cons y l ih =>
    intro a
    obtain ⟨h1, h2⟩ := ih (a := mx2 a y)
    have h3 : a ≤ mx2 a y ∧ y ≤ mx2 a y := by unfold mx2; split <;> omega
    refine ⟨Int.le_trans h3.1 h1, fun x hx => ?_⟩
    rcases List.mem_cons.1 hx with rfl | hx
    · exact Int.le_trans h3.2 h1
    · exact h2 x hx
theorem mx_le {l : List Int} {b : Int} : ∀ {a : Int}, a ≤ b → (∀ x, x ∈ l → x ≤ b) → l.foldl mx2 a ≤ b := by
  induction l with
  | nil => intro a h _; exact h
  | cons y l ih =>
    intro a h1 h2
    exact ih (by unfold mx2; split; exact h2 y List.mem_cons_self; exact h1) fun x hx => h2 x (List.mem_cons_of_mem _ hx)
theorem mxF_le {l : List Int} {b : Int} (h : l ≠ []) : mxF l ≤ b ↔ ∀ x, x ∈ l → x ≤ b := by
  cases l with
  | nil => exact absurd rfl h
  | cons y l =>
    refine ⟨fun q x hx => ?_, fun q => mx_le (q y List.mem_cons_self) fun x hx => q x (List.mem_cons_of_mem _ hx)⟩
    have := mx_ge (l := l) (a := y)
    rcases List.mem_cons.1 hx with rfl | hx
    · exact Int.le_trans this.1 q
    · exact Int.le_trans (this.2 x hx) q
theorem max_loop (full : Bool) (l : List Int) (K : List Fr) (Q : Out → Cfg → Prop) (hn : l.length ≤ 100000)
    (hK : ∀ j1 j2 j5 j6 j7 j8 j9 j10 j11 j12 j13 j14 j15 j16 j17 j18 j19 j20 j21 j22 j23 j24 : AV, W Try.prog (RelU Try.prog xf) 0 K ⟨((al full l) :: j1 :: j2 :: (ai (mxF l)) :: (ai l.length) :: j5 :: j6 :: j7 :: j8 :: j9 :: j10 :: j11 :: j12 :: j13 :: j14 :: j15 :: j16 :: j17 :: j18 :: j19 :: j20 :: j21 :: j22 :: j23 :: j24 :: []), []⟩ Q) :
    ∀ (k i : Nat), i + k = l.length → 0 < i → ∀ j1 j2 j5 j6 j7 j8 j9 j10 j11 j12 j13 j14 j15 j16 j17 j18 j19 j20 j21 j22 j23 j24 : AV, W Try.prog (RelU Try.prog xf) 0 (.code (.loop xf63_L0) :: .blk 0 :: .stop :: K) ⟨((al full l) :: j1 :: j2 :: (ai (mxF (l.take i))) :: (ai i) :: j5 :: j6 :: j7 :: j8 :: j9 :: j10 :: j11 :: j12 :: j13 :: j14 :: j15 :: j16 :: j17 :: j18 :: j19 :: j20 :: j21 :: j22 :: j23 :: j24 :: []), []⟩ Q := by
  intro k
  induction k with
  | zero =>
    intro i hi hc j1 j2 j5 j6 j7 j8 j9 j10 j11 j12 j13 j14 j15 j16 j17 j18 j19 j20 j21 j22 j23 j24
    have : i = l.length := by omega
    subst this
    have h0 : decide (l.length < l.length) = false := by simp
    refine W_loop (W_run 80 ?_)
    simp (maxSteps := 2000000) only [SA, Nat.reduceDiv, Nat.reduceSub, Nat.reduceAdd, Int.reduceLT, Int.reduceLE, Int.reduceToNat, Nat.reduceMul, Nat.reduceEqDiff, reduceCtorEq, Nat.reduceBEq, Nat.reduceLeDiff, Nat.reduceLT, xf63_L0, ai, al, lt_cast, h0]
    rw [List.take_length]
    exact W_stop (hK _ _ _ _ _ _ _ _ _ _ _ _ _ _ _ _ _ _ _ _ _ _)
  | succ k ih =>
    intro i hi hc j1 j2 j5 j6 j7 j8 j9 j10 j11 j12 j13 j14 j15 j16 j17 j18 j19 j20 j21 j22 j23 j24
    have h1 : i < l.length := by omega
    have h0 : decide (i < l.length) = true := decide_eq_true h1
    refine W_loop (W_run 80 ?_)
    simp (maxSteps := 2000000) only [SA, Nat.reduceDiv, Nat.reduceSub, Nat.reduceAdd, Int.reduceLT, Int.reduceLE, Int.reduceToNat, Nat.reduceMul, Nat.reduceEqDiff, reduceCtorEq, Nat.reduceBEq, Nat.reduceLeDiff, Nat.reduceLT, xf63_L0, ai, al, lt_cast, h0, get_al h1, raw_max, opA, argT, Option.elim, rawK]
    rw [← mxF_take h1 hc, wrap_id (by omega) (by omega)]
    exact ih (i + 1) (by omega) (by omega) _ _ _ _ _ _ _ _ _ _ _ _ _ _ _ _ _ _ _ _ _ _
theorem max_run (full : Bool) (l : List Int) (h : 0 < l.length) (hn : l.length ≤ 100000) : Runs Try.prog xf 63 [al full l] (ai (mxF l)) := by
  refine Runs.ofW (fn := xf63) 20 (by kernel_rfl) (W_run 80 ?_)
  have h1 : decide ((l.length : Int) < 1) = false := decide_eq_false (by omega)
  have g := get_al h
  have e : l.getD 0 0 = mxF (l.take 1) := by cases l with | nil => simp at h | cons x t => rfl
  simp (maxSteps := 2000000) only [SA, Nat.reduceDiv, Nat.reduceSub, Nat.reduceAdd, Int.reduceLT, Int.reduceLE, Int.reduceToNat, Nat.reduceMul, Nat.reduceEqDiff, reduceCtorEq, Nat.reduceBEq, Nat.reduceLeDiff, Nat.reduceLT, xf63, ai, al, h1, g]
  rw [e]
  refine W_alone (max_loop full l _ _ hn (fun j1 j2 j5 j6 j7 j8 j9 j10 j11 j12 j13 j14 j15 j16 j17 j18 j19 j20 j21 j22 j23 j24 => W_run 80 ?_) (l.length - 1) 1 (by omega) (by omega) _ _ _ _ _ _ _ _ _ _ _ _ _ _ _ _ _ _ _ _ _ _)
  simp (maxSteps := 2000000) only [SA, Nat.reduceDiv, Nat.reduceSub, Nat.reduceAdd, Int.reduceLT, Int.reduceLE, Int.reduceToNat, Nat.reduceMul, Nat.reduceEqDiff, reduceCtorEq, Nat.reduceBEq, Nat.reduceLeDiff, Nat.reduceLT, xf63_R0, ai, al]
  exact W_ret1 (WX_nil ⟨.inl rfl, _, rfl, rfl⟩)
/-- the smallest of numbers -/
def mnF : List Int → Int
  | [] => 0
  | x :: t => t.foldl mn2 x
theorem mnF_take {l : List Int} {i : Nat} (h : i < l.length) (h0 : 0 < i) : mnF (l.take (i + 1)) = mn2 (mnF (l.take i)) (l.getD i 0) := by
  have e : l.getD i 0 = l[i] := by rw [List.getD_eq_getElem?_getD, List.getElem?_eq_getElem h]; rfl
  rw [e, ← List.take_append_getElem h]
  cases l with
  | nil => simp at h
  | cons x t =>
    obtain ⟨j, rfl⟩ : ∃ j, i = j + 1 := ⟨i - 1, by omega⟩
    simp only [List.take_succ_cons, List.cons_append, mnF, List.foldl_append, List.foldl_cons, List.foldl_nil]
theorem mn_ge {l : List Int} {b : Int} : ∀ {a : Int}, b ≤ a → (∀ x, x ∈ l → b ≤ x) → b ≤ l.foldl mn2 a := by
  induction l with
  | nil => intro a h _; exact h
  | cons y l ih =>
    intro a h1 h2
    exact ih (by unfold mn2; split; exact h2 y List.mem_cons_self; exact h1) fun x hx => h2 x (List.mem_cons_of_mem _ hx)
theorem mn_le {l : List Int} : ∀ {a : Int}, l.foldl mn2 a ≤ a ∧ ∀ x, x ∈ l → l.foldl mn2 a ≤ x := by
  induction l with
  | nil => intro a; exact ⟨Int.le_refl _, fun x h => by cases h⟩
  | cons y l ih =>
    intro a
    obtain ⟨h1, h2⟩ := ih (a := mn2 a y)
    have h3 : mn2 a y ≤ a ∧ mn2 a y ≤ y := by unfold mn2; split <;> omega
    refine ⟨Int.le_trans h1 h3.1, fun x hx => ?_⟩
    rcases List.mem_cons.1 hx with rfl | hx
    · exact Int.le_trans h1 h3.2
    · exact h2 x hx
theorem mnF_ge {l : List Int} {b : Int} (h : l ≠ []) (hb : ∀ x, x ∈ l → b ≤ x) : b ≤ mnF l := by
  cases l with
  | nil => exact absurd rfl h
  | cons y l => exact mn_ge (hb y List.mem_cons_self) fun x hx => hb x (List.mem_cons_of_mem _ hx)
theorem mnF_le {l : List Int} {x : Int} (hx : x ∈ l) : mnF l ≤ x := by
  cases l with
  | nil => cases hx
  | cons y l =>
    have := mn_le (l := l) (a := y)
    rcases List.mem_cons.1 hx with rfl | hx
    · exact this.1
    · exact this.2 x hx
theorem mnF_mem {l : List Int} (h : l ≠ []) : mnF l ∈ l := by
  cases l with
  | nil => exact absurd rfl h
  | cons y l =>
    have key : ∀ (l : List Int) (a : Int), l.foldl mn2 a = a ∨ l.foldl mn2 a ∈ l := by
      intro l
      induction l with
      | nil => intro a; exact .inl rfl
      | cons z l ih =>
        intro a
        rcases ih (mn2 a z) with q | q
        · have : mn2 a z = a ∨ mn2 a z = z := by unfold mn2; split <;> simp
          rcases this with e | e
          · left; rw [List.foldl_cons, q, e]
          · right; rw [List.foldl_cons, q, e]; exact List.mem_cons_self
        · right; exact List.mem_cons_of_mem _ q
    rcases key l y with q | q
    · show l.foldl mn2 y ∈ _; rw [q]; exact List.mem_cons_self
    · exact List.mem_cons_of_mem _ q
theorem min_loop (full : Bool) (l : List Int) (K : List Fr) (Q : Out → Cfg → Prop) (hn : l.length ≤ 100000)
    (hK : ∀ j1 j2 j5 j6 j7 j8 j9 j10 j11 j12 j13 j14 j15 j16 j17 j18 j19 j20 j21 j22 j23 j24 : AV, W Try.prog (RelU Try.prog xf) 0 K ⟨((al full l) :: j1 :: j2 :: (ai (mnF l)) :: (ai l.length) :: j5 :: j6 :: j7 :: j8 :: j9 :: j10 :: j11 :: j12 :: j13 :: j14 :: j15 :: j16 :: j17 :: j18 :: j19 :: j20 :: j21 :: j22 :: j23 :: j24 :: []), []⟩ Q) :
    ∀ (k i : Nat), i + k = l.length → 0 < i → ∀ j1 j2 j5 j6 j7 j8 j9 j10 j11 j12 j13 j14 j15 j16 j17 j18 j19 j20 j21 j22 j23 j24 : AV, W Try.prog (RelU Try.prog xf) 0 (.code (.loop xf57_L0) :: .blk 0 :: .stop :: K) ⟨((al full l) :: j1 :: j2 :: (ai (mnF (l.take i))) :: (ai i) :: j5 :: j6 :: j7 :: j8 :: j9 :: j10 :: j11 :: j12 :: j13 :: j14 :: j15 :: j16 :: j17 :: j18 :: j19 :: j20 :: j21 :: j22 :: j23 :: j24 :: []), []⟩ Q := by
  intro k
  induction k with
  | zero =>
    intro i hi hc j1 j2 j5 j6 j7 j8 j9 j10 j11 j12 j13 j14 j15 j16 j17 j18 j19 j20 j21 j22 j23 j24
    have : i = l.length := by omega
    subst this
    have h0 : decide (l.length < l.length) = false := by simp
    refine W_loop (W_run 80 ?_)
    simp (maxSteps := 2000000) only [SA, Nat.reduceDiv, Nat.reduceSub, Nat.reduceAdd, Int.reduceLT, Int.reduceLE, Int.reduceToNat, Nat.reduceMul, Nat.reduceEqDiff, reduceCtorEq, Nat.reduceBEq, Nat.reduceLeDiff, Nat.reduceLT, xf57_L0, ai, al, lt_cast, h0]
    rw [List.take_length]
    exact W_stop (hK _ _ _ _ _ _ _ _ _ _ _ _ _ _ _ _ _ _ _ _ _ _)
  | succ k ih =>
    intro i hi hc j1 j2 j5 j6 j7 j8 j9 j10 j11 j12 j13 j14 j15 j16 j17 j18 j19 j20 j21 j22 j23 j24
    have h1 : i < l.length := by omega
    have h0 : decide (i < l.length) = true := decide_eq_true h1
    refine W_loop (W_run 80 ?_)
    simp (maxSteps := 2000000) only [SA, Nat.reduceDiv, Nat.reduceSub, Nat.reduceAdd, Int.reduceLT, Int.reduceLE, Int.reduceToNat, Nat.reduceMul, Nat.reduceEqDiff, reduceCtorEq, Nat.reduceBEq, Nat.reduceLeDiff, Nat.reduceLT, xf57_L0, ai, al, lt_cast, h0, get_al h1, raw_min, opA, argT, Option.elim, rawK]
    rw [← mnF_take h1 hc, wrap_id (by omega) (by omega)]
    exact ih (i + 1) (by omega) (by omega) _ _ _ _ _ _ _ _ _ _ _ _ _ _ _ _ _ _ _ _ _ _
theorem min_run (full : Bool) (l : List Int) (h : 0 < l.length) (hn : l.length ≤ 100000) : Runs Try.prog xf 57 [al full l] (ai (mnF l)) := by
  refine Runs.ofW (fn := xf57) 20 (by kernel_rfl) (W_run 80 ?_)
  have h1 : decide ((l.length : Int) < 1) = false := decide_eq_false (by omega)
  have g := get_al h
  have e : l.getD 0 0 = mnF (l.take 1) := by cases l with | nil => simp at h | cons x t => rfl
  simp (maxSteps := 2000000) only [SA, Nat.reduceDiv, Nat.reduceSub, Nat.reduceAdd, Int.reduceLT, Int.reduceLE, Int.reduceToNat, Nat.reduceMul, Nat.reduceEqDiff, reduceCtorEq, Nat.reduceBEq, Nat.reduceLeDiff, Nat.reduceLT, xf57, ai, al, h1, g]
  rw [e]
  refine W_alone (min_loop full l _ _ hn (fun j1 j2 j5 j6 j7 j8 j9 j10 j11 j12 j13 j14 j15 j16 j17 j18 j19 j20 j21 j22 j23 j24 => W_run 80 ?_) (l.length - 1) 1 (by omega) (by omega) _ _ _ _ _ _ _ _ _ _ _ _ _ _ _ _ _ _ _ _ _ _)
  simp (maxSteps := 2000000) only [SA, Nat.reduceDiv, Nat.reduceSub, Nat.reduceAdd, Int.reduceLT, Int.reduceLE, Int.reduceToNat, Nat.reduceMul, Nat.reduceEqDiff, reduceCtorEq, Nat.reduceBEq, Nat.reduceLeDiff, Nat.reduceLT, xf57_R0, ai, al]
  exact W_ret1 (WX_nil ⟨.inl rfl, _, rfl, rfl⟩)
end Go.Proofs.Ytkbeaheladmeiaa

set_option linter.unusedSimpArgs false
set_option linter.unusedVariables false
namespace Go.Proofs.Ytkbeaheladmeiaa
open Go Go.Proofs.Eng
set_option maxRecDepth 100000
set_option maxHeartbeats 2000000
theorem getD_at {α : Type} {l : List α} {i : Nat} {d : α} (h : i < l.length) : l[i]? = some (l.getD i d) := by
  rw [List.getD_eq_getElem?_getD, List.getElem?_eq_getElem h]; rfl
/-- a table -/
def aT (T : List (List Int)) : AV := .sl 1 false (T.map (al false))
theorem get_T {T : List (List Int)} {i : Nat} (h : i < T.length) : (T.map (al false))[i]? = some (al false (T.getD i [])) := by
  rw [List.getElem?_map, getD_at (d := []) h]; rfl
theorem noRef_T (T : List (List Int)) : noRef (aT T) = true := noRefs_of fun x hx => by obtain ⟨z, _, rfl⟩ := List.mem_map.1 hx; exact noRef_al _ _
theorem noRefs_1 {x : AV} (h : noRef x = true) : noRefs [x] = true := by simp [noRefs, h]
theorem noRefs_2 {x y : AV} (h : noRef x = true) (h2 : noRef y = true) : noRefs [x, y] = true := by simp [noRefs, h, h2]
/-- a good table of n rows -/
structure gT (n : Nat) (T : List (List Int)) : Prop where
  len : T.length = n
  n1 : 1 ≤ n
  n4 : n ≤ 4
  row : ∀ r, r ∈ T → r.length = n
  cel : ∀ r, r ∈ T → ∀ x, x ∈ r → 0 ≤ x ∧ x ≤ 9
/-- the number of a row and a column -/
def cel (T : List (List Int)) (r c : Nat) : Int := (T.getD r []).getD c 0
theorem gT.rowlen {n : Nat} {T : List (List Int)} (h : gT n T) {r : Nat} (hr : r < n) : (T.getD r []).length = n := h.row _ (getD_mem (by rw [h.len]; exact hr))
theorem gT.b {n : Nat} {T : List (List Int)} (h : gT n T) {r c : Nat} (hr : r < n) (hc : c < n) : 0 ≤ Go.Proofs.Ytkbeaheladmeiaa.cel T r c ∧ Go.Proofs.Ytkbeaheladmeiaa.cel T r c ≤ 9 :=
  h.cel _ (getD_mem (by rw [h.len]; exact hr)) _ (getD_mem (by rw [h.rowlen hr]; exact hc))
theorem chk_loop (n : Nat) (T : List (List Int)) (hg : gT n T) (K : List Fr) (Q : Out → Cfg → Prop)
    (hK : ∀ j1 j3 j4 j5 j6 j7 j8 j9 j10 j14 j15 j16 j17 j18 j19 j20 j21 j22 j23 j24 j25 j26 j27 j28 j29 j30 : AV, W Try.prog (RelU Try.prog xf) 0 K ⟨((aT T) :: j1 :: (ai 0) :: j3 :: j4 :: j5 :: j6 :: j7 :: j8 :: j9 :: j10 :: (aT T) :: (ai T.length) :: (ai T.length) :: j14 :: j15 :: j16 :: j17 :: j18 :: j19 :: j20 :: j21 :: j22 :: j23 :: j24 :: j25 :: j26 :: j27 :: j28 :: j29 :: j30 :: []), []⟩ Q) :
    ∀ (k i : Nat), i + k = T.length → ∀ j1 j3 j4 j5 j6 j7 j8 j9 j10 j14 j15 j16 j17 j18 j19 j20 j21 j22 j23 j24 j25 j26 j27 j28 j29 j30 : AV, W Try.prog (RelU Try.prog xf) 0 (.code (.loop xf51_L0) :: .blk 0 :: .stop :: K) ⟨((aT T) :: j1 :: (ai 0) :: j3 :: j4 :: j5 :: j6 :: j7 :: j8 :: j9 :: j10 :: (aT T) :: (ai T.length) :: (ai i) :: j14 :: j15 :: j16 :: j17 :: j18 :: j19 :: j20 :: j21 :: j22 :: j23 :: j24 :: j25 :: j26 :: j27 :: j28 :: j29 :: j30 :: []), []⟩ Q := by
  intro k
  induction k with
  | zero =>
    intro i hi j1 j3 j4 j5 j6 j7 j8 j9 j10 j14 j15 j16 j17 j18 j19 j20 j21 j22 j23 j24 j25 j26 j27 j28 j29 j30
    have : i = T.length := by omega
    subst this
    have h0 : decide (T.length < T.length) = false := by simp
    refine W_loop (W_run 80 ?_)
    simp (maxSteps := 2000000) only [SA, Nat.reduceDiv, Nat.reduceSub, Nat.reduceAdd, Int.reduceLT, Int.reduceLE, Int.reduceToNat, Nat.reduceMul, Nat.reduceEqDiff, reduceCtorEq, Nat.reduceBEq, Nat.reduceLeDiff, Nat.reduceLT, xf51_L0, ai, aT, lt_cast, h0]
    exact W_stop (hK _ _ _ _ _ _ _ _ _ _ _ _ _ _ _ _ _ _ _ _ _ _ _ _ _ _)
  | succ k ih =>
    intro i hi j1 j3 j4 j5 j6 j7 j8 j9 j10 j14 j15 j16 j17 j18 j19 j20 j21 j22 j23 j24 j25 j26 j27 j28 j29 j30
    have h1 : i < T.length := by omega
    have h0 : decide (i < T.length) = true := decide_eq_true h1
    have hn4 := hg.n4
    have hn1 := hg.n1
    have hlen := hg.len
    have hr := getD_mem (d := []) h1
    have hrl := hg.row _ hr
    have hrc := hg.cel _ hr
    generalize hR : T.getD i [] = R at *
    have hne : R ≠ [] := by intro e; rw [e] at hrl; simp at hrl; omega
    have e1 : ((R.length : Int) != (T.length : Int)) = false := by rw [hrl, hlen]; simp
    have m1 := mnF_ge hne fun x hx => (hrc x hx).1
    have m2 := (mxF_le hne).2 fun x hx => (hrc x hx).2
    have d1 : decide (mnF R < 0) = false := decide_eq_false (by omega)
    have d2 : decide ((9 : Int) < mxF R) = false := decide_eq_false (by omega)
    have hgt := get_T h1
    rw [hR] at hgt
    refine W_loop (W_run 80 ?_)
    simp (maxSteps := 2000000) only [SA, Nat.reduceDiv, Nat.reduceSub, Nat.reduceAdd, Int.reduceLT, Int.reduceLE, Int.reduceToNat, Nat.reduceMul, Nat.reduceEqDiff, reduceCtorEq, Nat.reduceBEq, Nat.reduceLeDiff, Nat.reduceLT, xf51_L0, ai, aT, al, lt_cast, h0, hgt, e1]
    refine W_call (args := [al false R]) rfl (noRefs_1 (noRef_al _ _)) (min_run false R (by omega) (by omega)) rfl (W_run 80 ?_)
    simp (maxSteps := 2000000) only [SA, Nat.reduceDiv, Nat.reduceSub, Nat.reduceAdd, Int.reduceLT, Int.reduceLE, Int.reduceToNat, Nat.reduceMul, Nat.reduceEqDiff, reduceCtorEq, Nat.reduceBEq, Nat.reduceLeDiff, Nat.reduceLT, ai, aT, al, d1]
    refine W_call (args := [al false R]) rfl (noRefs_1 (noRef_al _ _)) (max_run false R (by omega) (by omega)) rfl (W_run 80 ?_)
    simp (maxSteps := 2000000) only [SA, Nat.reduceDiv, Nat.reduceSub, Nat.reduceAdd, Int.reduceLT, Int.reduceLE, Int.reduceToNat, Nat.reduceMul, Nat.reduceEqDiff, reduceCtorEq, Nat.reduceBEq, Nat.reduceLeDiff, Nat.reduceLT, ai, aT, al, d2]
    rw [wrap_id (z := (i : Int) + 1) (by omega) (by omega)]
    exact ih (i + 1) (by omega) _ _ _ _ _ _ _ _ _ _ _ _ _ _ _ _ _ _ _ _ _ _ _ _ _ _
theorem check_run {n : Nat} {T : List (List Int)} (hg : gT n T) : Runs Try.prog xf 51 [aT T] (ai 0) := by
  have hn4 := hg.n4
  have hn1 := hg.n1
  have hlen := hg.len
  have e1 : ((T.length : Int) == 0) = false := by rw [beq_eq_false_iff_ne]; omega
  have e2 : decide ((4 : Int) < (T.length : Int)) = false := decide_eq_false (by omega)
  refine Runs.ofW (fn := xf51) 20 (by kernel_rfl) (W_run 80 ?_)
  simp (maxSteps := 2000000) only [SA, Nat.reduceDiv, Nat.reduceSub, Nat.reduceAdd, Int.reduceLT, Int.reduceLE, Int.reduceToNat, Nat.reduceMul, Nat.reduceEqDiff, reduceCtorEq, Nat.reduceBEq, Nat.reduceLeDiff, Nat.reduceLT, xf51, ai, aT, e1, e2]
  refine W_alone (chk_loop n T hg _ _ (fun j1 j3 j4 j5 j6 j7 j8 j9 j10 j14 j15 j16 j17 j18 j19 j20 j21 j22 j23 j24 j25 j26 j27 j28 j29 j30 => W_run 80 ?_) T.length 0 (by omega) _ _ _ _ _ _ _ _ _ _ _ _ _ _ _ _ _ _ _ _ _ _ _ _ _ _)
  simp (maxSteps := 2000000) only [SA, Nat.reduceDiv, Nat.reduceSub, Nat.reduceAdd, Int.reduceLT, Int.reduceLE, Int.reduceToNat, Nat.reduceMul, Nat.reduceEqDiff, reduceCtorEq, Nat.reduceBEq, Nat.reduceLeDiff, Nat.reduceLT, xf51_R0, ai, aT]
  exact W_ret1 (WX_nil ⟨.inl rfl, _, rfl, rfl⟩)
/-- numbers at the places of a plan -/
def nums (T : List (List Int)) (p : List Int) : List Int := (List.range p.length).map fun r => cel T r (p.getD r 0).toNat
/-- numbers that are columns -/
def inC (n : Nat) (p : List Int) : Prop := ∀ c, c ∈ p → 0 ≤ c ∧ c < n
def numsK (T : List (List Int)) (p : List Int) (k : Nat) : List Int := (List.range k).map fun r => cel T r (p.getD r 0).toNat
theorem numsK_succ (T : List (List Int)) (p : List Int) (k : Nat) : numsK T p (k + 1) = numsK T p k ++ [cel T k (p.getD k 0).toNat] := by
  unfold numsK; rw [List.range_succ, List.map_append]; rfl
theorem numsK_len (T : List (List Int)) (p : List Int) (k : Nat) : (numsK T p k).length = k := by unfold numsK; simp
theorem nums_len (T : List (List Int)) (p : List Int) : (nums T p).length = p.length := numsK_len T p p.length
theorem get_cel {T : List (List Int)} {n r : Nat} {c : Int} (hg : gT n T) (hr : r < n) (hc : 0 ≤ c ∧ c < n) : ((T.getD r []).map ai)[c.toNat]? = some (ai (cel T r c.toNat)) :=
  get_al (by rw [hg.rowlen hr]; omega)
theorem num_loop (n : Nat) (T : List (List Int)) (hg : gT n T) (f : Bool) (p : List Int) (hp : inC n p) (hl : p.length ≤ n) (K : List Fr) (Q : Out → Cfg → Prop)
    (hK : ∀ j2 j3 j4 j6 j7 j8 j12 j13 j14 j15 j16 j17 j18 j19 j20 j21 j22 j23 j24 j25 j26 j27 : AV, W Try.prog (RelU Try.prog xf) 0 K ⟨((aT T) :: (al f p) :: j2 :: j3 :: j4 :: (.os 8 1 p.length 1 0 p.length) :: j6 :: j7 :: j8 :: (al f p) :: (ai p.length) :: (ai p.length) :: j12 :: j13 :: j14 :: j15 :: j16 :: j17 :: j18 :: j19 :: j20 :: j21 :: j22 :: j23 :: j24 :: j25 :: j26 :: j27 :: []), [(8, (1, some ⟨3, 1, (nums T p).map ai⟩))]⟩ Q) :
    ∀ (k i : Nat), i + k = p.length → ∀ j2 j3 j4 j6 j7 j8 j12 j13 j14 j15 j16 j17 j18 j19 j20 j21 j22 j23 j24 j25 j26 j27 : AV, W Try.prog (RelU Try.prog xf) 0 (.code (.loop xf58_L0) :: .blk 0 :: .stop :: K) ⟨((aT T) :: (al f p) :: j2 :: j3 :: j4 :: (.os 8 1 i 1 0 i) :: j6 :: j7 :: j8 :: (al f p) :: (ai p.length) :: (ai i) :: j12 :: j13 :: j14 :: j15 :: j16 :: j17 :: j18 :: j19 :: j20 :: j21 :: j22 :: j23 :: j24 :: j25 :: j26 :: j27 :: []), [(8, (1, some ⟨3, 1, (numsK T p i).map ai⟩))]⟩ Q := by
  intro k
  induction k with
  | zero =>
    intro i hi j2 j3 j4 j6 j7 j8 j12 j13 j14 j15 j16 j17 j18 j19 j20 j21 j22 j23 j24 j25 j26 j27
    have : i = p.length := by omega
    subst this
    have h0 : decide (p.length < p.length) = false := by simp
    refine W_loop (W_run 80 ?_)
    simp (maxSteps := 2000000) only [SA, Nat.reduceDiv, Nat.reduceSub, Nat.reduceAdd, Int.reduceLT, Int.reduceLE, Int.reduceToNat, Nat.reduceMul, Nat.reduceEqDiff, reduceCtorEq, Nat.reduceBEq, Nat.reduceLeDiff, Nat.reduceLT, xf58_L0, ai, al, aT, lt_cast, h0]
    exact W_stop (hK _ _ _ _ _ _ _ _ _ _ _ _ _ _ _ _ _ _ _ _ _ _)
  | succ k ih =>
    intro i hi j2 j3 j4 j6 j7 j8 j12 j13 j14 j15 j16 j17 j18 j19 j20 j21 j22 j23 j24 j25 j26 j27
    have h1 : i < p.length := by omega
    have h0 : decide (i < p.length) = true := decide_eq_true h1
    have hn4 := hg.n4
    have hc := hp _ (getD_mem (d := 0) h1)
    have hgt := get_T (T := T) (i := i) (by rw [hg.len]; omega)
    have hcl := get_cel hg (r := i) (by omega) hc
    have hlk := numsK_len T p i
    have next := ih (i + 1) (by omega)
    rw [numsK_succ, List.map_append] at next
    generalize hC : p.getD i 0 = c at *
    have hga := get_al h1
    rw [hC] at hga
    have q1 : (i + 1) * 8 ≤ 100000000000000 := by omega
    have q2 : i + 1 ≤ 100000000000000 := by omega
    refine W_loop (W_run 80 ?_)
    simp (maxSteps := 2000000) only [SA, Nat.reduceDiv, Nat.reduceSub, Nat.reduceAdd, Int.reduceLT, Int.reduceLE, Int.reduceToNat, Nat.reduceMul, Nat.reduceEqDiff, reduceCtorEq, Nat.reduceBEq, Nat.reduceLeDiff, Nat.reduceLT, xf58_L0, ai, al, aT, lt_cast, h0, hga, hgt, hc.1, hcl, hlk, q1, q2, Go.Proofs.Eng.elems, List.map_cons, List.map_nil]
    rw [wrap_id (z := (i : Int) + 1) (by omega) (by omega)]
    exact next _ _ _ _ _ _ _ _ _ _ _ _ _ _ _ _ _ _ _ _ _ _
theorem nums_run {n : Nat} {T : List (List Int)} (hg : gT n T) (f : Bool) {p : List Int} (hp : inC n p) (hl : p.length ≤ n) : Runs Try.prog xf 58 [aT T, al f p] (al false (nums T p)) := by
  refine Runs.ofW (fn := xf58) 20 (by kernel_rfl) (W_run 80 ?_)
  simp (maxSteps := 2000000) only [SA, Nat.reduceDiv, Nat.reduceSub, Nat.reduceAdd, Int.reduceLT, Int.reduceLE, Int.reduceToNat, Nat.reduceMul, Nat.reduceEqDiff, reduceCtorEq, Nat.reduceBEq, Nat.reduceLeDiff, Nat.reduceLT, xf58, ai, al, aT, List.map_nil]
  refine W_alone (num_loop n T hg f p hp hl _ _ (fun j2 j3 j4 j6 j7 j8 j12 j13 j14 j15 j16 j17 j18 j19 j20 j21 j22 j23 j24 j25 j26 j27 => W_run 80 ?_) p.length 0 (by omega) _ _ _ _ _ _ _ _ _ _ _ _ _ _ _ _ _ _ _ _ _ _)
  simp (maxSteps := 2000000) only [SA, Nat.reduceDiv, Nat.reduceSub, Nat.reduceAdd, Int.reduceLT, Int.reduceLE, Int.reduceToNat, Nat.reduceMul, Nat.reduceEqDiff, reduceCtorEq, Nat.reduceBEq, Nat.reduceLeDiff, Nat.reduceLT, xf58_R0, ai, al, aT]
  refine W_ret1 (WX_nil ⟨.inl rfl, _, rfl, ?_⟩)
  have h := reify_ints (η := [(8, (1, some ⟨3, 1, (nums T p).map ai⟩))]) (k := 8) (g := 1) (e := 3) (l := nums T p) rfl
  rw [nums_len] at h
  exact h
def prI (l : List Int) : Int := l.foldl (· * ·) 1
theorem prI_snoc (l : List Int) (x : Int) : prI (l ++ [x]) = prI l * x := by simp [prI, List.foldl_append]
theorem prI_b : ∀ (m : Nat) (l : List Int), l.length ≤ m → m ≤ 4 → (∀ x, x ∈ l → 0 ≤ x ∧ x ≤ 9) → 0 ≤ prI l ∧ prI l ≤ 9 ^ m := by
  have key : ∀ (l : List Int) (a : Int), 0 ≤ a → (∀ x, x ∈ l → 0 ≤ x ∧ x ≤ 9) → 0 ≤ l.foldl (· * ·) a ∧ l.foldl (· * ·) a ≤ a * 9 ^ l.length := by
    intro l
    induction l with
    | nil => intro a ha _; simp; exact ha
    | cons x t ih =>
      intro a ha hx
      have hx0 := hx x List.mem_cons_self
      obtain ⟨i1, i2⟩ := ih (a * x) (Int.mul_nonneg ha hx0.1) fun y hy => hx y (List.mem_cons_of_mem _ hy)
      refine ⟨i1, Int.le_trans i2 ?_⟩
      have h9 : (0 : Int) ≤ 9 ^ t.length := Int.pow_nonneg (by omega)
      have h2 := Int.mul_le_mul_of_nonneg_right (Int.mul_le_mul_of_nonneg_left hx0.2 ha) h9
      have h3 : a * 9 ^ (t.length + 1) = a * 9 * 9 ^ t.length := by rw [Int.pow_succ, Int.mul_comm (9 ^ _) 9, Int.mul_assoc]
      rw [List.length_cons, h3]
      exact h2
  intro m l hl hm hx
  obtain ⟨h1, h2⟩ := key l 1 (by omega) hx
  refine ⟨h1, Int.le_trans h2 ?_⟩
  rw [Int.one_mul]
  exact_mod_cast Nat.pow_le_pow_right (by omega) hl
theorem p9 {m : Nat} (h : m ≤ 4) : (9 : Int) ^ m ≤ 6561 := by
  match m, h with
  | 0, _ | 1, _ | 2, _ | 3, _ | 4, _ => decide
theorem prI_big {l : List Int} (hl : l.length ≤ 4) (hx : ∀ x, x ∈ l → 0 ≤ x ∧ x ≤ 9) : 0 ≤ prI l ∧ prI l ≤ 6561 := by
  have := prI_b l.length l (Nat.le_refl _) hl hx
  have := p9 hl
  omega
theorem prd_loop (l : List Int) (hl : l.length ≤ 4) (hx : ∀ x, x ∈ l → 0 ≤ x ∧ x ≤ 9) (K : List Fr) (Q : Out → Cfg → Prop)
    (hK : ∀ j1 j2 j4 j5 j9 j10 j11 j12 j13 j14 j15 j16 : AV, W Try.prog (RelU Try.prog xf) 0 K ⟨((al false l) :: j1 :: j2 :: (ai (prI l)) :: j4 :: j5 :: (al false l) :: (ai l.length) :: (ai l.length) :: j9 :: j10 :: j11 :: j12 :: j13 :: j14 :: j15 :: j16 :: []), []⟩ Q) :
    ∀ (k i : Nat), i + k = l.length → ∀ j1 j2 j4 j5 j9 j10 j11 j12 j13 j14 j15 j16 : AV, W Try.prog (RelU Try.prog xf) 0 (.code (.loop xf74_L0) :: .blk 0 :: .stop :: K) ⟨((al false l) :: j1 :: j2 :: (ai (prI (l.take i))) :: j4 :: j5 :: (al false l) :: (ai l.length) :: (ai i) :: j9 :: j10 :: j11 :: j12 :: j13 :: j14 :: j15 :: j16 :: []), []⟩ Q := by
  intro k
  induction k with
  | zero =>
    intro i hi j1 j2 j4 j5 j9 j10 j11 j12 j13 j14 j15 j16
    have : i = l.length := by omega
    subst this
    have h0 : decide (l.length < l.length) = false := by simp
    rw [List.take_length]
    refine W_loop (W_run 80 ?_)
    simp (maxSteps := 2000000) only [SA, Nat.reduceDiv, Nat.reduceSub, Nat.reduceAdd, Int.reduceLT, Int.reduceLE, Int.reduceToNat, Nat.reduceMul, Nat.reduceEqDiff, reduceCtorEq, Nat.reduceBEq, Nat.reduceLeDiff, Nat.reduceLT, xf74_L0, ai, al, lt_cast, h0]
    exact W_stop (hK _ _ _ _ _ _ _ _ _ _ _ _)
  | succ k ih =>
    intro i hi j1 j2 j4 j5 j9 j10 j11 j12 j13 j14 j15 j16
    have h1 : i < l.length := by omega
    have h0 : decide (i < l.length) = true := decide_eq_true h1
    have hnx : prI (l.take (i + 1)) = prI (l.take i) * l.getD i 0 := by rw [take_snoc (d := 0) h1, prI_snoc]
    have hb := prI_big (l := l.take (i + 1)) (by rw [List.length_take]; omega) fun x q => hx x (List.mem_of_mem_take q)
    have next := ih (i + 1) (by omega)
    refine W_loop (W_run 80 ?_)
    simp (maxSteps := 2000000) only [SA, Nat.reduceDiv, Nat.reduceSub, Nat.reduceAdd, Int.reduceLT, Int.reduceLE, Int.reduceToNat, Nat.reduceMul, Nat.reduceEqDiff, reduceCtorEq, Nat.reduceBEq, Nat.reduceLeDiff, Nat.reduceLT, xf74_L0, ai, al, lt_cast, h0, get_al h1]
    rw [← hnx, wrap_id (z := prI (l.take (i + 1))) (by omega) (by omega), wrap_id (z := (i : Int) + 1) (by omega) (by omega)]
    exact next _ _ _ _ _ _ _ _ _ _ _ _
theorem product_run {l : List Int} (hl : l.length ≤ 4) (hx : ∀ x, x ∈ l → 0 ≤ x ∧ x ≤ 9) : Runs Try.prog xf 74 [al false l] (ai (prI l)) := by
  refine Runs.ofW (fn := xf74) 20 (by kernel_rfl) (W_run 80 ?_)
  simp (maxSteps := 2000000) only [SA, Nat.reduceDiv, Nat.reduceSub, Nat.reduceAdd, Int.reduceLT, Int.reduceLE, Int.reduceToNat, Nat.reduceMul, Nat.reduceEqDiff, reduceCtorEq, Nat.reduceBEq, Nat.reduceLeDiff, Nat.reduceLT, xf74, ai, al]
  refine W_alone (prd_loop l hl hx _ _ (fun j1 j2 j4 j5 j9 j10 j11 j12 j13 j14 j15 j16 => W_run 80 ?_) l.length 0 (by omega) _ _ _ _ _ _ _ _ _ _ _ _)
  simp (maxSteps := 2000000) only [SA, Nat.reduceDiv, Nat.reduceSub, Nat.reduceAdd, Int.reduceLT, Int.reduceLE, Int.reduceToNat, Nat.reduceMul, Nat.reduceEqDiff, reduceCtorEq, Nat.reduceBEq, Nat.reduceLeDiff, Nat.reduceLT, xf74_R0, ai, al]
  exact W_ret1 (WX_nil ⟨.inl rfl, _, rfl, rfl⟩)
theorem nums_mem {n : Nat} {T : List (List Int)} (hg : gT n T) {p : List Int} (hp : inC n p) (hl : p.length ≤ n) : ∀ x, x ∈ nums T p → 0 ≤ x ∧ x ≤ 9 := fun x hx => by
  unfold nums at hx
  obtain ⟨r, hr, rfl⟩ := List.mem_map.1 hx
  have hr := List.mem_range.1 hr
  have hc := hp _ (getD_mem (d := 0) hr)
  exact hg.b (by omega) (by omega)
/-- the weight of a plan -/
def wgt (T : List (List Int)) (p : List Int) : Int := prI (nums T p)
theorem wgt_b {n : Nat} {T : List (List Int)} (hg : gT n T) {p : List Int} (hp : inC n p) (hl : p.length ≤ n) : 0 ≤ wgt T p ∧ wgt T p ≤ 6561 := by
  have := hg.n4
  exact prI_big (by rw [nums_len]; omega) (nums_mem hg hp hl)
theorem wgt_loop (n : Nat) (T : List (List Int)) (hg : gT n T) (f : Bool) (p : List Int) (hp : inC n p) (hl : p.length ≤ n) (K : List Fr) (Q : Out → Cfg → Prop)
    (hK : ∀ j2 j3 j4 j6 j7 j11 j12 j13 j14 j15 j16 j17 j18 j19 j20 j21 j22 j23 j24 j25 : AV, W Try.prog (RelU Try.prog xf) 0 K ⟨((aT T) :: (al f p) :: j2 :: j3 :: j4 :: (ai (wgt T p)) :: j6 :: j7 :: (al f p) :: (ai p.length) :: (ai p.length) :: j11 :: j12 :: j13 :: j14 :: j15 :: j16 :: j17 :: j18 :: j19 :: j20 :: j21 :: j22 :: j23 :: j24 :: j25 :: []), []⟩ Q) :
    ∀ (k i : Nat), i + k = p.length → ∀ j2 j3 j4 j6 j7 j11 j12 j13 j14 j15 j16 j17 j18 j19 j20 j21 j22 j23 j24 j25 : AV, W Try.prog (RelU Try.prog xf) 0 (.code (.loop xf18_L0) :: .blk 0 :: .stop :: K) ⟨((aT T) :: (al f p) :: j2 :: j3 :: j4 :: (ai (prI (numsK T p i))) :: j6 :: j7 :: (al f p) :: (ai p.length) :: (ai i) :: j11 :: j12 :: j13 :: j14 :: j15 :: j16 :: j17 :: j18 :: j19 :: j20 :: j21 :: j22 :: j23 :: j24 :: j25 :: []), []⟩ Q := by
  intro k
  induction k with
  | zero =>
    intro i hi j2 j3 j4 j6 j7 j11 j12 j13 j14 j15 j16 j17 j18 j19 j20 j21 j22 j23 j24 j25
    have : i = p.length := by omega
    subst this
    have h0 : decide (p.length < p.length) = false := by simp
    refine W_loop (W_run 80 ?_)
    simp (maxSteps := 2000000) only [SA, Nat.reduceDiv, Nat.reduceSub, Nat.reduceAdd, Int.reduceLT, Int.reduceLE, Int.reduceToNat, Nat.reduceMul, Nat.reduceEqDiff, reduceCtorEq, Nat.reduceBEq, Nat.reduceLeDiff, Nat.reduceLT, xf18_L0, ai, al, aT, lt_cast, h0]
    exact W_stop (hK _ _ _ _ _ _ _ _ _ _ _ _ _ _ _ _ _ _ _ _)
  | succ k ih =>
    intro i hi j2 j3 j4 j6 j7 j11 j12 j13 j14 j15 j16 j17 j18 j19 j20 j21 j22 j23 j24 j25
    have h1 : i < p.length := by omega
    have h0 : decide (i < p.length) = true := decide_eq_true h1
    have hn4 := hg.n4
    have hc := hp _ (getD_mem (d := 0) h1)
    have hgt := get_T (T := T) (i := i) (by rw [hg.len]; omega)
    have hcl := get_cel hg (r := i) (by omega) hc
    have hb := prI_big (l := numsK T p (i + 1)) (by rw [numsK_len]; omega) fun x q => by
      unfold numsK at q
      obtain ⟨r, hr, rfl⟩ := List.mem_map.1 q
      have hr := List.mem_range.1 hr
      have hc := hp _ (getD_mem (d := 0) (i := r) (l := p) (by omega))
      exact hg.b (by omega) (by omega)
    have next := ih (i + 1) (by omega)
    rw [numsK_succ, prI_snoc] at next hb
    generalize hC : p.getD i 0 = c at *
    have hga := get_al h1
    rw [hC] at hga
    refine W_loop (W_run 80 ?_)
    simp (maxSteps := 2000000) only [SA, Nat.reduceDiv, Nat.reduceSub, Nat.reduceAdd, Int.reduceLT, Int.reduceLE, Int.reduceToNat, Nat.reduceMul, Nat.reduceEqDiff, reduceCtorEq, Nat.reduceBEq, Nat.reduceLeDiff, Nat.reduceLT, xf18_L0, ai, al, aT, lt_cast, h0, hga, hgt, hc.1, hcl]
    rw [wrap_id (z := prI (numsK T p i) * cel T i c.toNat) (by omega) (by omega), wrap_id (z := (i : Int) + 1) (by omega) (by omega)]
    exact next _ _ _ _ _ _ _ _ _ _ _ _ _ _ _ _ _ _ _ _
theorem wgt_run {n : Nat} {T : List (List Int)} (hg : gT n T) (f : Bool) {p : List Int} (hp : inC n p) (hl : p.length ≤ n) : Runs Try.prog xf 18 [aT T, al f p] (ai (wgt T p)) := by
  refine Runs.ofW (fn := xf18) 20 (by kernel_rfl) (W_run 80 ?_)
  simp (maxSteps := 2000000) only [SA, Nat.reduceDiv, Nat.reduceSub, Nat.reduceAdd, Int.reduceLT, Int.reduceLE, Int.reduceToNat, Nat.reduceMul, Nat.reduceEqDiff, reduceCtorEq, Nat.reduceBEq, Nat.reduceLeDiff, Nat.reduceLT, xf18, ai, al, aT]
  refine W_alone (wgt_loop n T hg f p hp hl _ _ (fun j2 j3 j4 j6 j7 j11 j12 j13 j14 j15 j16 j17 j18 j19 j20 j21 j22 j23 j24 j25 => W_run 80 ?_) p.length 0 (by omega) _ _ _ _ _ _ _ _ _ _ _ _ _ _ _ _ _ _ _ _)
  simp (maxSteps := 2000000) only [SA, Nat.reduceDiv, Nat.reduceSub, Nat.reduceAdd, Int.reduceLT, Int.reduceLE, Int.reduceToNat, Nat.reduceMul, Nat.reduceEqDiff, reduceCtorEq, Nat.reduceBEq, Nat.reduceLeDiff, Nat.reduceLT, xf18_R0, ai, al, aT]
  exact W_ret1 (WX_nil ⟨.inl rfl, _, rfl, rfl⟩)
end Go.Proofs.Ytkbeaheladmeiaa

set_option linter.unusedSimpArgs false
set_option linter.unusedVariables false
namespace Go.Proofs.Ytkbeaheladmeiaa
open Go Go.Proofs.Eng
set_option maxRecDepth 100000
set_option maxHeartbeats 2000000
/-- slices.Contains at a list that may be nil -/
theorem idn_run (p : Int) : Runs Try.prog xf 76 [nilA, ai p] (ai (-1)) := by
  refine Runs.ofW (fn := xf76) 20 (by kernel_rfl) (W_run 80 ?_)
  simp (maxSteps := 2000000) only [SA, Nat.reduceDiv, Nat.reduceSub, Nat.reduceAdd, Int.reduceLT, Int.reduceLE, Int.reduceToNat, Nat.reduceMul, Nat.reduceEqDiff, reduceCtorEq, Nat.reduceBEq, Nat.reduceLeDiff, Nat.reduceLT, xf76, ai, nilA]
  refine W_loop (W_run 80 ?_)
  simp (maxSteps := 2000000) only [SA, Nat.reduceDiv, Nat.reduceSub, Nat.reduceAdd, Int.reduceLT, Int.reduceLE, Int.reduceToNat, Nat.reduceMul, Nat.reduceEqDiff, reduceCtorEq, Nat.reduceBEq, Nat.reduceLeDiff, Nat.reduceLT, xf76_L0, xf76_R0, ai, d00]
  exact W_ret1 (WX_nil ⟨.inl rfl, _, rfl, rfl⟩)
theorem has_run {x : AV} {l : List Int} (hl : isL x l) (p : Int) (hn : l.length ≤ 100000) : Runs Try.prog xf 43 [x, ai p] (ab (memD l p)) := by
  rcases hl with ⟨f, rfl⟩ | ⟨rfl, rfl⟩
  · exact idx1_has f l p hn
  · refine Runs.ofW (fn := xf43) 20 (by kernel_rfl) (W_run 80 ?_)
    have dm : decide ((0 : Int) ≤ -1) = false := rfl
    simp (maxSteps := 2000000) only [SA, Nat.reduceDiv, Nat.reduceSub, Nat.reduceAdd, Int.reduceLT, Int.reduceLE, Int.reduceToNat, Nat.reduceMul, Nat.reduceEqDiff, reduceCtorEq, Nat.reduceBEq, Nat.reduceLeDiff, Nat.reduceLT, xf43, ai, nilA]
    refine W_call (args := [nilA, ai p]) rfl (noRefs_2 rfl rfl) (idn_run p) rfl (W_run 80 ?_)
    simp (maxSteps := 2000000) only [SA, Nat.reduceDiv, Nat.reduceSub, Nat.reduceAdd, Int.reduceLT, Int.reduceLE, Int.reduceToNat, Nat.reduceMul, Nat.reduceEqDiff, reduceCtorEq, Nat.reduceBEq, Nat.reduceLeDiff, Nat.reduceLT, ai, nilA, dm]
    exact W_ret1 (WX_nil ⟨.inl rfl, _, rfl, rfl⟩)
theorem prI_zero : ∀ (l : List Int), prI l = 0 ↔ (0 : Int) ∈ l := by
  have key : ∀ (l : List Int) (a : Int), l.foldl (· * ·) a = 0 ↔ a = 0 ∨ (0 : Int) ∈ l := by
    intro l
    induction l with
    | nil => intro a; simp
    | cons x t ih =>
      intro a
      rw [List.foldl_cons, ih, Int.mul_eq_zero, List.mem_cons]
      constructor
      · rintro ((h | h) | h)
        · exact .inl h
        · exact .inr (.inl h.symm)
        · exact .inr (.inr h)
      · rintro (h | h | h)
        · exact .inl (.inl h)
        · exact .inl (.inr h.symm)
        · exact .inr h
  intro l
  unfold prI
  rw [key]
  simp
end Go.Proofs.Ytkbeaheladmeiaa

set_option linter.unusedSimpArgs false
set_option linter.unusedVariables false
namespace Go.Proofs.Ytkbeaheladmeiaa
open Go Go.Proofs.Eng
set_option maxRecDepth 100000
set_option maxHeartbeats 2000000
theorem reify_isL {x : AV} {l : List Int} (hx : isL x l) (η : Heap) (n : Nat) : reify η (n + 3) x = some x := by
  rcases hx with ⟨f, rfl⟩ | ⟨rfl, _⟩
  · have h : ∀ l : List Int, (l.map ai).mapM (elemR (reify η (n + 2))) = some (l.map ai) := fun l => by
      induction l with
      | nil => rfl
      | cons a l ih => rw [List.map_cons, List.mapM_cons, ih]; rfl
    show Option.map (AV.sl 1 f) ((l.map ai).mapM (elemR (reify η (n + 2)))) = _
    rw [h]; rfl
  · rfl
end Go.Proofs.Ytkbeaheladmeiaa

