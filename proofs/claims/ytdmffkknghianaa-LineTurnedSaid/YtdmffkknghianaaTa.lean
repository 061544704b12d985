/-
  The greater and the lesser of two numbers; lists of numbers; calls of functions as values.
-/
import Derived.Test.YtdmffkknghianaaXV
import Derived.Test.YtdmffkknghianaaEngT
import Derived.WalkKit
set_option linter.unusedSimpArgs false
set_option linter.unusedVariables false
namespace Go.Proofs.Ytdmffkknghianaa
open Go Go.Proofs.Eng
set_option maxRecDepth 100000
set_option maxHeartbeats 1000000
/-- the rules by which a stack is carried on, in one -/
theorem SA : type_of% (
  And.intro @Eng.go_some (And.intro @Eng.go_none (And.intro @Eng.go_zero (And.intro @Eng.nxt_op (And.intro @Eng.nxt_guard (And.intro @Eng.nxt_skip (And.intro @Eng.nxt_label (And.intro @Eng.nxt_region (
  And.intro @Eng.nxt_drawn (And.intro @Eng.nxt_seq (And.intro @Eng.nxt_block (And.intro @Eng.nxt_scope (And.intro @Eng.nxt_exit (And.intro @Eng.nxt_blk (And.intro @Eng.nxt_lp (And.intro @Eng.nxt_cond (
  And.intro @Eng.nxt_loop (And.intro @Eng.nxt_ret (And.intro @Eng.nxt_stop (And.intro @Eng.nxt_nil (And.intro @Eng.start.eq_1 (And.intro @Eng.frG.eq_1 (And.intro @Eng.frG.eq_2 (And.intro @Eng.frF.eq_1 (
  And.intro @Eng.frF.eq_2 (And.intro @Eng.isCall.eq_1 (And.intro @Eng.isCall.eq_2 (And.intro @Eng.isCall.eq_3 (And.intro @Eng.isCall.eq_4 (And.intro @Eng.stp.eq_1 (And.intro @Eng.stp.eq_2 (And.intro @Eng.exec1.eq_1 (
  And.intro @Eng.exec1K.eq_1 (And.intro @Eng.dK.eq_1 (And.intro @Eng.keyA.eq_1 (And.intro @Eng.keyA.eq_2 (And.intro @Eng.keyA.eq_3 (And.intro @Eng.keyA.eq_4 (And.intro @Eng.keyA.eq_5 (And.intro @Eng.keyA.eq_6 (
  And.intro @Eng.keyA.eq_7 (And.intro @Eng.keyA.eq_8 (And.intro @Eng.keyA.eq_9 (And.intro @Eng.keyA.eq_10 (And.intro @Eng.keyA.eq_11 (And.intro @Eng.keyA.eq_12 (And.intro @Eng.keyA.eq_13 (And.intro @Eng.keyA.eq_14 (
  And.intro @Eng.keyA.eq_15 (And.intro @Eng.wantedA.eq_1 (And.intro @Eng.wantedA.eq_2 (And.intro @Eng.stepF.eq_1 (And.intro @Eng.stepF.eq_2 (And.intro @Eng.stepF.eq_3 (And.intro @Eng.stepF.eq_4 (And.intro @Eng.stepF.eq_5 (
  And.intro @Eng.stepF.eq_6 (And.intro @Eng.stepF.eq_7 (And.intro @Eng.stepF.eq_8 (And.intro @Eng.stepF.eq_9 (And.intro @Eng.stepF.eq_10 (And.intro @Eng.stepF.eq_11 (And.intro @Eng.stepF.eq_12 (And.intro @Eng.stepF.eq_13 (
  And.intro @Eng.stepF.eq_14 (And.intro @Eng.stepF.eq_15 (And.intro @Eng.stepF.eq_16 (And.intro @Eng.stepF.eq_17 (And.intro @Eng.stepF.eq_18 (And.intro @Eng.stepF.eq_19 (And.intro @Eng.stepF.eq_20 (And.intro @Eng.stepF.eq_21 (
  And.intro @Eng.stepF.eq_22 (And.intro @Eng.stepF.eq_23 (And.intro @Eng.stepF.eq_24 (And.intro @Eng.stepF.eq_25 (And.intro @Eng.stepF.eq_26 (And.intro @Eng.stepF.eq_27 (And.intro @Eng.stepF.eq_28 (And.intro @Eng.stepF.eq_29 (
  And.intro @Eng.stepF.eq_30 (And.intro @Eng.stepF.eq_31 (And.intro @Eng.stepF.eq_32 (And.intro @Eng.stepF.eq_33 (And.intro @Eng.stepF.eq_34 (And.intro @Eng.stepF.eq_35 (And.intro @Eng.stepF.eq_36 (And.intro @Eng.stepF.eq_37 (
  And.intro @Eng.stepF.eq_38 (And.intro @Eng.stepF.eq_39 (And.intro @Eng.stepF.eq_40 (And.intro @Eng.stepF.eq_41 (And.intro @Eng.stepF.eq_42 (And.intro @Eng.stepF.eq_43 (And.intro @Eng.stepF.eq_44 (And.intro @Eng.stF_mv.eq_1 (
  And.intro @Eng.stF_bin.eq_1 (And.intro @Eng.stF_len.eq_1 (And.intro @Eng.stF_un.eq_1 (And.intro @Eng.stF_pick.eq_1 (And.intro @Eng.stF_load.eq_1 (And.intro @Eng.stF_iadr.eq_1 (And.intro @Eng.stF_box.eq_1 (And.intro @Eng.stF_box.eq_2 (
  And.intro @Eng.stF_fadr.eq_1 (And.intro @Eng.stF_store.eq_1 (And.intro @Eng.stF_ext.eq_1 (And.intro @Eng.stF_fld.eq_1 (And.intro @Eng.stF_idx.eq_1 (And.intro @Eng.stF_aadr.eq_1 (And.intro @Eng.stF_app.eq_1 (And.intro @Eng.stF_bldS.eq_1 (
  And.intro @Eng.stF_bldS.eq_2 (And.intro @Eng.stF_slc.eq_1 (And.intro @Eng.stF_slcA.eq_1 (And.intro @Eng.stF_bld.eq_1 (And.intro @Eng.stF_isnil.eq_1 (And.intro @Eng.stF_mki.eq_1 (And.intro @Eng.stF_mkf.eq_1 (And.intro @Eng.stF_mkb.eq_1 (
  And.intro @Eng.stF_nilc.eq_1 (And.intro @Eng.stF_mks.eq_1 (And.intro @Eng.stF_tas.eq_1 (And.intro @Eng.mapF_eq (And.intro @Eng.evalF_eq (And.intro @Eng.evalA.eq_1 (And.intro @Eng.evalA.eq_2 (And.intro @Eng.setAF.eq_1 (
  And.intro @Eng.setAF.eq_2 (And.intro @Eng.setA.eq_1 (And.intro @Eng.setA.eq_2 (And.intro @Eng.setF_eq (And.intro @Eng.putF_eq (And.intro @Eng.lookF_eq (And.intro @_root_.List.getD_cons_zero.{0} (And.intro @_root_.List.getD_cons_succ.{0} (
  And.intro @_root_.List.set_cons_zero.{0} (And.intro @_root_.List.set_cons_succ.{0} (And.intro @_root_.List.replicate.eq_1.{0} (And.intro @_root_.List.replicate.eq_2.{0} (And.intro @_root_.List.length_cons.{0} (And.intro @_root_.List.length_nil.{0} (And.intro @_root_.Nat.zero_add (And.intro @_root_.List.cons_append.{0} (
  And.intro @_root_.List.nil_append.{0} (And.intro @_root_.Option.getD.eq_1.{0} (And.intro @_root_.Option.getD.eq_2.{0} (And.intro @Eng.drop.eq_1 (And.intro @Eng.drop.eq_2 (And.intro @Eng.drop.eq_3 (And.intro @Eng.drop.eq_4 (And.intro @Eng.drop.eq_5 (
  And.intro @Eng.drop.eq_6 (And.intro @Eng.drop.eq_7 (And.intro @Eng.drop.eq_8 (And.intro @_root_.Nat.beq.eq_1 (And.intro @_root_.Nat.beq.eq_2 (And.intro @_root_.Nat.beq.eq_3 (And.intro @_root_.Nat.beq.eq_4 (And.intro @_root_.List.length_map.{0, 0} (
  And.intro @Eng.binV.eq_1 (And.intro @Eng.binV.eq_2 (And.intro @Eng.binV.eq_3 (And.intro @Eng.binV.eq_4 (And.intro @Eng.binV.eq_5 (And.intro @Eng.binI.eq_1 (And.intro @Eng.binI.eq_2 (And.intro @Eng.binI.eq_3 (
  And.intro @Eng.binI.eq_4 (And.intro @Eng.binI.eq_5 (And.intro @Eng.binI.eq_6 (And.intro @Eng.binI.eq_7 (And.intro @Eng.binI.eq_8 (And.intro @Eng.binI.eq_9 (And.intro @Eng.binI.eq_10 (And.intro @Eng.binI.eq_11 (
  And.intro @Eng.binI.eq_12 (And.intro @Eng.binI.eq_13 (And.intro @Eng.binI.eq_14 (And.intro @Eng.binI.eq_15 (And.intro @Eng.binI.eq_16 (And.intro @Eng.unV.eq_1 (And.intro @Eng.unV.eq_2 (And.intro @Eng.unV.eq_3 (
  And.intro @_root_.if_true.{1} (And.intro @Eng.asInt.eq_1 (And.intro @Eng.asInt.eq_2 (And.intro @Eng.part.eq_1 (And.intro @Eng.part.eq_2 (And.intro @Eng.cellsOf.eq_1 (And.intro @Eng.cellsOf.eq_2 (And.intro @Eng.toNat_cast (
  And.intro @Eng.cast_nonneg (And.intro @_root_.true_and (And.intro @_root_.and_true (And.intro @_root_.if_pos.{1} (And.intro @Eng.giveOp.eq_1 (And.intro @Eng.gvK.eq_1 (And.intro @_root_.List.getElem?_cons_zero.{0} (And.intro @_root_.List.getElem?_cons_succ.{0} (
  And.intro @_root_.Bool.not_true (And.intro @_root_.Bool.not_false (And.intro @Eng.ofVal.eq_1 (And.intro @Eng.ofVal.eq_2 (And.intro @_root_.eq_self.{1} (And.intro @_root_.and_self (And.intro @_root_.true_implies (And.intro @Eng.dfF.eq_1 (
  And.intro @Eng.dfF.eq_2 (And.intro @Eng.touch.eq_1 (And.intro @Eng.touch.eq_2 (And.intro @Eng.touch.eq_3 (And.intro @Eng.touch.eq_4 (And.intro @Eng.touch.eq_5 (And.intro @Eng.touch.eq_6 (And.intro @Eng.touch.eq_7 (
  And.intro @Eng.touch.eq_8 (And.intro @Eng.touch.eq_9 (And.intro @Eng.touch.eq_10 (And.intro @Eng.touch.eq_11 (And.intro @Eng.touch.eq_12 (And.intro @Eng.touch.eq_13 (And.intro @Eng.touch.eq_14 (And.intro @Eng.touch.eq_15 (
  And.intro @Eng.touch.eq_16 (And.intro @Eng.touch.eq_17 (And.intro @Eng.touch.eq_18 (And.intro @Eng.touch.eq_19 (And.intro @Eng.touch.eq_20 (And.intro @Eng.touch.eq_21 (And.intro @Eng.regF.eq_1 (And.intro @Eng.quietF.eq_1 (
  And.intro @Eng.quietF.eq_2 (And.intro @Eng.quietF.eq_3 (And.intro @Eng.pairOK.eq_1 (And.intro @Eng.pairOK.eq_2 (And.intro @Eng.noCs.eq_1 (And.intro @Go.Value.oneCell'.eq_1 (And.intro @Go.Value.oneCell'.eq_2 (And.intro @Go.Value.oneCell'.eq_3 (
  And.intro @_root_.decide_true (And.intro @_root_.decide_false (And.intro @_root_.Nat.mul_one (And.intro @Eng.asBound.eq_1 (And.intro @Eng.asBound.eq_2 (And.intro @Eng.fullOf.eq_1 (And.intro @Eng.fullOf.eq_2 (And.intro @_root_.Option.isSome_none.{0} (
  And.intro @_root_.Option.isSome_some.{0} (And.intro @_root_.Nat.zero_le (And.intro @_root_.Bool.false_eq_true (And.intro @_root_.false_implies (And.intro @_root_.Int.cast_ofNat_Int (And.intro @_root_.Int.le_refl (And.intro @Eng.look.eq_1 (And.intro @Eng.look.eq_2 (
  And.intro @Eng.putAt.eq_1 (And.intro @Eng.putAt.eq_2 (And.intro @_root_.if_false.{1} (And.intro @_root_.List.all_cons.{0} (And.intro @_root_.List.all_nil.{0} (And.intro @Eng.tf_beq (And.intro @Eng.ft_beq (And.intro @Eng.lvSub.eq_1 (
  And.intro @Eng.lvSub.eq_2 (And.intro @Eng.lvSub.eq_3 (And.intro @Eng.lvSub.eq_4 (And.intro @Eng.lvSub.eq_5 (And.intro @Eng.lvSub.eq_6 (And.intro @Eng.lvSub.eq_7 (And.intro @Eng.lvSub.eq_8 (And.intro @Eng.lvSub.eq_9 (
  And.intro @Eng.lvOK.eq_1 (And.intro @Eng.lvOK.eq_2 (And.intro @Eng.lvOK.eq_3 (And.intro @Eng.lvOK.eq_4 (And.intro @Eng.lvOK.eq_5 (And.intro @Eng.lvOK.eq_6 (And.intro @Eng.lvOK.eq_7 (And.intro @Eng.lvOK.eq_8 (
  And.intro @Eng.lvOK.eq_9 (And.intro @Eng.lvOK.eq_10 (And.intro @Eng.lvOK.eq_11 (And.intro @Eng.lvOK.eq_12 (And.intro @Eng.isNone.eq_1 (And.intro @Eng.isNone.eq_2 (And.intro @Eng.width.eq_1 (And.intro @Eng.solid.eq_1 (
  And.intro @Eng.solid.eq_2 (And.intro @Eng.solid.eq_3 (And.intro @Eng.solid.eq_4 (And.intro @Eng.splice.eq_1 (And.intro @_root_.List.take_zero.{0} (And.intro @_root_.List.drop_zero.{0} (And.intro @_root_.List.drop_nil.{0} (And.intro @_root_.List.take_nil.{0} (
  And.intro @_root_.List.drop_succ_cons.{0} (And.intro @_root_.List.take_succ_cons.{0} (And.intro @_root_.List.append_nil.{0} (And.intro @_root_.beq_self_eq_true.{0} (And.intro @_root_.Bool.and_true (And.intro @_root_.Bool.true_and (And.intro @_root_.Bool.and_self (And.intro @_root_.ge_iff_le.{0} (
  And.intro @_root_.gt_iff_lt.{0} (@_root_.Nat.le_refl)))))))))))))))))))))))))))))))))))))))))))))))))))))))))))))))))))))))))))))))))))))))))))))))))))))))))))))))))))))))))))))))))))))))))))))))))))))))))))))))))))))))))))))))))))))))))))))))))))))))))))))))))))))))))))))))))))))))))))))))))))))))))))))))))))))))))))))))))))))))))))))))))))))))))))))))))) :=
  And.intro @Eng.go_some (And.intro @Eng.go_none (And.intro @Eng.go_zero (And.intro @Eng.nxt_op (And.intro @Eng.nxt_guard (And.intro @Eng.nxt_skip (And.intro @Eng.nxt_label (And.intro @Eng.nxt_region (
  And.intro @Eng.nxt_drawn (And.intro @Eng.nxt_seq (And.intro @Eng.nxt_block (And.intro @Eng.nxt_scope (And.intro @Eng.nxt_exit (And.intro @Eng.nxt_blk (And.intro @Eng.nxt_lp (And.intro @Eng.nxt_cond (
  And.intro @Eng.nxt_loop (And.intro @Eng.nxt_ret (And.intro @Eng.nxt_stop (And.intro @Eng.nxt_nil (And.intro @Eng.start.eq_1 (And.intro @Eng.frG.eq_1 (And.intro @Eng.frG.eq_2 (And.intro @Eng.frF.eq_1 (
  And.intro @Eng.frF.eq_2 (And.intro @Eng.isCall.eq_1 (And.intro @Eng.isCall.eq_2 (And.intro @Eng.isCall.eq_3 (And.intro @Eng.isCall.eq_4 (And.intro @Eng.stp.eq_1 (And.intro @Eng.stp.eq_2 (And.intro @Eng.exec1.eq_1 (
  And.intro @Eng.exec1K.eq_1 (And.intro @Eng.dK.eq_1 (And.intro @Eng.keyA.eq_1 (And.intro @Eng.keyA.eq_2 (And.intro @Eng.keyA.eq_3 (And.intro @Eng.keyA.eq_4 (And.intro @Eng.keyA.eq_5 (And.intro @Eng.keyA.eq_6 (
  And.intro @Eng.keyA.eq_7 (And.intro @Eng.keyA.eq_8 (And.intro @Eng.keyA.eq_9 (And.intro @Eng.keyA.eq_10 (And.intro @Eng.keyA.eq_11 (And.intro @Eng.keyA.eq_12 (And.intro @Eng.keyA.eq_13 (And.intro @Eng.keyA.eq_14 (
  And.intro @Eng.keyA.eq_15 (And.intro @Eng.wantedA.eq_1 (And.intro @Eng.wantedA.eq_2 (And.intro @Eng.stepF.eq_1 (And.intro @Eng.stepF.eq_2 (And.intro @Eng.stepF.eq_3 (And.intro @Eng.stepF.eq_4 (And.intro @Eng.stepF.eq_5 (
  And.intro @Eng.stepF.eq_6 (And.intro @Eng.stepF.eq_7 (And.intro @Eng.stepF.eq_8 (And.intro @Eng.stepF.eq_9 (And.intro @Eng.stepF.eq_10 (And.intro @Eng.stepF.eq_11 (And.intro @Eng.stepF.eq_12 (And.intro @Eng.stepF.eq_13 (
  And.intro @Eng.stepF.eq_14 (And.intro @Eng.stepF.eq_15 (And.intro @Eng.stepF.eq_16 (And.intro @Eng.stepF.eq_17 (And.intro @Eng.stepF.eq_18 (And.intro @Eng.stepF.eq_19 (And.intro @Eng.stepF.eq_20 (And.intro @Eng.stepF.eq_21 (
  And.intro @Eng.stepF.eq_22 (And.intro @Eng.stepF.eq_23 (And.intro @Eng.stepF.eq_24 (And.intro @Eng.stepF.eq_25 (And.intro @Eng.stepF.eq_26 (And.intro @Eng.stepF.eq_27 (And.intro @Eng.stepF.eq_28 (And.intro @Eng.stepF.eq_29 (
  And.intro @Eng.stepF.eq_30 (And.intro @Eng.stepF.eq_31 (And.intro @Eng.stepF.eq_32 (And.intro @Eng.stepF.eq_33 (And.intro @Eng.stepF.eq_34 (And.intro @Eng.stepF.eq_35 (And.intro @Eng.stepF.eq_36 (And.intro @Eng.stepF.eq_37 (
  And.intro @Eng.stepF.eq_38 (And.intro @Eng.stepF.eq_39 (And.intro @Eng.stepF.eq_40 (And.intro @Eng.stepF.eq_41 (And.intro @Eng.stepF.eq_42 (And.intro @Eng.stepF.eq_43 (And.intro @Eng.stepF.eq_44 (And.intro @Eng.stF_mv.eq_1 (
  And.intro @Eng.stF_bin.eq_1 (And.intro @Eng.stF_len.eq_1 (And.intro @Eng.stF_un.eq_1 (And.intro @Eng.stF_pick.eq_1 (And.intro @Eng.stF_load.eq_1 (And.intro @Eng.stF_iadr.eq_1 (And.intro @Eng.stF_box.eq_1 (And.intro @Eng.stF_box.eq_2 (
  And.intro @Eng.stF_fadr.eq_1 (And.intro @Eng.stF_store.eq_1 (And.intro @Eng.stF_ext.eq_1 (And.intro @Eng.stF_fld.eq_1 (And.intro @Eng.stF_idx.eq_1 (And.intro @Eng.stF_aadr.eq_1 (And.intro @Eng.stF_app.eq_1 (And.intro @Eng.stF_bldS.eq_1 (
  And.intro @Eng.stF_bldS.eq_2 (And.intro @Eng.stF_slc.eq_1 (And.intro @Eng.stF_slcA.eq_1 (And.intro @Eng.stF_bld.eq_1 (And.intro @Eng.stF_isnil.eq_1 (And.intro @Eng.stF_mki.eq_1 (And.intro @Eng.stF_mkf.eq_1 (And.intro @Eng.stF_mkb.eq_1 (
  And.intro @Eng.stF_nilc.eq_1 (And.intro @Eng.stF_mks.eq_1 (And.intro @Eng.stF_tas.eq_1 (And.intro @Eng.mapF_eq (And.intro @Eng.evalF_eq (And.intro @Eng.evalA.eq_1 (And.intro @Eng.evalA.eq_2 (And.intro @Eng.setAF.eq_1 (
  And.intro @Eng.setAF.eq_2 (And.intro @Eng.setA.eq_1 (And.intro @Eng.setA.eq_2 (And.intro @Eng.setF_eq (And.intro @Eng.putF_eq (And.intro @Eng.lookF_eq (And.intro @_root_.List.getD_cons_zero.{0} (And.intro @_root_.List.getD_cons_succ.{0} (
  And.intro @_root_.List.set_cons_zero.{0} (And.intro @_root_.List.set_cons_succ.{0} (And.intro @_root_.List.replicate.eq_1.{0} (And.intro @_root_.List.replicate.eq_2.{0} (And.intro @_root_.List.length_cons.{0} (And.intro @_root_.List.length_nil.{0} (And.intro @_root_.Nat.zero_add (And.intro @_root_.List.cons_append.{0} (
  And.intro @_root_.List.nil_append.{0} (And.intro @_root_.Option.getD.eq_1.{0} (And.intro @_root_.Option.getD.eq_2.{0} (And.intro @Eng.drop.eq_1 (And.intro @Eng.drop.eq_2 (And.intro @Eng.drop.eq_3 (And.intro @Eng.drop.eq_4 (And.intro @Eng.drop.eq_5 (
  And.intro @Eng.drop.eq_6 (And.intro @Eng.drop.eq_7 (And.intro @Eng.drop.eq_8 (And.intro @_root_.Nat.beq.eq_1 (And.intro @_root_.Nat.beq.eq_2 (And.intro @_root_.Nat.beq.eq_3 (And.intro @_root_.Nat.beq.eq_4 (And.intro @_root_.List.length_map.{0, 0} (
  And.intro @Eng.binV.eq_1 (And.intro @Eng.binV.eq_2 (And.intro @Eng.binV.eq_3 (And.intro @Eng.binV.eq_4 (And.intro @Eng.binV.eq_5 (And.intro @Eng.binI.eq_1 (And.intro @Eng.binI.eq_2 (And.intro @Eng.binI.eq_3 (
  And.intro @Eng.binI.eq_4 (And.intro @Eng.binI.eq_5 (And.intro @Eng.binI.eq_6 (And.intro @Eng.binI.eq_7 (And.intro @Eng.binI.eq_8 (And.intro @Eng.binI.eq_9 (And.intro @Eng.binI.eq_10 (And.intro @Eng.binI.eq_11 (
  And.intro @Eng.binI.eq_12 (And.intro @Eng.binI.eq_13 (And.intro @Eng.binI.eq_14 (And.intro @Eng.binI.eq_15 (And.intro @Eng.binI.eq_16 (And.intro @Eng.unV.eq_1 (And.intro @Eng.unV.eq_2 (And.intro @Eng.unV.eq_3 (
  And.intro @_root_.if_true.{1} (And.intro @Eng.asInt.eq_1 (And.intro @Eng.asInt.eq_2 (And.intro @Eng.part.eq_1 (And.intro @Eng.part.eq_2 (And.intro @Eng.cellsOf.eq_1 (And.intro @Eng.cellsOf.eq_2 (And.intro @Eng.toNat_cast (
  And.intro @Eng.cast_nonneg (And.intro @_root_.true_and (And.intro @_root_.and_true (And.intro @_root_.if_pos.{1} (And.intro @Eng.giveOp.eq_1 (And.intro @Eng.gvK.eq_1 (And.intro @_root_.List.getElem?_cons_zero.{0} (And.intro @_root_.List.getElem?_cons_succ.{0} (
  And.intro @_root_.Bool.not_true (And.intro @_root_.Bool.not_false (And.intro @Eng.ofVal.eq_1 (And.intro @Eng.ofVal.eq_2 (And.intro @_root_.eq_self.{1} (And.intro @_root_.and_self (And.intro @_root_.true_implies (And.intro @Eng.dfF.eq_1 (
  And.intro @Eng.dfF.eq_2 (And.intro @Eng.touch.eq_1 (And.intro @Eng.touch.eq_2 (And.intro @Eng.touch.eq_3 (And.intro @Eng.touch.eq_4 (And.intro @Eng.touch.eq_5 (And.intro @Eng.touch.eq_6 (And.intro @Eng.touch.eq_7 (
  And.intro @Eng.touch.eq_8 (And.intro @Eng.touch.eq_9 (And.intro @Eng.touch.eq_10 (And.intro @Eng.touch.eq_11 (And.intro @Eng.touch.eq_12 (And.intro @Eng.touch.eq_13 (And.intro @Eng.touch.eq_14 (And.intro @Eng.touch.eq_15 (
  And.intro @Eng.touch.eq_16 (And.intro @Eng.touch.eq_17 (And.intro @Eng.touch.eq_18 (And.intro @Eng.touch.eq_19 (And.intro @Eng.touch.eq_20 (And.intro @Eng.touch.eq_21 (And.intro @Eng.regF.eq_1 (And.intro @Eng.quietF.eq_1 (
  And.intro @Eng.quietF.eq_2 (And.intro @Eng.quietF.eq_3 (And.intro @Eng.pairOK.eq_1 (And.intro @Eng.pairOK.eq_2 (And.intro @Eng.noCs.eq_1 (And.intro @Go.Value.oneCell'.eq_1 (And.intro @Go.Value.oneCell'.eq_2 (And.intro @Go.Value.oneCell'.eq_3 (
  And.intro @_root_.decide_true (And.intro @_root_.decide_false (And.intro @_root_.Nat.mul_one (And.intro @Eng.asBound.eq_1 (And.intro @Eng.asBound.eq_2 (And.intro @Eng.fullOf.eq_1 (And.intro @Eng.fullOf.eq_2 (And.intro @_root_.Option.isSome_none.{0} (
  And.intro @_root_.Option.isSome_some.{0} (And.intro @_root_.Nat.zero_le (And.intro @_root_.Bool.false_eq_true (And.intro @_root_.false_implies (And.intro @_root_.Int.cast_ofNat_Int (And.intro @_root_.Int.le_refl (And.intro @Eng.look.eq_1 (And.intro @Eng.look.eq_2 (
  And.intro @Eng.putAt.eq_1 (And.intro @Eng.putAt.eq_2 (And.intro @_root_.if_false.{1} (And.intro @_root_.List.all_cons.{0} (And.intro @_root_.List.all_nil.{0} (And.intro @Eng.tf_beq (And.intro @Eng.ft_beq (And.intro @Eng.lvSub.eq_1 (
  And.intro @Eng.lvSub.eq_2 (And.intro @Eng.lvSub.eq_3 (And.intro @Eng.lvSub.eq_4 (And.intro @Eng.lvSub.eq_5 (And.intro @Eng.lvSub.eq_6 (And.intro @Eng.lvSub.eq_7 (And.intro @Eng.lvSub.eq_8 (And.intro @Eng.lvSub.eq_9 (
  And.intro @Eng.lvOK.eq_1 (And.intro @Eng.lvOK.eq_2 (And.intro @Eng.lvOK.eq_3 (And.intro @Eng.lvOK.eq_4 (And.intro @Eng.lvOK.eq_5 (And.intro @Eng.lvOK.eq_6 (And.intro @Eng.lvOK.eq_7 (And.intro @Eng.lvOK.eq_8 (
  And.intro @Eng.lvOK.eq_9 (And.intro @Eng.lvOK.eq_10 (And.intro @Eng.lvOK.eq_11 (And.intro @Eng.lvOK.eq_12 (And.intro @Eng.isNone.eq_1 (And.intro @Eng.isNone.eq_2 (And.intro @Eng.width.eq_1 (And.intro @Eng.solid.eq_1 (
  And.intro @Eng.solid.eq_2 (And.intro @Eng.solid.eq_3 (And.intro @Eng.solid.eq_4 (And.intro @Eng.splice.eq_1 (And.intro @_root_.List.take_zero.{0} (And.intro @_root_.List.drop_zero.{0} (And.intro @_root_.List.drop_nil.{0} (And.intro @_root_.List.take_nil.{0} (
  And.intro @_root_.List.drop_succ_cons.{0} (And.intro @_root_.List.take_succ_cons.{0} (And.intro @_root_.List.append_nil.{0} (And.intro @_root_.beq_self_eq_true.{0} (And.intro @_root_.Bool.and_true (And.intro @_root_.Bool.true_and (And.intro @_root_.Bool.and_self (And.intro @_root_.ge_iff_le.{0} (
  And.intro @_root_.gt_iff_lt.{0} (@_root_.Nat.le_refl)))))))))))))))))))))))))))))))))))))))))))))))))))))))))))))))))))))))))))))))))))))))))))))))))))))))))))))))))))))))))))))))))))))))))))))))))))))))))))))))))))))))))))))))))))))))))))))))))))))))))))))))))))))))))))))))))))))))))))))))))))))))))))))))))))))))))))))))))))))))))))))))))))))))))))))))))
theorem d00 : decide ((0 : Int) < 0) = false := rfl
theorem tmod_b {a n : Int} (h : 0 ≤ a) (hn : 0 < n) : 0 ≤ a.tmod n ∧ a.tmod n < n := by
  rw [Int.tmod_eq_emod_of_nonneg h]
  exact ⟨Int.emod_nonneg _ (by omega), Int.emod_lt_of_pos _ hn⟩
def nilA : AV := .v (.slice none 0 0)
def isL (x : AV) (l : List Int) : Prop := (∃ f, x = al f l) ∨ (x = nilA ∧ l = [])
theorem noRef_al (full : Bool) (l : List Int) : noRef (al full l) = true := noRefs_of fun x hx => by obtain ⟨z, _, rfl⟩ := List.mem_map.1 hx; rfl
theorem isL.ref {x : AV} {l : List Int} (h : isL x l) : noRef x = true := by
  rcases h with ⟨f, rfl⟩ | ⟨rfl, _⟩
  · exact noRef_al f l
  · rfl
theorem pureRun_bind (P : Program) {α β : Type} (s : Sem α) (f : α → Sem β) : pureRun P (s >>= f) = (pureRun P s).bind fun a => pureRun P (f a) := by
  show pureRun P (Sem.bind s f) = _
  induction s with
  | pure a => rfl
  | program k ih => exact ih P
  | _ => rfl
theorem pureRun_pure (P : Program) {α : Type} (a : α) : pureRun P (pure a : Sem α) = some a := rfl
theorem pureRun_program (P : Program) : pureRun P program = some P := rfl
theorem und1 : pureRun Try.prog (underlying 3) = some (.int .i64) := by kernel_rfl
def opA (σ : List AV) (x : Operand) : AV := (argT x).elim .any (evalA σ)
theorem toVal_op {σ : List AV} {x : Operand} {k : IntKind} {a : Int} (hi : opA σ x = .v (.int k a)) : ((argT x).bind fun xa => toVal (evalF σ xa)) = some (.int k a) := by
  unfold opA at hi
  cases h : argT x with
  | none => rw [h] at hi; cases hi
  | some xa =>
    rw [h] at hi
    simp only [Option.elim] at hi
    rw [Option.bind_some, evalF_eq, hi]; rfl
/-- two numbers are looked at; if there are none, whatever else -/
def rawK (x y : AV) (op : Int → Int → Int) (fb : Option Res) : Option Res :=
  match x, y with
  | .v (.int .i64 a), .v (.int .i64 b) => some (.val (.v (.int .i64 (op a b))))
  | _, _ => fb
def rawX (P : Program) (dst : Nat) (c : Cfg) (o : Op) (ty : Nat) : Option Res := stF_raw P dst c o ty
def mx2 (a b : Int) : Int := if b > a then b else a
def mn2 (a b : Int) : Int := if b < a then b else a
theorem raw_max (dst : Nat) (c : Cfg) (x y : Operand) (ts : Array TypeId) (ty : TypeId) :
    stF_raw Try.prog dst c (.call ⟨.builtin .max, #[x, y], ts⟩) ty = rawK (opA c.σ x) (opA c.σ y) mx2 (rawX Try.prog dst c (.call ⟨.builtin .max, #[x, y], ts⟩) ty) := by
  unfold rawK
  split
  · rename_i a b hi hj
    have e1 := toVal_op hi
    have e2 := toVal_op hj
    unfold stF_raw
    rw [if_pos ⟨rfl, by simp [Op.operands, Call.operands, e1, e2]⟩]
    have h3 : pureRun Try.prog (execOp (fun x => ((argT x).bind fun xa => toVal (evalF c.σ xa)).getD (.bool false)) { dst := none, op := .call ⟨.builtin .max, #[x, y], ts⟩, type := ty, pos := "", after := #[], guard := none }) = some (.value (.int .i64 (mx2 a b))) := by
      simp only [execOp, resolve, invoke, pureRun_bind, pureRun_pure, Option.bind_some, List.map_toArray, List.map_cons, List.map_nil, e1, e2, Option.getD_some]
      show pureRun Try.prog (do pure (.value (← Builtin.max_ ts ty #[.int .i64 a, .int .i64 b])) : Sem Next) = _
      rw [pureRun_bind]
      have h4 : pureRun Try.prog (Builtin.max_ ts ty #[.int .i64 a, .int .i64 b]) = some (.int .i64 (mx2 a b)) := by
        simp [Builtin.max_, Builtin.max2, pureRun_bind, pureRun_pure, mx2]
      rw [h4]; rfl
    rw [h3]; rfl
  · rfl
theorem raw_min (dst : Nat) (c : Cfg) (x y : Operand) (ts : Array TypeId) (ty : TypeId) :
    stF_raw Try.prog dst c (.call ⟨.builtin .min, #[x, y], ts⟩) ty = rawK (opA c.σ x) (opA c.σ y) mn2 (rawX Try.prog dst c (.call ⟨.builtin .min, #[x, y], ts⟩) ty) := by
  unfold rawK
  split
  · rename_i a b hi hj
    have e1 := toVal_op hi
    have e2 := toVal_op hj
    unfold stF_raw
    rw [if_pos ⟨rfl, by simp [Op.operands, Call.operands, e1, e2]⟩]
    have h3 : pureRun Try.prog (execOp (fun x => ((argT x).bind fun xa => toVal (evalF c.σ xa)).getD (.bool false)) { dst := none, op := .call ⟨.builtin .min, #[x, y], ts⟩, type := ty, pos := "", after := #[], guard := none }) = some (.value (.int .i64 (mn2 a b))) := by
      simp only [execOp, resolve, invoke, pureRun_bind, pureRun_pure, Option.bind_some, List.map_toArray, List.map_cons, List.map_nil, e1, e2, Option.getD_some]
      show pureRun Try.prog (do pure (.value (← Builtin.min_ ts ty #[.int .i64 a, .int .i64 b])) : Sem Next) = _
      rw [pureRun_bind]
      have h4 : pureRun Try.prog (Builtin.min_ ts ty #[.int .i64 a, .int .i64 b]) = some (.int .i64 (mn2 a b)) := by
        simp [Builtin.min_, Builtin.min2, pureRun_bind, pureRun_pure, mn2]
      rw [h4]; rfl
    rw [h3]; rfl
  · rfl
theorem reify_os {α : Type} {η : List (Nat × (Nat × Option Ob))} {n k g e s : Nat} {f : α → AV} {l : List α} (hf : ∀ a, elemR (reify η n) (f a) = some (f a)) (hk : Go.Proofs.Eng.look η k = (g, some ⟨e, s, l.map f⟩)) :
    reify η (n + 1) (.os k g l.length s 0 l.length) = some (.sl s false (l.map f)) := by
  have hm : ∀ l : List α, (l.map f).mapM (elemR (reify η n)) = some (l.map f) := fun l => by
    induction l with
    | nil => rfl
    | cons a l ih => rw [List.map_cons, List.mapM_cons, hf, ih]; rfl
  simp only [reify, hk]
  rw [if_pos (by simp), List.drop_zero, List.take_of_length_le (by simp), hm]
  rfl
theorem elem_ai (η : List (Nat × (Nat × Option Ob))) (n : Nat) (z : Int) : elemR (reify η (n + 1)) (ai z) = some (ai z) := rfl
theorem reify_ints {η : List (Nat × (Nat × Option Ob))} {k g e : Nat} {l : List Int} (hk : Go.Proofs.Eng.look η k = (g, some ⟨e, 1, l.map ai⟩)) : reify η 20 (.os k g l.length 1 0 l.length) = some (al false l) := reify_os (elem_ai η 18) hk
/-- a pair of numbers: an article -/
def shA (p : Int × Int) : AV := .ag [ai p.1, ai p.2]
def aS (f : Bool) (l : List (Int × Int)) : AV := .sl 2 f (l.map shA)
theorem elem_sh (η : List (Nat × (Nat × Option Ob))) (n : Nat) (p : Int × Int) : elemR (reify η (n + 1)) (shA p) = some (shA p) := rfl
theorem noRef_aS (f : Bool) (l : List (Int × Int)) : noRef (aS f l) = true := noRefs_of fun x hx => by obtain ⟨z, _, rfl⟩ := List.mem_map.1 hx; rfl
theorem get_sh {l : List (Int × Int)} {i : Nat} (h : i < l.length) : (l.map shA)[i]? = some (shA (l.getD i (0, 0))) := by
  rw [List.getElem?_map, List.getElem?_eq_getElem h, List.getD_eq_getElem?_getD, List.getElem?_eq_getElem h]; rfl
theorem reify_shs {η : List (Nat × (Nat × Option Ob))} {k g e : Nat} {l : List (Int × Int)} (hk : Go.Proofs.Eng.look η k = (g, some ⟨e, 2, l.map shA⟩)) : reify η 20 (.os k g l.length 2 0 l.length) = some (aS false l) := reify_os (elem_sh η 18) hk
theorem take_snoc {α : Type} {l : List α} {i : Nat} {d : α} (h : i < l.length) : l.take (i + 1) = l.take i ++ [l.getD i d] := by
  have e : l.getD i d = l[i] := by rw [List.getD_eq_getElem?_getD, List.getElem?_eq_getElem h]; rfl
  rw [e, ← List.take_append_getElem h]
def sumI (l : List Int) : Int := l.foldl (· + ·) 0
theorem sumI_snoc (l : List Int) (x : Int) : sumI (l ++ [x]) = sumI l + x := by simp [sumI, List.foldl_append]
theorem sumI_b {l : List Int} {b : Int} (hb : 0 ≤ b) : (∀ x, x ∈ l → 0 ≤ x ∧ x ≤ b) → 0 ≤ sumI l ∧ sumI l ≤ b * l.length := by
  intro h
  have key : ∀ (l : List Int) (a : Int), (∀ x, x ∈ l → 0 ≤ x ∧ x ≤ b) → a ≤ l.foldl (· + ·) a ∧ l.foldl (· + ·) a ≤ a + b * l.length := by
    intro l
    induction l with
    | nil => intro a _; simp
    | cons x t ih =>
      intro a hx
      obtain ⟨i1, i2⟩ := ih (a + x) fun y hy => hx y (List.mem_cons_of_mem _ hy)
      have := hx x List.mem_cons_self
      simp only [List.foldl_cons, List.length_cons]
      have e : b * ((t.length + 1 : Nat) : Int) = b * t.length + b := by rw [Int.natCast_add, Int.mul_add]; simp
      rw [e]
      omega
  have := key l 0 h
  unfold sumI; omega
theorem W_callvP {P : Program} {R : Rel} {kb : Nat} {k : List Fr} {c : Cfg} {Q : Out → Cfg → Prop} {l : Option Lv} {f d : Nat} {x : XArg} {caps : List AV} {xs : List XArg} {args : List AV} {r : AV} (hx : evalA c.σ x = .fn f caps) (hc : callable P f = true) (ha : xs.map (evalA c.σ) ++ caps = args)
    (hn : noRefs args = true) (hr : R.p f args r) (hn2 : noRef r = true) (h : W P R kb k ⟨c.σ.set d r, c.η⟩ Q) : W P R kb (.op l ⟨some d, .callv x xs, none⟩ :: k) c Q := by
  subst ha
  exact W_op (.call c (d := 0) f _ r rfl (by simp only [Go.Proofs.Eng.step, hx, hc, if_true]) hn hr hn2) (limOK_none l) h
theorem W_callvB {P : Program} {R : Rel} {kb : Nat} {k : List Fr} {c : Cfg} {Q : Out → Cfg → Prop} {l : Option Lv} {f d : Nat} {x : XArg} {fs : List AV} {xs : List XArg} {args : List AV} {r : AV} (hx : evalA c.σ x = .bm f fs) (hc : callable P f = true) (ha : fs ++ xs.map (evalA c.σ) = args)
    (hn : noRefs args = true) (hr : R.p f args r) (hn2 : noRef r = true) (h : W P R kb k ⟨c.σ.set d r, c.η⟩ Q) : W P R kb (.op l ⟨some d, .callv x xs, none⟩ :: k) c Q := by
  subst ha
  exact W_op (.call c (d := 0) f _ r rfl (by simp only [Go.Proofs.Eng.step, hx, hc, if_true]) hn hr hn2) (limOK_none l) h
theorem W_callvR {P : Program} {R : Rel} {kb : Nat} {k : List Fr} {c : Cfg} {Q : Out → Cfg → Prop} {l : Option Lv} {f kb' : Nat} {d : Option Nat} {x : XArg} {caps : List AV} {xs : List XArg} {args : List AV} {r : AV} {η' : Heap} (hx : evalA c.σ x = .fn f caps) (hc : callable P f = true) (ha : xs.map (evalA c.σ) ++ caps = args)
    (hr : R.q kb' f args c.η r η') (hl : limOK l .any = true) (h : W P R kb k ⟨setA c.σ d r, η'⟩ Q) : W P R kb (.op l ⟨d, .callv x xs, none⟩ :: k) c Q := by
  subst ha
  exact W_op (.callR c (d := 0) kb' f _ r η' rfl (by simp only [Go.Proofs.Eng.step, hx, hc, if_true]) hr) hl h
theorem noRef_shA (p : Int × Int) : noRef (shA p) = true := rfl
end Go.Proofs.Ytdmffkknghianaa

