/-
  'TopPiled' after its folds are known: one of seven runs.
-/
import Derived.Test.YthhhibpnhokjfabFp
import Derived.Test.YthhhibpnhokjfabPcL
set_option linter.unusedSimpArgs false
set_option linter.unusedVariables false
namespace Go.Proofs.Ythhhibpnhokjfab
open Go Go.Proofs.Eng
set_option maxRecDepth 100000
theorem le_any (σ : List AV) (η : Heap) (t : Nat) : Le ⟨σ, η⟩ ⟨σ.set t .any, η⟩ where
  len := by simp
  tmp := fun i x y h1 h2 => by
    rw [List.getElem?_set] at h2
    split at h2
    · split at h2
      · injection h2 with h2; subst h2; exact .any x
      · cases h2
    · rw [h1] at h2; injection h2 with h2; subst h2; exact .refl x
  own := fun k => ⟨rfl, .inr rfl⟩
theorem W_forget {P : Program} {R : Rel} {kb : Nat} {k : List Fr} {σ : List AV} {η : Heap} {Q : Out → Cfg → Prop} {x : XCode} (t : Nat) (h : W P R kb (.code x :: k) ⟨σ.set t .any, η⟩ Q) : W P R kb (.code x :: k) ⟨σ, η⟩ Q := W_weak (le_any σ η t) h
/-- where the run stands when the folds are known -/
def kk : List Fr := [.code (match xf3.body with | .seq _ (.seq _ x) => x | x => x)]
def cl (l : List UInt8) : Cfg := ⟨List.set (List.set (List.set (List.set (List.set (([AV.any, AV.any] : List AV) ++ List.replicate 184 (AV.v undef)) 4 (AV.v (.bool false))) 21 AV.any) 22 AV.any) 23 (strA l)) 5 (strA l), []⟩
def gor (P : Program) (l : List UInt8) : Option AV := finS P xf3 (execS P (execM P xf fr 10000 mmAll 40) 0 10000 kk .normal (cl l))
theorem goes0 : gor Try.prog [] = some (.v (.bool true)) := by kernel_rfl
theorem goes1 : gor Try.prog [111] = some (.v (.bool true)) := by kernel_rfl
theorem goes2 : gor Try.prog [117] = some (.v (.bool true)) := by kernel_rfl
theorem goes3 : gor Try.prog [111, 111] = some (.v (.bool true)) := by kernel_rfl
theorem goes4 : gor Try.prog [111, 117] = some (.v (.bool true)) := by kernel_rfl
theorem goes5 : gor Try.prog [117, 111] = some (.v (.bool true)) := by kernel_rfl
theorem goes6 : gor Try.prog [117, 117] = some (.v (.bool true)) := by kernel_rfl
theorem goes_any {l : List UInt8} (h : l ∈ [[], [111], [117], [111, 111], [111, 117], [117, 111], [117, 117]]) : gor Try.prog l = some (.v (.bool true)) := by
  simp only [List.mem_cons, List.not_mem_nil, or_false] at h
  rcases h with rfl | rfl | rfl | rfl | rfl | rfl | rfl
  · exact goes0
  · exact goes1
  · exact goes2
  · exact goes3
  · exact goes4
  · exact goes5
  · exact goes6
theorem piled_of (m b : Int) (l : List UInt8) (hr : Runs Try.prog xf 4 [.v (.int .u8 m), .v (.int .u8 b), ai 2] (strA l)) (h : gor Try.prog l = some (.v (.bool true))) : Runs Try.prog xf 3 [.v (.int .u8 m), .v (.int .u8 b)] (.v (.bool true)) := by
  refine Runs.ofW (fn := xf3) 20 (by kernel_rfl) (W_run 20 ?_)
  simp only [go_some, go_none, go_zero, nxt_op, nxt_guard, nxt_skip, nxt_region, nxt_drawn, nxt_seq, nxt_block, nxt_scope, nxt_exit, nxt_blk, nxt_lp, nxt_cond, nxt_loop, nxt_ret, nxt_stop, nxt_nil, Eng.start, frG, frF, isCall, stp, exec1, exec1K, keyA, wantedA, stepF, stF_mv, stF_bin, stF_len, stF_un, stF_pick, stF_load, stF_iadr, stF_box, stF_fadr, stF_store, stF_ext, stF_fld, stF_idx, stF_aadr, stF_app, stF_bldS, stF_slc, stF_slcA, stF_bld, stF_isnil, stF_mki, stF_mkf, stF_mkb, mapF_eq, evalF_eq, evalA, setAF, setA, setF_eq, putF_eq, lookF_eq, List.getD_cons_zero, List.getD_cons_succ, List.set_cons_zero, List.set_cons_succ, List.replicate, List.length_cons, List.length_nil, Nat.zero_add, Nat.reduceSub, Nat.reduceAdd, List.cons_append, List.nil_append, Option.getD, drop, Nat.beq, List.length_map, binV, binI, unV, if_true, Eng.asInt, Eng.part, cellsOf, toNat_cast, cast_nonneg, true_and, and_true, if_pos, giveOp, List.getElem?_cons_zero, List.getElem?_cons_succ, Bool.not_true, Bool.not_false, ofVal, eq_self, and_self, true_implies, dfF, touch, regF, quietF, pairOK, noCs, Go.Value.oneCell', decide_true, decide_false, Nat.mul_one, asBound, fullOf, Option.isSome_none, Option.isSome_some, Nat.zero_le, Bool.false_eq_true, false_implies, Int.cast_ofNat_Int, Int.reduceLT, Int.reduceLE, Int.reduceToNat, Nat.reduceMul, Int.le_refl, Eng.look, putAt, Nat.reduceEqDiff, reduceCtorEq, Nat.reduceBEq, if_false, List.all_cons, List.all_nil, tf_beq, ft_beq, lvSub, lvOK, isNone, width, solid, splice, List.take_zero, List.drop_zero, List.drop_nil, List.take_nil, List.drop_succ_cons, List.take_succ_cons, List.append_nil, beq_self_eq_true, Bool.and_true, Bool.true_and, Bool.and_self, ge_iff_le, gt_iff_lt, Nat.le_refl, Nat.reduceLeDiff, Nat.reduceLT, xf3]
  refine W_call (args := [.v (.int .u8 m), .v (.int .u8 b), ai 2]) rfl rfl hr rfl (W_run 1 ?_)
  simp only [go_some, go_none, go_zero, nxt_op, nxt_guard, nxt_skip, nxt_region, nxt_drawn, nxt_seq, nxt_block, nxt_scope, nxt_exit, nxt_blk, nxt_lp, nxt_cond, nxt_loop, nxt_ret, nxt_stop, nxt_nil, Eng.start, frG, frF, isCall, stp, exec1, exec1K, keyA, wantedA, stepF, stF_mv, stF_bin, stF_len, stF_un, stF_pick, stF_load, stF_iadr, stF_box, stF_fadr, stF_store, stF_ext, stF_fld, stF_idx, stF_aadr, stF_app, stF_bldS, stF_slc, stF_slcA, stF_bld, stF_isnil, stF_mki, stF_mkf, stF_mkb, mapF_eq, evalF_eq, evalA, setAF, setA, setF_eq, putF_eq, lookF_eq, List.getD_cons_zero, List.getD_cons_succ, List.set_cons_zero, List.set_cons_succ, List.replicate, List.length_cons, List.length_nil, Nat.zero_add, Nat.reduceSub, Nat.reduceAdd, List.cons_append, List.nil_append, Option.getD, drop, Nat.beq, List.length_map, binV, binI, unV, if_true, Eng.asInt, Eng.part, cellsOf, toNat_cast, cast_nonneg, true_and, and_true, if_pos, giveOp, List.getElem?_cons_zero, List.getElem?_cons_succ, Bool.not_true, Bool.not_false, ofVal, eq_self, and_self, true_implies, dfF, touch, regF, quietF, pairOK, noCs, Go.Value.oneCell', decide_true, decide_false, Nat.mul_one, asBound, fullOf, Option.isSome_none, Option.isSome_some, Nat.zero_le, Bool.false_eq_true, false_implies, Int.cast_ofNat_Int, Int.reduceLT, Int.reduceLE, Int.reduceToNat, Nat.reduceMul, Int.le_refl, Eng.look, putAt, Nat.reduceEqDiff, reduceCtorEq, Nat.reduceBEq, if_false, List.all_cons, List.all_nil, tf_beq, ft_beq, lvSub, lvOK, isNone, width, solid, splice, List.take_zero, List.drop_zero, List.drop_nil, List.take_nil, List.drop_succ_cons, List.take_succ_cons, List.append_nil, beq_self_eq_true, Bool.and_true, Bool.true_and, Bool.and_self, ge_iff_le, gt_iff_lt, Nat.le_refl, Nat.reduceLeDiff, Nat.reduceLT]
  refine W_forget 0 (W_forget 1 (W_forget 21 (W_forget 22 ?_)))
  exact W_execS mmAll_ok h
theorem piled_run (m b : Int) (bm : 0 ≤ m ∧ m ≤ 255) : Runs Try.prog xf 3 [.v (.int .u8 m), .v (.int .u8 b)] (.v (.bool true)) := by
  obtain ⟨l, hl, hr⟩ := fo_any m b bm
  exact piled_of m b l hr (goes_any hl)
end Go.Proofs.Ythhhibpnhokjfab

