/-
  slices.Index and slices.Contains of numbers, and of pairs of numbers.
-/
import Derived.Test.YtlgmabgpfaajhaaPc
set_option linter.unusedSimpArgs false
set_option linter.unusedVariables false
namespace Go.Proofs.Ytlgmabgpfaajhaa
open Go Go.Proofs.Eng
set_option maxRecDepth 100000
variable {R : Rel}
/-- the first place of an element, or -1 -/
def fidx {α : Type} [DecidableEq α] (l : List α) (p : α) : Int := if p ∈ l then (l.idxOf p : Int) else -1
theorem fidx_at {α : Type} [DecidableEq α] {l : List α} {p d : α} {i : Nat} (h : i < l.length) (hn : p ∉ l.take i) (he : l.getD i d = p) : fidx l p = i := by
  have e : l.getD i d = l[i] := by rw [List.getD_eq_getElem?_getD, List.getElem?_eq_getElem h]; rfl
  have hm : p ∈ l := by rw [← he, e]; exact List.getElem_mem h
  unfold fidx
  rw [if_pos hm]
  congr 1
  have h1 : l.idxOf p ≤ i := by
    rcases Nat.lt_or_ge i (l.idxOf p) with q | q
    · exact absurd (by rw [← he, e] : l[i] = p) (by have := List.not_of_lt_findIdx (p := (· == p)) q; simpa using this)
    · exact q
  have h2 : ¬ l.idxOf p < i := fun q => hn (by
    have hlt : l.idxOf p < l.length := List.idxOf_lt_length_of_mem hm
    have : l[l.idxOf p] = p := List.getElem_idxOf hlt
    rw [← this]
    exact List.mem_take_iff_getElem.2 ⟨l.idxOf p, by omega, by simp⟩)
  omega
theorem take_not {α : Type} [DecidableEq α] {l : List α} {p d : α} {i : Nat} (h : i < l.length) (hn : p ∉ l.take i) (he : l.getD i d ≠ p) : p ∉ l.take (i + 1) := by
  have e : l.getD i d = l[i] := by rw [List.getD_eq_getElem?_getD, List.getElem?_eq_getElem h]; rfl
  rw [← List.take_append_getElem h, List.mem_append]
  rintro (q | q)
  · exact hn q
  · rw [List.mem_singleton, ← e] at q; exact he q.symm
/-- whether an element is there -/
def memD {α : Type} [DecidableEq α] (l : List α) (p : α) : Bool := decide (0 ≤ fidx l p)
theorem memD_iff {α : Type} [DecidableEq α] {l : List α} {p : α} : memD l p = true ↔ p ∈ l := by
  unfold memD fidx
  by_cases h : p ∈ l
  · rw [if_pos h]; simp [h]
  · rw [if_neg h]; simp [h]
theorem idx1_loop (full : Bool) (l : List Int) (p : Int) (K : List Fr) (Q : Out → Cfg → Prop) (hn : l.length ≤ 100000) (x2 x3 x4 : AV)
    (hK : p ∉ l → ∀ j5 j9 j10 j11 j12 j13 j14 j15 j16 j17 j18 : AV, W Try.prog R 0 K ⟨[al full l, ai p, x2, x3, x4, j5, al full l, ai l.length, ai l.length, j9, j10, j11, j12, j13, j14, j15, j16, j17, j18], []⟩ Q)
    (hR : ∀ (j8 : AV), ∀ j5 j9 j10 j11 j12 j13 j14 j15 j16 j17 j18 : AV, WX Try.prog R 0 K .ret ⟨[al full l, ai p, x2, x3, ai (fidx l p), j5, al full l, ai l.length, j8, j9, j10, j11, j12, j13, j14, j15, j16, j17, j18], []⟩ Q) :
    ∀ (m i : Nat), i + m = l.length → p ∉ l.take i → ∀ j5 j9 j10 j11 j12 j13 j14 j15 j16 j17 j18 : AV, W Try.prog R 0 (.code (.loop xf23_L0) :: .blk 0 :: .stop :: K) ⟨[al full l, ai p, x2, x3, x4, j5, al full l, ai l.length, ai i, j9, j10, j11, j12, j13, j14, j15, j16, j17, j18], []⟩ Q := by
  intro m
  induction m with
  | zero =>
    intro i hi ha j5 j9 j10 j11 j12 j13 j14 j15 j16 j17 j18
    have : i = l.length := by omega
    subst this
    rw [List.take_length] at ha
    have h0 : decide (l.length < l.length) = false := by simp
    refine W_loop (W_run 60 ?_)
    simp only [go_some, go_none, go_zero, nxt_op, nxt_guard, nxt_skip, nxt_label, nxt_region, nxt_drawn, nxt_seq, nxt_block, nxt_scope, nxt_exit, nxt_blk, nxt_lp, nxt_cond, nxt_loop, nxt_ret, nxt_stop, nxt_nil, Eng.start, frG, frF, isCall, stp, exec1, exec1K, dK, Nat.reduceDiv, keyA, wantedA, stepF, stF_mv, stF_bin, stF_len, stF_un, stF_pick, stF_load, stF_iadr, stF_box, stF_fadr, stF_store, stF_ext, stF_fld, stF_idx, stF_aadr, stF_app, stF_bldS, stF_slc, stF_slcA, stF_bld, stF_isnil, stF_mki, stF_mkf, stF_mkb, stF_nilc, stF_mks, mapF_eq, evalF_eq, evalA, setAF, setA, setF_eq, putF_eq, lookF_eq, List.getD_cons_zero, List.getD_cons_succ, List.set_cons_zero, List.set_cons_succ, List.replicate, List.length_cons, List.length_nil, Nat.zero_add, Nat.reduceSub, Nat.reduceAdd, List.cons_append, List.nil_append, Option.getD, drop, Nat.beq, List.length_map, binV, binI, unV, if_true, Eng.asInt, Eng.part, cellsOf, toNat_cast, cast_nonneg, true_and, and_true, if_pos, giveOp, gvK, List.getElem?_cons_zero, List.getElem?_cons_succ, Bool.not_true, Bool.not_false, ofVal, eq_self, and_self, true_implies, dfF, touch, regF, quietF, pairOK, noCs, Go.Value.oneCell', decide_true, decide_false, Nat.mul_one, asBound, fullOf, Option.isSome_none, Option.isSome_some, Nat.zero_le, Bool.false_eq_true, false_implies, Int.cast_ofNat_Int, Int.reduceLT, Int.reduceLE, Int.reduceToNat, Nat.reduceMul, Int.le_refl, Eng.look, putAt, Nat.reduceEqDiff, reduceCtorEq, Nat.reduceBEq, if_false, List.all_cons, List.all_nil, tf_beq, ft_beq, lvSub, lvOK, isNone, width, solid, splice, List.take_zero, List.drop_zero, List.drop_nil, List.take_nil, List.drop_succ_cons, List.take_succ_cons, List.append_nil, beq_self_eq_true, Bool.and_true, Bool.true_and, Bool.and_self, ge_iff_le, gt_iff_lt, Nat.le_refl, Nat.reduceLeDiff, Nat.reduceLT, xf23_L0, ai, al, lt_cast, h0]
    exact W_stop (hK ha _ _ _ _ _ _ _ _ _ _ _)
  | succ m ih =>
    intro i hi ha j5 j9 j10 j11 j12 j13 j14 j15 j16 j17 j18
    have h1 : i < l.length := by omega
    have h0 : decide (i < l.length) = true := decide_eq_true h1
    refine W_loop (W_run 60 ?_)
    by_cases h2 : l.getD i 0 = p
    · have hf := fidx_at h1 ha h2
      have he : (p == l.getD i 0) = true := by rw [h2]; simp
      simp only [go_some, go_none, go_zero, nxt_op, nxt_guard, nxt_skip, nxt_label, nxt_region, nxt_drawn, nxt_seq, nxt_block, nxt_scope, nxt_exit, nxt_blk, nxt_lp, nxt_cond, nxt_loop, nxt_ret, nxt_stop, nxt_nil, Eng.start, frG, frF, isCall, stp, exec1, exec1K, dK, Nat.reduceDiv, keyA, wantedA, stepF, stF_mv, stF_bin, stF_len, stF_un, stF_pick, stF_load, stF_iadr, stF_box, stF_fadr, stF_store, stF_ext, stF_fld, stF_idx, stF_aadr, stF_app, stF_bldS, stF_slc, stF_slcA, stF_bld, stF_isnil, stF_mki, stF_mkf, stF_mkb, stF_nilc, stF_mks, mapF_eq, evalF_eq, evalA, setAF, setA, setF_eq, putF_eq, lookF_eq, List.getD_cons_zero, List.getD_cons_succ, List.set_cons_zero, List.set_cons_succ, List.replicate, List.length_cons, List.length_nil, Nat.zero_add, Nat.reduceSub, Nat.reduceAdd, List.cons_append, List.nil_append, Option.getD, drop, Nat.beq, List.length_map, binV, binI, unV, if_true, Eng.asInt, Eng.part, cellsOf, toNat_cast, cast_nonneg, true_and, and_true, if_pos, giveOp, gvK, List.getElem?_cons_zero, List.getElem?_cons_succ, Bool.not_true, Bool.not_false, ofVal, eq_self, and_self, true_implies, dfF, touch, regF, quietF, pairOK, noCs, Go.Value.oneCell', decide_true, decide_false, Nat.mul_one, asBound, fullOf, Option.isSome_none, Option.isSome_some, Nat.zero_le, Bool.false_eq_true, false_implies, Int.cast_ofNat_Int, Int.reduceLT, Int.reduceLE, Int.reduceToNat, Nat.reduceMul, Int.le_refl, Eng.look, putAt, Nat.reduceEqDiff, reduceCtorEq, Nat.reduceBEq, if_false, List.all_cons, List.all_nil, tf_beq, ft_beq, lvSub, lvOK, isNone, width, solid, splice, List.take_zero, List.drop_zero, List.drop_nil, List.take_nil, List.drop_succ_cons, List.take_succ_cons, List.append_nil, beq_self_eq_true, Bool.and_true, Bool.true_and, Bool.and_self, ge_iff_le, gt_iff_lt, Nat.le_refl, Nat.reduceLeDiff, Nat.reduceLT, xf23_L0, ai, al, lt_cast, h0, get_al h1, he]
      have := hR (ai i) (ai i) (ab true) (ai i) (ai p) (al full l) (ai i) (.ptr (ai (l.getD i 0))) (ai (l.getD i 0)) (ab true) (ai i) j18
      rw [hf] at this
      exact W_ret1 (WX_pop this)
    · have hf := take_not h1 ha h2
      have he : (p == l.getD i 0) = false := by rw [beq_eq_false_iff_ne]; exact fun e => h2 e.symm
      simp only [go_some, go_none, go_zero, nxt_op, nxt_guard, nxt_skip, nxt_label, nxt_region, nxt_drawn, nxt_seq, nxt_block, nxt_scope, nxt_exit, nxt_blk, nxt_lp, nxt_cond, nxt_loop, nxt_ret, nxt_stop, nxt_nil, Eng.start, frG, frF, isCall, stp, exec1, exec1K, dK, Nat.reduceDiv, keyA, wantedA, stepF, stF_mv, stF_bin, stF_len, stF_un, stF_pick, stF_load, stF_iadr, stF_box, stF_fadr, stF_store, stF_ext, stF_fld, stF_idx, stF_aadr, stF_app, stF_bldS, stF_slc, stF_slcA, stF_bld, stF_isnil, stF_mki, stF_mkf, stF_mkb, stF_nilc, stF_mks, mapF_eq, evalF_eq, evalA, setAF, setA, setF_eq, putF_eq, lookF_eq, List.getD_cons_zero, List.getD_cons_succ, List.set_cons_zero, List.set_cons_succ, List.replicate, List.length_cons, List.length_nil, Nat.zero_add, Nat.reduceSub, Nat.reduceAdd, List.cons_append, List.nil_append, Option.getD, drop, Nat.beq, List.length_map, binV, binI, unV, if_true, Eng.asInt, Eng.part, cellsOf, toNat_cast, cast_nonneg, true_and, and_true, if_pos, giveOp, gvK, List.getElem?_cons_zero, List.getElem?_cons_succ, Bool.not_true, Bool.not_false, ofVal, eq_self, and_self, true_implies, dfF, touch, regF, quietF, pairOK, noCs, Go.Value.oneCell', decide_true, decide_false, Nat.mul_one, asBound, fullOf, Option.isSome_none, Option.isSome_some, Nat.zero_le, Bool.false_eq_true, false_implies, Int.cast_ofNat_Int, Int.reduceLT, Int.reduceLE, Int.reduceToNat, Nat.reduceMul, Int.le_refl, Eng.look, putAt, Nat.reduceEqDiff, reduceCtorEq, Nat.reduceBEq, if_false, List.all_cons, List.all_nil, tf_beq, ft_beq, lvSub, lvOK, isNone, width, solid, splice, List.take_zero, List.drop_zero, List.drop_nil, List.take_nil, List.drop_succ_cons, List.take_succ_cons, List.append_nil, beq_self_eq_true, Bool.and_true, Bool.true_and, Bool.and_self, ge_iff_le, gt_iff_lt, Nat.le_refl, Nat.reduceLeDiff, Nat.reduceLT, xf23_L0, ai, al, lt_cast, h0, get_al h1, he]
      rw [wrap_id (by omega) (by omega)]
      exact ih (i + 1) (by omega) hf _ _ _ _ _ _ _ _ _ _ _
theorem idx1_run (full : Bool) (l : List Int) (p : Int) (hn : l.length ≤ 100000) : Runs Try.prog xf 23 [al full l, ai p] (ai (fidx l p)) := by
  refine Runs.ofW (fn := xf23) 20 (by kernel_rfl) (W_run 60 ?_)
  simp only [go_some, go_none, go_zero, nxt_op, nxt_guard, nxt_skip, nxt_label, nxt_region, nxt_drawn, nxt_seq, nxt_block, nxt_scope, nxt_exit, nxt_blk, nxt_lp, nxt_cond, nxt_loop, nxt_ret, nxt_stop, nxt_nil, Eng.start, frG, frF, isCall, stp, exec1, exec1K, dK, Nat.reduceDiv, keyA, wantedA, stepF, stF_mv, stF_bin, stF_len, stF_un, stF_pick, stF_load, stF_iadr, stF_box, stF_fadr, stF_store, stF_ext, stF_fld, stF_idx, stF_aadr, stF_app, stF_bldS, stF_slc, stF_slcA, stF_bld, stF_isnil, stF_mki, stF_mkf, stF_mkb, stF_nilc, stF_mks, mapF_eq, evalF_eq, evalA, setAF, setA, setF_eq, putF_eq, lookF_eq, List.getD_cons_zero, List.getD_cons_succ, List.set_cons_zero, List.set_cons_succ, List.replicate, List.length_cons, List.length_nil, Nat.zero_add, Nat.reduceSub, Nat.reduceAdd, List.cons_append, List.nil_append, Option.getD, drop, Nat.beq, List.length_map, binV, binI, unV, if_true, Eng.asInt, Eng.part, cellsOf, toNat_cast, cast_nonneg, true_and, and_true, if_pos, giveOp, gvK, List.getElem?_cons_zero, List.getElem?_cons_succ, Bool.not_true, Bool.not_false, ofVal, eq_self, and_self, true_implies, dfF, touch, regF, quietF, pairOK, noCs, Go.Value.oneCell', decide_true, decide_false, Nat.mul_one, asBound, fullOf, Option.isSome_none, Option.isSome_some, Nat.zero_le, Bool.false_eq_true, false_implies, Int.cast_ofNat_Int, Int.reduceLT, Int.reduceLE, Int.reduceToNat, Nat.reduceMul, Int.le_refl, Eng.look, putAt, Nat.reduceEqDiff, reduceCtorEq, Nat.reduceBEq, if_false, List.all_cons, List.all_nil, tf_beq, ft_beq, lvSub, lvOK, isNone, width, solid, splice, List.take_zero, List.drop_zero, List.drop_nil, List.take_nil, List.drop_succ_cons, List.take_succ_cons, List.append_nil, beq_self_eq_true, Bool.and_true, Bool.true_and, Bool.and_self, ge_iff_le, gt_iff_lt, Nat.le_refl, Nat.reduceLeDiff, Nat.reduceLT, xf23, ai, al]
  refine W_alone (idx1_loop full l p _ _ hn _ _ _ (fun hp => ?_) (fun j8 => ?_) l.length 0 (by omega) (by simp) _ _ _ _ _ _ _ _ _ _ _)
  · intros
    refine W_run 60 ?_
    simp only [go_some, go_none, go_zero, nxt_op, nxt_guard, nxt_skip, nxt_label, nxt_region, nxt_drawn, nxt_seq, nxt_block, nxt_scope, nxt_exit, nxt_blk, nxt_lp, nxt_cond, nxt_loop, nxt_ret, nxt_stop, nxt_nil, Eng.start, frG, frF, isCall, stp, exec1, exec1K, dK, Nat.reduceDiv, keyA, wantedA, stepF, stF_mv, stF_bin, stF_len, stF_un, stF_pick, stF_load, stF_iadr, stF_box, stF_fadr, stF_store, stF_ext, stF_fld, stF_idx, stF_aadr, stF_app, stF_bldS, stF_slc, stF_slcA, stF_bld, stF_isnil, stF_mki, stF_mkf, stF_mkb, stF_nilc, stF_mks, mapF_eq, evalF_eq, evalA, setAF, setA, setF_eq, putF_eq, lookF_eq, List.getD_cons_zero, List.getD_cons_succ, List.set_cons_zero, List.set_cons_succ, List.replicate, List.length_cons, List.length_nil, Nat.zero_add, Nat.reduceSub, Nat.reduceAdd, List.cons_append, List.nil_append, Option.getD, drop, Nat.beq, List.length_map, binV, binI, unV, if_true, Eng.asInt, Eng.part, cellsOf, toNat_cast, cast_nonneg, true_and, and_true, if_pos, giveOp, gvK, List.getElem?_cons_zero, List.getElem?_cons_succ, Bool.not_true, Bool.not_false, ofVal, eq_self, and_self, true_implies, dfF, touch, regF, quietF, pairOK, noCs, Go.Value.oneCell', decide_true, decide_false, Nat.mul_one, asBound, fullOf, Option.isSome_none, Option.isSome_some, Nat.zero_le, Bool.false_eq_true, false_implies, Int.cast_ofNat_Int, Int.reduceLT, Int.reduceLE, Int.reduceToNat, Nat.reduceMul, Int.le_refl, Eng.look, putAt, Nat.reduceEqDiff, reduceCtorEq, Nat.reduceBEq, if_false, List.all_cons, List.all_nil, tf_beq, ft_beq, lvSub, lvOK, isNone, width, solid, splice, List.take_zero, List.drop_zero, List.drop_nil, List.take_nil, List.drop_succ_cons, List.take_succ_cons, List.append_nil, beq_self_eq_true, Bool.and_true, Bool.true_and, Bool.and_self, ge_iff_le, gt_iff_lt, Nat.le_refl, Nat.reduceLeDiff, Nat.reduceLT, xf23_R0, ai, al]
    exact W_ret1 (WX_nil ⟨.inl rfl, _, rfl, by unfold fidx; rw [if_neg hp]; rfl⟩)
  · intros
    exact WX_pop (WX_nil ⟨.inl rfl, _, rfl, rfl⟩)
theorem idx1_has (full : Bool) (l : List Int) (p : Int) (hn : l.length ≤ 100000) : Runs Try.prog xf 37 [al full l, ai p] (ab (memD l p)) := by
  refine Runs.ofW (fn := xf37) 20 (by kernel_rfl) (W_run 60 ?_)
  simp only [go_some, go_none, go_zero, nxt_op, nxt_guard, nxt_skip, nxt_label, nxt_region, nxt_drawn, nxt_seq, nxt_block, nxt_scope, nxt_exit, nxt_blk, nxt_lp, nxt_cond, nxt_loop, nxt_ret, nxt_stop, nxt_nil, Eng.start, frG, frF, isCall, stp, exec1, exec1K, dK, Nat.reduceDiv, keyA, wantedA, stepF, stF_mv, stF_bin, stF_len, stF_un, stF_pick, stF_load, stF_iadr, stF_box, stF_fadr, stF_store, stF_ext, stF_fld, stF_idx, stF_aadr, stF_app, stF_bldS, stF_slc, stF_slcA, stF_bld, stF_isnil, stF_mki, stF_mkf, stF_mkb, stF_nilc, stF_mks, mapF_eq, evalF_eq, evalA, setAF, setA, setF_eq, putF_eq, lookF_eq, List.getD_cons_zero, List.getD_cons_succ, List.set_cons_zero, List.set_cons_succ, List.replicate, List.length_cons, List.length_nil, Nat.zero_add, Nat.reduceSub, Nat.reduceAdd, List.cons_append, List.nil_append, Option.getD, drop, Nat.beq, List.length_map, binV, binI, unV, if_true, Eng.asInt, Eng.part, cellsOf, toNat_cast, cast_nonneg, true_and, and_true, if_pos, giveOp, gvK, List.getElem?_cons_zero, List.getElem?_cons_succ, Bool.not_true, Bool.not_false, ofVal, eq_self, and_self, true_implies, dfF, touch, regF, quietF, pairOK, noCs, Go.Value.oneCell', decide_true, decide_false, Nat.mul_one, asBound, fullOf, Option.isSome_none, Option.isSome_some, Nat.zero_le, Bool.false_eq_true, false_implies, Int.cast_ofNat_Int, Int.reduceLT, Int.reduceLE, Int.reduceToNat, Nat.reduceMul, Int.le_refl, Eng.look, putAt, Nat.reduceEqDiff, reduceCtorEq, Nat.reduceBEq, if_false, List.all_cons, List.all_nil, tf_beq, ft_beq, lvSub, lvOK, isNone, width, solid, splice, List.take_zero, List.drop_zero, List.drop_nil, List.take_nil, List.drop_succ_cons, List.take_succ_cons, List.append_nil, beq_self_eq_true, Bool.and_true, Bool.true_and, Bool.and_self, ge_iff_le, gt_iff_lt, Nat.le_refl, Nat.reduceLeDiff, Nat.reduceLT, xf37, ai, al]
  refine W_call (args := [al full l, ai p]) rfl (by exact noRefs_of fun x hx => by simp only [List.mem_cons, List.not_mem_nil, or_false] at hx; rcases hx with rfl | rfl <;> first | exact noRef_al _ _ | rfl) (idx1_run full l p hn) rfl (W_run 60 ?_)
  simp only [go_some, go_none, go_zero, nxt_op, nxt_guard, nxt_skip, nxt_label, nxt_region, nxt_drawn, nxt_seq, nxt_block, nxt_scope, nxt_exit, nxt_blk, nxt_lp, nxt_cond, nxt_loop, nxt_ret, nxt_stop, nxt_nil, Eng.start, frG, frF, isCall, stp, exec1, exec1K, dK, Nat.reduceDiv, keyA, wantedA, stepF, stF_mv, stF_bin, stF_len, stF_un, stF_pick, stF_load, stF_iadr, stF_box, stF_fadr, stF_store, stF_ext, stF_fld, stF_idx, stF_aadr, stF_app, stF_bldS, stF_slc, stF_slcA, stF_bld, stF_isnil, stF_mki, stF_mkf, stF_mkb, stF_nilc, stF_mks, mapF_eq, evalF_eq, evalA, setAF, setA, setF_eq, putF_eq, lookF_eq, List.getD_cons_zero, List.getD_cons_succ, List.set_cons_zero, List.set_cons_succ, List.replicate, List.length_cons, List.length_nil, Nat.zero_add, Nat.reduceSub, Nat.reduceAdd, List.cons_append, List.nil_append, Option.getD, drop, Nat.beq, List.length_map, binV, binI, unV, if_true, Eng.asInt, Eng.part, cellsOf, toNat_cast, cast_nonneg, true_and, and_true, if_pos, giveOp, gvK, List.getElem?_cons_zero, List.getElem?_cons_succ, Bool.not_true, Bool.not_false, ofVal, eq_self, and_self, true_implies, dfF, touch, regF, quietF, pairOK, noCs, Go.Value.oneCell', decide_true, decide_false, Nat.mul_one, asBound, fullOf, Option.isSome_none, Option.isSome_some, Nat.zero_le, Bool.false_eq_true, false_implies, Int.cast_ofNat_Int, Int.reduceLT, Int.reduceLE, Int.reduceToNat, Nat.reduceMul, Int.le_refl, Eng.look, putAt, Nat.reduceEqDiff, reduceCtorEq, Nat.reduceBEq, if_false, List.all_cons, List.all_nil, tf_beq, ft_beq, lvSub, lvOK, isNone, width, solid, splice, List.take_zero, List.drop_zero, List.drop_nil, List.take_nil, List.drop_succ_cons, List.take_succ_cons, List.append_nil, beq_self_eq_true, Bool.and_true, Bool.true_and, Bool.and_self, ge_iff_le, gt_iff_lt, Nat.le_refl, Nat.reduceLeDiff, Nat.reduceLT, ai]
  exact W_ret1 (WX_nil ⟨.inl rfl, _, rfl, rfl⟩)
end Go.Proofs.Ytlgmabgpfaajhaa

