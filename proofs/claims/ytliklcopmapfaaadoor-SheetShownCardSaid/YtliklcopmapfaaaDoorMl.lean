/-
  The law's pieces by numbers: whole.
-/
import Derived.Test.YtliklcopmapfaaaDoorMk
set_option linter.unusedSimpArgs false
set_option linter.unusedVariables false
namespace Go.Proofs.YtliklcopmapfaaaDoor
open Go Go.Proofs.Eng
set_option maxRecDepth 100000
set_option maxHeartbeats 1000000
def stA (A B C : Int) (E : List Int) : AV := .ag (u8 A :: u8 B :: u8 C :: E.map u8)
theorem chunk8 {E : List Int} (h : E.length = 8) : chunkA false 1 (E.map u8) 8 = some (E.map u8) := by
  match E, h with
  | [a, b, c, d, e, f, g, h], _ => rfl
def okS (s : Int) (ps : List Int) : Prop := ps.length ≤ 8 ∧ ∀ x, x ∈ ps → inS s x
def GM (r : AV) : Prop := ∃ s z ps, r = .tup [ai s, z] ∧ 1 ≤ s ∧ s ≤ 24 ∧ isL z ps ∧ okS s ps
theorem named60 (g : Nat) (k : Nat) : Go.Proofs.Eng.look [(35, (g, (none : Option Ob)))] k = Go.Proofs.Eng.look [(35, (g, (none : Option Ob))), (60, (0, none))] k := by
  simp only [Go.Proofs.Eng.look]
  by_cases h : 35 = k
  · simp [h]
  · by_cases h2 : 60 = k
    · simp [h, h2]
    · simp [h, h2]
theorem named35 (k : Nat) : Go.Proofs.Eng.look ([] : Heap) k = Go.Proofs.Eng.look [(35, (0, (none : Option Ob)))] k := by
  simp only [Go.Proofs.Eng.look]
  by_cases h : 35 = k
  · simp [h]
  · simp [h]
theorem made_tail (A B C : Int) (E : List Int) (hE : E.length = 8) (hb : ∀ x, x ∈ E → 0 ≤ x ∧ x ≤ 255) (hB : 0 ≤ B ∧ B ≤ 255) (sn : Nat) (hs : 1 ≤ sn ∧ sn ≤ 24) (fm : Bool) (ms : List Int) (hm : 0 < ms.length ∧ ms.length ≤ 1000) (hms : ∀ x, x ∈ ms → inS sn x) (x0 : AV) (g : Nat) :
    ∀ j3 j4 j5 j8 j9 j10 j11 j12 j13 j14 j15 j16 j17 j18 j19 j20 j21 j22 j23 j24 j25 j26 j27 j28 j29 j30 j31 j32 j33 j34 j35 j36 j37 j38 j39 j40 j41 j42 j43 j44 j45 j46 j47 j48 j49 j50 j51 j52 j53 j54 j55 j56 j57 j58 j59 j60 j61 j62 j63 : AV, W Tryd.prog (RelU Tryd.prog xf) 0 [.code xf6_R1] ⟨(x0 :: (ai 8) :: (.ptr (stA A B C E)) :: j3 :: j4 :: j5 :: (ai sn) :: (al fm ms) :: j8 :: j9 :: j10 :: j11 :: j12 :: j13 :: j14 :: j15 :: j16 :: j17 :: j18 :: j19 :: j20 :: j21 :: j22 :: j23 :: j24 :: j25 :: j26 :: j27 :: j28 :: j29 :: j30 :: j31 :: j32 :: j33 :: j34 :: j35 :: j36 :: j37 :: j38 :: j39 :: j40 :: j41 :: j42 :: j43 :: j44 :: j45 :: j46 :: j47 :: j48 :: j49 :: j50 :: j51 :: j52 :: j53 :: j54 :: j55 :: j56 :: j57 :: j58 :: j59 :: j60 :: j61 :: j62 :: j63 :: []), [(35, (g, none))]⟩ fun o c => (o = .ret ∨ o = .normal) ∧ ∃ rs, xf6.results.mapM (resOf Tryd.prog c) = some rs ∧ ∃ r, GM r ∧ reify c.η 20 (retOf rs) = some r := by
  intro j3 j4 j5 j8 j9 j10 j11 j12 j13 j14 j15 j16 j17 j18 j19 j20 j21 j22 j23 j24 j25 j26 j27 j28 j29 j30 j31 j32 j33 j34 j35 j36 j37 j38 j39 j40 j41 j42 j43 j44 j45 j46 j47 j48 j49 j50 j51 j52 j53 j54 j55 j56 j57 j58 j59 j60 j61 j62 j63
  have hch := chunk8 hE
  have hT : (E.map u8).take 8 = E.map u8 := List.take_of_length_le (by rw [List.length_map]; omega)
  have wB : IntKind.i64.wrap B = B := wrap_id (by omega) (by omega)
  have w9 : IntKind.i64.wrap (8 + 1) = 9 := by decide
  have z9 : ((9 : Int) = 0) = False := by simp
  obtain ⟨t1, t2⟩ := tmod_b (a := B) (n := 9) hB.1 (by omega)
  obtain ⟨nn, hnn, hn8⟩ : ∃ nn : Nat, B.tmod 9 = (nn : Int) ∧ nn ≤ 8 := ⟨(B.tmod 9).toNat, by omega, by omega⟩
  refine W_run 80 ?_
  generalize hU : E.map u8 = U at hch hT
  have hUl : U.length = 8 := by rw [← hU, List.length_map]; exact hE
  simp only [stA, hU]
  simp only [go_some, go_none, go_zero, nxt_op, nxt_guard, nxt_skip, nxt_label, nxt_region, nxt_drawn, nxt_seq, nxt_block, nxt_scope, nxt_exit, nxt_blk, nxt_lp, nxt_cond, nxt_loop, nxt_ret, nxt_stop, nxt_nil, Eng.start, frG, frF, isCall, stp, exec1, exec1K, dK, Nat.reduceDiv, keyA, wantedA, stepF, stF_mv, stF_bin, stF_len, stF_un, stF_pick, stF_load, stF_iadr, stF_box, stF_fadr, stF_store, stF_ext, stF_fld, stF_idx, stF_aadr, stF_app, stF_bldS, stF_slc, stF_slcA, stF_bld, stF_isnil, stF_mki, stF_mkf, stF_mkb, stF_nilc, stF_mks, mapF_eq, evalF_eq, evalA, setAF, setA, setF_eq, putF_eq, lookF_eq, List.getD_cons_zero, List.getD_cons_succ, List.set_cons_zero, List.set_cons_succ, List.replicate, List.length_cons, List.length_nil, Nat.zero_add, Nat.reduceSub, Nat.reduceAdd, List.cons_append, List.nil_append, Option.getD, drop, Nat.beq, List.length_map, binV, binI, unV, if_true, Eng.asInt, Eng.part, cellsOf, toNat_cast, cast_nonneg, true_and, and_true, if_pos, giveOp, gvK, List.getElem?_cons_zero, List.getElem?_cons_succ, Bool.not_true, Bool.not_false, ofVal, eq_self, and_self, true_implies, dfF, touch, regF, quietF, pairOK, noCs, Go.Value.oneCell', decide_true, decide_false, Nat.mul_one, asBound, fullOf, Option.isSome_none, Option.isSome_some, Nat.zero_le, Bool.false_eq_true, false_implies, Int.cast_ofNat_Int, Int.reduceLT, Int.reduceLE, Int.reduceToNat, Nat.reduceMul, Int.le_refl, Eng.look, putAt, Nat.reduceEqDiff, reduceCtorEq, Nat.reduceBEq, if_false, List.all_cons, List.all_nil, tf_beq, ft_beq, lvSub, lvOK, isNone, width, solid, splice, List.take_zero, List.drop_zero, List.drop_nil, List.take_nil, List.drop_succ_cons, List.take_succ_cons, List.append_nil, beq_self_eq_true, Bool.and_true, Bool.true_and, Bool.and_self, ge_iff_le, gt_iff_lt, Nat.le_refl, Nat.reduceLeDiff, Nat.reduceLT, xf6_R1, ai, al, nilA, u8, raw_conv, rawC, opA, argT, Option.elim, wB, w9, z9, hnn, hch, hT, hn8, hUl]
  subst hU
  have eF : List.take nn (E.map u8) = (E.take nn).map u8 := List.map_take.symm
  have hFl : (E.take nn).length ≤ 8 := by rw [List.length_take]; omega
  have hok : okS sn ((E.take nn).map (pk ms)) := by
    refine ⟨by rw [List.length_map]; exact hFl, fun x hx => ?_⟩
    obtain ⟨u, hu, rfl⟩ := List.mem_map.1 hx
    have := hb u (List.mem_of_mem_take hu)
    obtain ⟨q1, q2⟩ := tmod_b (a := u) (n := ms.length) this.1 (by omega)
    exact hms _ (isL_num (by omega))
  rw [eF, List.length_map]
  refine W_alone (W_named (named60 g) (pk_loop sn _ _ _ _ ms (E.take nn) hm hFl (fun x hx => hb x (List.mem_of_mem_take hx)) g _ _ (fun j3 j4 j5 j8 j10 j11 j12 j13 j14 j15 j16 j17 j18 j19 j20 j21 j22 j23 j24 j25 j26 j27 j28 j29 j30 j31 j32 j33 j34 j35 j36 j37 j38 j39 j40 j41 j42 j43 j47 j48 j49 j50 j51 j52 j53 j54 j55 j56 j57 j58 j59 j60 j61 j62 j63 => W_run 80 ?_) (E.take nn).length 0 (by omega) _ _ _ _ _ _ _ _ _ _ _ _ _ _ _ _ _ _ _ _ _ _ _ _ _ _ _ _ _ _ _ _ _ _ _ _ _ _ _ _ _ _ _ _ _ _ _ _ _ _ _ _ _ _ _))
  generalize (E.take nn).map (pk ms) = ps at hok
  cases ps with
  | nil =>
    simp only [hv, hr]
    simp only [go_some, go_none, go_zero, nxt_op, nxt_guard, nxt_skip, nxt_label, nxt_region, nxt_drawn, nxt_seq, nxt_block, nxt_scope, nxt_exit, nxt_blk, nxt_lp, nxt_cond, nxt_loop, nxt_ret, nxt_stop, nxt_nil, Eng.start, frG, frF, isCall, stp, exec1, exec1K, dK, Nat.reduceDiv, keyA, wantedA, stepF, stF_mv, stF_bin, stF_len, stF_un, stF_pick, stF_load, stF_iadr, stF_box, stF_fadr, stF_store, stF_ext, stF_fld, stF_idx, stF_aadr, stF_app, stF_bldS, stF_slc, stF_slcA, stF_bld, stF_isnil, stF_mki, stF_mkf, stF_mkb, stF_nilc, stF_mks, mapF_eq, evalF_eq, evalA, setAF, setA, setF_eq, putF_eq, lookF_eq, List.getD_cons_zero, List.getD_cons_succ, List.set_cons_zero, List.set_cons_succ, List.replicate, List.length_cons, List.length_nil, Nat.zero_add, Nat.reduceSub, Nat.reduceAdd, List.cons_append, List.nil_append, Option.getD, drop, Nat.beq, List.length_map, binV, binI, unV, if_true, Eng.asInt, Eng.part, cellsOf, toNat_cast, cast_nonneg, true_and, and_true, if_pos, giveOp, gvK, List.getElem?_cons_zero, List.getElem?_cons_succ, Bool.not_true, Bool.not_false, ofVal, eq_self, and_self, true_implies, dfF, touch, regF, quietF, pairOK, noCs, Go.Value.oneCell', decide_true, decide_false, Nat.mul_one, asBound, fullOf, Option.isSome_none, Option.isSome_some, Nat.zero_le, Bool.false_eq_true, false_implies, Int.cast_ofNat_Int, Int.reduceLT, Int.reduceLE, Int.reduceToNat, Nat.reduceMul, Int.le_refl, Eng.look, putAt, Nat.reduceEqDiff, reduceCtorEq, Nat.reduceBEq, if_false, List.all_cons, List.all_nil, tf_beq, ft_beq, lvSub, lvOK, isNone, width, solid, splice, List.take_zero, List.drop_zero, List.drop_nil, List.take_nil, List.drop_succ_cons, List.take_succ_cons, List.append_nil, beq_self_eq_true, Bool.and_true, Bool.true_and, Bool.and_self, ge_iff_le, gt_iff_lt, Nat.le_refl, Nat.reduceLeDiff, Nat.reduceLT, xf6_R0, ai, nilA]
    exact W_ret1 (WX_nil ⟨.inl rfl, _, rfl, _, ⟨sn, nilA, [], rfl, by omega, by omega, .inr ⟨rfl, rfl⟩, hok⟩, rfl⟩)
  | cons x t =>
    simp only [hv, hr]
    simp only [go_some, go_none, go_zero, nxt_op, nxt_guard, nxt_skip, nxt_label, nxt_region, nxt_drawn, nxt_seq, nxt_block, nxt_scope, nxt_exit, nxt_blk, nxt_lp, nxt_cond, nxt_loop, nxt_ret, nxt_stop, nxt_nil, Eng.start, frG, frF, isCall, stp, exec1, exec1K, dK, Nat.reduceDiv, keyA, wantedA, stepF, stF_mv, stF_bin, stF_len, stF_un, stF_pick, stF_load, stF_iadr, stF_box, stF_fadr, stF_store, stF_ext, stF_fld, stF_idx, stF_aadr, stF_app, stF_bldS, stF_slc, stF_slcA, stF_bld, stF_isnil, stF_mki, stF_mkf, stF_mkb, stF_nilc, stF_mks, mapF_eq, evalF_eq, evalA, setAF, setA, setF_eq, putF_eq, lookF_eq, List.getD_cons_zero, List.getD_cons_succ, List.set_cons_zero, List.set_cons_succ, List.replicate, List.length_cons, List.length_nil, Nat.zero_add, Nat.reduceSub, Nat.reduceAdd, List.cons_append, List.nil_append, Option.getD, drop, Nat.beq, List.length_map, binV, binI, unV, if_true, Eng.asInt, Eng.part, cellsOf, toNat_cast, cast_nonneg, true_and, and_true, if_pos, giveOp, gvK, List.getElem?_cons_zero, List.getElem?_cons_succ, Bool.not_true, Bool.not_false, ofVal, eq_self, and_self, true_implies, dfF, touch, regF, quietF, pairOK, noCs, Go.Value.oneCell', decide_true, decide_false, Nat.mul_one, asBound, fullOf, Option.isSome_none, Option.isSome_some, Nat.zero_le, Bool.false_eq_true, false_implies, Int.cast_ofNat_Int, Int.reduceLT, Int.reduceLE, Int.reduceToNat, Nat.reduceMul, Int.le_refl, Eng.look, putAt, Nat.reduceEqDiff, reduceCtorEq, Nat.reduceBEq, if_false, List.all_cons, List.all_nil, tf_beq, ft_beq, lvSub, lvOK, isNone, width, solid, splice, List.take_zero, List.drop_zero, List.drop_nil, List.take_nil, List.drop_succ_cons, List.take_succ_cons, List.append_nil, beq_self_eq_true, Bool.and_true, Bool.true_and, Bool.and_self, ge_iff_le, gt_iff_lt, Nat.le_refl, Nat.reduceLeDiff, Nat.reduceLT, xf6_R0, ai]
    refine W_ret1 (WX_nil ⟨.inl rfl, _, rfl, _, ⟨sn, al false (x :: t), x :: t, rfl, by omega, by omega, .inl ⟨_, rfl⟩, hok⟩, ?_⟩)
    have e : reify [(35, (g, (none : Option Ob))), (60, (1, some ⟨3, 1, (x :: t).map ai⟩))] 19 (.os 60 1 (x :: t).length 1 0 (x :: t).length) = some (al false (x :: t)) := reify_os (α := Int) (f := ai) (l := x :: t) (n := 18) (e := 3) (elem_ai _ 17) rfl
    show ([ai sn, .os 60 1 (x :: t).length 1 0 (x :: t).length].mapM (reify _ 19)).map AV.tup = _
    rw [List.mapM_cons, List.mapM_cons, e]; rfl
theorem made_run (A B C : Int) (E : List Int) (hE : E.length = 8) (hb : ∀ x, x ∈ E → 0 ≤ x ∧ x ≤ 255) (hA : 0 ≤ A ∧ A ≤ 255) (hB : 0 ≤ B ∧ B ≤ 255) (hC : 0 ≤ C ∧ C ≤ 255) :
    ∃ r, GM r ∧ Runs Tryd.prog xf 6 [stA A B C E, ai 8] r := by
  refine ofWE (fn := xf6) 20 (by kernel_rfl) (W_run 120 ?_)
  have wA : IntKind.i64.wrap A = A := wrap_id (by omega) (by omega)
  have wC : IntKind.i64.wrap C = C := wrap_id (by omega) (by omega)
  have z24 : ((24 : Int) = 0) = False := by simp
  have z2 : ((2 : Int) = 0) = False := by simp
  obtain ⟨t1, t2⟩ := tmod_b (a := A) (n := 24) hA.1 (by omega)
  obtain ⟨sn, hsn, hs24⟩ : ∃ sn : Nat, 1 + A.tmod 24 = (sn : Int) ∧ 1 ≤ sn ∧ sn ≤ 24 := ⟨(1 + A.tmod 24).toNat, by omega, by omega, by omega⟩
  have wS : IntKind.i64.wrap (sn : Int) = sn := wrap_id (by omega) (by omega)
  have y2 : 0 ≤ C.tdiv 2 ∧ C.tdiv 2 ≤ 1000 := by rw [Int.tdiv_eq_ediv_of_nonneg hC.1]; omega
  have wD : IntKind.i64.wrap (C.tdiv 2) = C.tdiv 2 := wrap_id (by omega) (by omega)
  have hUl : (E.map u8).length = 8 := by rw [List.length_map]; exact hE
  generalize hU : E.map u8 = U at hUl
  simp only [stA, hU]
  cases hc : (C.tmod 2 == 1) with
  | true =>
    simp only [go_some, go_none, go_zero, nxt_op, nxt_guard, nxt_skip, nxt_label, nxt_region, nxt_drawn, nxt_seq, nxt_block, nxt_scope, nxt_exit, nxt_blk, nxt_lp, nxt_cond, nxt_loop, nxt_ret, nxt_stop, nxt_nil, Eng.start, frG, frF, isCall, stp, exec1, exec1K, dK, Nat.reduceDiv, keyA, wantedA, stepF, stF_mv, stF_bin, stF_len, stF_un, stF_pick, stF_load, stF_iadr, stF_box, stF_fadr, stF_store, stF_ext, stF_fld, stF_idx, stF_aadr, stF_app, stF_bldS, stF_slc, stF_slcA, stF_bld, stF_isnil, stF_mki, stF_mkf, stF_mkb, stF_nilc, stF_mks, mapF_eq, evalF_eq, evalA, setAF, setA, setF_eq, putF_eq, lookF_eq, List.getD_cons_zero, List.getD_cons_succ, List.set_cons_zero, List.set_cons_succ, List.replicate, List.length_cons, List.length_nil, Nat.zero_add, Nat.reduceSub, Nat.reduceAdd, List.cons_append, List.nil_append, Option.getD, drop, Nat.beq, List.length_map, binV, binI, unV, if_true, Eng.asInt, Eng.part, cellsOf, toNat_cast, cast_nonneg, true_and, and_true, if_pos, giveOp, gvK, List.getElem?_cons_zero, List.getElem?_cons_succ, Bool.not_true, Bool.not_false, ofVal, eq_self, and_self, true_implies, dfF, touch, regF, quietF, pairOK, noCs, Go.Value.oneCell', decide_true, decide_false, Nat.mul_one, asBound, fullOf, Option.isSome_none, Option.isSome_some, Nat.zero_le, Bool.false_eq_true, false_implies, Int.cast_ofNat_Int, Int.reduceLT, Int.reduceLE, Int.reduceToNat, Nat.reduceMul, Int.le_refl, Eng.look, putAt, Nat.reduceEqDiff, reduceCtorEq, Nat.reduceBEq, if_false, List.all_cons, List.all_nil, tf_beq, ft_beq, lvSub, lvOK, isNone, width, solid, splice, List.take_zero, List.drop_zero, List.drop_nil, List.take_nil, List.drop_succ_cons, List.take_succ_cons, List.append_nil, beq_self_eq_true, Bool.and_true, Bool.true_and, Bool.and_self, ge_iff_le, gt_iff_lt, Nat.le_refl, Nat.reduceLeDiff, Nat.reduceLT, xf6, ai, nilA, u8, raw_conv, rawC, opA, argT, Option.elim, wA, wC, z24, z2, hsn, wS, hUl, hc, wD]
    obtain ⟨r, ⟨l, rfl, l1, l2, l3⟩, hch⟩ := chain_run sn (C.tdiv 2) (by omega) y2
    refine W_call (args := [ai sn, ai (C.tdiv 2)]) rfl rfl hch (noRef_al _ _) (W_run 1 ?_)
    simp only [go_some, go_none, go_zero, nxt_op, nxt_guard, nxt_skip, nxt_label, nxt_region, nxt_drawn, nxt_seq, nxt_block, nxt_scope, nxt_exit, nxt_blk, nxt_lp, nxt_cond, nxt_loop, nxt_ret, nxt_stop, nxt_nil, Eng.start, frG, frF, isCall, stp, exec1, exec1K, dK, Nat.reduceDiv, keyA, wantedA, stepF, stF_mv, stF_bin, stF_len, stF_un, stF_pick, stF_load, stF_iadr, stF_box, stF_fadr, stF_store, stF_ext, stF_fld, stF_idx, stF_aadr, stF_app, stF_bldS, stF_slc, stF_slcA, stF_bld, stF_isnil, stF_mki, stF_mkf, stF_mkb, stF_nilc, stF_mks, mapF_eq, evalF_eq, evalA, setAF, setA, setF_eq, putF_eq, lookF_eq, List.getD_cons_zero, List.getD_cons_succ, List.set_cons_zero, List.set_cons_succ, List.replicate, List.length_cons, List.length_nil, Nat.zero_add, Nat.reduceSub, Nat.reduceAdd, List.cons_append, List.nil_append, Option.getD, drop, Nat.beq, List.length_map, binV, binI, unV, if_true, Eng.asInt, Eng.part, cellsOf, toNat_cast, cast_nonneg, true_and, and_true, if_pos, giveOp, gvK, List.getElem?_cons_zero, List.getElem?_cons_succ, Bool.not_true, Bool.not_false, ofVal, eq_self, and_self, true_implies, dfF, touch, regF, quietF, pairOK, noCs, Go.Value.oneCell', decide_true, decide_false, Nat.mul_one, asBound, fullOf, Option.isSome_none, Option.isSome_some, Nat.zero_le, Bool.false_eq_true, false_implies, Int.cast_ofNat_Int, Int.reduceLT, Int.reduceLE, Int.reduceToNat, Nat.reduceMul, Int.le_refl, Eng.look, putAt, Nat.reduceEqDiff, reduceCtorEq, Nat.reduceBEq, if_false, List.all_cons, List.all_nil, tf_beq, ft_beq, lvSub, lvOK, isNone, width, solid, splice, List.take_zero, List.drop_zero, List.drop_nil, List.take_nil, List.drop_succ_cons, List.take_succ_cons, List.append_nil, beq_self_eq_true, Bool.and_true, Bool.true_and, Bool.and_self, ge_iff_le, gt_iff_lt, Nat.le_refl, Nat.reduceLeDiff, Nat.reduceLT]
    subst hU
    exact W_named named35 (made_tail A B C E hE hb hB sn hs24 false l ⟨l1, by omega⟩ l3 _ 0 _ _ _ _ _ _ _ _ _ _ _ _ _ _ _ _ _ _ _ _ _ _ _ _ _ _ _ _ _ _ _ _ _ _ _ _ _ _ _ _ _ _ _ _ _ _ _ _ _ _ _ _ _ _ _ _ _ _ _)
  | false =>
    simp only [go_some, go_none, go_zero, nxt_op, nxt_guard, nxt_skip, nxt_label, nxt_region, nxt_drawn, nxt_seq, nxt_block, nxt_scope, nxt_exit, nxt_blk, nxt_lp, nxt_cond, nxt_loop, nxt_ret, nxt_stop, nxt_nil, Eng.start, frG, frF, isCall, stp, exec1, exec1K, dK, Nat.reduceDiv, keyA, wantedA, stepF, stF_mv, stF_bin, stF_len, stF_un, stF_pick, stF_load, stF_iadr, stF_box, stF_fadr, stF_store, stF_ext, stF_fld, stF_idx, stF_aadr, stF_app, stF_bldS, stF_slc, stF_slcA, stF_bld, stF_isnil, stF_mki, stF_mkf, stF_mkb, stF_nilc, stF_mks, mapF_eq, evalF_eq, evalA, setAF, setA, setF_eq, putF_eq, lookF_eq, List.getD_cons_zero, List.getD_cons_succ, List.set_cons_zero, List.set_cons_succ, List.replicate, List.length_cons, List.length_nil, Nat.zero_add, Nat.reduceSub, Nat.reduceAdd, List.cons_append, List.nil_append, Option.getD, drop, Nat.beq, List.length_map, binV, binI, unV, if_true, Eng.asInt, Eng.part, cellsOf, toNat_cast, cast_nonneg, true_and, and_true, if_pos, giveOp, gvK, List.getElem?_cons_zero, List.getElem?_cons_succ, Bool.not_true, Bool.not_false, ofVal, eq_self, and_self, true_implies, dfF, touch, regF, quietF, pairOK, noCs, Go.Value.oneCell', decide_true, decide_false, Nat.mul_one, asBound, fullOf, Option.isSome_none, Option.isSome_some, Nat.zero_le, Bool.false_eq_true, false_implies, Int.cast_ofNat_Int, Int.reduceLT, Int.reduceLE, Int.reduceToNat, Nat.reduceMul, Int.le_refl, Eng.look, putAt, Nat.reduceEqDiff, reduceCtorEq, Nat.reduceBEq, if_false, List.all_cons, List.all_nil, tf_beq, ft_beq, lvSub, lvOK, isNone, width, solid, splice, List.take_zero, List.drop_zero, List.drop_nil, List.take_nil, List.drop_succ_cons, List.take_succ_cons, List.append_nil, beq_self_eq_true, Bool.and_true, Bool.true_and, Bool.and_self, ge_iff_le, gt_iff_lt, Nat.le_refl, Nat.reduceLeDiff, Nat.reduceLT, xf6, ai, nilA, u8, raw_conv, rawC, opA, argT, Option.elim, wA, wC, z24, z2, hsn, wS, hUl, hc, wD]
    refine W_alone (W_named named35 (up_loop sn hs24 _ _ _ _ (fun j3 j4 j5 j8 j9 j10 j11 j12 j13 j14 j15 j16 j17 j18 j19 j20 j21 j22 j23 j24 j25 j26 j29 j30 j31 j32 j33 j34 j35 j36 j37 j38 j39 j40 j41 j42 j43 j44 j45 j46 j47 j48 j49 j50 j51 j52 j53 j54 j55 j56 j57 j58 j59 j60 j61 j62 j63 => ?_) sn 0 (by omega) _ _ _ _ _ _ _ _ _ _ _ _ _ _ _ _ _ _ _ _ _ _ _ _ _ _ _ _ _ _ _ _ _ _ _ _ _ _ _ _ _ _ _ _ _ _ _ _ _ _ _ _ _ _ _ _ _))
    have hlen := upN_len sn
    have hmem := upN_mem sn
    generalize upN sn = L at hlen hmem
    subst hU
    cases L with
    | nil => simp only [List.length_nil] at hlen; omega
    | cons x t =>
      refine W_giveC (giveT_row (t := 7) (k := 35) rfl rfl (by simp)) ?_
      simp only [List.map_cons, List.map_nil, hv, ai, toData_os, toData_v, toData_ptr, Go.Proofs.Eng.putAt, Nat.reduceEqDiff, if_false, if_true]
      exact made_tail A B C E hE hb hB sn hs24 false (x :: t) ⟨by simp, by omega⟩ (fun y hy => hmem y hy) _ 1 _ _ _ _ _ _ _ _ _ _ _ _ _ _ _ _ _ _ _ _ _ _ _ _ _ _ _ _ _ _ _ _ _ _ _ _ _ _ _ _ _ _ _ _ _ _ _ _ _ _ _ _ _ _ _ _ _ _ _
end Go.Proofs.YtliklcopmapfaaaDoor

