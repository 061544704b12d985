/-
  The law of a line more, whole.
-/
import Derived.Test.YtnpdpkeackicmaaMa
set_option linter.unusedSimpArgs false
set_option linter.unusedVariables false
namespace Go.Proofs.Ytnpdpkeackicmaa
open Go Go.Proofs.Eng
set_option maxRecDepth 100000
set_option maxHeartbeats 8000000
theorem ord_mixed : Try.prog.follows .mixedOrders = true := by kernel_rfl
theorem shelf_ag (a b c : Int) (D H : List Int) (hD : D.length = 12) (hH : H.length = 12) : ∃ G : List AV, shelf a b c D H = .ag G ∧ G.length = 27 ∧ List.take 27 G = G ∧ noRef (.ag G) = true := by
  refine ⟨_, rfl, by simp [hD, hH], List.take_of_length_le (by simp [hD, hH]), noRefs_of fun x hx => ?_⟩
  simp only [List.mem_cons, List.mem_append, List.mem_map] at hx
  rcases hx with rfl | rfl | rfl | ⟨z, _, rfl⟩ | ⟨z, _, rfl⟩ <;> rfl
theorem split_at {A : List (Int × Int)} {q : Nat} (h : q < A.length) (p : Int × Int) : A = A.take q ++ A.getD q (0, 0) :: A.drop (q + 1) ∧ A.set q p = A.take q ++ p :: A.drop (q + 1) := by
  constructor
  · conv => lhs; rw [← List.take_append_drop q A]
    rw [drop_at (d := (0, 0)) h]
  · rw [List.set_eq_take_append_cons_drop, if_pos h]
theorem set_mem {A : List (Int × Int)} {q : Nat} {p x : Int × Int} (h : x ∈ A.set q p) : x ∈ A ∨ x = p := List.mem_or_eq_of_mem_set h
theorem reify_bk2 {η : Heap} {A : List (Int × Int)} {R F : Int} {g : Nat} (hk : Go.Proofs.Eng.look η 1005 = (g, some ⟨52, 2, A.map shA⟩)) : reify η 20 (.ag [.os 1005 g A.length 2 0 A.length, ai R, ai F]) = some (bkA false A R F) := by
  have h : reify η 19 (.os 1005 g A.length 2 0 A.length) = some (aS false A) := reify_os (elem_sh _ 17) hk
  show ([.os 1005 g A.length 2 0 A.length, ai R, ai F].mapM (reify η 19)).map AV.ag = _
  rw [List.mapM_cons, h]; rfl
theorem more_law (a b c z : Int) (D H : List Int) (ha : 0 ≤ a ∧ a ≤ 255) (hb : 0 ≤ b ∧ b ≤ 255) (hc : 0 ≤ c ∧ c ≤ 255) (hz : 0 ≤ z ∧ z ≤ 255) (hD : D.length = 12) (hH : H.length = 12) (bD : ∀ x, x ∈ D → 0 ≤ x ∧ x ≤ 255) (bH : ∀ x, x ∈ H → 0 ≤ x ∧ x ≤ 255) (hwk : Runs Try.prog xf 23 [] (ab true)) :
    Runs Try.prog xf 10 [shelf a b c D H, u8 z] (ab true) := by
  obtain ⟨r, ⟨A, R, F, rfl, hg, hm, hl29, hall⟩, hmade⟩ := made_run 12 29 a b c D H (by omega) (by omega) ha hb hc hD hH bD bH
  obtain ⟨G, hG, hGl, hGt, hGn⟩ := shelf_ag a b c D H hD hH
  rw [hG] at hmade ⊢
  have hn0 := hg.n0
  have hn1 := hg.n1
  have wz : IntKind.i64.wrap z = z := wrap_id (by omega) (by omega)
  have zn : ((A.length : Int) = 0) = False := eq_false (by omega)
  obtain ⟨t1, t2⟩ := tmod_b (a := z) (n := (A.length : Int)) hz.1 (by omega)
  obtain ⟨q, hq⟩ : ∃ q : Nat, z.tmod (A.length : Int) = (q : Int) := ⟨(z.tmod (A.length : Int)).toNat, by omega⟩
  have hqn : q < A.length := by omega
  have hqi : (q : Int) < (A.length : Int) := by omega
  have hget := get_sh hqn
  obtain ⟨p1, p2, hp⟩ : ∃ p1 p2, A.getD q (0, 0) = (p1, p2) := ⟨_, _, rfl⟩
  have hpm : (p1, p2) ∈ A := by rw [← hp]; exact getD_mem hqn
  have hpg := hg.art _ hpm
  unfold gA at hpg
  simp only at hpg
  have hp29 := hl29 _ hpm
  have hpR := hall _ hpm
  simp only at hp29 hpR
  rw [hp] at hget
  have w1 : IntKind.i64.wrap (p1 + 1) = p1 + 1 := wrap_id (by omega) (by omega)
  have w2 : IntKind.i64.wrap (p2 + 1) = p2 + 1 := wrap_id (by omega) (by omega)
  have hr0 := hg.r0
  have hr1 := hg.r1
  -- the articles, with a line more for one
  have e4 : (A.map shA).set q (.ag [.v (.int .i64 (p1 + 1)), .v (.int .i64 p2)]) = (A.set q (p1 + 1, p2)).map shA := by rw [List.map_set]; rfl
  have hl1 : (A.set q (p1 + 1, p2)).length = A.length := List.length_set
  have hget1 : ((A.set q (p1 + 1, p2)).map shA)[q]? = some (shA (p1 + 1, p2)) := by rw [List.getElem?_map, List.getElem?_set_self hqn]; rfl
  have e5 : ((A.set q (p1 + 1, p2)).map shA).set q (.ag [.v (.int .i64 (p1 + 1)), .v (.int .i64 (p2 + 1))]) = (A.set q (p1 + 1, p2 + 1)).map shA := by rw [← e4, List.set_set, List.map_set]; rfl
  have hl2 : (A.set q (p1 + 1, p2 + 1)).length = A.length := List.length_set
  have hget2 : ((A.set q (p1 + 1, p2 + 1)).map shA)[q]? = some (shA (p1 + 1, p2 + 1)) := by rw [List.getElem?_map, List.getElem?_set_self hqn]; rfl
  have hart2 : ∀ x, x ∈ A.set q (p1 + 1, p2 + 1) → gA x := fun x hx => by
    rcases set_mem hx with h | rfl
    · exact hg.art x h
    · unfold gA; simp only; omega
  have hg2 : gB (A.set q (p1 + 1, p2 + 1)) R F := ⟨by omega, by omega, hart2, hg.r0, hg.r1, hg.f0, hg.f1⟩
  have hsp := split_at hqn (p1 + 1, p2 + 1)
  have hmem2 : (p1 + 1, p2 + 1) ∈ A.set q (p1 + 1, p2 + 1) := by rw [hsp.2]; simp
  have hfew := few_run A R F hg
  unfold fewR at hfew
  rw [if_pos hall] at hfew
  have hfN := few_N _ R F hg2
  have hnf := noRef_few (A.set q (p1 + 1, p2 + 1)) R
  have hlen1 := fil_len R A
  have hlen2 := fil_len R (A.set q (p1 + 1, p2 + 1))
  have hmath : p2 + 1 ≤ R → nb R (A.map Prod.snd) 0 ≤ nb R ((A.set q (p1 + 1, p2 + 1)).map Prod.snd) 0 ∧ nb R ((A.set q (p1 + 1, p2 + 1)).map Prod.snd) 0 ≤ nb R (A.map Prod.snd) 0 + 1 := fun h => by
    have hA1 : A.map Prod.snd = (A.take q).map Prod.snd ++ p2 :: (A.drop (q + 1)).map Prod.snd := by
      conv => lhs; rw [hsp.1]
      rw [List.map_append, List.map_cons, hp]
    have hA2 : (A.set q (p1 + 1, p2 + 1)).map Prod.snd = (A.take q).map Prod.snd ++ (p2 + 1) :: (A.drop (q + 1)).map Prod.snd := by rw [hsp.2, List.map_append, List.map_cons]
    have hb := nb_more (R := R) ((A.take q).map Prod.snd) p2 ((A.drop (q + 1)).map Prod.snd) 0 (fun x hx => by
      rw [← hA2] at hx
      obtain ⟨y, hy, rfl⟩ := List.mem_map.1 hx
      rcases set_mem hy with h' | rfl
      · have g1 := hg.art y h'
        have g2 := hall y h'
        unfold gA at g1
        omega
      · simp only; omega) (by omega) (Int.le_refl _) (by omega)
    rw [← hA1, ← hA2] at hb
    exact hb
  have hnb := nb_n R (A.map Prod.snd) 0
  rw [List.length_map] at hnb
  generalize hA2 : A.set q (p1 + 1, p2 + 1) = A2 at *
  generalize hA1 : A.set q (p1 + 1, p2) = A1 at *
  have hll : (A2.map shA).length = A.length := by rw [List.length_map, hl2]
  have n00 : ((0 : Int) != 0) = false := rfl
  have e00 : ((0 : Int) == 0) = true := rfl
  have e12 : ((12 : Int) == 12) = true := rfl
  refine Runs.ofW (fn := xf10) 20 (by kernel_rfl) (W_run 160 ?_)
  simp (maxSteps := 2000000) only [go_some, go_none, go_zero, nxt_op, nxt_guard, nxt_skip, nxt_label, nxt_region, nxt_drawn, nxt_seq, nxt_block, nxt_scope, nxt_exit, nxt_blk, nxt_lp, nxt_cond, nxt_loop, nxt_ret, nxt_stop, nxt_nil, Eng.start, frG, frF, isCall, stp, exec1, exec1K, dK, Nat.reduceDiv, keyA, wantedA, stepF, stF_mv, stF_bin, stF_len, stF_un, stF_pick, stF_load, stF_iadr, stF_box, stF_fadr, stF_store, stF_ext, stF_fld, stF_idx, stF_aadr, stF_app, stF_bldS, stF_slc, stF_slcA, stF_bld, stF_isnil, stF_mki, stF_mkf, stF_mkb, stF_nilc, stF_mks, stF_tas, mapF_eq, evalF_eq, evalA, setAF, setA, setF_eq, putF_eq, lookF_eq, List.getD_cons_zero, List.getD_cons_succ, List.set_cons_zero, List.set_cons_succ, List.replicate, List.length_cons, List.length_nil, Nat.zero_add, Nat.reduceSub, Nat.reduceAdd, List.cons_append, List.nil_append, Option.getD, drop, Nat.beq, List.length_map, binV, binI, unV, if_true, Eng.asInt, Eng.part, cellsOf, toNat_cast, cast_nonneg, true_and, and_true, if_pos, giveOp, gvK, List.getElem?_cons_zero, List.getElem?_cons_succ, Bool.not_true, Bool.not_false, ofVal, eq_self, and_self, true_implies, dfF, touch, regF, quietF, pairOK, noCs, Go.Value.oneCell', decide_true, decide_false, Nat.mul_one, asBound, fullOf, Option.isSome_none, Option.isSome_some, Nat.zero_le, Bool.false_eq_true, false_implies, Int.cast_ofNat_Int, Int.reduceLT, Int.reduceLE, Int.reduceToNat, Nat.reduceMul, Int.le_refl, Eng.look, putAt, Nat.reduceEqDiff, reduceCtorEq, Nat.reduceBEq, if_false, List.all_cons, List.all_nil, tf_beq, ft_beq, lvSub, lvOK, isNone, width, solid, splice, List.take_zero, List.drop_zero, List.drop_nil, List.take_nil, List.drop_succ_cons, List.take_succ_cons, List.append_nil, beq_self_eq_true, Bool.and_true, Bool.true_and, Bool.and_self, ge_iff_le, gt_iff_lt, Nat.le_refl, Nat.reduceLeDiff, Nat.reduceLT, xf10, ai, u8, hGl, hGt]
  refine W_call (args := [.ag G, ai 12, ai 29]) rfl (noRefs_3 hGn rfl rfl) hmade (noRef_bk _ _ _ _) (W_run 160 ?_)
  simp (maxSteps := 2000000) only [go_some, go_none, go_zero, nxt_op, nxt_guard, nxt_skip, nxt_label, nxt_region, nxt_drawn, nxt_seq, nxt_block, nxt_scope, nxt_exit, nxt_blk, nxt_lp, nxt_cond, nxt_loop, nxt_ret, nxt_stop, nxt_nil, Eng.start, frG, frF, isCall, stp, exec1, exec1K, dK, Nat.reduceDiv, keyA, wantedA, stepF, stF_mv, stF_bin, stF_len, stF_un, stF_pick, stF_load, stF_iadr, stF_box, stF_fadr, stF_store, stF_ext, stF_fld, stF_idx, stF_aadr, stF_app, stF_bldS, stF_slc, stF_slcA, stF_bld, stF_isnil, stF_mki, stF_mkf, stF_mkb, stF_nilc, stF_mks, stF_tas, mapF_eq, evalF_eq, evalA, setAF, setA, setF_eq, putF_eq, lookF_eq, List.getD_cons_zero, List.getD_cons_succ, List.set_cons_zero, List.set_cons_succ, List.replicate, List.length_cons, List.length_nil, Nat.zero_add, Nat.reduceSub, Nat.reduceAdd, List.cons_append, List.nil_append, Option.getD, drop, Nat.beq, List.length_map, binV, binI, unV, if_true, Eng.asInt, Eng.part, cellsOf, toNat_cast, cast_nonneg, true_and, and_true, if_pos, giveOp, gvK, List.getElem?_cons_zero, List.getElem?_cons_succ, Bool.not_true, Bool.not_false, ofVal, eq_self, and_self, true_implies, dfF, touch, regF, quietF, pairOK, noCs, Go.Value.oneCell', decide_true, decide_false, Nat.mul_one, asBound, fullOf, Option.isSome_none, Option.isSome_some, Nat.zero_le, Bool.false_eq_true, false_implies, Int.cast_ofNat_Int, Int.reduceLT, Int.reduceLE, Int.reduceToNat, Nat.reduceMul, Int.le_refl, Eng.look, putAt, Nat.reduceEqDiff, reduceCtorEq, Nat.reduceBEq, if_false, List.all_cons, List.all_nil, tf_beq, ft_beq, lvSub, lvOK, isNone, width, solid, splice, List.take_zero, List.drop_zero, List.drop_nil, List.take_nil, List.drop_succ_cons, List.take_succ_cons, List.append_nil, beq_self_eq_true, Bool.and_true, Bool.true_and, Bool.and_self, ge_iff_le, gt_iff_lt, Nat.le_refl, Nat.reduceLeDiff, Nat.reduceLT, ai, u8, aS, bkA, wz, zn, hq, raw_conv, rawC, opA, argT, Option.elim, List.map_cons, List.map_nil]
  refine W_frF [.none, .rk 5, .wk 1005, .none, .rk 5, .none, .rk 5, .none, .wk 7, .wk 7] (by kernel_rfl) (W_run 160 ?_)
  simp (maxSteps := 2000000) only [go_some, go_none, go_zero, nxt_op, nxt_guard, nxt_skip, nxt_label, nxt_region, nxt_drawn, nxt_seq, nxt_block, nxt_scope, nxt_exit, nxt_blk, nxt_lp, nxt_cond, nxt_loop, nxt_ret, nxt_stop, nxt_nil, Eng.start, frG, frF, isCall, stp, exec1, exec1K, dK, Nat.reduceDiv, keyA, wantedA, stepF, stF_mv, stF_bin, stF_len, stF_un, stF_pick, stF_load, stF_iadr, stF_box, stF_fadr, stF_store, stF_ext, stF_fld, stF_idx, stF_aadr, stF_app, stF_bldS, stF_slc, stF_slcA, stF_bld, stF_isnil, stF_mki, stF_mkf, stF_mkb, stF_nilc, stF_mks, stF_tas, mapF_eq, evalF_eq, evalA, setAF, setA, setF_eq, putF_eq, lookF_eq, List.getD_cons_zero, List.getD_cons_succ, List.set_cons_zero, List.set_cons_succ, List.replicate, List.length_cons, List.length_nil, Nat.zero_add, Nat.reduceSub, Nat.reduceAdd, List.cons_append, List.nil_append, Option.getD, drop, Nat.beq, List.length_map, binV, binI, unV, if_true, Eng.asInt, Eng.part, cellsOf, toNat_cast, cast_nonneg, true_and, and_true, if_pos, giveOp, gvK, List.getElem?_cons_zero, List.getElem?_cons_succ, Bool.not_true, Bool.not_false, ofVal, eq_self, and_self, true_implies, dfF, touch, regF, quietF, pairOK, noCs, Go.Value.oneCell', decide_true, decide_false, Nat.mul_one, asBound, fullOf, Option.isSome_none, Option.isSome_some, Nat.zero_le, Bool.false_eq_true, false_implies, Int.cast_ofNat_Int, Int.reduceLT, Int.reduceLE, Int.reduceToNat, Nat.reduceMul, Int.le_refl, Eng.look, putAt, Nat.reduceEqDiff, reduceCtorEq, Nat.reduceBEq, if_false, List.all_cons, List.all_nil, tf_beq, ft_beq, lvSub, lvOK, isNone, width, solid, splice, List.take_zero, List.drop_zero, List.drop_nil, List.take_nil, List.drop_succ_cons, List.take_succ_cons, List.append_nil, beq_self_eq_true, Bool.and_true, Bool.true_and, Bool.and_self, ge_iff_le, gt_iff_lt, Nat.le_refl, Nat.reduceLeDiff, Nat.reduceLT, ai, aS, bkA]
  refine W_callU (k0 := 1005) (args := [aS false A]) rfl (fun η hη => (cloneA_run A (by omega) η (hη.trans rfl)).pureR ord_mixed xf_ok) rfl (W_run 160 ?_)
  simp (maxSteps := 2000000) only [go_some, go_none, go_zero, nxt_op, nxt_guard, nxt_skip, nxt_label, nxt_region, nxt_drawn, nxt_seq, nxt_block, nxt_scope, nxt_exit, nxt_blk, nxt_lp, nxt_cond, nxt_loop, nxt_ret, nxt_stop, nxt_nil, Eng.start, frG, frF, isCall, stp, exec1, exec1K, dK, Nat.reduceDiv, keyA, wantedA, stepF, stF_mv, stF_bin, stF_len, stF_un, stF_pick, stF_load, stF_iadr, stF_box, stF_fadr, stF_store, stF_ext, stF_fld, stF_idx, stF_aadr, stF_app, stF_bldS, stF_slc, stF_slcA, stF_bld, stF_isnil, stF_mki, stF_mkf, stF_mkb, stF_nilc, stF_mks, stF_tas, mapF_eq, evalF_eq, evalA, setAF, setA, setF_eq, putF_eq, lookF_eq, List.getD_cons_zero, List.getD_cons_succ, List.set_cons_zero, List.set_cons_succ, List.replicate, List.length_cons, List.length_nil, Nat.zero_add, Nat.reduceSub, Nat.reduceAdd, List.cons_append, List.nil_append, Option.getD, drop, Nat.beq, List.length_map, binV, binI, unV, if_true, Eng.asInt, Eng.part, cellsOf, toNat_cast, cast_nonneg, true_and, and_true, if_pos, giveOp, gvK, List.getElem?_cons_zero, List.getElem?_cons_succ, Bool.not_true, Bool.not_false, ofVal, eq_self, and_self, true_implies, dfF, touch, regF, quietF, pairOK, noCs, Go.Value.oneCell', decide_true, decide_false, Nat.mul_one, asBound, fullOf, Option.isSome_none, Option.isSome_some, Nat.zero_le, Bool.false_eq_true, false_implies, Int.cast_ofNat_Int, Int.reduceLT, Int.reduceLE, Int.reduceToNat, Nat.reduceMul, Int.le_refl, Eng.look, putAt, Nat.reduceEqDiff, reduceCtorEq, Nat.reduceBEq, if_false, List.all_cons, List.all_nil, tf_beq, ft_beq, lvSub, lvOK, isNone, width, solid, splice, List.take_zero, List.drop_zero, List.drop_nil, List.take_nil, List.drop_succ_cons, List.take_succ_cons, List.append_nil, beq_self_eq_true, Bool.and_true, Bool.true_and, Bool.and_self, ge_iff_le, gt_iff_lt, Nat.le_refl, Nat.reduceLeDiff, Nat.reduceLT, ai, aS, bkA, shA, w1, w2, hqi, hget, e4, hl1, hget1, e5, hl2, Go.Proofs.Eng.fillA, List.map_cons, List.map_nil]
  refine W_call (args := [bkA false A R F]) rfl (noRefs_1 (noRef_bk _ _ _ _)) hfew (noRef_t2 (noRef_al _ _) rfl) (W_run 160 ?_)
  simp (maxSteps := 2000000) only [go_some, go_none, go_zero, nxt_op, nxt_guard, nxt_skip, nxt_label, nxt_region, nxt_drawn, nxt_seq, nxt_block, nxt_scope, nxt_exit, nxt_blk, nxt_lp, nxt_cond, nxt_loop, nxt_ret, nxt_stop, nxt_nil, Eng.start, frG, frF, isCall, stp, exec1, exec1K, dK, Nat.reduceDiv, keyA, wantedA, stepF, stF_mv, stF_bin, stF_len, stF_un, stF_pick, stF_load, stF_iadr, stF_box, stF_fadr, stF_store, stF_ext, stF_fld, stF_idx, stF_aadr, stF_app, stF_bldS, stF_slc, stF_slcA, stF_bld, stF_isnil, stF_mki, stF_mkf, stF_mkb, stF_nilc, stF_mks, stF_tas, mapF_eq, evalF_eq, evalA, setAF, setA, setF_eq, putF_eq, lookF_eq, List.getD_cons_zero, List.getD_cons_succ, List.set_cons_zero, List.set_cons_succ, List.replicate, List.length_cons, List.length_nil, Nat.zero_add, Nat.reduceSub, Nat.reduceAdd, List.cons_append, List.nil_append, Option.getD, drop, Nat.beq, List.length_map, binV, binI, unV, if_true, Eng.asInt, Eng.part, cellsOf, toNat_cast, cast_nonneg, true_and, and_true, if_pos, giveOp, gvK, List.getElem?_cons_zero, List.getElem?_cons_succ, Bool.not_true, Bool.not_false, ofVal, eq_self, and_self, true_implies, dfF, touch, regF, quietF, pairOK, noCs, Go.Value.oneCell', decide_true, decide_false, Nat.mul_one, asBound, fullOf, Option.isSome_none, Option.isSome_some, Nat.zero_le, Bool.false_eq_true, false_implies, Int.cast_ofNat_Int, Int.reduceLT, Int.reduceLE, Int.reduceToNat, Nat.reduceMul, Int.le_refl, Eng.look, putAt, Nat.reduceEqDiff, reduceCtorEq, Nat.reduceBEq, if_false, List.all_cons, List.all_nil, tf_beq, ft_beq, lvSub, lvOK, isNone, width, solid, splice, List.take_zero, List.drop_zero, List.drop_nil, List.take_nil, List.drop_succ_cons, List.take_succ_cons, List.append_nil, beq_self_eq_true, Bool.and_true, Bool.true_and, Bool.and_self, ge_iff_le, gt_iff_lt, Nat.le_refl, Nat.reduceLeDiff, Nat.reduceLT, ai, al, aS, bkA]
  refine W_fresh (fuel := 20) (args := [.ag [.os 1005 1 A.length 2 0 A.length, ai R, ai F]]) (args' := [bkA false A2 R F]) rfl (by rw [List.mapM_cons, ← hl2, reify_bk2 (A := A2) rfl]; rfl) hfN hnf rfl (W_run 160 ?_)
  unfold fewR
  by_cases hov : R < p2 + 1
  · have d1 : decide (R < p2 + 1) = true := decide_eq_true hov
    have hno : ¬ ∀ p, p ∈ A2 → p.2 ≤ R := fun h => by have := h _ hmem2; simp only at this; omega
    rw [if_neg hno]
    simp (maxSteps := 2000000) only [go_some, go_none, go_zero, nxt_op, nxt_guard, nxt_skip, nxt_label, nxt_region, nxt_drawn, nxt_seq, nxt_block, nxt_scope, nxt_exit, nxt_blk, nxt_lp, nxt_cond, nxt_loop, nxt_ret, nxt_stop, nxt_nil, Eng.start, frG, frF, isCall, stp, exec1, exec1K, dK, Nat.reduceDiv, keyA, wantedA, stepF, stF_mv, stF_bin, stF_len, stF_un, stF_pick, stF_load, stF_iadr, stF_box, stF_fadr, stF_store, stF_ext, stF_fld, stF_idx, stF_aadr, stF_app, stF_bldS, stF_slc, stF_slcA, stF_bld, stF_isnil, stF_mki, stF_mkf, stF_mkb, stF_nilc, stF_mks, stF_tas, mapF_eq, evalF_eq, evalA, setAF, setA, setF_eq, putF_eq, lookF_eq, List.getD_cons_zero, List.getD_cons_succ, List.set_cons_zero, List.set_cons_succ, List.replicate, List.length_cons, List.length_nil, Nat.zero_add, Nat.reduceSub, Nat.reduceAdd, List.cons_append, List.nil_append, Option.getD, drop, Nat.beq, List.length_map, binV, binI, unV, if_true, Eng.asInt, Eng.part, cellsOf, toNat_cast, cast_nonneg, true_and, and_true, if_pos, giveOp, gvK, List.getElem?_cons_zero, List.getElem?_cons_succ, Bool.not_true, Bool.not_false, ofVal, eq_self, and_self, true_implies, dfF, touch, regF, quietF, pairOK, noCs, Go.Value.oneCell', decide_true, decide_false, Nat.mul_one, asBound, fullOf, Option.isSome_none, Option.isSome_some, Nat.zero_le, Bool.false_eq_true, false_implies, Int.cast_ofNat_Int, Int.reduceLT, Int.reduceLE, Int.reduceToNat, Nat.reduceMul, Int.le_refl, Eng.look, putAt, Nat.reduceEqDiff, reduceCtorEq, Nat.reduceBEq, if_false, List.all_cons, List.all_nil, tf_beq, ft_beq, lvSub, lvOK, isNone, width, solid, splice, List.take_zero, List.drop_zero, List.drop_nil, List.take_nil, List.drop_succ_cons, List.take_succ_cons, List.append_nil, beq_self_eq_true, Bool.and_true, Bool.true_and, Bool.and_self, ge_iff_le, gt_iff_lt, Nat.le_refl, Nat.reduceLeDiff, Nat.reduceLT, ai, al, ab, aS, bkA, nilA, undef, shA, n00, e00, e12, hqi, hget2, hll, hl2, d1]
    refine W_call (args := []) rfl rfl hwk rfl (W_run 160 ?_)
    simp (maxSteps := 2000000) only [go_some, go_none, go_zero, nxt_op, nxt_guard, nxt_skip, nxt_label, nxt_region, nxt_drawn, nxt_seq, nxt_block, nxt_scope, nxt_exit, nxt_blk, nxt_lp, nxt_cond, nxt_loop, nxt_ret, nxt_stop, nxt_nil, Eng.start, frG, frF, isCall, stp, exec1, exec1K, dK, Nat.reduceDiv, keyA, wantedA, stepF, stF_mv, stF_bin, stF_len, stF_un, stF_pick, stF_load, stF_iadr, stF_box, stF_fadr, stF_store, stF_ext, stF_fld, stF_idx, stF_aadr, stF_app, stF_bldS, stF_slc, stF_slcA, stF_bld, stF_isnil, stF_mki, stF_mkf, stF_mkb, stF_nilc, stF_mks, stF_tas, mapF_eq, evalF_eq, evalA, setAF, setA, setF_eq, putF_eq, lookF_eq, List.getD_cons_zero, List.getD_cons_succ, List.set_cons_zero, List.set_cons_succ, List.replicate, List.length_cons, List.length_nil, Nat.zero_add, Nat.reduceSub, Nat.reduceAdd, List.cons_append, List.nil_append, Option.getD, drop, Nat.beq, List.length_map, binV, binI, unV, if_true, Eng.asInt, Eng.part, cellsOf, toNat_cast, cast_nonneg, true_and, and_true, if_pos, giveOp, gvK, List.getElem?_cons_zero, List.getElem?_cons_succ, Bool.not_true, Bool.not_false, ofVal, eq_self, and_self, true_implies, dfF, touch, regF, quietF, pairOK, noCs, Go.Value.oneCell', decide_true, decide_false, Nat.mul_one, asBound, fullOf, Option.isSome_none, Option.isSome_some, Nat.zero_le, Bool.false_eq_true, false_implies, Int.cast_ofNat_Int, Int.reduceLT, Int.reduceLE, Int.reduceToNat, Nat.reduceMul, Int.le_refl, Eng.look, putAt, Nat.reduceEqDiff, reduceCtorEq, Nat.reduceBEq, if_false, List.all_cons, List.all_nil, tf_beq, ft_beq, lvSub, lvOK, isNone, width, solid, splice, List.take_zero, List.drop_zero, List.drop_nil, List.take_nil, List.drop_succ_cons, List.take_succ_cons, List.append_nil, beq_self_eq_true, Bool.and_true, Bool.true_and, Bool.and_self, ge_iff_le, gt_iff_lt, Nat.le_refl, Nat.reduceLeDiff, Nat.reduceLT, ab]
    exact W_ret1 (WX_pop (WX_nil ⟨.inl rfl, _, rfl, rfl⟩))
  · have d1 : decide (R < p2 + 1) = false := decide_eq_false hov
    obtain ⟨m1, m2⟩ := hmath (by omega)
    have hyes : ∀ p, p ∈ A2 → p.2 ≤ R := fun p hp => by
      rw [← hA2] at hp
      rcases set_mem hp with h | rfl
      · exact hall p h
      · simp only; omega
    have d2 : decide (((filL R A).length : Int) ≤ ((filL R A2).length : Int)) = true := decide_eq_true (by omega)
    have w3 : IntKind.i64.wrap (((filL R A).length : Int) + 1) = ((filL R A).length : Int) + 1 := wrap_id (by omega) (by omega)
    have d3 : decide (((filL R A2).length : Int) ≤ ((filL R A).length : Int) + 1) = true := decide_eq_true (by omega)
    rw [if_pos hyes]
    simp (maxSteps := 2000000) only [go_some, go_none, go_zero, nxt_op, nxt_guard, nxt_skip, nxt_label, nxt_region, nxt_drawn, nxt_seq, nxt_block, nxt_scope, nxt_exit, nxt_blk, nxt_lp, nxt_cond, nxt_loop, nxt_ret, nxt_stop, nxt_nil, Eng.start, frG, frF, isCall, stp, exec1, exec1K, dK, Nat.reduceDiv, keyA, wantedA, stepF, stF_mv, stF_bin, stF_len, stF_un, stF_pick, stF_load, stF_iadr, stF_box, stF_fadr, stF_store, stF_ext, stF_fld, stF_idx, stF_aadr, stF_app, stF_bldS, stF_slc, stF_slcA, stF_bld, stF_isnil, stF_mki, stF_mkf, stF_mkb, stF_nilc, stF_mks, stF_tas, mapF_eq, evalF_eq, evalA, setAF, setA, setF_eq, putF_eq, lookF_eq, List.getD_cons_zero, List.getD_cons_succ, List.set_cons_zero, List.set_cons_succ, List.replicate, List.length_cons, List.length_nil, Nat.zero_add, Nat.reduceSub, Nat.reduceAdd, List.cons_append, List.nil_append, Option.getD, drop, Nat.beq, List.length_map, binV, binI, unV, if_true, Eng.asInt, Eng.part, cellsOf, toNat_cast, cast_nonneg, true_and, and_true, if_pos, giveOp, gvK, List.getElem?_cons_zero, List.getElem?_cons_succ, Bool.not_true, Bool.not_false, ofVal, eq_self, and_self, true_implies, dfF, touch, regF, quietF, pairOK, noCs, Go.Value.oneCell', decide_true, decide_false, Nat.mul_one, asBound, fullOf, Option.isSome_none, Option.isSome_some, Nat.zero_le, Bool.false_eq_true, false_implies, Int.cast_ofNat_Int, Int.reduceLT, Int.reduceLE, Int.reduceToNat, Nat.reduceMul, Int.le_refl, Eng.look, putAt, Nat.reduceEqDiff, reduceCtorEq, Nat.reduceBEq, if_false, List.all_cons, List.all_nil, tf_beq, ft_beq, lvSub, lvOK, isNone, width, solid, splice, List.take_zero, List.drop_zero, List.drop_nil, List.take_nil, List.drop_succ_cons, List.take_succ_cons, List.append_nil, beq_self_eq_true, Bool.and_true, Bool.true_and, Bool.and_self, ge_iff_le, gt_iff_lt, Nat.le_refl, Nat.reduceLeDiff, Nat.reduceLT, ai, al, ab, aS, bkA, nilA, undef, shA, n00, e00, e12, hqi, hget2, hll, hl2, d1, d2, w3, d3]
    refine W_call (args := []) rfl rfl hwk rfl (W_run 160 ?_)
    simp (maxSteps := 2000000) only [go_some, go_none, go_zero, nxt_op, nxt_guard, nxt_skip, nxt_label, nxt_region, nxt_drawn, nxt_seq, nxt_block, nxt_scope, nxt_exit, nxt_blk, nxt_lp, nxt_cond, nxt_loop, nxt_ret, nxt_stop, nxt_nil, Eng.start, frG, frF, isCall, stp, exec1, exec1K, dK, Nat.reduceDiv, keyA, wantedA, stepF, stF_mv, stF_bin, stF_len, stF_un, stF_pick, stF_load, stF_iadr, stF_box, stF_fadr, stF_store, stF_ext, stF_fld, stF_idx, stF_aadr, stF_app, stF_bldS, stF_slc, stF_slcA, stF_bld, stF_isnil, stF_mki, stF_mkf, stF_mkb, stF_nilc, stF_mks, stF_tas, mapF_eq, evalF_eq, evalA, setAF, setA, setF_eq, putF_eq, lookF_eq, List.getD_cons_zero, List.getD_cons_succ, List.set_cons_zero, List.set_cons_succ, List.replicate, List.length_cons, List.length_nil, Nat.zero_add, Nat.reduceSub, Nat.reduceAdd, List.cons_append, List.nil_append, Option.getD, drop, Nat.beq, List.length_map, binV, binI, unV, if_true, Eng.asInt, Eng.part, cellsOf, toNat_cast, cast_nonneg, true_and, and_true, if_pos, giveOp, gvK, List.getElem?_cons_zero, List.getElem?_cons_succ, Bool.not_true, Bool.not_false, ofVal, eq_self, and_self, true_implies, dfF, touch, regF, quietF, pairOK, noCs, Go.Value.oneCell', decide_true, decide_false, Nat.mul_one, asBound, fullOf, Option.isSome_none, Option.isSome_some, Nat.zero_le, Bool.false_eq_true, false_implies, Int.cast_ofNat_Int, Int.reduceLT, Int.reduceLE, Int.reduceToNat, Nat.reduceMul, Int.le_refl, Eng.look, putAt, Nat.reduceEqDiff, reduceCtorEq, Nat.reduceBEq, if_false, List.all_cons, List.all_nil, tf_beq, ft_beq, lvSub, lvOK, isNone, width, solid, splice, List.take_zero, List.drop_zero, List.drop_nil, List.take_nil, List.drop_succ_cons, List.take_succ_cons, List.append_nil, beq_self_eq_true, Bool.and_true, Bool.true_and, Bool.and_self, ge_iff_le, gt_iff_lt, Nat.le_refl, Nat.reduceLeDiff, Nat.reduceLT, ab]
    exact W_ret1 (WX_nil ⟨.inl rfl, _, rfl, rfl⟩)
end Go.Proofs.Ytnpdpkeackicmaa

