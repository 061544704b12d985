/-
  The law's loops: the plan by numbers.
-/
import Derived.Test.YtliklcopmapfaaaDoorMl
set_option linter.unusedSimpArgs false
set_option linter.unusedVariables false
namespace Go.Proofs.YtliklcopmapfaaaDoor
open Go Go.Proofs.Eng
set_option maxRecDepth 100000
set_option maxHeartbeats 1000000
def i8 (z : Int) : AV := .v (.int .i8 z)
def qOf (x : Int) : Int := mx2 (-1) (x.tmod 4)
theorem get_i8 {l : List Int} {i : Nat} (h : i < l.length) : (l.map i8)[i]? = some (i8 (l.getD i 0)) := by
  rw [List.getElem?_map, List.getElem?_eq_getElem h, List.getD_eq_getElem?_getD, List.getElem?_eq_getElem h]; rfl
theorem tmod4 (x : Int) : -4 < x.tmod 4 ∧ x.tmod 4 < 4 := ⟨Int.lt_tmod_of_pos _ (by omega), Int.tmod_lt_of_pos _ (by omega)⟩
theorem A_loop (K : List Fr) (Q : Out → Cfg → Prop) (D : List Int) (hD : D.length = 8) (hb : ∀ x, x ∈ D → -128 ≤ x ∧ x ≤ 127) (n : Nat) (hn : n ≤ 8) (x0 x1 x2 x3 x7 x8 : AV)
    (hK : ∀ j5 j10 j11 j12 j13 j14 j15 j16 j17 j18 j19 j20 j21 j22 j23 j24 j28 j29 j30 j31 j32 j33 j34 j35 j36 j37 j38 j39 j40 j41 j42 j43 j44 j45 j46 j47 j48 j49 j50 j51 j52 j53 j54 j55 j56 j57 j58 j59 j60 j61 j62 j63 j64 j65 j66 j67 j68 j69 j70 j71 j72 j73 j74 j75 j76 j77 j78 j79 j80 j81 j82 j83 j84 j85 j86 j87 j88 j89 j90 j91 j92 j93 j94 j95 j96 j97 j98 j99 j100 j101 j102 j103 j104 j105 j106 j107 j108 j109 j110 j111 j112 j113 j114 j115 j116 j117 j118 j119 j120 j121 : AV, W Tryd.prog (RelU Tryd.prog xf) 0 K ⟨(x0 :: x1 :: x2 :: x3 :: (.ptr (.ag (D.map i8))) :: j5 :: (ab false) :: x7 :: x8 :: (hv 38 ((D.take n).map qOf)) :: j10 :: j11 :: j12 :: j13 :: j14 :: j15 :: j16 :: j17 :: j18 :: j19 :: j20 :: j21 :: j22 :: j23 :: j24 :: x8 :: (ai n) :: (ai n) :: j28 :: j29 :: j30 :: j31 :: j32 :: j33 :: j34 :: j35 :: j36 :: j37 :: j38 :: j39 :: j40 :: j41 :: j42 :: j43 :: j44 :: j45 :: j46 :: j47 :: j48 :: j49 :: j50 :: j51 :: j52 :: j53 :: j54 :: j55 :: j56 :: j57 :: j58 :: j59 :: j60 :: j61 :: j62 :: j63 :: j64 :: j65 :: j66 :: j67 :: j68 :: j69 :: j70 :: j71 :: j72 :: j73 :: j74 :: j75 :: j76 :: j77 :: j78 :: j79 :: j80 :: j81 :: j82 :: j83 :: j84 :: j85 :: j86 :: j87 :: j88 :: j89 :: j90 :: j91 :: j92 :: j93 :: j94 :: j95 :: j96 :: j97 :: j98 :: j99 :: j100 :: j101 :: j102 :: j103 :: j104 :: j105 :: j106 :: j107 :: j108 :: j109 :: j110 :: j111 :: j112 :: j113 :: j114 :: j115 :: j116 :: j117 :: j118 :: j119 :: j120 :: j121 :: []), [(38, hr ((D.take n).map qOf))]⟩ Q) :
    ∀ (k i : Nat), i + k = n → ∀ j5 j10 j11 j12 j13 j14 j15 j16 j17 j18 j19 j20 j21 j22 j23 j24 j28 j29 j30 j31 j32 j33 j34 j35 j36 j37 j38 j39 j40 j41 j42 j43 j44 j45 j46 j47 j48 j49 j50 j51 j52 j53 j54 j55 j56 j57 j58 j59 j60 j61 j62 j63 j64 j65 j66 j67 j68 j69 j70 j71 j72 j73 j74 j75 j76 j77 j78 j79 j80 j81 j82 j83 j84 j85 j86 j87 j88 j89 j90 j91 j92 j93 j94 j95 j96 j97 j98 j99 j100 j101 j102 j103 j104 j105 j106 j107 j108 j109 j110 j111 j112 j113 j114 j115 j116 j117 j118 j119 j120 j121 : AV, W Tryd.prog (RelU Tryd.prog xf) 0 (.code (.loop xf4_L0) :: .blk 0 :: .stop :: K) ⟨(x0 :: x1 :: x2 :: x3 :: (.ptr (.ag (D.map i8))) :: j5 :: (ab false) :: x7 :: x8 :: (hv 38 ((D.take i).map qOf)) :: j10 :: j11 :: j12 :: j13 :: j14 :: j15 :: j16 :: j17 :: j18 :: j19 :: j20 :: j21 :: j22 :: j23 :: j24 :: x8 :: (ai n) :: (ai i) :: j28 :: j29 :: j30 :: j31 :: j32 :: j33 :: j34 :: j35 :: j36 :: j37 :: j38 :: j39 :: j40 :: j41 :: j42 :: j43 :: j44 :: j45 :: j46 :: j47 :: j48 :: j49 :: j50 :: j51 :: j52 :: j53 :: j54 :: j55 :: j56 :: j57 :: j58 :: j59 :: j60 :: j61 :: j62 :: j63 :: j64 :: j65 :: j66 :: j67 :: j68 :: j69 :: j70 :: j71 :: j72 :: j73 :: j74 :: j75 :: j76 :: j77 :: j78 :: j79 :: j80 :: j81 :: j82 :: j83 :: j84 :: j85 :: j86 :: j87 :: j88 :: j89 :: j90 :: j91 :: j92 :: j93 :: j94 :: j95 :: j96 :: j97 :: j98 :: j99 :: j100 :: j101 :: j102 :: j103 :: j104 :: j105 :: j106 :: j107 :: j108 :: j109 :: j110 :: j111 :: j112 :: j113 :: j114 :: j115 :: j116 :: j117 :: j118 :: j119 :: j120 :: j121 :: []), [(38, hr ((D.take i).map qOf))]⟩ Q := by
  intro k
  induction k with
  | zero =>
    intro i hi j5 j10 j11 j12 j13 j14 j15 j16 j17 j18 j19 j20 j21 j22 j23 j24 j28 j29 j30 j31 j32 j33 j34 j35 j36 j37 j38 j39 j40 j41 j42 j43 j44 j45 j46 j47 j48 j49 j50 j51 j52 j53 j54 j55 j56 j57 j58 j59 j60 j61 j62 j63 j64 j65 j66 j67 j68 j69 j70 j71 j72 j73 j74 j75 j76 j77 j78 j79 j80 j81 j82 j83 j84 j85 j86 j87 j88 j89 j90 j91 j92 j93 j94 j95 j96 j97 j98 j99 j100 j101 j102 j103 j104 j105 j106 j107 j108 j109 j110 j111 j112 j113 j114 j115 j116 j117 j118 j119 j120 j121
    have : i = n := by omega
    subst this
    have h0 : decide (i < i) = false := by simp
    refine W_loop (W_run 80 ?_)
    simp only [go_some, go_none, go_zero, nxt_op, nxt_guard, nxt_skip, nxt_label, nxt_region, nxt_drawn, nxt_seq, nxt_block, nxt_scope, nxt_exit, nxt_blk, nxt_lp, nxt_cond, nxt_loop, nxt_ret, nxt_stop, nxt_nil, Eng.start, frG, frF, isCall, stp, exec1, exec1K, dK, Nat.reduceDiv, keyA, wantedA, stepF, stF_mv, stF_bin, stF_len, stF_un, stF_pick, stF_load, stF_iadr, stF_box, stF_fadr, stF_store, stF_ext, stF_fld, stF_idx, stF_aadr, stF_app, stF_bldS, stF_slc, stF_slcA, stF_bld, stF_isnil, stF_mki, stF_mkf, stF_mkb, stF_nilc, stF_mks, mapF_eq, evalF_eq, evalA, setAF, setA, setF_eq, putF_eq, lookF_eq, List.getD_cons_zero, List.getD_cons_succ, List.set_cons_zero, List.set_cons_succ, List.replicate, List.length_cons, List.length_nil, Nat.zero_add, Nat.reduceSub, Nat.reduceAdd, List.cons_append, List.nil_append, Option.getD, drop, Nat.beq, List.length_map, binV, binI, unV, if_true, Eng.asInt, Eng.part, cellsOf, toNat_cast, cast_nonneg, true_and, and_true, if_pos, giveOp, gvK, List.getElem?_cons_zero, List.getElem?_cons_succ, Bool.not_true, Bool.not_false, ofVal, eq_self, and_self, true_implies, dfF, touch, regF, quietF, pairOK, noCs, Go.Value.oneCell', decide_true, decide_false, Nat.mul_one, asBound, fullOf, Option.isSome_none, Option.isSome_some, Nat.zero_le, Bool.false_eq_true, false_implies, Int.cast_ofNat_Int, Int.reduceLT, Int.reduceLE, Int.reduceToNat, Nat.reduceMul, Int.le_refl, Eng.look, putAt, Nat.reduceEqDiff, reduceCtorEq, Nat.reduceBEq, if_false, List.all_cons, List.all_nil, tf_beq, ft_beq, lvSub, lvOK, isNone, width, solid, splice, List.take_zero, List.drop_zero, List.drop_nil, List.take_nil, List.drop_succ_cons, List.take_succ_cons, List.append_nil, beq_self_eq_true, Bool.and_true, Bool.true_and, Bool.and_self, ge_iff_le, gt_iff_lt, Nat.le_refl, Nat.reduceLeDiff, Nat.reduceLT, xf4_L0, ai, lt_cast, h0]
    exact W_stop (hK _ _ _ _ _ _ _ _ _ _ _ _ _ _ _ _ _ _ _ _ _ _ _ _ _ _ _ _ _ _ _ _ _ _ _ _ _ _ _ _ _ _ _ _ _ _ _ _ _ _ _ _ _ _ _ _ _ _ _ _ _ _ _ _ _ _ _ _ _ _ _ _ _ _ _ _ _ _ _ _ _ _ _ _ _ _ _ _ _ _ _ _ _ _ _ _ _ _ _ _ _ _ _ _ _ _ _ _ _ _)
  | succ k ih =>
    intro i hi j5 j10 j11 j12 j13 j14 j15 j16 j17 j18 j19 j20 j21 j22 j23 j24 j28 j29 j30 j31 j32 j33 j34 j35 j36 j37 j38 j39 j40 j41 j42 j43 j44 j45 j46 j47 j48 j49 j50 j51 j52 j53 j54 j55 j56 j57 j58 j59 j60 j61 j62 j63 j64 j65 j66 j67 j68 j69 j70 j71 j72 j73 j74 j75 j76 j77 j78 j79 j80 j81 j82 j83 j84 j85 j86 j87 j88 j89 j90 j91 j92 j93 j94 j95 j96 j97 j98 j99 j100 j101 j102 j103 j104 j105 j106 j107 j108 j109 j110 j111 j112 j113 j114 j115 j116 j117 j118 j119 j120 j121
    have h1 : i < n := by omega
    have h1D : i < D.length := by omega
    have h18 : (i : Int) < 8 := by omega
    have h0 : decide (i < n) = true := decide_eq_true h1
    obtain ⟨b1, b2⟩ := hb _ (getD_mem (d := 0) h1D)
    have w1 : IntKind.i64.wrap (D.getD i 0) = D.getD i 0 := wrap_id (by omega) (by omega)
    have z4 : ((4 : Int) = 0) = False := by simp
    have hDl : (D.map i8).length = 8 := by rw [List.length_map]; exact hD
    have hnx := map_take1 (f := qOf) h1D
    have hlen : ((D.take i).map qOf).length ≤ 8 := by rw [List.length_map, List.length_take]; omega
    generalize hL : (D.take i).map qOf = L at hlen hnx
    have next := ih (i + 1) (by omega)
    rw [hnx] at next
    have ew : mx2 (-1) ((D.getD i 0).tmod 4) = qOf (D.getD i 0) := rfl
    refine W_loop (W_run 120 ?_)
    cases L with
    | nil =>
      simp only [hv, hr]
      simp only [go_some, go_none, go_zero, nxt_op, nxt_guard, nxt_skip, nxt_label, nxt_region, nxt_drawn, nxt_seq, nxt_block, nxt_scope, nxt_exit, nxt_blk, nxt_lp, nxt_cond, nxt_loop, nxt_ret, nxt_stop, nxt_nil, Eng.start, frG, frF, isCall, stp, exec1, exec1K, dK, Nat.reduceDiv, keyA, wantedA, stepF, stF_mv, stF_bin, stF_len, stF_un, stF_pick, stF_load, stF_iadr, stF_box, stF_fadr, stF_store, stF_ext, stF_fld, stF_idx, stF_aadr, stF_app, stF_bldS, stF_slc, stF_slcA, stF_bld, stF_isnil, stF_mki, stF_mkf, stF_mkb, stF_nilc, stF_mks, mapF_eq, evalF_eq, evalA, setAF, setA, setF_eq, putF_eq, lookF_eq, List.getD_cons_zero, List.getD_cons_succ, List.set_cons_zero, List.set_cons_succ, List.replicate, List.length_cons, List.length_nil, Nat.zero_add, Nat.reduceSub, Nat.reduceAdd, List.cons_append, List.nil_append, Option.getD, drop, Nat.beq, List.length_map, binV, binI, unV, if_true, Eng.asInt, Eng.part, cellsOf, toNat_cast, cast_nonneg, true_and, and_true, if_pos, giveOp, gvK, List.getElem?_cons_zero, List.getElem?_cons_succ, Bool.not_true, Bool.not_false, ofVal, eq_self, and_self, true_implies, dfF, touch, regF, quietF, pairOK, noCs, Go.Value.oneCell', decide_true, decide_false, Nat.mul_one, asBound, fullOf, Option.isSome_none, Option.isSome_some, Nat.zero_le, Bool.false_eq_true, false_implies, Int.cast_ofNat_Int, Int.reduceLT, Int.reduceLE, Int.reduceToNat, Nat.reduceMul, Int.le_refl, Eng.look, putAt, Nat.reduceEqDiff, reduceCtorEq, Nat.reduceBEq, if_false, List.all_cons, List.all_nil, tf_beq, ft_beq, lvSub, lvOK, isNone, width, solid, splice, List.take_zero, List.drop_zero, List.drop_nil, List.take_nil, List.drop_succ_cons, List.take_succ_cons, List.append_nil, beq_self_eq_true, Bool.and_true, Bool.true_and, Bool.and_self, ge_iff_le, gt_iff_lt, Nat.le_refl, Nat.reduceLeDiff, Nat.reduceLT, xf4_L0, ai, nilA, lt_cast, h0, h18, get_i8 h1D, i8, hDl, raw_conv8, rawC8, raw_max, rawK, opA, argT, Option.elim, w1, z4, List.map_cons, List.map_nil, reduceCtorEq, Go.Proofs.Eng.elems]
      rw [wrap_id (by omega) (by omega)]
      exact next _ _ _ _ _ _ _ _ _ _ _ _ _ _ _ _ _ _ _ _ _ _ _ _ _ _ _ _ _ _ _ _ _ _ _ _ _ _ _ _ _ _ _ _ _ _ _ _ _ _ _ _ _ _ _ _ _ _ _ _ _ _ _ _ _ _ _ _ _ _ _ _ _ _ _ _ _ _ _ _ _ _ _ _ _ _ _ _ _ _ _ _ _ _ _ _ _ _ _ _ _ _ _ _ _ _ _ _ _ _
    | cons x t =>
      have q1 : (t.length + 1 + 1) * 8 ≤ 100000000000000 := by simp only [List.length_cons] at hlen; omega
      have q2 : t.length + 1 + 1 ≤ 100000000000000 := by simp only [List.length_cons] at hlen; omega
      simp only [hv, hr]
      simp only [go_some, go_none, go_zero, nxt_op, nxt_guard, nxt_skip, nxt_label, nxt_region, nxt_drawn, nxt_seq, nxt_block, nxt_scope, nxt_exit, nxt_blk, nxt_lp, nxt_cond, nxt_loop, nxt_ret, nxt_stop, nxt_nil, Eng.start, frG, frF, isCall, stp, exec1, exec1K, dK, Nat.reduceDiv, keyA, wantedA, stepF, stF_mv, stF_bin, stF_len, stF_un, stF_pick, stF_load, stF_iadr, stF_box, stF_fadr, stF_store, stF_ext, stF_fld, stF_idx, stF_aadr, stF_app, stF_bldS, stF_slc, stF_slcA, stF_bld, stF_isnil, stF_mki, stF_mkf, stF_mkb, stF_nilc, stF_mks, mapF_eq, evalF_eq, evalA, setAF, setA, setF_eq, putF_eq, lookF_eq, List.getD_cons_zero, List.getD_cons_succ, List.set_cons_zero, List.set_cons_succ, List.replicate, List.length_cons, List.length_nil, Nat.zero_add, Nat.reduceSub, Nat.reduceAdd, List.cons_append, List.nil_append, Option.getD, drop, Nat.beq, List.length_map, binV, binI, unV, if_true, Eng.asInt, Eng.part, cellsOf, toNat_cast, cast_nonneg, true_and, and_true, if_pos, giveOp, gvK, List.getElem?_cons_zero, List.getElem?_cons_succ, Bool.not_true, Bool.not_false, ofVal, eq_self, and_self, true_implies, dfF, touch, regF, quietF, pairOK, noCs, Go.Value.oneCell', decide_true, decide_false, Nat.mul_one, asBound, fullOf, Option.isSome_none, Option.isSome_some, Nat.zero_le, Bool.false_eq_true, false_implies, Int.cast_ofNat_Int, Int.reduceLT, Int.reduceLE, Int.reduceToNat, Nat.reduceMul, Int.le_refl, Eng.look, putAt, Nat.reduceEqDiff, reduceCtorEq, Nat.reduceBEq, if_false, List.all_cons, List.all_nil, tf_beq, ft_beq, lvSub, lvOK, isNone, width, solid, splice, List.take_zero, List.drop_zero, List.drop_nil, List.take_nil, List.drop_succ_cons, List.take_succ_cons, List.append_nil, beq_self_eq_true, Bool.and_true, Bool.true_and, Bool.and_self, ge_iff_le, gt_iff_lt, Nat.le_refl, Nat.reduceLeDiff, Nat.reduceLT, xf4_L0, ai, nilA, lt_cast, h0, h18, get_i8 h1D, i8, hDl, raw_conv8, rawC8, raw_max, rawK, opA, argT, Option.elim, w1, z4, List.map_cons, List.map_nil, reduceCtorEq, Go.Proofs.Eng.elems, q1, q2]
      rw [wrap_id (by omega) (by omega)]
      have e1 : (x :: t ++ [qOf (D.getD i 0)]) = x :: (t ++ [qOf (D.getD i 0)]) := rfl
      rw [e1] at next
      have e2 : (x :: (t ++ [qOf (D.getD i 0)])).length = t.length + 1 + 1 := by simp
      have e3 : (x :: (t ++ [qOf (D.getD i 0)])).map ai = AV.v (.int .i64 x) :: (t.map ai ++ [AV.v (.int .i64 (qOf (D.getD i 0)))]) := by simp [ai]
      simp only [hv, hr, e2, e3] at next
      exact next _ _ _ _ _ _ _ _ _ _ _ _ _ _ _ _ _ _ _ _ _ _ _ _ _ _ _ _ _ _ _ _ _ _ _ _ _ _ _ _ _ _ _ _ _ _ _ _ _ _ _ _ _ _ _ _ _ _ _ _ _ _ _ _ _ _ _ _ _ _ _ _ _ _ _ _ _ _ _ _ _ _ _ _ _ _ _ _ _ _ _ _ _ _ _ _ _ _ _ _ _ _ _ _ _ _ _ _ _ _
/-- what is left of the sheets, and what is cut from them -/
def LU (s : Int) (L U : List Int) : Prop := U.length = 8 ∧ L.length ≤ 4 ∧ ∀ j, j < 8 → (j < L.length → L.getD j 0 = s - U.getD j 0) ∧ (L.length ≤ j → U.getD j 0 = 0)
theorem set_get {L : List Int} {j k : Nat} {v : Int} (h : k < L.length) : (L.set k v).getD j 0 = if k = j then v else L.getD j 0 := by
  rw [List.getD_eq_getElem?_getD, List.getElem?_set, List.getD_eq_getElem?_getD]
  by_cases e : k = j
  · rw [if_pos e, if_pos e, if_pos h]; rfl
  · rw [if_neg e, if_neg e]
theorem LU_put {s p : Int} {L U : List Int} {q : Nat} (h : LU s L U) (hq : q ≤ L.length) (hq4 : q < 4) : LU s (putL s L q p) (U.set q (U.getD q 0 + p)) := by
  obtain ⟨h1, h2, h3⟩ := h
  rcases Nat.eq_or_lt_of_le hq with e | e
  · subst e
    rw [putL_new]
    refine ⟨by rw [List.length_set]; exact h1, by rw [List.length_append]; simp only [List.length_cons, List.length_nil]; omega, fun j hj => ?_⟩
    rw [set_get (by omega)]
    have h0 := (h3 L.length (by omega)).2 (Nat.le_refl _)
    have hl : (L ++ [s - p]).length = L.length + 1 := by simp
    rw [hl]
    rcases Nat.lt_trichotomy j L.length with hlt | heq | hgt
    · have e1 : (L ++ [s - p]).getD j 0 = L.getD j 0 := by rw [List.getD_eq_getElem?_getD, List.getElem?_append_left hlt, List.getD_eq_getElem?_getD]
      rw [if_neg (by omega), e1]
      exact ⟨fun _ => (h3 j hj).1 hlt, fun q => by omega⟩
    · subst heq
      have e1 : (L ++ [s - p]).getD L.length 0 = s - p := by rw [List.getD_eq_getElem?_getD]; simp
      rw [if_pos rfl, e1, h0]
      exact ⟨fun _ => by omega, fun q => by omega⟩
    · rw [if_neg (by omega)]
      exact ⟨fun q => by omega, fun _ => (h3 j hj).2 (by omega)⟩
  · rw [putL_old e]
    refine ⟨by rw [List.length_set]; exact h1, by rw [List.length_set]; exact h2, fun j hj => ?_⟩
    rw [List.length_set, set_get e, set_get (L := U) (k := q) (by omega)]
    have h0 := (h3 q (by omega)).1 e
    by_cases hqj : q = j
    · subst hqj
      rw [if_pos rfl, if_pos rfl]
      exact ⟨fun _ => by omega, fun r => by omega⟩
    · rw [if_neg hqj, if_neg hqj]
      exact h3 j hj
theorem LU_over {s : Int} {L U : List Int} (hs : 1 ≤ s) (h : LU s L U) : L.any neg = decide (s < mxF U) := by
  obtain ⟨h1, h2, h3⟩ := h
  have hU : U ≠ [] := fun e => by rw [e] at h1; cases h1
  have key : mxF U ≤ s ↔ L.any neg = false := by
    rw [mxF_le hU]
    constructor
    · intro h
      refine List.any_eq_false.2 fun x hx => ?_
      obtain ⟨j, hj, rfl⟩ := List.getElem_of_mem hx
      have e : L.getD j 0 = L[j] := by rw [List.getD_eq_getElem?_getD, List.getElem?_eq_getElem hj]; rfl
      have := (h3 j (by omega)).1 hj
      have hu := h _ (isL_num (l := U) (i := j) (by omega))
      rw [← e, this]
      unfold neg
      rw [decide_eq_false (by omega)]; simp
    · intro h x hx
      obtain ⟨j, hj, rfl⟩ := List.getElem_of_mem hx
      have e : U.getD j 0 = U[j] := by rw [List.getD_eq_getElem?_getD, List.getElem?_eq_getElem hj]; rfl
      by_cases hjl : j < L.length
      · have := (h3 j (by omega)).1 hjl
        have hn := List.any_eq_false.1 h _ (isL_num hjl)
        unfold neg at hn
        simp only [decide_eq_true_eq] at hn
        rw [← e]; omega
      · have := (h3 j (by omega)).2 (by omega)
        rw [← e]; omega
  cases h : L.any neg with
  | false => exact (decide_eq_false (by have := key.2 h; omega)).symm
  | true => exact (decide_eq_true (by
      rcases Int.lt_or_le s (mxF U) with q | q
      · exact q
      · rw [key.1 q] at h; cases h)).symm
end Go.Proofs.YtliklcopmapfaaaDoor

