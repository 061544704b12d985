/-
  Package press's Ends, where nothing is wrong.
-/
import Derived.Test.YtlgmabgpfaajhaaPg
set_option linter.unusedSimpArgs false
set_option linter.unusedVariables false
namespace Go.Proofs.Ytlgmabgpfaajhaa
open Go Go.Proofs.Eng
set_option maxRecDepth 100000
set_option maxHeartbeats 1000000
/-- a row at this key, or none -/
def hv (k : Nat) (L : List Int) : AV := match L with | [] => nilA | x :: t => .os k 1 (x :: t).length 1 0 (x :: t).length
def hr (L : List Int) : Nat × Option Ob := match L with | [] => (0, none) | x :: t => (1, some ⟨3, 1, (x :: t).map ai⟩)
theorem map_snoc {α : Type} {L : List (Int × Int)} {i : Nat} {h : Int × Int → α} (hi : i < L.length) : (L.take (i + 1)).map h = (L.take i).map h ++ [h (L.getD i (0, 0))] := by
  rw [take_snoc (d := (0, 0)) hi, List.map_append]; rfl
theorem named3 (j : Nat) : Go.Proofs.Eng.look ([] : Heap) j = Go.Proofs.Eng.look [(9, (0, (none : Option Ob))), (30, (0, none)), (35, (0, none))] j := by
  simp only [Go.Proofs.Eng.look]
  by_cases h9 : 9 = j
  · simp [h9]
  · by_cases h30 : 30 = j
    · simp [h30]
    · by_cases h35 : 35 = j
      · simp [h35]
      · simp [h9, h30, h35]
theorem es_loop (L : List (Int × Int)) (hl : L.length ≤ 100) (x0 x1 : AV) (K : List Fr) (Q : Out → Cfg → Prop)
    (hK : ∀ r9 : Nat × Option Ob, ∀ j2 j3 j7 j8 j9 j10 j11 j12 j13 j14 j15 j16 j17 j18 j19 j23 j24 j25 j26 j27 j28 j29 j30 j31 j32 j33 j34 j35 j36 j37 j38 : AV, W Try.prog (RelU Try.prog xf) 0 K ⟨(x0 :: x1 :: j2 :: j3 :: (hv 30 (L.map (·.1))) :: (hv 35 (L.map (·.2))) :: (ai 0) :: j7 :: j8 :: j9 :: j10 :: j11 :: j12 :: j13 :: j14 :: j15 :: j16 :: j17 :: j18 :: j19 :: (aS false L) :: (ai L.length) :: (ai L.length) :: j23 :: j24 :: j25 :: j26 :: j27 :: j28 :: j29 :: j30 :: j31 :: j32 :: j33 :: j34 :: j35 :: j36 :: j37 :: j38 :: []), [(9, r9), (30, hr (L.map (·.1))), (35, hr (L.map (·.2)))]⟩ Q) :
    ∀ (k i : Nat), i + k = L.length → ∀ (g9 : Nat) (o9 : Option Ob), ∀ j2 j3 j7 j8 j9 j10 j11 j12 j13 j14 j15 j16 j17 j18 j19 j23 j24 j25 j26 j27 j28 j29 j30 j31 j32 j33 j34 j35 j36 j37 j38 : AV, W Try.prog (RelU Try.prog xf) 0 (.code (.loop xf7_L0) :: .blk 0 :: .stop :: K) ⟨(x0 :: x1 :: j2 :: j3 :: (hv 30 ((L.take i).map (·.1))) :: (hv 35 ((L.take i).map (·.2))) :: (ai 0) :: j7 :: j8 :: j9 :: j10 :: j11 :: j12 :: j13 :: j14 :: j15 :: j16 :: j17 :: j18 :: j19 :: (aS false L) :: (ai L.length) :: (ai i) :: j23 :: j24 :: j25 :: j26 :: j27 :: j28 :: j29 :: j30 :: j31 :: j32 :: j33 :: j34 :: j35 :: j36 :: j37 :: j38 :: []), [(9, (g9, o9)), (30, hr ((L.take i).map (·.1))), (35, hr ((L.take i).map (·.2)))]⟩ Q := by
  intro k
  induction k with
  | zero =>
    intro i hi g9 o9 j2 j3 j7 j8 j9 j10 j11 j12 j13 j14 j15 j16 j17 j18 j19 j23 j24 j25 j26 j27 j28 j29 j30 j31 j32 j33 j34 j35 j36 j37 j38
    have : i = L.length := by omega
    subst this
    have h0 : decide (L.length < L.length) = false := by simp
    rw [List.take_length]
    refine W_loop (W_run 80 ?_)
    simp only [go_some, go_none, go_zero, nxt_op, nxt_guard, nxt_skip, nxt_label, nxt_region, nxt_drawn, nxt_seq, nxt_block, nxt_scope, nxt_exit, nxt_blk, nxt_lp, nxt_cond, nxt_loop, nxt_ret, nxt_stop, nxt_nil, Eng.start, frG, frF, isCall, stp, exec1, exec1K, dK, Nat.reduceDiv, keyA, wantedA, stepF, stF_mv, stF_bin, stF_len, stF_un, stF_pick, stF_load, stF_iadr, stF_box, stF_fadr, stF_store, stF_ext, stF_fld, stF_idx, stF_aadr, stF_app, stF_bldS, stF_slc, stF_slcA, stF_bld, stF_isnil, stF_mki, stF_mkf, stF_mkb, stF_nilc, stF_mks, mapF_eq, evalF_eq, evalA, setAF, setA, setF_eq, putF_eq, lookF_eq, List.getD_cons_zero, List.getD_cons_succ, List.set_cons_zero, List.set_cons_succ, List.replicate, List.length_cons, List.length_nil, Nat.zero_add, Nat.reduceSub, Nat.reduceAdd, List.cons_append, List.nil_append, Option.getD, drop, Nat.beq, List.length_map, binV, binI, unV, if_true, Eng.asInt, Eng.part, cellsOf, toNat_cast, cast_nonneg, true_and, and_true, if_pos, giveOp, gvK, List.getElem?_cons_zero, List.getElem?_cons_succ, Bool.not_true, Bool.not_false, ofVal, eq_self, and_self, true_implies, dfF, touch, regF, quietF, pairOK, noCs, Go.Value.oneCell', decide_true, decide_false, Nat.mul_one, asBound, fullOf, Option.isSome_none, Option.isSome_some, Nat.zero_le, Bool.false_eq_true, false_implies, Int.cast_ofNat_Int, Int.reduceLT, Int.reduceLE, Int.reduceToNat, Nat.reduceMul, Int.le_refl, Eng.look, putAt, Nat.reduceEqDiff, reduceCtorEq, Nat.reduceBEq, if_false, List.all_cons, List.all_nil, tf_beq, ft_beq, lvSub, lvOK, isNone, width, solid, splice, List.take_zero, List.drop_zero, List.drop_nil, List.take_nil, List.drop_succ_cons, List.take_succ_cons, List.append_nil, beq_self_eq_true, Bool.and_true, Bool.true_and, Bool.and_self, ge_iff_le, gt_iff_lt, Nat.le_refl, Nat.reduceLeDiff, Nat.reduceLT, xf7_L0, ai, aS, lt_cast, h0]
    exact W_stop (hK _ _ _ _ _ _ _ _ _ _ _ _ _ _ _ _ _ _ _ _ _ _ _ _ _ _ _ _ _ _ _ _)
  | succ k ih =>
    intro i hi g9 o9 j2 j3 j7 j8 j9 j10 j11 j12 j13 j14 j15 j16 j17 j18 j19 j23 j24 j25 j26 j27 j28 j29 j30 j31 j32 j33 j34 j35 j36 j37 j38
    have h1 : i < L.length := by omega
    have h0 : decide (i < L.length) = true := decide_eq_true h1
    have next := ih (i + 1) (by omega)
    rw [map_snoc (h := fun p => p.1) h1, map_snoc (h := fun p => p.2) h1] at next
    have hlen1 : ((L.take i).map fun p => p.1).length = i := by rw [List.length_map, List.length_take]; omega
    have hlen2 : ((L.take i).map fun p => p.2).length = i := by rw [List.length_map, List.length_take]; omega
    generalize hA : ((L.take i).map fun p => p.1) = A at *
    generalize hB : ((L.take i).map fun p => p.2) = B at *
    refine W_loop (W_run 160 ?_)
    cases A with
    | nil =>
      cases B with
      | nil =>
        simp only [hv, hr]
        simp only [go_some, go_none, go_zero, nxt_op, nxt_guard, nxt_skip, nxt_label, nxt_region, nxt_drawn, nxt_seq, nxt_block, nxt_scope, nxt_exit, nxt_blk, nxt_lp, nxt_cond, nxt_loop, nxt_ret, nxt_stop, nxt_nil, Eng.start, frG, frF, isCall, stp, exec1, exec1K, dK, Nat.reduceDiv, keyA, wantedA, stepF, stF_mv, stF_bin, stF_len, stF_un, stF_pick, stF_load, stF_iadr, stF_box, stF_fadr, stF_store, stF_ext, stF_fld, stF_idx, stF_aadr, stF_app, stF_bldS, stF_slc, stF_slcA, stF_bld, stF_isnil, stF_mki, stF_mkf, stF_mkb, stF_nilc, stF_mks, mapF_eq, evalF_eq, evalA, setAF, setA, setF_eq, putF_eq, lookF_eq, List.getD_cons_zero, List.getD_cons_succ, List.set_cons_zero, List.set_cons_succ, List.replicate, List.length_cons, List.length_nil, Nat.zero_add, Nat.reduceSub, Nat.reduceAdd, List.cons_append, List.nil_append, Option.getD, drop, Nat.beq, List.length_map, binV, binI, unV, if_true, Eng.asInt, Eng.part, cellsOf, toNat_cast, cast_nonneg, true_and, and_true, if_pos, giveOp, gvK, List.getElem?_cons_zero, List.getElem?_cons_succ, Bool.not_true, Bool.not_false, ofVal, eq_self, and_self, true_implies, dfF, touch, regF, quietF, pairOK, noCs, Go.Value.oneCell', decide_true, decide_false, Nat.mul_one, asBound, fullOf, Option.isSome_none, Option.isSome_some, Nat.zero_le, Bool.false_eq_true, false_implies, Int.cast_ofNat_Int, Int.reduceLT, Int.reduceLE, Int.reduceToNat, Nat.reduceMul, Int.le_refl, Eng.look, putAt, Nat.reduceEqDiff, reduceCtorEq, Nat.reduceBEq, if_false, List.all_cons, List.all_nil, tf_beq, ft_beq, lvSub, lvOK, isNone, width, solid, splice, List.take_zero, List.drop_zero, List.drop_nil, List.take_nil, List.drop_succ_cons, List.take_succ_cons, List.append_nil, beq_self_eq_true, Bool.and_true, Bool.true_and, Bool.and_self, ge_iff_le, gt_iff_lt, Nat.le_refl, Nat.reduceLeDiff, Nat.reduceLT, xf7_L0, ai, aS, shA, nilA, lt_cast, h0, get_sh h1, List.map_cons, List.map_nil, reduceCtorEq, Go.Proofs.Eng.elems]
        rw [wrap_id (by omega) (by omega)]
        exact next _ _ _ _ _ _ _ _ _ _ _ _ _ _ _ _ _ _ _ _ _ _ _ _ _ _ _ _ _ _ _ _ _
      | cons y u => simp only [List.length_cons, List.length_nil] at hlen1 hlen2; omega
    | cons x t =>
      cases B with
      | nil => simp only [List.length_cons, List.length_nil] at hlen1 hlen2; omega
      | cons y u =>
        simp only [List.length_cons] at hlen1 hlen2
        have q1 : (t.length + 1 + 1) * 8 ≤ 100000000000000 := by omega
        have q2 : t.length + 1 + 1 ≤ 100000000000000 := by omega
        have q3 : (u.length + 1 + 1) * 8 ≤ 100000000000000 := by omega
        have q4 : u.length + 1 + 1 ≤ 100000000000000 := by omega
        simp only [hv, hr]
        simp only [go_some, go_none, go_zero, nxt_op, nxt_guard, nxt_skip, nxt_label, nxt_region, nxt_drawn, nxt_seq, nxt_block, nxt_scope, nxt_exit, nxt_blk, nxt_lp, nxt_cond, nxt_loop, nxt_ret, nxt_stop, nxt_nil, Eng.start, frG, frF, isCall, stp, exec1, exec1K, dK, Nat.reduceDiv, keyA, wantedA, stepF, stF_mv, stF_bin, stF_len, stF_un, stF_pick, stF_load, stF_iadr, stF_box, stF_fadr, stF_store, stF_ext, stF_fld, stF_idx, stF_aadr, stF_app, stF_bldS, stF_slc, stF_slcA, stF_bld, stF_isnil, stF_mki, stF_mkf, stF_mkb, stF_nilc, stF_mks, mapF_eq, evalF_eq, evalA, setAF, setA, setF_eq, putF_eq, lookF_eq, List.getD_cons_zero, List.getD_cons_succ, List.set_cons_zero, List.set_cons_succ, List.replicate, List.length_cons, List.length_nil, Nat.zero_add, Nat.reduceSub, Nat.reduceAdd, List.cons_append, List.nil_append, Option.getD, drop, Nat.beq, List.length_map, binV, binI, unV, if_true, Eng.asInt, Eng.part, cellsOf, toNat_cast, cast_nonneg, true_and, and_true, if_pos, giveOp, gvK, List.getElem?_cons_zero, List.getElem?_cons_succ, Bool.not_true, Bool.not_false, ofVal, eq_self, and_self, true_implies, dfF, touch, regF, quietF, pairOK, noCs, Go.Value.oneCell', decide_true, decide_false, Nat.mul_one, asBound, fullOf, Option.isSome_none, Option.isSome_some, Nat.zero_le, Bool.false_eq_true, false_implies, Int.cast_ofNat_Int, Int.reduceLT, Int.reduceLE, Int.reduceToNat, Nat.reduceMul, Int.le_refl, Eng.look, putAt, Nat.reduceEqDiff, reduceCtorEq, Nat.reduceBEq, if_false, List.all_cons, List.all_nil, tf_beq, ft_beq, lvSub, lvOK, isNone, width, solid, splice, List.take_zero, List.drop_zero, List.drop_nil, List.take_nil, List.drop_succ_cons, List.take_succ_cons, List.append_nil, beq_self_eq_true, Bool.and_true, Bool.true_and, Bool.and_self, ge_iff_le, gt_iff_lt, Nat.le_refl, Nat.reduceLeDiff, Nat.reduceLT, xf7_L0, ai, aS, shA, nilA, lt_cast, h0, get_sh h1, List.map_cons, List.map_nil, reduceCtorEq, Go.Proofs.Eng.elems, q1, q2, q3, q4]
        rw [wrap_id (by omega) (by omega)]
        have e1 : (x :: t ++ [(L.getD i (0, 0)).1]) = x :: (t ++ [(L.getD i (0, 0)).1]) := rfl
        have e1' : (y :: u ++ [(L.getD i (0, 0)).2]) = y :: (u ++ [(L.getD i (0, 0)).2]) := rfl
        rw [e1, e1'] at next
        have e2 : (x :: (t ++ [(L.getD i (0, 0)).1])).length = t.length + 1 + 1 := by simp
        have e2' : (y :: (u ++ [(L.getD i (0, 0)).2])).length = u.length + 1 + 1 := by simp
        have e3 : (x :: (t ++ [(L.getD i (0, 0)).1])).map ai = AV.v (.int .i64 x) :: (t.map ai ++ [AV.v (.int .i64 (L.getD i (0, 0)).1)]) := by simp [ai]
        have e3' : (y :: (u ++ [(L.getD i (0, 0)).2])).map ai = AV.v (.int .i64 y) :: (u.map ai ++ [AV.v (.int .i64 (L.getD i (0, 0)).2)]) := by simp [ai]
        simp only [hv, hr, e2, e3, e2', e3'] at next
        exact next _ _ _ _ _ _ _ _ _ _ _ _ _ _ _ _ _ _ _ _ _ _ _ _ _ _ _ _ _ _ _ _ _
theorem reify_two (r9 : Nat × Option Ob) (a b : Int) (A B : List Int) (n : Nat) (hA : A.length = n) (hB : B.length = n) :
    reify [(9, r9), (30, (1, some ⟨3, 1, (a :: A).map ai⟩)), (35, (1, some ⟨3, 1, (b :: B).map ai⟩))] 20 (.tup [.os 30 1 (n + 1) 1 0 (n + 1), .os 35 1 (n + 1) 1 0 (n + 1), ai 0]) = some (.tup [al false (a :: A), al false (b :: B), ai 0]) := by
  generalize hH : [(9, r9), (30, (1, some (Ob.mk 3 1 ((a :: A).map ai)))), (35, (1, some (Ob.mk 3 1 ((b :: B).map ai))))] = H
  have l1 : Go.Proofs.Eng.look H 30 = (1, some ⟨3, 1, (a :: A).map ai⟩) := by subst hH; rfl
  have l2 : Go.Proofs.Eng.look H 35 = (1, some ⟨3, 1, (b :: B).map ai⟩) := by subst hH; rfl
  have e1 := reify_os (η := H) (α := Int) (f := ai) (l := a :: A) (k := 30) (g := 1) (s := 1) (n := 18) (e := 3) (elem_ai _ 17) l1
  have e2 := reify_os (η := H) (α := Int) (f := ai) (l := b :: B) (k := 35) (g := 1) (s := 1) (n := 18) (e := 3) (elem_ai _ 17) l2
  rw [List.length_cons, hA] at e1
  rw [List.length_cons, hB] at e2
  show ([AV.os 30 1 (n + 1) 1 0 (n + 1), .os 35 1 (n + 1) 1 0 (n + 1), ai 0].mapM (reify H 19)).map AV.tup = _
  rw [List.mapM_cons, e1, List.mapM_cons, e2]; rfl
theorem Ends_run (f g : Bool) (l : List (Int × Int)) (o : List Int) (h0 : 0 < l.length) (hl : l.length ≤ 7) (hb : ∀ p, p ∈ l → bS 50 p) (hol : o.length = l.length) (ho : okO l.length o) (hd : okD o) :
    Runs Try.prog xf 7 [aS f l, al g o] (.tup [al false ((enL (ordL l o) o.length).map (·.1)), al false ((enL (ordL l o) o.length).map (·.2)), ai 0]) := by
  have hz := read_run f g l o h0 hl hb hol ho hd
  have hB : ∀ p, p ∈ ordL l o → bS 1000 p := fun p hp => bS_mono (ord_b hb ho p hp) (by omega)
  have hzl : (ordL l o).length ≤ 100 := by rw [ord_len]; omega
  have he := ends_run false (ordL l o) hzl hB
  have n00 : ((0 : Int) != 0) = false := rfl
  refine Runs.ofW (fn := xf7) 20 (by kernel_rfl) (W_run 80 ?_)
  have hzo := ord_len l o
  rw [← hzo]
  have hz0 : 0 < (ordL l o).length := by omega
  generalize ordL l o = z at *
  have hE := enL_len z z.length
  simp only [go_some, go_none, go_zero, nxt_op, nxt_guard, nxt_skip, nxt_label, nxt_region, nxt_drawn, nxt_seq, nxt_block, nxt_scope, nxt_exit, nxt_blk, nxt_lp, nxt_cond, nxt_loop, nxt_ret, nxt_stop, nxt_nil, Eng.start, frG, frF, isCall, stp, exec1, exec1K, dK, Nat.reduceDiv, keyA, wantedA, stepF, stF_mv, stF_bin, stF_len, stF_un, stF_pick, stF_load, stF_iadr, stF_box, stF_fadr, stF_store, stF_ext, stF_fld, stF_idx, stF_aadr, stF_app, stF_bldS, stF_slc, stF_slcA, stF_bld, stF_isnil, stF_mki, stF_mkf, stF_mkb, stF_nilc, stF_mks, mapF_eq, evalF_eq, evalA, setAF, setA, setF_eq, putF_eq, lookF_eq, List.getD_cons_zero, List.getD_cons_succ, List.set_cons_zero, List.set_cons_succ, List.replicate, List.length_cons, List.length_nil, Nat.zero_add, Nat.reduceSub, Nat.reduceAdd, List.cons_append, List.nil_append, Option.getD, drop, Nat.beq, List.length_map, binV, binI, unV, if_true, Eng.asInt, Eng.part, cellsOf, toNat_cast, cast_nonneg, true_and, and_true, if_pos, giveOp, gvK, List.getElem?_cons_zero, List.getElem?_cons_succ, Bool.not_true, Bool.not_false, ofVal, eq_self, and_self, true_implies, dfF, touch, regF, quietF, pairOK, noCs, Go.Value.oneCell', decide_true, decide_false, Nat.mul_one, asBound, fullOf, Option.isSome_none, Option.isSome_some, Nat.zero_le, Bool.false_eq_true, false_implies, Int.cast_ofNat_Int, Int.reduceLT, Int.reduceLE, Int.reduceToNat, Nat.reduceMul, Int.le_refl, Eng.look, putAt, Nat.reduceEqDiff, reduceCtorEq, Nat.reduceBEq, if_false, List.all_cons, List.all_nil, tf_beq, ft_beq, lvSub, lvOK, isNone, width, solid, splice, List.take_zero, List.drop_zero, List.drop_nil, List.take_nil, List.drop_succ_cons, List.take_succ_cons, List.append_nil, beq_self_eq_true, Bool.and_true, Bool.true_and, Bool.and_self, ge_iff_le, gt_iff_lt, Nat.le_refl, Nat.reduceLeDiff, Nat.reduceLT, xf7, ai, nilA]
  refine W_call (args := [aS f l, al g o]) rfl (by simp [noRefs, noRef_aS, noRef_al]) hz (noRef_rd _) (W_run 80 ?_)
  simp only [go_some, go_none, go_zero, nxt_op, nxt_guard, nxt_skip, nxt_label, nxt_region, nxt_drawn, nxt_seq, nxt_block, nxt_scope, nxt_exit, nxt_blk, nxt_lp, nxt_cond, nxt_loop, nxt_ret, nxt_stop, nxt_nil, Eng.start, frG, frF, isCall, stp, exec1, exec1K, dK, Nat.reduceDiv, keyA, wantedA, stepF, stF_mv, stF_bin, stF_len, stF_un, stF_pick, stF_load, stF_iadr, stF_box, stF_fadr, stF_store, stF_ext, stF_fld, stF_idx, stF_aadr, stF_app, stF_bldS, stF_slc, stF_slcA, stF_bld, stF_isnil, stF_mki, stF_mkf, stF_mkb, stF_nilc, stF_mks, mapF_eq, evalF_eq, evalA, setAF, setA, setF_eq, putF_eq, lookF_eq, List.getD_cons_zero, List.getD_cons_succ, List.set_cons_zero, List.set_cons_succ, List.replicate, List.length_cons, List.length_nil, Nat.zero_add, Nat.reduceSub, Nat.reduceAdd, List.cons_append, List.nil_append, Option.getD, drop, Nat.beq, List.length_map, binV, binI, unV, if_true, Eng.asInt, Eng.part, cellsOf, toNat_cast, cast_nonneg, true_and, and_true, if_pos, giveOp, gvK, List.getElem?_cons_zero, List.getElem?_cons_succ, Bool.not_true, Bool.not_false, ofVal, eq_self, and_self, true_implies, dfF, touch, regF, quietF, pairOK, noCs, Go.Value.oneCell', decide_true, decide_false, Nat.mul_one, asBound, fullOf, Option.isSome_none, Option.isSome_some, Nat.zero_le, Bool.false_eq_true, false_implies, Int.cast_ofNat_Int, Int.reduceLT, Int.reduceLE, Int.reduceToNat, Nat.reduceMul, Int.le_refl, Eng.look, putAt, Nat.reduceEqDiff, reduceCtorEq, Nat.reduceBEq, if_false, List.all_cons, List.all_nil, tf_beq, ft_beq, lvSub, lvOK, isNone, width, solid, splice, List.take_zero, List.drop_zero, List.drop_nil, List.take_nil, List.drop_succ_cons, List.take_succ_cons, List.append_nil, beq_self_eq_true, Bool.and_true, Bool.true_and, Bool.and_self, ge_iff_le, gt_iff_lt, Nat.le_refl, Nat.reduceLeDiff, Nat.reduceLT, xf7, ai, aS, n00]
  refine W_call (args := [aS false z]) rfl (by simp [noRefs, noRef_aS]) he (noRef_aS _ _) (W_run 80 ?_)
  generalize enL z z.length = L at *
  simp only [go_some, go_none, go_zero, nxt_op, nxt_guard, nxt_skip, nxt_label, nxt_region, nxt_drawn, nxt_seq, nxt_block, nxt_scope, nxt_exit, nxt_blk, nxt_lp, nxt_cond, nxt_loop, nxt_ret, nxt_stop, nxt_nil, Eng.start, frG, frF, isCall, stp, exec1, exec1K, dK, Nat.reduceDiv, keyA, wantedA, stepF, stF_mv, stF_bin, stF_len, stF_un, stF_pick, stF_load, stF_iadr, stF_box, stF_fadr, stF_store, stF_ext, stF_fld, stF_idx, stF_aadr, stF_app, stF_bldS, stF_slc, stF_slcA, stF_bld, stF_isnil, stF_mki, stF_mkf, stF_mkb, stF_nilc, stF_mks, mapF_eq, evalF_eq, evalA, setAF, setA, setF_eq, putF_eq, lookF_eq, List.getD_cons_zero, List.getD_cons_succ, List.set_cons_zero, List.set_cons_succ, List.replicate, List.length_cons, List.length_nil, Nat.zero_add, Nat.reduceSub, Nat.reduceAdd, List.cons_append, List.nil_append, Option.getD, drop, Nat.beq, List.length_map, binV, binI, unV, if_true, Eng.asInt, Eng.part, cellsOf, toNat_cast, cast_nonneg, true_and, and_true, if_pos, giveOp, gvK, List.getElem?_cons_zero, List.getElem?_cons_succ, Bool.not_true, Bool.not_false, ofVal, eq_self, and_self, true_implies, dfF, touch, regF, quietF, pairOK, noCs, Go.Value.oneCell', decide_true, decide_false, Nat.mul_one, asBound, fullOf, Option.isSome_none, Option.isSome_some, Nat.zero_le, Bool.false_eq_true, false_implies, Int.cast_ofNat_Int, Int.reduceLT, Int.reduceLE, Int.reduceToNat, Nat.reduceMul, Int.le_refl, Eng.look, putAt, Nat.reduceEqDiff, reduceCtorEq, Nat.reduceBEq, if_false, List.all_cons, List.all_nil, tf_beq, ft_beq, lvSub, lvOK, isNone, width, solid, splice, List.take_zero, List.drop_zero, List.drop_nil, List.take_nil, List.drop_succ_cons, List.take_succ_cons, List.append_nil, beq_self_eq_true, Bool.and_true, Bool.true_and, Bool.and_self, ge_iff_le, gt_iff_lt, Nat.le_refl, Nat.reduceLeDiff, Nat.reduceLT, ai, aS]
  refine W_alone (W_named named3 (es_loop L (by omega) _ _ _ _ (fun r9 j2 j3 j7 j8 j9 j10 j11 j12 j13 j14 j15 j16 j17 j18 j19 j23 j24 j25 j26 j27 j28 j29 j30 j31 j32 j33 j34 j35 j36 j37 j38 => W_run 80 ?_) L.length 0 (by omega) _ _ _ _ _ _ _ _ _ _ _ _ _ _ _ _ _ _ _ _ _ _ _ _ _ _ _ _ _ _ _ _ _))
  cases L with
  | nil => simp only [List.length_nil] at hE; omega
  | cons x t =>
    simp only [hv, hr, List.map_cons]
    simp only [go_some, go_none, go_zero, nxt_op, nxt_guard, nxt_skip, nxt_label, nxt_region, nxt_drawn, nxt_seq, nxt_block, nxt_scope, nxt_exit, nxt_blk, nxt_lp, nxt_cond, nxt_loop, nxt_ret, nxt_stop, nxt_nil, Eng.start, frG, frF, isCall, stp, exec1, exec1K, dK, Nat.reduceDiv, keyA, wantedA, stepF, stF_mv, stF_bin, stF_len, stF_un, stF_pick, stF_load, stF_iadr, stF_box, stF_fadr, stF_store, stF_ext, stF_fld, stF_idx, stF_aadr, stF_app, stF_bldS, stF_slc, stF_slcA, stF_bld, stF_isnil, stF_mki, stF_mkf, stF_mkb, stF_nilc, stF_mks, mapF_eq, evalF_eq, evalA, setAF, setA, setF_eq, putF_eq, lookF_eq, List.getD_cons_zero, List.getD_cons_succ, List.set_cons_zero, List.set_cons_succ, List.replicate, List.length_cons, List.length_nil, Nat.zero_add, Nat.reduceSub, Nat.reduceAdd, List.cons_append, List.nil_append, Option.getD, drop, Nat.beq, List.length_map, binV, binI, unV, if_true, Eng.asInt, Eng.part, cellsOf, toNat_cast, cast_nonneg, true_and, and_true, if_pos, giveOp, gvK, List.getElem?_cons_zero, List.getElem?_cons_succ, Bool.not_true, Bool.not_false, ofVal, eq_self, and_self, true_implies, dfF, touch, regF, quietF, pairOK, noCs, Go.Value.oneCell', decide_true, decide_false, Nat.mul_one, asBound, fullOf, Option.isSome_none, Option.isSome_some, Nat.zero_le, Bool.false_eq_true, false_implies, Int.cast_ofNat_Int, Int.reduceLT, Int.reduceLE, Int.reduceToNat, Nat.reduceMul, Int.le_refl, Eng.look, putAt, Nat.reduceEqDiff, reduceCtorEq, Nat.reduceBEq, if_false, List.all_cons, List.all_nil, tf_beq, ft_beq, lvSub, lvOK, isNone, width, solid, splice, List.take_zero, List.drop_zero, List.drop_nil, List.take_nil, List.drop_succ_cons, List.take_succ_cons, List.append_nil, beq_self_eq_true, Bool.and_true, Bool.true_and, Bool.and_self, ge_iff_le, gt_iff_lt, Nat.le_refl, Nat.reduceLeDiff, Nat.reduceLT, xf7_R0, ai, nilA]
    refine W_ret1 (WX_nil ⟨.inl rfl, _, rfl, ?_⟩)
    exact reify_two r9 x.1 x.2 _ _ t.length (by simp) (by simp)
end Go.Proofs.Ytlgmabgpfaajhaa

