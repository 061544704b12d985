/-
  The law's printed.
-/
import Derived.Test.YtlgmabgpfaajhaaOr
set_option linter.unusedSimpArgs false
set_option linter.unusedVariables false
namespace Go.Proofs.Ytlgmabgpfaajhaa
open Go Go.Proofs.Eng
set_option maxRecDepth 100000
set_option maxHeartbeats 1000000
theorem su_snoc {m : Int} {l : List (Int × Int)} {w : List Int} {i : Nat} (h : i < w.length) : sumI (hoL m (ordL l (w.take (i + 1)))) = sumI (hoL m (ordL l (w.take i))) + hrs m (l.getD (w.getD i 0).toNat (0, 0)) := by
  rw [ord_snoc h, ho_app, sumI_app]
  simp [hoL, sumI]
theorem su_b {m : Int} {l : List (Int × Int)} {w : List Int} (hb : ∀ p, p ∈ l → bS 50 p) (ho : okO l.length w) (hn : w.length ≤ 7) (i : Nat) : 0 ≤ sumI (hoL m (ordL l (w.take i))) ∧ sumI (hoL m (ordL l (w.take i))) ≤ 350 := by
  have := sumI_b (l := hoL m (ordL l (w.take i))) (b := 50) (by omega) (ho_b (ord_b hb fun x hx => ho x (List.mem_of_mem_take hx)))
  have e : (hoL m (ordL l (w.take i))).length ≤ 7 := by rw [hoL, List.length_map, ord_len, List.length_take]; omega
  omega
theorem pa_loop (f g g2 : Bool) (l : List (Int × Int)) (o w : List Int) (hb : ∀ p, p ∈ l → bS 50 p) (ho : okO l.length w) (hn : w.length ≤ 7) (x5 x6 x7 x8 x14 x15 x16 x20 x21 : AV) (H : Heap) (K : List Fr) (Q : Out → Cfg → Prop)
    (hK : ∀ j2 j3 j4 j10 j11 j12 j13 j17 j18 j19 j22 j23 j24 j25 j26 j30 j31 j32 j33 j34 j35 j36 j37 j38 j39 j40 j41 j42 j43 j44 j45 j46 j47 j48 j49 j50 j51 j52 j53 j54 j55 j56 j57 j58 j59 j60 j61 j62 j63 j64 j65 j66 j67 j68 : AV, W Try.prog (RelU Try.prog xf) 0 K ⟨((aS f l) :: (al g o) :: j2 :: j3 :: j4 :: x5 :: x6 :: x7 :: x8 :: (ai (sumI (hoL 0 (ordL l w)))) :: j10 :: j11 :: j12 :: j13 :: x14 :: x15 :: x16 :: j17 :: j18 :: j19 :: x20 :: x21 :: j22 :: j23 :: j24 :: j25 :: j26 :: (al g2 w) :: (ai w.length) :: (ai w.length) :: j30 :: j31 :: j32 :: j33 :: j34 :: j35 :: j36 :: j37 :: j38 :: j39 :: j40 :: j41 :: j42 :: j43 :: j44 :: j45 :: j46 :: j47 :: j48 :: j49 :: j50 :: j51 :: j52 :: j53 :: j54 :: j55 :: j56 :: j57 :: j58 :: j59 :: j60 :: j61 :: j62 :: j63 :: j64 :: j65 :: j66 :: j67 :: j68 :: []), H⟩ Q) :
    ∀ (k i : Nat), i + k = w.length → ∀ j2 j3 j4 j10 j11 j12 j13 j17 j18 j19 j22 j23 j24 j25 j26 j30 j31 j32 j33 j34 j35 j36 j37 j38 j39 j40 j41 j42 j43 j44 j45 j46 j47 j48 j49 j50 j51 j52 j53 j54 j55 j56 j57 j58 j59 j60 j61 j62 j63 j64 j65 j66 j67 j68 : AV, W Try.prog (RelU Try.prog xf) 0 (.code (.loop xf9_L0) :: .blk 4 :: .stop :: K) ⟨((aS f l) :: (al g o) :: j2 :: j3 :: j4 :: x5 :: x6 :: x7 :: x8 :: (ai (sumI (hoL 0 (ordL l (w.take i))))) :: j10 :: j11 :: j12 :: j13 :: x14 :: x15 :: x16 :: j17 :: j18 :: j19 :: x20 :: x21 :: j22 :: j23 :: j24 :: j25 :: j26 :: (al g2 w) :: (ai w.length) :: (ai i) :: j30 :: j31 :: j32 :: j33 :: j34 :: j35 :: j36 :: j37 :: j38 :: j39 :: j40 :: j41 :: j42 :: j43 :: j44 :: j45 :: j46 :: j47 :: j48 :: j49 :: j50 :: j51 :: j52 :: j53 :: j54 :: j55 :: j56 :: j57 :: j58 :: j59 :: j60 :: j61 :: j62 :: j63 :: j64 :: j65 :: j66 :: j67 :: j68 :: []), H⟩ Q := by
  intro k
  induction k with
  | zero =>
    intro i hi j2 j3 j4 j10 j11 j12 j13 j17 j18 j19 j22 j23 j24 j25 j26 j30 j31 j32 j33 j34 j35 j36 j37 j38 j39 j40 j41 j42 j43 j44 j45 j46 j47 j48 j49 j50 j51 j52 j53 j54 j55 j56 j57 j58 j59 j60 j61 j62 j63 j64 j65 j66 j67 j68
    have : i = w.length := by omega
    subst this
    have h0 : decide (w.length < w.length) = false := by simp
    rw [List.take_length]
    refine W_loop (W_run 80 ?_)
    simp only [go_some, go_none, go_zero, nxt_op, nxt_guard, nxt_skip, nxt_label, nxt_region, nxt_drawn, nxt_seq, nxt_block, nxt_scope, nxt_exit, nxt_blk, nxt_lp, nxt_cond, nxt_loop, nxt_ret, nxt_stop, nxt_nil, Eng.start, frG, frF, isCall, stp, exec1, exec1K, dK, Nat.reduceDiv, keyA, wantedA, stepF, stF_mv, stF_bin, stF_len, stF_un, stF_pick, stF_load, stF_iadr, stF_box, stF_fadr, stF_store, stF_ext, stF_fld, stF_idx, stF_aadr, stF_app, stF_bldS, stF_slc, stF_slcA, stF_bld, stF_isnil, stF_mki, stF_mkf, stF_mkb, stF_nilc, stF_mks, mapF_eq, evalF_eq, evalA, setAF, setA, setF_eq, putF_eq, lookF_eq, List.getD_cons_zero, List.getD_cons_succ, List.set_cons_zero, List.set_cons_succ, List.replicate, List.length_cons, List.length_nil, Nat.zero_add, Nat.reduceSub, Nat.reduceAdd, List.cons_append, List.nil_append, Option.getD, drop, Nat.beq, List.length_map, binV, binI, unV, if_true, Eng.asInt, Eng.part, cellsOf, toNat_cast, cast_nonneg, true_and, and_true, if_pos, giveOp, gvK, List.getElem?_cons_zero, List.getElem?_cons_succ, Bool.not_true, Bool.not_false, ofVal, eq_self, and_self, true_implies, dfF, touch, regF, quietF, pairOK, noCs, Go.Value.oneCell', decide_true, decide_false, Nat.mul_one, asBound, fullOf, Option.isSome_none, Option.isSome_some, Nat.zero_le, Bool.false_eq_true, false_implies, Int.cast_ofNat_Int, Int.reduceLT, Int.reduceLE, Int.reduceToNat, Nat.reduceMul, Int.le_refl, Eng.look, putAt, Nat.reduceEqDiff, reduceCtorEq, Nat.reduceBEq, if_false, List.all_cons, List.all_nil, tf_beq, ft_beq, lvSub, lvOK, isNone, width, solid, splice, List.take_zero, List.drop_zero, List.drop_nil, List.take_nil, List.drop_succ_cons, List.take_succ_cons, List.append_nil, beq_self_eq_true, Bool.and_true, Bool.true_and, Bool.and_self, ge_iff_le, gt_iff_lt, Nat.le_refl, Nat.reduceLeDiff, Nat.reduceLT, xf9_L0, ai, al, lt_cast, h0]
    exact W_stop (hK _ _ _ _ _ _ _ _ _ _ _ _ _ _ _ _ _ _ _ _ _ _ _ _ _ _ _ _ _ _ _ _ _ _ _ _ _ _ _ _ _ _ _ _ _ _ _ _ _ _ _ _ _ _)
  | succ k ih =>
    intro i hi j2 j3 j4 j10 j11 j12 j13 j17 j18 j19 j22 j23 j24 j25 j26 j30 j31 j32 j33 j34 j35 j36 j37 j38 j39 j40 j41 j42 j43 j44 j45 j46 j47 j48 j49 j50 j51 j52 j53 j54 j55 j56 j57 j58 j59 j60 j61 j62 j63 j64 j65 j66 j67 j68
    have h1 : i < w.length := by omega
    have h0 : decide (i < w.length) = true := decide_eq_true h1
    have hx := ho _ (getD_mem (d := 0) h1)
    obtain ⟨q, hq⟩ : ∃ q : Nat, w.getD i 0 = (q : Int) := ⟨(w.getD i 0).toNat, by omega⟩
    have hql : q < l.length := by omega
    have hqi : (q : Int) < (l.length : Int) := by omega
    have b1 := su_b (m := 0) hb ho hn i
    have b2 := su_b (m := 0) hb ho hn (i + 1)
    have hs := su_snoc (m := 0) (l := l) h1
    rw [hq] at hs
    have hs : sumI (hoL 0 (ordL l (w.take (i + 1)))) = sumI (hoL 0 (ordL l (w.take i))) + (l.getD q (0, 0)).1 := hs
    have next := ih (i + 1) (by omega)
    rw [hs] at next b2
    refine W_loop (W_run 120 ?_)
    simp only [go_some, go_none, go_zero, nxt_op, nxt_guard, nxt_skip, nxt_label, nxt_region, nxt_drawn, nxt_seq, nxt_block, nxt_scope, nxt_exit, nxt_blk, nxt_lp, nxt_cond, nxt_loop, nxt_ret, nxt_stop, nxt_nil, Eng.start, frG, frF, isCall, stp, exec1, exec1K, dK, Nat.reduceDiv, keyA, wantedA, stepF, stF_mv, stF_bin, stF_len, stF_un, stF_pick, stF_load, stF_iadr, stF_box, stF_fadr, stF_store, stF_ext, stF_fld, stF_idx, stF_aadr, stF_app, stF_bldS, stF_slc, stF_slcA, stF_bld, stF_isnil, stF_mki, stF_mkf, stF_mkb, stF_nilc, stF_mks, mapF_eq, evalF_eq, evalA, setAF, setA, setF_eq, putF_eq, lookF_eq, List.getD_cons_zero, List.getD_cons_succ, List.set_cons_zero, List.set_cons_succ, List.replicate, List.length_cons, List.length_nil, Nat.zero_add, Nat.reduceSub, Nat.reduceAdd, List.cons_append, List.nil_append, Option.getD, drop, Nat.beq, List.length_map, binV, binI, unV, if_true, Eng.asInt, Eng.part, cellsOf, toNat_cast, cast_nonneg, true_and, and_true, if_pos, giveOp, gvK, List.getElem?_cons_zero, List.getElem?_cons_succ, Bool.not_true, Bool.not_false, ofVal, eq_self, and_self, true_implies, dfF, touch, regF, quietF, pairOK, noCs, Go.Value.oneCell', decide_true, decide_false, Nat.mul_one, asBound, fullOf, Option.isSome_none, Option.isSome_some, Nat.zero_le, Bool.false_eq_true, false_implies, Int.cast_ofNat_Int, Int.reduceLT, Int.reduceLE, Int.reduceToNat, Nat.reduceMul, Int.le_refl, Eng.look, putAt, Nat.reduceEqDiff, reduceCtorEq, Nat.reduceBEq, if_false, List.all_cons, List.all_nil, tf_beq, ft_beq, lvSub, lvOK, isNone, width, solid, splice, List.take_zero, List.drop_zero, List.drop_nil, List.take_nil, List.drop_succ_cons, List.take_succ_cons, List.append_nil, beq_self_eq_true, Bool.and_true, Bool.true_and, Bool.and_self, ge_iff_le, gt_iff_lt, Nat.le_refl, Nat.reduceLeDiff, Nat.reduceLT, xf9_L0, ai, al, aS, shA, lt_cast, h0, get_al h1, hq, hqi, get_sh hql, List.map_cons, List.map_nil]
    rw [wrap_id (z := sumI (hoL 0 (ordL l (w.take i))) + (l.getD q (0, 0)).1) (by omega) (by omega), wrap_id (z := (i : Int) + 1) (by omega) (by omega)]
    exact next _ _ _ _ _ _ _ _ _ _ _ _ _ _ _ _ _ _ _ _ _ _ _ _ _ _ _ _ _ _ _ _ _ _ _ _ _ _ _ _ _ _ _ _ _ _ _ _ _ _ _ _ _ _
theorem pb_loop (f g g2 : Bool) (l : List (Int × Int)) (o w : List Int) (c : Int) (hc : 0 ≤ c ∧ c ≤ 350) (hb : ∀ p, p ∈ l → bS 50 p) (ho : okO l.length w) (hn : w.length ≤ 7) (x5 x6 x7 x8 x14 x15 x16 x20 x21 : AV) (H : Heap) (K : List Fr) (Q : Out → Cfg → Prop)
    (hK : ∀ j2 j3 j4 j10 j11 j12 j13 j17 j18 j19 j22 j23 j24 j25 j26 j27 j28 j29 j30 j31 j32 j33 j34 j35 j36 j37 j38 j39 j40 j41 j42 j43 j44 j48 j49 j50 j51 j52 j53 j54 j55 j56 j57 j58 j59 j60 j61 j62 j63 j64 j65 j66 j67 j68 : AV, W Try.prog (RelU Try.prog xf) 0 K ⟨((aS f l) :: (al g o) :: j2 :: j3 :: j4 :: x5 :: x6 :: x7 :: x8 :: (ai (c + sumI (hoL 1 (ordL l w)))) :: j10 :: j11 :: j12 :: j13 :: x14 :: x15 :: x16 :: j17 :: j18 :: j19 :: x20 :: x21 :: j22 :: j23 :: j24 :: j25 :: j26 :: j27 :: j28 :: j29 :: j30 :: j31 :: j32 :: j33 :: j34 :: j35 :: j36 :: j37 :: j38 :: j39 :: j40 :: j41 :: j42 :: j43 :: j44 :: (al g2 w) :: (ai w.length) :: (ai w.length) :: j48 :: j49 :: j50 :: j51 :: j52 :: j53 :: j54 :: j55 :: j56 :: j57 :: j58 :: j59 :: j60 :: j61 :: j62 :: j63 :: j64 :: j65 :: j66 :: j67 :: j68 :: []), H⟩ Q) :
    ∀ (k i : Nat), i + k = w.length → ∀ j2 j3 j4 j10 j11 j12 j13 j17 j18 j19 j22 j23 j24 j25 j26 j27 j28 j29 j30 j31 j32 j33 j34 j35 j36 j37 j38 j39 j40 j41 j42 j43 j44 j48 j49 j50 j51 j52 j53 j54 j55 j56 j57 j58 j59 j60 j61 j62 j63 j64 j65 j66 j67 j68 : AV, W Try.prog (RelU Try.prog xf) 0 (.code (.loop xf9_L1) :: .blk 6 :: .stop :: K) ⟨((aS f l) :: (al g o) :: j2 :: j3 :: j4 :: x5 :: x6 :: x7 :: x8 :: (ai (c + sumI (hoL 1 (ordL l (w.take i))))) :: j10 :: j11 :: j12 :: j13 :: x14 :: x15 :: x16 :: j17 :: j18 :: j19 :: x20 :: x21 :: j22 :: j23 :: j24 :: j25 :: j26 :: j27 :: j28 :: j29 :: j30 :: j31 :: j32 :: j33 :: j34 :: j35 :: j36 :: j37 :: j38 :: j39 :: j40 :: j41 :: j42 :: j43 :: j44 :: (al g2 w) :: (ai w.length) :: (ai i) :: j48 :: j49 :: j50 :: j51 :: j52 :: j53 :: j54 :: j55 :: j56 :: j57 :: j58 :: j59 :: j60 :: j61 :: j62 :: j63 :: j64 :: j65 :: j66 :: j67 :: j68 :: []), H⟩ Q := by
  intro k
  induction k with
  | zero =>
    intro i hi j2 j3 j4 j10 j11 j12 j13 j17 j18 j19 j22 j23 j24 j25 j26 j27 j28 j29 j30 j31 j32 j33 j34 j35 j36 j37 j38 j39 j40 j41 j42 j43 j44 j48 j49 j50 j51 j52 j53 j54 j55 j56 j57 j58 j59 j60 j61 j62 j63 j64 j65 j66 j67 j68
    have : i = w.length := by omega
    subst this
    have h0 : decide (w.length < w.length) = false := by simp
    rw [List.take_length]
    refine W_loop (W_run 80 ?_)
    simp only [go_some, go_none, go_zero, nxt_op, nxt_guard, nxt_skip, nxt_label, nxt_region, nxt_drawn, nxt_seq, nxt_block, nxt_scope, nxt_exit, nxt_blk, nxt_lp, nxt_cond, nxt_loop, nxt_ret, nxt_stop, nxt_nil, Eng.start, frG, frF, isCall, stp, exec1, exec1K, dK, Nat.reduceDiv, keyA, wantedA, stepF, stF_mv, stF_bin, stF_len, stF_un, stF_pick, stF_load, stF_iadr, stF_box, stF_fadr, stF_store, stF_ext, stF_fld, stF_idx, stF_aadr, stF_app, stF_bldS, stF_slc, stF_slcA, stF_bld, stF_isnil, stF_mki, stF_mkf, stF_mkb, stF_nilc, stF_mks, mapF_eq, evalF_eq, evalA, setAF, setA, setF_eq, putF_eq, lookF_eq, List.getD_cons_zero, List.getD_cons_succ, List.set_cons_zero, List.set_cons_succ, List.replicate, List.length_cons, List.length_nil, Nat.zero_add, Nat.reduceSub, Nat.reduceAdd, List.cons_append, List.nil_append, Option.getD, drop, Nat.beq, List.length_map, binV, binI, unV, if_true, Eng.asInt, Eng.part, cellsOf, toNat_cast, cast_nonneg, true_and, and_true, if_pos, giveOp, gvK, List.getElem?_cons_zero, List.getElem?_cons_succ, Bool.not_true, Bool.not_false, ofVal, eq_self, and_self, true_implies, dfF, touch, regF, quietF, pairOK, noCs, Go.Value.oneCell', decide_true, decide_false, Nat.mul_one, asBound, fullOf, Option.isSome_none, Option.isSome_some, Nat.zero_le, Bool.false_eq_true, false_implies, Int.cast_ofNat_Int, Int.reduceLT, Int.reduceLE, Int.reduceToNat, Nat.reduceMul, Int.le_refl, Eng.look, putAt, Nat.reduceEqDiff, reduceCtorEq, Nat.reduceBEq, if_false, List.all_cons, List.all_nil, tf_beq, ft_beq, lvSub, lvOK, isNone, width, solid, splice, List.take_zero, List.drop_zero, List.drop_nil, List.take_nil, List.drop_succ_cons, List.take_succ_cons, List.append_nil, beq_self_eq_true, Bool.and_true, Bool.true_and, Bool.and_self, ge_iff_le, gt_iff_lt, Nat.le_refl, Nat.reduceLeDiff, Nat.reduceLT, xf9_L1, ai, al, lt_cast, h0]
    exact W_stop (hK _ _ _ _ _ _ _ _ _ _ _ _ _ _ _ _ _ _ _ _ _ _ _ _ _ _ _ _ _ _ _ _ _ _ _ _ _ _ _ _ _ _ _ _ _ _ _ _ _ _ _ _ _ _)
  | succ k ih =>
    intro i hi j2 j3 j4 j10 j11 j12 j13 j17 j18 j19 j22 j23 j24 j25 j26 j27 j28 j29 j30 j31 j32 j33 j34 j35 j36 j37 j38 j39 j40 j41 j42 j43 j44 j48 j49 j50 j51 j52 j53 j54 j55 j56 j57 j58 j59 j60 j61 j62 j63 j64 j65 j66 j67 j68
    have h1 : i < w.length := by omega
    have h0 : decide (i < w.length) = true := decide_eq_true h1
    have hx := ho _ (getD_mem (d := 0) h1)
    obtain ⟨q, hq⟩ : ∃ q : Nat, w.getD i 0 = (q : Int) := ⟨(w.getD i 0).toNat, by omega⟩
    have hql : q < l.length := by omega
    have hqi : (q : Int) < (l.length : Int) := by omega
    have b1 := su_b (m := 1) hb ho hn i
    have b2 := su_b (m := 1) hb ho hn (i + 1)
    have hs := su_snoc (m := 1) (l := l) h1
    rw [hq] at hs
    have hs : sumI (hoL 1 (ordL l (w.take (i + 1)))) = sumI (hoL 1 (ordL l (w.take i))) + (l.getD q (0, 0)).2 := hs
    have next := ih (i + 1) (by omega)
    rw [hs, ← Int.add_assoc] at next
    rw [hs] at b2
    refine W_loop (W_run 120 ?_)
    simp only [go_some, go_none, go_zero, nxt_op, nxt_guard, nxt_skip, nxt_label, nxt_region, nxt_drawn, nxt_seq, nxt_block, nxt_scope, nxt_exit, nxt_blk, nxt_lp, nxt_cond, nxt_loop, nxt_ret, nxt_stop, nxt_nil, Eng.start, frG, frF, isCall, stp, exec1, exec1K, dK, Nat.reduceDiv, keyA, wantedA, stepF, stF_mv, stF_bin, stF_len, stF_un, stF_pick, stF_load, stF_iadr, stF_box, stF_fadr, stF_store, stF_ext, stF_fld, stF_idx, stF_aadr, stF_app, stF_bldS, stF_slc, stF_slcA, stF_bld, stF_isnil, stF_mki, stF_mkf, stF_mkb, stF_nilc, stF_mks, mapF_eq, evalF_eq, evalA, setAF, setA, setF_eq, putF_eq, lookF_eq, List.getD_cons_zero, List.getD_cons_succ, List.set_cons_zero, List.set_cons_succ, List.replicate, List.length_cons, List.length_nil, Nat.zero_add, Nat.reduceSub, Nat.reduceAdd, List.cons_append, List.nil_append, Option.getD, drop, Nat.beq, List.length_map, binV, binI, unV, if_true, Eng.asInt, Eng.part, cellsOf, toNat_cast, cast_nonneg, true_and, and_true, if_pos, giveOp, gvK, List.getElem?_cons_zero, List.getElem?_cons_succ, Bool.not_true, Bool.not_false, ofVal, eq_self, and_self, true_implies, dfF, touch, regF, quietF, pairOK, noCs, Go.Value.oneCell', decide_true, decide_false, Nat.mul_one, asBound, fullOf, Option.isSome_none, Option.isSome_some, Nat.zero_le, Bool.false_eq_true, false_implies, Int.cast_ofNat_Int, Int.reduceLT, Int.reduceLE, Int.reduceToNat, Nat.reduceMul, Int.le_refl, Eng.look, putAt, Nat.reduceEqDiff, reduceCtorEq, Nat.reduceBEq, if_false, List.all_cons, List.all_nil, tf_beq, ft_beq, lvSub, lvOK, isNone, width, solid, splice, List.take_zero, List.drop_zero, List.drop_nil, List.take_nil, List.drop_succ_cons, List.take_succ_cons, List.append_nil, beq_self_eq_true, Bool.and_true, Bool.true_and, Bool.and_self, ge_iff_le, gt_iff_lt, Nat.le_refl, Nat.reduceLeDiff, Nat.reduceLT, xf9_L1, ai, al, aS, shA, lt_cast, h0, get_al h1, hq, hqi, get_sh hql, List.map_cons, List.map_nil]
    rw [wrap_id (z := c + sumI (hoL 1 (ordL l (w.take i))) + (l.getD q (0, 0)).2) (by omega) (by omega), wrap_id (z := (i : Int) + 1) (by omega) (by omega)]
    exact next _ _ _ _ _ _ _ _ _ _ _ _ _ _ _ _ _ _ _ _ _ _ _ _ _ _ _ _ _ _ _ _ _ _ _ _ _ _ _ _ _ _ _ _ _ _ _ _ _ _ _ _ _ _
end Go.Proofs.Ytlgmabgpfaajhaa

