/-
  The law of all lengths.
-/
import Derived.Test.YtnpdpkeackicmaaVg
set_option linter.unusedSimpArgs false
set_option linter.unusedVariables false
namespace Go.Proofs.Ytnpdpkeackicmaa
open Go Go.Proofs.Eng
set_option maxRecDepth 100000
set_option maxHeartbeats 4000000
theorem judged_run (A : List (Int × Int)) (R F : Int) (hn : A.length ≤ 1000) (hA : ∀ p, p ∈ A → gA p) (f : Bool) (E : List Int) (hE : E.length ≤ 1000) (hv : vErr A.length 0 E = 0) :
    Runs Try.prog xf 20 [bkA false A R F, al f E] (.tup [ai (fxI (buP R) (vSeg A 0 E) 0), ai (fxI (muP R) (vSeg A 0 E) 0), ab ((vSeg A 0 E).any (thP F))]) := by
  refine Runs.ofW (fn := xf20) 20 (by kernel_rfl) (W_run 80 ?_)
  simp only [go_some, go_none, go_zero, nxt_op, nxt_guard, nxt_skip, nxt_label, nxt_region, nxt_drawn, nxt_seq, nxt_block, nxt_scope, nxt_exit, nxt_blk, nxt_lp, nxt_cond, nxt_loop, nxt_ret, nxt_stop, nxt_nil, Eng.start, frG, frF, isCall, stp, exec1, exec1K, dK, Nat.reduceDiv, keyA, wantedA, stepF, stF_mv, stF_bin, stF_len, stF_un, stF_pick, stF_load, stF_iadr, stF_box, stF_fadr, stF_store, stF_ext, stF_fld, stF_idx, stF_aadr, stF_app, stF_bldS, stF_slc, stF_slcA, stF_bld, stF_isnil, stF_mki, stF_mkf, stF_mkb, stF_nilc, stF_mks, mapF_eq, evalF_eq, evalA, setAF, setA, setF_eq, putF_eq, lookF_eq, List.getD_cons_zero, List.getD_cons_succ, List.set_cons_zero, List.set_cons_succ, List.replicate, List.length_cons, List.length_nil, Nat.zero_add, Nat.reduceSub, Nat.reduceAdd, List.cons_append, List.nil_append, Option.getD, drop, Nat.beq, List.length_map, binV, binI, unV, if_true, Eng.asInt, Eng.part, cellsOf, toNat_cast, cast_nonneg, true_and, and_true, if_pos, giveOp, gvK, List.getElem?_cons_zero, List.getElem?_cons_succ, Bool.not_true, Bool.not_false, ofVal, eq_self, and_self, true_implies, dfF, touch, regF, quietF, pairOK, noCs, Go.Value.oneCell', decide_true, decide_false, Nat.mul_one, asBound, fullOf, Option.isSome_none, Option.isSome_some, Nat.zero_le, Bool.false_eq_true, false_implies, Int.cast_ofNat_Int, Int.reduceLT, Int.reduceLE, Int.reduceToNat, Nat.reduceMul, Int.le_refl, Eng.look, putAt, Nat.reduceEqDiff, reduceCtorEq, Nat.reduceBEq, if_false, List.all_cons, List.all_nil, tf_beq, ft_beq, lvSub, lvOK, isNone, width, solid, splice, List.take_zero, List.drop_zero, List.drop_nil, List.take_nil, List.drop_succ_cons, List.take_succ_cons, List.append_nil, beq_self_eq_true, Bool.and_true, Bool.true_and, Bool.and_self, ge_iff_le, gt_iff_lt, Nat.le_refl, Nat.reduceLeDiff, Nat.reduceLT, xf20, ai, al, bkA]
  refine W_alone (jud_loop A R F hn hA f E hE _ _ _ _ (fun m u h b hm hu hh j11 j12 j16 j17 j18 j19 j20 j21 j22 j23 j24 j25 j26 j27 j28 j29 j30 j31 j32 j33 j34 j35 j36 j37 j38 j39 j40 j41 j42 j43 j44 j45 j46 j47 j48 j49 j50 j51 j52 j53 j54 j55 j56 j57 j58 => W_run 80 ?_) E.length 0 (by omega) (-1) (-1) false 0 hv rfl rfl rfl (by omega) (by omega) _ _ _ _ _ _ _ _ _ _ _ _ _ _ _ _ _ _ _ _ _ _ _ _ _ _ _ _ _ _ _ _ _ _ _ _ _ _ _ _ _ _ _ _ _)
  simp only [go_some, go_none, go_zero, nxt_op, nxt_guard, nxt_skip, nxt_label, nxt_region, nxt_drawn, nxt_seq, nxt_block, nxt_scope, nxt_exit, nxt_blk, nxt_lp, nxt_cond, nxt_loop, nxt_ret, nxt_stop, nxt_nil, Eng.start, frG, frF, isCall, stp, exec1, exec1K, dK, Nat.reduceDiv, keyA, wantedA, stepF, stF_mv, stF_bin, stF_len, stF_un, stF_pick, stF_load, stF_iadr, stF_box, stF_fadr, stF_store, stF_ext, stF_fld, stF_idx, stF_aadr, stF_app, stF_bldS, stF_slc, stF_slcA, stF_bld, stF_isnil, stF_mki, stF_mkf, stF_mkb, stF_nilc, stF_mks, mapF_eq, evalF_eq, evalA, setAF, setA, setF_eq, putF_eq, lookF_eq, List.getD_cons_zero, List.getD_cons_succ, List.set_cons_zero, List.set_cons_succ, List.replicate, List.length_cons, List.length_nil, Nat.zero_add, Nat.reduceSub, Nat.reduceAdd, List.cons_append, List.nil_append, Option.getD, drop, Nat.beq, List.length_map, binV, binI, unV, if_true, Eng.asInt, Eng.part, cellsOf, toNat_cast, cast_nonneg, true_and, and_true, if_pos, giveOp, gvK, List.getElem?_cons_zero, List.getElem?_cons_succ, Bool.not_true, Bool.not_false, ofVal, eq_self, and_self, true_implies, dfF, touch, regF, quietF, pairOK, noCs, Go.Value.oneCell', decide_true, decide_false, Nat.mul_one, asBound, fullOf, Option.isSome_none, Option.isSome_some, Nat.zero_le, Bool.false_eq_true, false_implies, Int.cast_ofNat_Int, Int.reduceLT, Int.reduceLE, Int.reduceToNat, Nat.reduceMul, Int.le_refl, Eng.look, putAt, Nat.reduceEqDiff, reduceCtorEq, Nat.reduceBEq, if_false, List.all_cons, List.all_nil, tf_beq, ft_beq, lvSub, lvOK, isNone, width, solid, splice, List.take_zero, List.drop_zero, List.drop_nil, List.take_nil, List.drop_succ_cons, List.take_succ_cons, List.append_nil, beq_self_eq_true, Bool.and_true, Bool.true_and, Bool.and_self, ge_iff_le, gt_iff_lt, Nat.le_refl, Nat.reduceLeDiff, Nat.reduceLT, xf20_R0, ai, ab]
  rw [hm, hu, hh]
  exact W_ret1 (WX_nil ⟨.inl rfl, _, rfl, rfl⟩)
theorem smM_nil : smM [] = 0 := rfl
theorem smM_cons (p : Int × Int) (l : List (Int × Int)) : smM (p :: l) = p.2 + smM l := by
  have key : ∀ (l : List Int) (a : Int), l.foldl (· + ·) a = a + l.foldl (· + ·) 0 := by
    intro l
    induction l with
    | nil => intro a; simp
    | cons x t ih => intro a; simp only [List.foldl_cons]; rw [ih (a + x), ih (0 + x)]; omega
  unfold smM sumI
  rw [List.map_cons, List.foldl_cons, key]; omega
theorem smL_cons (p : Int × Int) (l : List (Int × Int)) : smL (p :: l) = p.1 + smL l := by
  have key : ∀ (l : List Int) (a : Int), l.foldl (· + ·) a = a + l.foldl (· + ·) 0 := by
    intro l
    induction l with
    | nil => intro a; simp
    | cons x t ih => intro a; simp only [List.foldl_cons]; rw [ih (a + x), ih (0 + x)]; omega
  unfold smL sumI
  rw [List.map_cons, List.foldl_cons, key]; omega
def cpL : List AV := [.o 5 1 1 0 0, .o 6 1 1 0 0, .o 7 1 1 0 0, .o 8 1 1 0 0]
def hpP (A : List (Int × Int)) (R : Int) (sm al : Bool) : Heap := [(5, (1, some ⟨27, 3, [bkA false A R 0]⟩)), (6, (1, some ⟨4, 1, [ab sm]⟩)), (7, (1, some ⟨4, 1, [ab al]⟩)), (8, (1, some ⟨60, 1, [.fn 36 cpL]⟩))]
theorem call_put : callable Try.prog 36 = true := by kernel_rfl
/-- what the law's closure does: whether some, whether all lengths are too many -/
def PutOk (A : List (Int × Int)) (R : Int) (i : Nat) : Prop := ∀ (s : Int) (sm al : Bool), 0 ≤ s → s ≤ 1000 * i → RunsR Try.prog xf 1000 36 (ai i :: ai s :: cpL) (hpP A R sm al) (.tup []) (hpP A R (sm || decide (R < s + smM (A.drop i))) (al && decide (R < s + smL (A.drop i))))
def smF (R : Int) (sm : Bool) (L s SM x : Int) : Bool := sm || decide (L < x ∧ R < s + (x - 1) + SM)
def alF (R : Int) (al : Bool) (L s SL x : Int) : Bool := al && decide (x = L ∨ R < s + L + SL)
theorem smF_step {R L s SM x : Int} {sm : Bool} (h : L ≤ x) : (smF R sm L s SM x || decide (R < s + x + SM)) = smF R sm L s SM (x + 1) := by
  unfold smF
  cases sm with
  | true => rfl
  | false =>
    rw [Bool.false_or, Bool.false_or, Bool.eq_iff_iff]
    simp only [Bool.or_eq_true, decide_eq_true_eq]
    constructor
    · rintro (⟨a, b⟩ | b)
      · exact ⟨by omega, by omega⟩
      · exact ⟨by omega, by omega⟩
    · rintro ⟨a, b⟩; right; omega
theorem alF_step {R L s SL x : Int} {al : Bool} (h : L ≤ x) : (alF R al L s SL x && decide (R < s + x + SL)) = alF R al L s SL (x + 1) := by
  unfold alF
  cases al with
  | false => rfl
  | true =>
    rw [Bool.true_and, Bool.true_and, Bool.eq_iff_iff]
    simp only [Bool.and_eq_true, decide_eq_true_eq]
    constructor
    · rintro ⟨rfl | a, b⟩ <;> right <;> omega
    · rintro (a | b)
      · omega
      · rcases Int.lt_or_eq_of_le h with q | q
        · exact ⟨.inr b, by omega⟩
        · exact ⟨.inl q.symm, by omega⟩
theorem put_loop (A : List (Int × Int)) (R : Int) (hn : A.length ≤ 12) (hA : ∀ p, p ∈ A → gA p) (i : Nat) (hi : i < A.length) (s : Int) (hs : 0 ≤ s ∧ s ≤ 1000 * i) (sm al : Bool) (ih : PutOk A R (i + 1)) (K : List Fr) (Q : Out → Cfg → Prop)
    (hK : ∀ x : Int, ∀ j6 j7 j9 j10 j11 j12 j13 j14 j15 j16 j17 j18 j19 j20 j21 j22 j23 j24 j25 j26 j27 j28 j29 j30 j31 j32 j33 j34 j35 j36 j37 j38 j39 j40 j41 j42 j43 j44 j45 j46 j47 j48 j49 j50 : AV, W Try.prog (RelU Try.prog xf) 1000 K ⟨((ai i) :: (ai s) :: (.o 5 1 1 0 0) :: (.o 6 1 1 0 0) :: (.o 7 1 1 0 0) :: (.o 8 1 1 0 0) :: j6 :: j7 :: (ai x) :: j9 :: j10 :: j11 :: j12 :: j13 :: j14 :: j15 :: j16 :: j17 :: j18 :: j19 :: j20 :: j21 :: j22 :: j23 :: j24 :: j25 :: j26 :: j27 :: j28 :: j29 :: j30 :: j31 :: j32 :: j33 :: j34 :: j35 :: j36 :: j37 :: j38 :: j39 :: j40 :: j41 :: j42 :: j43 :: j44 :: j45 :: j46 :: j47 :: j48 :: j49 :: j50 :: []), hpP A R (smF R sm (A.getD i (0, 0)).1 s (smM (A.drop (i + 1))) ((A.getD i (0, 0)).2 + 1)) (alF R al (A.getD i (0, 0)).1 s (smL (A.drop (i + 1))) ((A.getD i (0, 0)).2 + 1))⟩ Q) :
    ∀ (k : Nat) (x : Int), x + k = (A.getD i (0, 0)).2 + 1 → (A.getD i (0, 0)).1 ≤ x → ∀ j6 j7 j9 j10 j11 j12 j13 j14 j15 j16 j17 j18 j19 j20 j21 j22 j23 j24 j25 j26 j27 j28 j29 j30 j31 j32 j33 j34 j35 j36 j37 j38 j39 j40 j41 j42 j43 j44 j45 j46 j47 j48 j49 j50 : AV, W Try.prog (RelU Try.prog xf) 1000 (.code (.loop xf36_L0) :: .blk 0 :: .stop :: K) ⟨((ai i) :: (ai s) :: (.o 5 1 1 0 0) :: (.o 6 1 1 0 0) :: (.o 7 1 1 0 0) :: (.o 8 1 1 0 0) :: j6 :: j7 :: (ai x) :: j9 :: j10 :: j11 :: j12 :: j13 :: j14 :: j15 :: j16 :: j17 :: j18 :: j19 :: j20 :: j21 :: j22 :: j23 :: j24 :: j25 :: j26 :: j27 :: j28 :: j29 :: j30 :: j31 :: j32 :: j33 :: j34 :: j35 :: j36 :: j37 :: j38 :: j39 :: j40 :: j41 :: j42 :: j43 :: j44 :: j45 :: j46 :: j47 :: j48 :: j49 :: j50 :: []), hpP A R (smF R sm (A.getD i (0, 0)).1 s (smM (A.drop (i + 1))) x) (alF R al (A.getD i (0, 0)).1 s (smL (A.drop (i + 1))) x)⟩ Q := by
  have hp := hA _ (getD_mem (d := (0, 0)) hi)
  unfold gA at hp
  have hii : (i : Int) < (A.length : Int) := by omega
  intro k
  induction k with
  | zero =>
    intro x hx hL j6 j7 j9 j10 j11 j12 j13 j14 j15 j16 j17 j18 j19 j20 j21 j22 j23 j24 j25 j26 j27 j28 j29 j30 j31 j32 j33 j34 j35 j36 j37 j38 j39 j40 j41 j42 j43 j44 j45 j46 j47 j48 j49 j50
    have h0 : decide (x ≤ (A.getD i (0, 0)).2) = false := decide_eq_false (by omega)
    have hK := hK x
    rw [show (A.getD i (0, 0)).2 + 1 = x by omega] at hK
    refine W_loop (W_run 80 ?_)
    simp only [go_some, go_none, go_zero, nxt_op, nxt_guard, nxt_skip, nxt_label, nxt_region, nxt_drawn, nxt_seq, nxt_block, nxt_scope, nxt_exit, nxt_blk, nxt_lp, nxt_cond, nxt_loop, nxt_ret, nxt_stop, nxt_nil, Eng.start, frG, frF, isCall, stp, exec1, exec1K, dK, Nat.reduceDiv, keyA, wantedA, stepF, stF_mv, stF_bin, stF_len, stF_un, stF_pick, stF_load, stF_iadr, stF_box, stF_fadr, stF_store, stF_ext, stF_fld, stF_idx, stF_aadr, stF_app, stF_bldS, stF_slc, stF_slcA, stF_bld, stF_isnil, stF_mki, stF_mkf, stF_mkb, stF_nilc, stF_mks, mapF_eq, evalF_eq, evalA, setAF, setA, setF_eq, putF_eq, lookF_eq, List.getD_cons_zero, List.getD_cons_succ, List.set_cons_zero, List.set_cons_succ, List.replicate, List.length_cons, List.length_nil, Nat.zero_add, Nat.reduceSub, Nat.reduceAdd, List.cons_append, List.nil_append, Option.getD, drop, Nat.beq, List.length_map, binV, binI, unV, if_true, Eng.asInt, Eng.part, cellsOf, toNat_cast, cast_nonneg, true_and, and_true, if_pos, giveOp, gvK, List.getElem?_cons_zero, List.getElem?_cons_succ, Bool.not_true, Bool.not_false, ofVal, eq_self, and_self, true_implies, dfF, touch, regF, quietF, pairOK, noCs, Go.Value.oneCell', decide_true, decide_false, Nat.mul_one, asBound, fullOf, Option.isSome_none, Option.isSome_some, Nat.zero_le, Bool.false_eq_true, false_implies, Int.cast_ofNat_Int, Int.reduceLT, Int.reduceLE, Int.reduceToNat, Nat.reduceMul, Int.le_refl, Eng.look, putAt, Nat.reduceEqDiff, reduceCtorEq, Nat.reduceBEq, if_false, List.all_cons, List.all_nil, tf_beq, ft_beq, lvSub, lvOK, isNone, width, solid, splice, List.take_zero, List.drop_zero, List.drop_nil, List.take_nil, List.drop_succ_cons, List.take_succ_cons, List.append_nil, beq_self_eq_true, Bool.and_true, Bool.true_and, Bool.and_self, ge_iff_le, gt_iff_lt, Nat.le_refl, Nat.reduceLeDiff, Nat.reduceLT, xf36_L0, ai, aS, bkA, hpP, hii, get_sh hi, shA, h0]
    exact W_stop (hK _ _ _ _ _ _ _ _ _ _ _ _ _ _ _ _ _ _ _ _ _ _ _ _ _ _ _ _ _ _ _ _ _ _ _ _ _ _ _ _ _ _ _ _)
  | succ k ihk =>
    intro x hx hL j6 j7 j9 j10 j11 j12 j13 j14 j15 j16 j17 j18 j19 j20 j21 j22 j23 j24 j25 j26 j27 j28 j29 j30 j31 j32 j33 j34 j35 j36 j37 j38 j39 j40 j41 j42 j43 j44 j45 j46 j47 j48 j49 j50
    have h0 : decide (x ≤ (A.getD i (0, 0)).2) = true := decide_eq_true (by omega)
    have next := ihk (x + 1) (by omega) (by omega)
    rw [← smF_step hL, ← alF_step hL] at next
    have wi : IntKind.i64.wrap ((i : Int) + 1) = ((i + 1 : Nat) : Int) := by rw [wrap_id (by omega) (by omega)]; simp
    have ws : IntKind.i64.wrap (s + x) = s + x := wrap_id (by omega) (by omega)
    have wx : IntKind.i64.wrap (x + 1) = x + 1 := wrap_id (by omega) (by omega)
    refine W_loop (W_run 80 ?_)
    generalize smF R sm (A.getD i (0, 0)).1 s (smM (A.drop (i + 1))) x = g1 at next ⊢
    generalize alF R al (A.getD i (0, 0)).1 s (smL (A.drop (i + 1))) x = g2 at next ⊢
    have hc := ih (s + x) g1 g2 (by omega) (by omega)
    simp only [go_some, go_none, go_zero, nxt_op, nxt_guard, nxt_skip, nxt_label, nxt_region, nxt_drawn, nxt_seq, nxt_block, nxt_scope, nxt_exit, nxt_blk, nxt_lp, nxt_cond, nxt_loop, nxt_ret, nxt_stop, nxt_nil, Eng.start, frG, frF, isCall, stp, exec1, exec1K, dK, Nat.reduceDiv, keyA, wantedA, stepF, stF_mv, stF_bin, stF_len, stF_un, stF_pick, stF_load, stF_iadr, stF_box, stF_fadr, stF_store, stF_ext, stF_fld, stF_idx, stF_aadr, stF_app, stF_bldS, stF_slc, stF_slcA, stF_bld, stF_isnil, stF_mki, stF_mkf, stF_mkb, stF_nilc, stF_mks, mapF_eq, evalF_eq, evalA, setAF, setA, setF_eq, putF_eq, lookF_eq, List.getD_cons_zero, List.getD_cons_succ, List.set_cons_zero, List.set_cons_succ, List.replicate, List.length_cons, List.length_nil, Nat.zero_add, Nat.reduceSub, Nat.reduceAdd, List.cons_append, List.nil_append, Option.getD, drop, Nat.beq, List.length_map, binV, binI, unV, if_true, Eng.asInt, Eng.part, cellsOf, toNat_cast, cast_nonneg, true_and, and_true, if_pos, giveOp, gvK, List.getElem?_cons_zero, List.getElem?_cons_succ, Bool.not_true, Bool.not_false, ofVal, eq_self, and_self, true_implies, dfF, touch, regF, quietF, pairOK, noCs, Go.Value.oneCell', decide_true, decide_false, Nat.mul_one, asBound, fullOf, Option.isSome_none, Option.isSome_some, Nat.zero_le, Bool.false_eq_true, false_implies, Int.cast_ofNat_Int, Int.reduceLT, Int.reduceLE, Int.reduceToNat, Nat.reduceMul, Int.le_refl, Eng.look, putAt, Nat.reduceEqDiff, reduceCtorEq, Nat.reduceBEq, if_false, List.all_cons, List.all_nil, tf_beq, ft_beq, lvSub, lvOK, isNone, width, solid, splice, List.take_zero, List.drop_zero, List.drop_nil, List.take_nil, List.drop_succ_cons, List.take_succ_cons, List.append_nil, beq_self_eq_true, Bool.and_true, Bool.true_and, Bool.and_self, ge_iff_le, gt_iff_lt, Nat.le_refl, Nat.reduceLeDiff, Nat.reduceLT, xf36_L0, ai, aS, bkA, hpP, cpL, hii, get_sh hi, shA, h0, wi, ws]
    refine W_callvR (kb' := 1000) (caps := cpL) rfl call_put rfl hc rfl (W_run 80 ?_)
    generalize (g1 || decide (R < s + x + smM (A.drop (i + 1)))) = g3 at *
    generalize (g2 && decide (R < s + x + smL (A.drop (i + 1)))) = g4 at *
    simp only [go_some, go_none, go_zero, nxt_op, nxt_guard, nxt_skip, nxt_label, nxt_region, nxt_drawn, nxt_seq, nxt_block, nxt_scope, nxt_exit, nxt_blk, nxt_lp, nxt_cond, nxt_loop, nxt_ret, nxt_stop, nxt_nil, Eng.start, frG, frF, isCall, stp, exec1, exec1K, dK, Nat.reduceDiv, keyA, wantedA, stepF, stF_mv, stF_bin, stF_len, stF_un, stF_pick, stF_load, stF_iadr, stF_box, stF_fadr, stF_store, stF_ext, stF_fld, stF_idx, stF_aadr, stF_app, stF_bldS, stF_slc, stF_slcA, stF_bld, stF_isnil, stF_mki, stF_mkf, stF_mkb, stF_nilc, stF_mks, mapF_eq, evalF_eq, evalA, setAF, setA, setF_eq, putF_eq, lookF_eq, List.getD_cons_zero, List.getD_cons_succ, List.set_cons_zero, List.set_cons_succ, List.replicate, List.length_cons, List.length_nil, Nat.zero_add, Nat.reduceSub, Nat.reduceAdd, List.cons_append, List.nil_append, Option.getD, drop, Nat.beq, List.length_map, binV, binI, unV, if_true, Eng.asInt, Eng.part, cellsOf, toNat_cast, cast_nonneg, true_and, and_true, if_pos, giveOp, gvK, List.getElem?_cons_zero, List.getElem?_cons_succ, Bool.not_true, Bool.not_false, ofVal, eq_self, and_self, true_implies, dfF, touch, regF, quietF, pairOK, noCs, Go.Value.oneCell', decide_true, decide_false, Nat.mul_one, asBound, fullOf, Option.isSome_none, Option.isSome_some, Nat.zero_le, Bool.false_eq_true, false_implies, Int.cast_ofNat_Int, Int.reduceLT, Int.reduceLE, Int.reduceToNat, Nat.reduceMul, Int.le_refl, Eng.look, putAt, Nat.reduceEqDiff, reduceCtorEq, Nat.reduceBEq, if_false, List.all_cons, List.all_nil, tf_beq, ft_beq, lvSub, lvOK, isNone, width, solid, splice, List.take_zero, List.drop_zero, List.drop_nil, List.take_nil, List.drop_succ_cons, List.take_succ_cons, List.append_nil, beq_self_eq_true, Bool.and_true, Bool.true_and, Bool.and_self, ge_iff_le, gt_iff_lt, Nat.le_refl, Nat.reduceLeDiff, Nat.reduceLT, ai, aS, bkA, hpP, wx]
    exact next _ _ _ _ _ _ _ _ _ _ _ _ _ _ _ _ _ _ _ _ _ _ _ _ _ _ _ _ _ _ _ _ _ _ _ _ _ _ _ _ _ _ _ _
theorem put_run (A : List (Int × Int)) (R : Int) (hn : A.length ≤ 12) (hA : ∀ p, p ∈ A → gA p) : ∀ (k i : Nat), i + k = A.length → PutOk A R i := by
  intro k
  induction k with
  | zero =>
    intro i hi s sm al h0 h1
    have hii : i = A.length := by omega
    have e1 : ((i : Int) == (A.length : Int)) = true := by rw [hii]; simp
    have hM : smM (A.drop i) = 0 := by rw [hii, List.drop_length]; rfl
    have hL : smL (A.drop i) = 0 := by rw [hii, List.drop_length]; rfl
    rw [hM, hL, Int.add_zero]
    refine RunsR.ofW (fn := xf36) (by kernel_rfl) (W_run 120 ?_)
    cases sm <;> cases al <;> simp only [go_some, go_none, go_zero, nxt_op, nxt_guard, nxt_skip, nxt_label, nxt_region, nxt_drawn, nxt_seq, nxt_block, nxt_scope, nxt_exit, nxt_blk, nxt_lp, nxt_cond, nxt_loop, nxt_ret, nxt_stop, nxt_nil, Eng.start, frG, frF, isCall, stp, exec1, exec1K, dK, Nat.reduceDiv, keyA, wantedA, stepF, stF_mv, stF_bin, stF_len, stF_un, stF_pick, stF_load, stF_iadr, stF_box, stF_fadr, stF_store, stF_ext, stF_fld, stF_idx, stF_aadr, stF_app, stF_bldS, stF_slc, stF_slcA, stF_bld, stF_isnil, stF_mki, stF_mkf, stF_mkb, stF_nilc, stF_mks, mapF_eq, evalF_eq, evalA, setAF, setA, setF_eq, putF_eq, lookF_eq, List.getD_cons_zero, List.getD_cons_succ, List.set_cons_zero, List.set_cons_succ, List.replicate, List.length_cons, List.length_nil, Nat.zero_add, Nat.reduceSub, Nat.reduceAdd, List.cons_append, List.nil_append, Option.getD, drop, Nat.beq, List.length_map, binV, binI, unV, if_true, Eng.asInt, Eng.part, cellsOf, toNat_cast, cast_nonneg, true_and, and_true, if_pos, giveOp, gvK, List.getElem?_cons_zero, List.getElem?_cons_succ, Bool.not_true, Bool.not_false, ofVal, eq_self, and_self, true_implies, dfF, touch, regF, quietF, pairOK, noCs, Go.Value.oneCell', decide_true, decide_false, Nat.mul_one, asBound, fullOf, Option.isSome_none, Option.isSome_some, Nat.zero_le, Bool.false_eq_true, false_implies, Int.cast_ofNat_Int, Int.reduceLT, Int.reduceLE, Int.reduceToNat, Nat.reduceMul, Int.le_refl, Eng.look, putAt, Nat.reduceEqDiff, reduceCtorEq, Nat.reduceBEq, if_false, List.all_cons, List.all_nil, tf_beq, ft_beq, lvSub, lvOK, isNone, width, solid, splice, List.take_zero, List.drop_zero, List.drop_nil, List.take_nil, List.drop_succ_cons, List.take_succ_cons, List.append_nil, beq_self_eq_true, Bool.and_true, Bool.true_and, Bool.and_self, ge_iff_le, gt_iff_lt, Nat.le_refl, Nat.reduceLeDiff, Nat.reduceLT, xf36, ai, ab, aS, bkA, hpP, cpL, e1]
    all_goals exact W_ret1 (WX_pop (WX_nil ⟨.inl rfl, _, rfl, rfl, rfl⟩))
  | succ k ihk =>
    intro i hi s sm al h0 h1
    have hil : i < A.length := by omega
    have hii : (i : Int) < (A.length : Int) := by omega
    have e1 : ((i : Int) == (A.length : Int)) = false := by rw [beq_eq_false_iff_ne]; omega
    have ih := ihk (i + 1) (by omega)
    have hp := hA _ (getD_mem (d := (0, 0)) hil)
    unfold gA at hp
    have hM : smM (A.drop i) = (A.getD i (0, 0)).2 + smM (A.drop (i + 1)) := by rw [drop_at (d := (0, 0)) hil, smM_cons]
    have hL : smL (A.drop i) = (A.getD i (0, 0)).1 + smL (A.drop (i + 1)) := by rw [drop_at (d := (0, 0)) hil, smL_cons]
    refine RunsR.ofW (fn := xf36) (by kernel_rfl) (W_run 120 ?_)
    simp only [go_some, go_none, go_zero, nxt_op, nxt_guard, nxt_skip, nxt_label, nxt_region, nxt_drawn, nxt_seq, nxt_block, nxt_scope, nxt_exit, nxt_blk, nxt_lp, nxt_cond, nxt_loop, nxt_ret, nxt_stop, nxt_nil, Eng.start, frG, frF, isCall, stp, exec1, exec1K, dK, Nat.reduceDiv, keyA, wantedA, stepF, stF_mv, stF_bin, stF_len, stF_un, stF_pick, stF_load, stF_iadr, stF_box, stF_fadr, stF_store, stF_ext, stF_fld, stF_idx, stF_aadr, stF_app, stF_bldS, stF_slc, stF_slcA, stF_bld, stF_isnil, stF_mki, stF_mkf, stF_mkb, stF_nilc, stF_mks, mapF_eq, evalF_eq, evalA, setAF, setA, setF_eq, putF_eq, lookF_eq, List.getD_cons_zero, List.getD_cons_succ, List.set_cons_zero, List.set_cons_succ, List.replicate, List.length_cons, List.length_nil, Nat.zero_add, Nat.reduceSub, Nat.reduceAdd, List.cons_append, List.nil_append, Option.getD, drop, Nat.beq, List.length_map, binV, binI, unV, if_true, Eng.asInt, Eng.part, cellsOf, toNat_cast, cast_nonneg, true_and, and_true, if_pos, giveOp, gvK, List.getElem?_cons_zero, List.getElem?_cons_succ, Bool.not_true, Bool.not_false, ofVal, eq_self, and_self, true_implies, dfF, touch, regF, quietF, pairOK, noCs, Go.Value.oneCell', decide_true, decide_false, Nat.mul_one, asBound, fullOf, Option.isSome_none, Option.isSome_some, Nat.zero_le, Bool.false_eq_true, false_implies, Int.cast_ofNat_Int, Int.reduceLT, Int.reduceLE, Int.reduceToNat, Nat.reduceMul, Int.le_refl, Eng.look, putAt, Nat.reduceEqDiff, reduceCtorEq, Nat.reduceBEq, if_false, List.all_cons, List.all_nil, tf_beq, ft_beq, lvSub, lvOK, isNone, width, solid, splice, List.take_zero, List.drop_zero, List.drop_nil, List.take_nil, List.drop_succ_cons, List.take_succ_cons, List.append_nil, beq_self_eq_true, Bool.and_true, Bool.true_and, Bool.and_self, ge_iff_le, gt_iff_lt, Nat.le_refl, Nat.reduceLeDiff, Nat.reduceLT, xf36, ai, aS, bkA, hpP, cpL, hii, get_sh hil, shA, e1]
    have hs1 : sm = smF R sm (A.getD i (0, 0)).1 s (smM (A.drop (i + 1))) (A.getD i (0, 0)).1 := by
      unfold smF; rw [decide_eq_false (by omega), Bool.or_false]
    have hs2 : al = alF R al (A.getD i (0, 0)).1 s (smL (A.drop (i + 1))) (A.getD i (0, 0)).1 := by
      unfold alF; rw [decide_eq_true (by left; rfl), Bool.and_true]
    have hl := put_loop A R hn hA i hil s ⟨h0, h1⟩ sm al ih [] (fun o c => (o = .ret ∨ o = .normal) ∧ ∃ rs, xf36.results.mapM (resOf Try.prog c) = some rs ∧ (.tup [] : AV) = retOf rs ∧ hpP A R (sm || decide (R < s + smM (A.drop i))) (al && decide (R < s + smL (A.drop i))) = c.η)
      (fun x j6 j7 j9 j10 j11 j12 j13 j14 j15 j16 j17 j18 j19 j20 j21 j22 j23 j24 j25 j26 j27 j28 j29 j30 j31 j32 j33 j34 j35 j36 j37 j38 j39 j40 j41 j42 j43 j44 j45 j46 j47 j48 j49 j50 => W_done ⟨.inr rfl, [], rfl, rfl, ?_⟩) ((A.getD i (0, 0)).2 + 1 - (A.getD i (0, 0)).1).toNat (A.getD i (0, 0)).1 (by omega) (Int.le_refl _)
    · rw [← hs1, ← hs2] at hl
      exact W_alone (hl _ _ _ _ _ _ _ _ _ _ _ _ _ _ _ _ _ _ _ _ _ _ _ _ _ _ _ _ _ _ _ _ _ _ _ _ _ _ _ _ _ _ _ _)
    · congr 1
      · unfold smF
        rw [hM]
        congr 1
        rw [decide_eq_decide]
        constructor
        · intro h; exact ⟨by omega, by omega⟩
        · rintro ⟨_, h⟩; omega
      · unfold alF
        rw [hL]
        congr 1
        rw [decide_eq_decide]
        constructor
        · intro h; right; omega
        · rintro (h | h) <;> omega
end Go.Proofs.Ytnpdpkeackicmaa

