/-
  The law's sheets by numbers.
-/
import Derived.Test.YtlgmabgpfaajhaaPs
set_option linter.unusedSimpArgs false
set_option linter.unusedVariables false
namespace Go.Proofs.Ytlgmabgpfaajhaa
open Go Go.Proofs.Eng
set_option maxRecDepth 100000
set_option maxHeartbeats 1000000
theorem get_u8 {l : List Int} {i : Nat} (h : i < l.length) : (l.map u8)[i]? = some (u8 (l.getD i 0)) := by
  rw [List.getElem?_map, List.getElem?_eq_getElem h, List.getD_eq_getElem?_getD, List.getElem?_eq_getElem h]; rfl
def u82 (p : Int × Int) : AV := .ag [u8 p.1, u8 p.2]
theorem get_u82 {l : List (Int × Int)} {i : Nat} (h : i < l.length) : (l.map u82)[i]? = some (u82 (l.getD i (0, 0))) := by
  rw [List.getElem?_map, List.getElem?_eq_getElem h, List.getD_eq_getElem?_getD, List.getElem?_eq_getElem h]; rfl
def hv2 (L : List (Int × Int)) : AV := match L with | [] => nilA | x :: t => .os 42 1 (x :: t).length 2 0 (x :: t).length
def hr2 (L : List (Int × Int)) : Nat × Option Ob := match L with | [] => (0, none) | x :: t => (1, some ⟨37, 2, (x :: t).map shA⟩)
def shE (top : Int) (p : Int × Int) : Int × Int := (p.1.tmod (top + 1), p.2.tmod (top + 1))
theorem mk_loop (top : Int) (ht : 1 ≤ top ∧ top ≤ 50) (x0 x2 : AV) (fE : Bool) (F : List (Int × Int)) (hF : F.length ≤ 7) (hb : ∀ p, p ∈ F → bS 255 p) (K : List Fr) (Q : Out → Cfg → Prop)
    (hK : ∀ r8 : Nat × Option Ob, ∀ j3 j4 j7 j8 j9 j10 j11 j12 j13 j14 j15 j16 j17 j18 j19 j20 j24 j25 j26 j27 j28 j29 j30 j31 j32 j33 j34 j35 j36 j37 j38 j39 j40 j41 j42 j43 j44 : AV, W Try.prog (RelU Try.prog xf) 0 K ⟨(x0 :: (ai 7) :: (.ptr x2) :: j3 :: j4 :: (hv2 (F.map (shE top))) :: (ai top) :: j7 :: j8 :: j9 :: j10 :: j11 :: j12 :: j13 :: j14 :: j15 :: j16 :: j17 :: j18 :: j19 :: j20 :: (.sl 2 fE (F.map u82)) :: (ai F.length) :: (ai F.length) :: j24 :: j25 :: j26 :: j27 :: j28 :: j29 :: j30 :: j31 :: j32 :: j33 :: j34 :: j35 :: j36 :: j37 :: j38 :: j39 :: j40 :: j41 :: j42 :: j43 :: j44 :: []), [(8, r8), (42, hr2 (F.map (shE top)))]⟩ Q) :
    ∀ (k i : Nat), i + k = F.length → ∀ (g8 : Nat) (o8 : Option Ob), ∀ j3 j4 j7 j8 j9 j10 j11 j12 j13 j14 j15 j16 j17 j18 j19 j20 j24 j25 j26 j27 j28 j29 j30 j31 j32 j33 j34 j35 j36 j37 j38 j39 j40 j41 j42 j43 j44 : AV, W Try.prog (RelU Try.prog xf) 0 (.code (.loop xf5_L0) :: .blk 0 :: .stop :: K) ⟨(x0 :: (ai 7) :: (.ptr x2) :: j3 :: j4 :: (hv2 ((F.take i).map (shE top))) :: (ai top) :: j7 :: j8 :: j9 :: j10 :: j11 :: j12 :: j13 :: j14 :: j15 :: j16 :: j17 :: j18 :: j19 :: j20 :: (.sl 2 fE (F.map u82)) :: (ai F.length) :: (ai i) :: j24 :: j25 :: j26 :: j27 :: j28 :: j29 :: j30 :: j31 :: j32 :: j33 :: j34 :: j35 :: j36 :: j37 :: j38 :: j39 :: j40 :: j41 :: j42 :: j43 :: j44 :: []), [(8, (g8, o8)), (42, hr2 ((F.take i).map (shE top)))]⟩ Q := by
  intro k
  induction k with
  | zero =>
    intro i hi g8 o8 j3 j4 j7 j8 j9 j10 j11 j12 j13 j14 j15 j16 j17 j18 j19 j20 j24 j25 j26 j27 j28 j29 j30 j31 j32 j33 j34 j35 j36 j37 j38 j39 j40 j41 j42 j43 j44
    have : i = F.length := by omega
    subst this
    have h0 : decide (F.length < F.length) = false := by simp
    rw [List.take_length]
    refine W_loop (W_run 80 ?_)
    simp only [go_some, go_none, go_zero, nxt_op, nxt_guard, nxt_skip, nxt_label, nxt_region, nxt_drawn, nxt_seq, nxt_block, nxt_scope, nxt_exit, nxt_blk, nxt_lp, nxt_cond, nxt_loop, nxt_ret, nxt_stop, nxt_nil, Eng.start, frG, frF, isCall, stp, exec1, exec1K, dK, Nat.reduceDiv, keyA, wantedA, stepF, stF_mv, stF_bin, stF_len, stF_un, stF_pick, stF_load, stF_iadr, stF_box, stF_fadr, stF_store, stF_ext, stF_fld, stF_idx, stF_aadr, stF_app, stF_bldS, stF_slc, stF_slcA, stF_bld, stF_isnil, stF_mki, stF_mkf, stF_mkb, stF_nilc, stF_mks, mapF_eq, evalF_eq, evalA, setAF, setA, setF_eq, putF_eq, lookF_eq, List.getD_cons_zero, List.getD_cons_succ, List.set_cons_zero, List.set_cons_succ, List.replicate, List.length_cons, List.length_nil, Nat.zero_add, Nat.reduceSub, Nat.reduceAdd, List.cons_append, List.nil_append, Option.getD, drop, Nat.beq, List.length_map, binV, binI, unV, if_true, Eng.asInt, Eng.part, cellsOf, toNat_cast, cast_nonneg, true_and, and_true, if_pos, giveOp, gvK, List.getElem?_cons_zero, List.getElem?_cons_succ, Bool.not_true, Bool.not_false, ofVal, eq_self, and_self, true_implies, dfF, touch, regF, quietF, pairOK, noCs, Go.Value.oneCell', decide_true, decide_false, Nat.mul_one, asBound, fullOf, Option.isSome_none, Option.isSome_some, Nat.zero_le, Bool.false_eq_true, false_implies, Int.cast_ofNat_Int, Int.reduceLT, Int.reduceLE, Int.reduceToNat, Nat.reduceMul, Int.le_refl, Eng.look, putAt, Nat.reduceEqDiff, reduceCtorEq, Nat.reduceBEq, if_false, List.all_cons, List.all_nil, tf_beq, ft_beq, lvSub, lvOK, isNone, width, solid, splice, List.take_zero, List.drop_zero, List.drop_nil, List.take_nil, List.drop_succ_cons, List.take_succ_cons, List.append_nil, beq_self_eq_true, Bool.and_true, Bool.true_and, Bool.and_self, ge_iff_le, gt_iff_lt, Nat.le_refl, Nat.reduceLeDiff, Nat.reduceLT, xf5_L0, ai, lt_cast, h0]
    exact W_stop (hK _ _ _ _ _ _ _ _ _ _ _ _ _ _ _ _ _ _ _ _ _ _ _ _ _ _ _ _ _ _ _ _ _ _ _ _ _ _)
  | succ k ih =>
    intro i hi g8 o8 j3 j4 j7 j8 j9 j10 j11 j12 j13 j14 j15 j16 j17 j18 j19 j20 j24 j25 j26 j27 j28 j29 j30 j31 j32 j33 j34 j35 j36 j37 j38 j39 j40 j41 j42 j43 j44
    have h1 : i < F.length := by omega
    have h0 : decide (i < F.length) = true := decide_eq_true h1
    have hp := hb _ (getD_mem (d := (0, 0)) h1)
    unfold bS at hp
    have w1 : IntKind.i64.wrap (F.getD i (0, 0)).1 = (F.getD i (0, 0)).1 := wrap_id (by omega) (by omega)
    have w2 : IntKind.i64.wrap (F.getD i (0, 0)).2 = (F.getD i (0, 0)).2 := wrap_id (by omega) (by omega)
    have w3 : IntKind.i64.wrap (top + 1) = top + 1 := wrap_id (by omega) (by omega)
    have z : (top + 1 = 0) = False := eq_false (by omega)
    have next := ih (i + 1) (by omega)
    rw [map_snoc (h := shE top) h1] at next
    have hlen : ((F.take i).map (shE top)).length ≤ 7 := by rw [List.length_map, List.length_take]; omega
    generalize hL : (F.take i).map (shE top) = L at *
    refine W_loop (W_run 160 ?_)
    cases L with
    | nil =>
      simp only [hv2, hr2]
      simp only [go_some, go_none, go_zero, nxt_op, nxt_guard, nxt_skip, nxt_label, nxt_region, nxt_drawn, nxt_seq, nxt_block, nxt_scope, nxt_exit, nxt_blk, nxt_lp, nxt_cond, nxt_loop, nxt_ret, nxt_stop, nxt_nil, Eng.start, frG, frF, isCall, stp, exec1, exec1K, dK, Nat.reduceDiv, keyA, wantedA, stepF, stF_mv, stF_bin, stF_len, stF_un, stF_pick, stF_load, stF_iadr, stF_box, stF_fadr, stF_store, stF_ext, stF_fld, stF_idx, stF_aadr, stF_app, stF_bldS, stF_slc, stF_slcA, stF_bld, stF_isnil, stF_mki, stF_mkf, stF_mkb, stF_nilc, stF_mks, mapF_eq, evalF_eq, evalA, setAF, setA, setF_eq, putF_eq, lookF_eq, List.getD_cons_zero, List.getD_cons_succ, List.set_cons_zero, List.set_cons_succ, List.replicate, List.length_cons, List.length_nil, Nat.zero_add, Nat.reduceSub, Nat.reduceAdd, List.cons_append, List.nil_append, Option.getD, drop, Nat.beq, List.length_map, binV, binI, unV, if_true, Eng.asInt, Eng.part, cellsOf, toNat_cast, cast_nonneg, true_and, and_true, if_pos, giveOp, gvK, List.getElem?_cons_zero, List.getElem?_cons_succ, Bool.not_true, Bool.not_false, ofVal, eq_self, and_self, true_implies, dfF, touch, regF, quietF, pairOK, noCs, Go.Value.oneCell', decide_true, decide_false, Nat.mul_one, asBound, fullOf, Option.isSome_none, Option.isSome_some, Nat.zero_le, Bool.false_eq_true, false_implies, Int.cast_ofNat_Int, Int.reduceLT, Int.reduceLE, Int.reduceToNat, Nat.reduceMul, Int.le_refl, Eng.look, putAt, Nat.reduceEqDiff, reduceCtorEq, Nat.reduceBEq, if_false, List.all_cons, List.all_nil, tf_beq, ft_beq, lvSub, lvOK, isNone, width, solid, splice, List.take_zero, List.drop_zero, List.drop_nil, List.take_nil, List.drop_succ_cons, List.take_succ_cons, List.append_nil, beq_self_eq_true, Bool.and_true, Bool.true_and, Bool.and_self, ge_iff_le, gt_iff_lt, Nat.le_refl, Nat.reduceLeDiff, Nat.reduceLT, xf5_L0, ai, nilA, lt_cast, h0, get_u82 h1, u82, u8, raw_conv, rawC, opA, argT, Option.elim, w1, w2, w3, z, List.map_cons, List.map_nil, reduceCtorEq, Go.Proofs.Eng.elems, Go.Proofs.Eng.fillA]
      rw [wrap_id (by omega) (by omega)]
      exact next _ _ _ _ _ _ _ _ _ _ _ _ _ _ _ _ _ _ _ _ _ _ _ _ _ _ _ _ _ _ _ _ _ _ _ _ _ _ _
    | cons x t =>
      have q1 : (t.length + 1 + 1) * 16 ≤ 100000000000000 := by simp only [List.length_cons] at hlen; omega
      have q2 : t.length + 1 + 1 ≤ 100000000000000 := by simp only [List.length_cons] at hlen; omega
      simp only [hv2, hr2]
      simp only [go_some, go_none, go_zero, nxt_op, nxt_guard, nxt_skip, nxt_label, nxt_region, nxt_drawn, nxt_seq, nxt_block, nxt_scope, nxt_exit, nxt_blk, nxt_lp, nxt_cond, nxt_loop, nxt_ret, nxt_stop, nxt_nil, Eng.start, frG, frF, isCall, stp, exec1, exec1K, dK, Nat.reduceDiv, keyA, wantedA, stepF, stF_mv, stF_bin, stF_len, stF_un, stF_pick, stF_load, stF_iadr, stF_box, stF_fadr, stF_store, stF_ext, stF_fld, stF_idx, stF_aadr, stF_app, stF_bldS, stF_slc, stF_slcA, stF_bld, stF_isnil, stF_mki, stF_mkf, stF_mkb, stF_nilc, stF_mks, mapF_eq, evalF_eq, evalA, setAF, setA, setF_eq, putF_eq, lookF_eq, List.getD_cons_zero, List.getD_cons_succ, List.set_cons_zero, List.set_cons_succ, List.replicate, List.length_cons, List.length_nil, Nat.zero_add, Nat.reduceSub, Nat.reduceAdd, List.cons_append, List.nil_append, Option.getD, drop, Nat.beq, List.length_map, binV, binI, unV, if_true, Eng.asInt, Eng.part, cellsOf, toNat_cast, cast_nonneg, true_and, and_true, if_pos, giveOp, gvK, List.getElem?_cons_zero, List.getElem?_cons_succ, Bool.not_true, Bool.not_false, ofVal, eq_self, and_self, true_implies, dfF, touch, regF, quietF, pairOK, noCs, Go.Value.oneCell', decide_true, decide_false, Nat.mul_one, asBound, fullOf, Option.isSome_none, Option.isSome_some, Nat.zero_le, Bool.false_eq_true, false_implies, Int.cast_ofNat_Int, Int.reduceLT, Int.reduceLE, Int.reduceToNat, Nat.reduceMul, Int.le_refl, Eng.look, putAt, Nat.reduceEqDiff, reduceCtorEq, Nat.reduceBEq, if_false, List.all_cons, List.all_nil, tf_beq, ft_beq, lvSub, lvOK, isNone, width, solid, splice, List.take_zero, List.drop_zero, List.drop_nil, List.take_nil, List.drop_succ_cons, List.take_succ_cons, List.append_nil, beq_self_eq_true, Bool.and_true, Bool.true_and, Bool.and_self, ge_iff_le, gt_iff_lt, Nat.le_refl, Nat.reduceLeDiff, Nat.reduceLT, xf5_L0, ai, nilA, lt_cast, h0, get_u82 h1, u82, u8, raw_conv, rawC, opA, argT, Option.elim, w1, w2, w3, z, q1, q2, List.map_cons, List.map_nil, reduceCtorEq, Go.Proofs.Eng.elems, Go.Proofs.Eng.fillA]
      rw [wrap_id (by omega) (by omega)]
      have e1 : (x :: t ++ [shE top (F.getD i (0, 0))]) = x :: (t ++ [shE top (F.getD i (0, 0))]) := rfl
      rw [e1] at next
      have e2 : (x :: (t ++ [shE top (F.getD i (0, 0))])).length = t.length + 1 + 1 := by simp
      have e3 : (x :: (t ++ [shE top (F.getD i (0, 0))])).map shA = shA x :: (t.map shA ++ [shA (shE top (F.getD i (0, 0)))]) := by simp
      simp only [hv2, hr2, e2, e3] at next
      exact next _ _ _ _ _ _ _ _ _ _ _ _ _ _ _ _ _ _ _ _ _ _ _ _ _ _ _ _ _ _ _ _ _ _ _ _ _ _ _
def foA (A B : Int) (E : List (Int × Int)) : AV := .ag (u8 A :: u8 B :: E.flatMap fun p => [u8 p.1, u8 p.2])
theorem flat_len2 (E : List (Int × Int)) : (E.flatMap fun p => [u8 p.1, u8 p.2]).length = 2 * E.length := by
  induction E with
  | nil => rfl
  | cons p E ih => simp only [List.flatMap_cons, List.length_append, ih, List.length_cons, List.length_nil]; omega
theorem chunk7 {E : List (Int × Int)} (h : E.length = 7) : chunkA true 2 (E.flatMap fun p => [u8 p.1, u8 p.2]) 7 = some (E.map u82) := by
  match E, h with
  | [a, b, c, d, e, f, g], _ => rfl
theorem named8 (j : Nat) : Go.Proofs.Eng.look ([] : Heap) j = Go.Proofs.Eng.look [(8, (0, (none : Option Ob))), (42, (0, none))] j := by
  simp only [Go.Proofs.Eng.look]
  by_cases h8 : 8 = j
  · simp [h8]
  · by_cases h42 : 42 = j
    · simp [h42]
    · simp [h8, h42]
def GM (r : AV) : Prop := ∃ l : List (Int × Int), r = aS false l ∧ 0 < l.length ∧ l.length ≤ 7 ∧ ∀ p, p ∈ l → bS 50 p
theorem tmod_p {a n : Int} (h : 0 ≤ a) (hn : 0 < n) : 0 ≤ a.tmod n ∧ a.tmod n < n := tmod_b h hn
theorem made_run (A B : Int) (E : List (Int × Int)) (hE : E.length = 7) (hA : 0 ≤ A ∧ A ≤ 255) (hB : 0 ≤ B ∧ B ≤ 255) (hb : ∀ p, p ∈ E → bS 255 p) :
    ∃ r, GM r ∧ Runs Try.prog xf 5 [foA A B E, ai 7] r := by
  refine ofWE (fn := xf5) 20 (by kernel_rfl) (W_run 120 ?_)
  have hR := flat_len2 E
  rw [hE] at hR
  have hch := chunk7 hE
  have hT : (E.flatMap fun p => [u8 p.1, u8 p.2]).take 14 = E.flatMap fun p => [u8 p.1, u8 p.2] := List.take_of_length_le (by omega)
  have wA : IntKind.i64.wrap A = A := wrap_id (by omega) (by omega)
  have wB : IntKind.i64.wrap B = B := wrap_id (by omega) (by omega)
  obtain ⟨t1, t2⟩ := tmod_b (a := B) (n := 50) hB.1 (by omega)
  obtain ⟨s1, s2⟩ := tmod_b (a := A) (n := 7) hA.1 (by omega)
  have wT : IntKind.i64.wrap (B.tmod 50 + 1) = B.tmod 50 + 1 := wrap_id (by omega) (by omega)
  obtain ⟨nn, hnn, hn7⟩ : ∃ nn : Nat, IntKind.i64.wrap (1 + A.tmod 7) = (nn : Int) ∧ 1 ≤ nn ∧ nn ≤ 7 := ⟨(1 + A.tmod 7).toNat, by rw [wrap_id (by omega) (by omega)]; omega, by omega, by omega⟩
  have z50 : ((50 : Int) = 0) = False := by simp
  have z7 : ((7 : Int) = 0) = False := by simp
  have h7 : nn ≤ 7 := hn7.2
  generalize hG : (E.flatMap fun p => [u8 p.1, u8 p.2]) = G at hR hch hT
  have hq : foA A B E = .ag (u8 A :: u8 B :: G) := by unfold foA; rw [hG]
  rw [hq]
  simp only [go_some, go_none, go_zero, nxt_op, nxt_guard, nxt_skip, nxt_label, nxt_region, nxt_drawn, nxt_seq, nxt_block, nxt_scope, nxt_exit, nxt_blk, nxt_lp, nxt_cond, nxt_loop, nxt_ret, nxt_stop, nxt_nil, Eng.start, frG, frF, isCall, stp, exec1, exec1K, dK, Nat.reduceDiv, keyA, wantedA, stepF, stF_mv, stF_bin, stF_len, stF_un, stF_pick, stF_load, stF_iadr, stF_box, stF_fadr, stF_store, stF_ext, stF_fld, stF_idx, stF_aadr, stF_app, stF_bldS, stF_slc, stF_slcA, stF_bld, stF_isnil, stF_mki, stF_mkf, stF_mkb, stF_nilc, stF_mks, mapF_eq, evalF_eq, evalA, setAF, setA, setF_eq, putF_eq, lookF_eq, List.getD_cons_zero, List.getD_cons_succ, List.set_cons_zero, List.set_cons_succ, List.replicate, List.length_cons, List.length_nil, Nat.zero_add, Nat.reduceSub, Nat.reduceAdd, List.cons_append, List.nil_append, Option.getD, drop, Nat.beq, List.length_map, binV, binI, unV, if_true, Eng.asInt, Eng.part, cellsOf, toNat_cast, cast_nonneg, true_and, and_true, if_pos, giveOp, gvK, List.getElem?_cons_zero, List.getElem?_cons_succ, Bool.not_true, Bool.not_false, ofVal, eq_self, and_self, true_implies, dfF, touch, regF, quietF, pairOK, noCs, Go.Value.oneCell', decide_true, decide_false, Nat.mul_one, asBound, fullOf, Option.isSome_none, Option.isSome_some, Nat.zero_le, Bool.false_eq_true, false_implies, Int.cast_ofNat_Int, Int.reduceLT, Int.reduceLE, Int.reduceToNat, Nat.reduceMul, Int.le_refl, Eng.look, putAt, Nat.reduceEqDiff, reduceCtorEq, Nat.reduceBEq, if_false, List.all_cons, List.all_nil, tf_beq, ft_beq, lvSub, lvOK, isNone, width, solid, splice, List.take_zero, List.drop_zero, List.drop_nil, List.take_nil, List.drop_succ_cons, List.take_succ_cons, List.append_nil, beq_self_eq_true, Bool.and_true, Bool.true_and, Bool.and_self, ge_iff_le, gt_iff_lt, Nat.le_refl, Nat.reduceLeDiff, Nat.reduceLT, xf5, ai, u8, nilA, hR, hch, hT, raw_conv, rawC, opA, argT, Option.elim, wA, wB, wT, hnn, z50, z7, h7, List.map_cons, List.map_nil]
  subst hG
  have eF : List.take nn (List.map u82 E) = (E.take nn).map u82 := List.map_take.symm
  have hFl : (E.take nn).length = nn := by rw [List.length_take]; omega
  rw [eF, List.length_map]
  refine W_alone (W_named named8 (mk_loop (B.tmod 50 + 1) (by omega) _ _ _ (E.take nn) (by omega) (fun p hp => hb p (List.mem_of_mem_take hp)) _ _ (fun r8 j3 j4 j7 j8 j9 j10 j11 j12 j13 j14 j15 j16 j17 j18 j19 j20 j24 j25 j26 j27 j28 j29 j30 j31 j32 j33 j34 j35 j36 j37 j38 j39 j40 j41 j42 j43 j44 => W_run 80 ?_) (E.take nn).length 0 (by omega) _ _ _ _ _ _ _ _ _ _ _ _ _ _ _ _ _ _ _ _ _ _ _ _ _ _ _ _ _ _ _ _ _ _ _ _ _ _ _))
  have hgood : ∀ p, p ∈ (E.take nn).map (shE (B.tmod 50 + 1)) → bS 50 p := fun p hp => by
    obtain ⟨q, hq, rfl⟩ := List.mem_map.1 hp
    have := hb q (List.mem_of_mem_take hq)
    unfold bS at this
    obtain ⟨a1, a2⟩ := tmod_b (a := q.1) (n := B.tmod 50 + 1 + 1) this.1.1 (by omega)
    obtain ⟨a3, a4⟩ := tmod_b (a := q.2) (n := B.tmod 50 + 1 + 1) this.2.1 (by omega)
    unfold bS shE
    exact ⟨⟨a1, by simp only; omega⟩, a3, by simp only; omega⟩
  have hlen : ((E.take nn).map (shE (B.tmod 50 + 1))).length = nn := by rw [List.length_map]; exact hFl
  generalize (E.take nn).map (shE (B.tmod 50 + 1)) = L at *
  cases L with
  | nil => simp only [List.length_nil] at hlen; omega
  | cons x t =>
    simp only [hv2, hr2]
    simp only [go_some, go_none, go_zero, nxt_op, nxt_guard, nxt_skip, nxt_label, nxt_region, nxt_drawn, nxt_seq, nxt_block, nxt_scope, nxt_exit, nxt_blk, nxt_lp, nxt_cond, nxt_loop, nxt_ret, nxt_stop, nxt_nil, Eng.start, frG, frF, isCall, stp, exec1, exec1K, dK, Nat.reduceDiv, keyA, wantedA, stepF, stF_mv, stF_bin, stF_len, stF_un, stF_pick, stF_load, stF_iadr, stF_box, stF_fadr, stF_store, stF_ext, stF_fld, stF_idx, stF_aadr, stF_app, stF_bldS, stF_slc, stF_slcA, stF_bld, stF_isnil, stF_mki, stF_mkf, stF_mkb, stF_nilc, stF_mks, mapF_eq, evalF_eq, evalA, setAF, setA, setF_eq, putF_eq, lookF_eq, List.getD_cons_zero, List.getD_cons_succ, List.set_cons_zero, List.set_cons_succ, List.replicate, List.length_cons, List.length_nil, Nat.zero_add, Nat.reduceSub, Nat.reduceAdd, List.cons_append, List.nil_append, Option.getD, drop, Nat.beq, List.length_map, binV, binI, unV, if_true, Eng.asInt, Eng.part, cellsOf, toNat_cast, cast_nonneg, true_and, and_true, if_pos, giveOp, gvK, List.getElem?_cons_zero, List.getElem?_cons_succ, Bool.not_true, Bool.not_false, ofVal, eq_self, and_self, true_implies, dfF, touch, regF, quietF, pairOK, noCs, Go.Value.oneCell', decide_true, decide_false, Nat.mul_one, asBound, fullOf, Option.isSome_none, Option.isSome_some, Nat.zero_le, Bool.false_eq_true, false_implies, Int.cast_ofNat_Int, Int.reduceLT, Int.reduceLE, Int.reduceToNat, Nat.reduceMul, Int.le_refl, Eng.look, putAt, Nat.reduceEqDiff, reduceCtorEq, Nat.reduceBEq, if_false, List.all_cons, List.all_nil, tf_beq, ft_beq, lvSub, lvOK, isNone, width, solid, splice, List.take_zero, List.drop_zero, List.drop_nil, List.take_nil, List.drop_succ_cons, List.take_succ_cons, List.append_nil, beq_self_eq_true, Bool.and_true, Bool.true_and, Bool.and_self, ge_iff_le, gt_iff_lt, Nat.le_refl, Nat.reduceLeDiff, Nat.reduceLT, xf5_R0, ai]
    refine W_ret1 (WX_nil ⟨.inl rfl, _, rfl, _, ⟨x :: t, rfl, by simp, by omega, hgood⟩, ?_⟩)
    exact reify_shs (η := [(8, r8), (42, (1, some ⟨37, 2, (x :: t).map shA⟩))]) (k := 42) (g := 1) (e := 37) (l := x :: t) rfl
end Go.Proofs.Ytlgmabgpfaajhaa

