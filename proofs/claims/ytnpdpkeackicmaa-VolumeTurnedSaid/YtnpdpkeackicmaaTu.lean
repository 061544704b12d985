/-
  VolumeTurned: clones, slices.Reverse, the opposite order, the law.
-/
import Derived.Test.YtnpdpkeackicmaaVr
import Derived.Test.YtnpdpkeackicmaaWa
set_option linter.unusedSimpArgs false
set_option linter.unusedVariables false
namespace Go.Proofs.Ytnpdpkeackicmaa
open Go Go.Proofs.Eng
set_option maxRecDepth 100000
set_option maxHeartbeats 8000000
theorem putAt_twice (l : Heap) (k : Nat) (r q : Nat × Option Ob) : Go.Proofs.Eng.putAt (Go.Proofs.Eng.putAt l k r) k q = Go.Proofs.Eng.putAt l k q := by
  induction l with
  | nil => simp [Go.Proofs.Eng.putAt]
  | cons p l ih =>
    obtain ⟨a, b⟩ := p
    simp only [Go.Proofs.Eng.putAt]
    by_cases h1 : a = k
    · rw [if_pos h1, if_pos h1]
      simp only [Go.Proofs.Eng.putAt]
      rw [if_pos h1]
    · rw [if_neg h1, if_neg h1]
      by_cases h2 : k < a
      · rw [if_pos h2, if_pos h2]
        simp only [Go.Proofs.Eng.putAt, if_true]
      · rw [if_neg h2, if_neg h2]
        simp only [Go.Proofs.Eng.putAt]
        rw [if_neg h1, if_neg h2, ih]
/-- the articles cloned, whatever other rows there are -/
theorem cloneA_run (A : List (Int × Int)) (hn : A.length ≤ 100) (η : Heap) (hη : Go.Proofs.Eng.look η 1005 = (0, none)) :
    RunsR Try.prog xf 1000 38 [aS false A] η (.os 1005 1 A.length 2 0 A.length) (Go.Proofs.Eng.putAt η 1005 (1, some ⟨52, 2, A.map shA⟩)) := by
  have q1 : A.length * 16 ≤ 100000000000000 := by omega
  have q2 : A.length ≤ 100000000000000 := by omega
  refine RunsR.ofW (fn := xf38) (by kernel_rfl) (W_run 80 ?_)
  simp (maxSteps := 2000000) only [go_some, go_none, go_zero, nxt_op, nxt_guard, nxt_skip, nxt_label, nxt_region, nxt_drawn, nxt_seq, nxt_block, nxt_scope, nxt_exit, nxt_blk, nxt_lp, nxt_cond, nxt_loop, nxt_ret, nxt_stop, nxt_nil, Eng.start, frG, frF, isCall, stp, exec1, exec1K, dK, Nat.reduceDiv, keyA, wantedA, stepF, stF_mv, stF_bin, stF_len, stF_un, stF_pick, stF_load, stF_iadr, stF_box, stF_fadr, stF_store, stF_ext, stF_fld, stF_idx, stF_aadr, stF_app, stF_bldS, stF_slc, stF_slcA, stF_bld, stF_isnil, stF_mki, stF_mkf, stF_mkb, stF_nilc, stF_mks, stF_tas, mapF_eq, evalF_eq, evalA, setAF, setA, setF_eq, putF_eq, lookF_eq, List.getD_cons_zero, List.getD_cons_succ, List.set_cons_zero, List.set_cons_succ, List.replicate, List.length_cons, List.length_nil, Nat.zero_add, Nat.reduceSub, Nat.reduceAdd, List.cons_append, List.nil_append, Option.getD, drop, Nat.beq, List.length_map, binV, binI, unV, if_true, Eng.asInt, Eng.part, cellsOf, toNat_cast, cast_nonneg, true_and, and_true, if_pos, giveOp, gvK, List.getElem?_cons_zero, List.getElem?_cons_succ, Bool.not_true, Bool.not_false, ofVal, eq_self, and_self, true_implies, dfF, touch, regF, quietF, pairOK, noCs, Go.Value.oneCell', decide_true, decide_false, Nat.mul_one, asBound, fullOf, Option.isSome_none, Option.isSome_some, Nat.zero_le, Bool.false_eq_true, false_implies, Int.cast_ofNat_Int, Int.reduceLT, Int.reduceLE, Int.reduceToNat, Nat.reduceMul, Int.le_refl, Eng.look, putAt, Nat.reduceEqDiff, reduceCtorEq, Nat.reduceBEq, if_false, List.all_cons, List.all_nil, tf_beq, ft_beq, lvSub, lvOK, isNone, width, solid, splice, List.take_zero, List.drop_zero, List.drop_nil, List.take_nil, List.drop_succ_cons, List.take_succ_cons, List.append_nil, beq_self_eq_true, Bool.and_true, Bool.true_and, Bool.and_self, ge_iff_le, gt_iff_lt, Nat.le_refl, Nat.reduceLeDiff, Nat.reduceLT, xf38, ai, aS, nilA, hη, q1, q2, look_putAt, putAt_twice, Go.Proofs.Eng.elems, List.map_cons, List.map_nil, List.nil_append, Nat.add_zero]
  exact W_ret1 (WX_nil ⟨.inl rfl, _, rfl, rfl, rfl⟩)
theorem named1089 (j : Nat) : Go.Proofs.Eng.look [(1009, (1, (some (Ob.mk 3 1 []))))] j = Go.Proofs.Eng.look [(1008, (0, (none : Option Ob))), (1009, (1, (some (Ob.mk 3 1 []))))] j := by
  simp only [Go.Proofs.Eng.look]
  by_cases h : 1008 = j
  · subst h; simp
  · simp [h]
theorem fil_loopR (A : List (Int × Int)) (R : Int) (hn : A.length ≤ 1000) (hA : ∀ p, p ∈ A → gA p) (K : List Fr) (Q : Out → Cfg → Prop)
    (hK : (∀ p, p ∈ A → p.2 ≤ R) → ∀ (E : List Int) (b : Nat), E.length ≤ A.length → E ++ [(A.length : Int)] = filL R A → ∀ r8 : Nat × Option Ob, ∀ j2 j3 j7 j8 j9 j13 j14 j15 j16 j17 j18 j19 j20 j21 j22 j23 j24 j25 j26 j27 j28 j29 j30 j31 j32 j33 j34 j35 j36 j37 j38 j39 : AV, W Try.prog (RelU Try.prog xf) 1000 K ⟨((aS false A) :: (ai R) :: j2 :: j3 :: nilA :: (.os 1009 1 E.length 1 0 E.length) :: (ai b) :: j7 :: j8 :: j9 :: (aS false A) :: (ai A.length) :: (ai A.length) :: j13 :: j14 :: j15 :: j16 :: j17 :: j18 :: j19 :: j20 :: j21 :: j22 :: j23 :: j24 :: j25 :: j26 :: j27 :: j28 :: j29 :: j30 :: j31 :: j32 :: j33 :: j34 :: j35 :: j36 :: j37 :: j38 :: j39 :: []), [(1008, r8), (1009, (1, some ⟨3, 1, E.map ai⟩))]⟩ Q)
    (hR : (∃ p, p ∈ A ∧ R < p.2) → ∀ (E : List Int) (b : Nat) (i : Nat) (r8 : Nat × Option Ob), ∀ j2 j3 j7 j8 j9 j13 j14 j15 j16 j17 j18 j19 j20 j21 j22 j23 j24 j25 j26 j27 j28 j29 j30 j31 j32 j33 j34 j35 j36 j37 j38 j39 : AV, WX Try.prog (RelU Try.prog xf) 1000 K .ret ⟨((aS false A) :: (ai R) :: j2 :: j3 :: nilA :: (.os 1009 1 E.length 1 0 E.length) :: (ai b) :: j7 :: j8 :: j9 :: (aS false A) :: (ai A.length) :: (ai i) :: j13 :: j14 :: j15 :: j16 :: j17 :: j18 :: j19 :: j20 :: j21 :: j22 :: j23 :: j24 :: j25 :: j26 :: j27 :: j28 :: j29 :: j30 :: j31 :: j32 :: j33 :: j34 :: j35 :: j36 :: j37 :: j38 :: j39 :: []), [(1008, r8), (1009, (1, some ⟨3, 1, E.map ai⟩))]⟩ Q) :
    ∀ (k i : Nat), i + k = A.length → ∀ (E : List Int) (b : Nat), E.length ≤ i → b ≤ i → (∀ p, p ∈ A.take i → p.2 ≤ R) → E ++ fl R ((A.drop i).map Prod.snd) (smM (seg A b i)) i = filL R A → ∀ (g8 : Nat) (o8 : Option Ob), ∀ j2 j3 j7 j8 j9 j13 j14 j15 j16 j17 j18 j19 j20 j21 j22 j23 j24 j25 j26 j27 j28 j29 j30 j31 j32 j33 j34 j35 j36 j37 j38 j39 : AV, W Try.prog (RelU Try.prog xf) 1000 (.code (.loop xf44_L0) :: .blk 0 :: .stop :: K) ⟨((aS false A) :: (ai R) :: j2 :: j3 :: nilA :: (.os 1009 1 E.length 1 0 E.length) :: (ai b) :: j7 :: j8 :: j9 :: (aS false A) :: (ai A.length) :: (ai i) :: j13 :: j14 :: j15 :: j16 :: j17 :: j18 :: j19 :: j20 :: j21 :: j22 :: j23 :: j24 :: j25 :: j26 :: j27 :: j28 :: j29 :: j30 :: j31 :: j32 :: j33 :: j34 :: j35 :: j36 :: j37 :: j38 :: j39 :: []), [(1008, (g8, o8)), (1009, (1, some ⟨3, 1, E.map ai⟩))]⟩ Q := by
  intro k
  induction k with
  | zero =>
    intro i hi E b hE hb hall hinv g8 o8 j2 j3 j7 j8 j9 j13 j14 j15 j16 j17 j18 j19 j20 j21 j22 j23 j24 j25 j26 j27 j28 j29 j30 j31 j32 j33 j34 j35 j36 j37 j38 j39
    have : i = A.length := by omega
    subst this
    have h0 : decide (A.length < A.length) = false := by simp
    rw [List.take_length] at hall
    rw [List.drop_length] at hinv
    refine W_loop (W_run 80 ?_)
    simp (maxSteps := 2000000) only [go_some, go_none, go_zero, nxt_op, nxt_guard, nxt_skip, nxt_label, nxt_region, nxt_drawn, nxt_seq, nxt_block, nxt_scope, nxt_exit, nxt_blk, nxt_lp, nxt_cond, nxt_loop, nxt_ret, nxt_stop, nxt_nil, Eng.start, frG, frF, isCall, stp, exec1, exec1K, dK, Nat.reduceDiv, keyA, wantedA, stepF, stF_mv, stF_bin, stF_len, stF_un, stF_pick, stF_load, stF_iadr, stF_box, stF_fadr, stF_store, stF_ext, stF_fld, stF_idx, stF_aadr, stF_app, stF_bldS, stF_slc, stF_slcA, stF_bld, stF_isnil, stF_mki, stF_mkf, stF_mkb, stF_nilc, stF_mks, stF_tas, mapF_eq, evalF_eq, evalA, setAF, setA, setF_eq, putF_eq, lookF_eq, List.getD_cons_zero, List.getD_cons_succ, List.set_cons_zero, List.set_cons_succ, List.replicate, List.length_cons, List.length_nil, Nat.zero_add, Nat.reduceSub, Nat.reduceAdd, List.cons_append, List.nil_append, Option.getD, drop, Nat.beq, List.length_map, binV, binI, unV, if_true, Eng.asInt, Eng.part, cellsOf, toNat_cast, cast_nonneg, true_and, and_true, if_pos, giveOp, gvK, List.getElem?_cons_zero, List.getElem?_cons_succ, Bool.not_true, Bool.not_false, ofVal, eq_self, and_self, true_implies, dfF, touch, regF, quietF, pairOK, noCs, Go.Value.oneCell', decide_true, decide_false, Nat.mul_one, asBound, fullOf, Option.isSome_none, Option.isSome_some, Nat.zero_le, Bool.false_eq_true, false_implies, Int.cast_ofNat_Int, Int.reduceLT, Int.reduceLE, Int.reduceToNat, Nat.reduceMul, Int.le_refl, Eng.look, putAt, Nat.reduceEqDiff, reduceCtorEq, Nat.reduceBEq, if_false, List.all_cons, List.all_nil, tf_beq, ft_beq, lvSub, lvOK, isNone, width, solid, splice, List.take_zero, List.drop_zero, List.drop_nil, List.take_nil, List.drop_succ_cons, List.take_succ_cons, List.append_nil, beq_self_eq_true, Bool.and_true, Bool.true_and, Bool.and_self, ge_iff_le, gt_iff_lt, Nat.le_refl, Nat.reduceLeDiff, Nat.reduceLT, xf44_L0, ai, aS, lt_cast, h0]
    exact W_stop (hK hall E b hE hinv _ _ _ _ _ _ _ _ _ _ _ _ _ _ _ _ _ _ _ _ _ _ _ _ _ _ _ _ _ _ _ _ _)
  | succ k ih =>
    intro i hi E b hE hb hall hinv g8 o8 j2 j3 j7 j8 j9 j13 j14 j15 j16 j17 j18 j19 j20 j21 j22 j23 j24 j25 j26 j27 j28 j29 j30 j31 j32 j33 j34 j35 j36 j37 j38 j39
    have h1 : i < A.length := by omega
    have h0 : decide (i < A.length) = true := decide_eq_true h1
    have hp := hA _ (getD_mem (d := (0, 0)) h1)
    have hpm : A.getD i (0, 0) ∈ A := getD_mem h1
    unfold gA at hp
    by_cases hm : R < (A.getD i (0, 0)).2
    · have d1 : decide (R < (A.getD i (0, 0)).2) = true := decide_eq_true hm
      refine W_loop (W_run 80 ?_)
      simp (maxSteps := 2000000) only [go_some, go_none, go_zero, nxt_op, nxt_guard, nxt_skip, nxt_label, nxt_region, nxt_drawn, nxt_seq, nxt_block, nxt_scope, nxt_exit, nxt_blk, nxt_lp, nxt_cond, nxt_loop, nxt_ret, nxt_stop, nxt_nil, Eng.start, frG, frF, isCall, stp, exec1, exec1K, dK, Nat.reduceDiv, keyA, wantedA, stepF, stF_mv, stF_bin, stF_len, stF_un, stF_pick, stF_load, stF_iadr, stF_box, stF_fadr, stF_store, stF_ext, stF_fld, stF_idx, stF_aadr, stF_app, stF_bldS, stF_slc, stF_slcA, stF_bld, stF_isnil, stF_mki, stF_mkf, stF_mkb, stF_nilc, stF_mks, stF_tas, mapF_eq, evalF_eq, evalA, setAF, setA, setF_eq, putF_eq, lookF_eq, List.getD_cons_zero, List.getD_cons_succ, List.set_cons_zero, List.set_cons_succ, List.replicate, List.length_cons, List.length_nil, Nat.zero_add, Nat.reduceSub, Nat.reduceAdd, List.cons_append, List.nil_append, Option.getD, drop, Nat.beq, List.length_map, binV, binI, unV, if_true, Eng.asInt, Eng.part, cellsOf, toNat_cast, cast_nonneg, true_and, and_true, if_pos, giveOp, gvK, List.getElem?_cons_zero, List.getElem?_cons_succ, Bool.not_true, Bool.not_false, ofVal, eq_self, and_self, true_implies, dfF, touch, regF, quietF, pairOK, noCs, Go.Value.oneCell', decide_true, decide_false, Nat.mul_one, asBound, fullOf, Option.isSome_none, Option.isSome_some, Nat.zero_le, Bool.false_eq_true, false_implies, Int.cast_ofNat_Int, Int.reduceLT, Int.reduceLE, Int.reduceToNat, Nat.reduceMul, Int.le_refl, Eng.look, putAt, Nat.reduceEqDiff, reduceCtorEq, Nat.reduceBEq, if_false, List.all_cons, List.all_nil, tf_beq, ft_beq, lvSub, lvOK, isNone, width, solid, splice, List.take_zero, List.drop_zero, List.drop_nil, List.take_nil, List.drop_succ_cons, List.take_succ_cons, List.append_nil, beq_self_eq_true, Bool.and_true, Bool.true_and, Bool.and_self, ge_iff_le, gt_iff_lt, Nat.le_refl, Nat.reduceLeDiff, Nat.reduceLT, xf44_L0, ai, aS, lt_cast, h0, get_sh h1, shA, d1]
      exact W_ret1 (WX_pop (hR ⟨_, hpm, hm⟩ E b i _ _ _ _ _ _ _ _ _ _ _ _ _ _ _ _ _ _ _ _ _ _ _ _ _ _ _ _ _ _ _ _ _))
    · have d1 : decide (R < (A.getD i (0, 0)).2) = false := decide_eq_false hm
      have hall' : ∀ p, p ∈ A.take (i + 1) → p.2 ≤ R := fun p hp => by
        rw [take_snoc (d := (0, 0)) h1, List.mem_append, List.mem_singleton] at hp
        rcases hp with q | rfl
        · exact hall p q
        · omega
      have wi : IntKind.i64.wrap ((i : Int) + 1) = ((i + 1 : Nat) : Int) := by rw [wrap_id (by omega) (by omega)]; simp
      have b1 : b ≤ i + 1 := by omega
      have i1 : i + 1 ≤ A.length := by omega
      have hsm := seg_map A b (i + 1)
      have hsn := seg_snoc (b := b) h1 hb
      have hcall := linM_run false (seg A b (i + 1)) (Nat.le_trans (seg_len _ _ _) hn) fun p hp => hA p (seg_mem hp)
      have q1 : (E.length + 1) * 8 ≤ 100000000000000 := by omega
      have q2 : E.length + 1 ≤ 100000000000000 := by omega
      have hdr := drop_at (d := (0, 0)) h1
      rw [hdr, List.map_cons] at hinv
      have hsum : smM (seg A b (i + 1)) = smM (seg A b i) + (A.getD i (0, 0)).2 := by rw [hsn, smM_snoc]
      rw [fl, ← hsum] at hinv
      refine W_loop (W_run 80 ?_)
      simp (maxSteps := 2000000) only [go_some, go_none, go_zero, nxt_op, nxt_guard, nxt_skip, nxt_label, nxt_region, nxt_drawn, nxt_seq, nxt_block, nxt_scope, nxt_exit, nxt_blk, nxt_lp, nxt_cond, nxt_loop, nxt_ret, nxt_stop, nxt_nil, Eng.start, frG, frF, isCall, stp, exec1, exec1K, dK, Nat.reduceDiv, keyA, wantedA, stepF, stF_mv, stF_bin, stF_len, stF_un, stF_pick, stF_load, stF_iadr, stF_box, stF_fadr, stF_store, stF_ext, stF_fld, stF_idx, stF_aadr, stF_app, stF_bldS, stF_slc, stF_slcA, stF_bld, stF_isnil, stF_mki, stF_mkf, stF_mkb, stF_nilc, stF_mks, stF_tas, mapF_eq, evalF_eq, evalA, setAF, setA, setF_eq, putF_eq, lookF_eq, List.getD_cons_zero, List.getD_cons_succ, List.set_cons_zero, List.set_cons_succ, List.replicate, List.length_cons, List.length_nil, Nat.zero_add, Nat.reduceSub, Nat.reduceAdd, List.cons_append, List.nil_append, Option.getD, drop, Nat.beq, List.length_map, binV, binI, unV, if_true, Eng.asInt, Eng.part, cellsOf, toNat_cast, cast_nonneg, true_and, and_true, if_pos, giveOp, gvK, List.getElem?_cons_zero, List.getElem?_cons_succ, Bool.not_true, Bool.not_false, ofVal, eq_self, and_self, true_implies, dfF, touch, regF, quietF, pairOK, noCs, Go.Value.oneCell', decide_true, decide_false, Nat.mul_one, asBound, fullOf, Option.isSome_none, Option.isSome_some, Nat.zero_le, Bool.false_eq_true, false_implies, Int.cast_ofNat_Int, Int.reduceLT, Int.reduceLE, Int.reduceToNat, Nat.reduceMul, Int.le_refl, Eng.look, putAt, Nat.reduceEqDiff, reduceCtorEq, Nat.reduceBEq, if_false, List.all_cons, List.all_nil, tf_beq, ft_beq, lvSub, lvOK, isNone, width, solid, splice, List.take_zero, List.drop_zero, List.drop_nil, List.take_nil, List.drop_succ_cons, List.take_succ_cons, List.append_nil, beq_self_eq_true, Bool.and_true, Bool.true_and, Bool.and_self, ge_iff_le, gt_iff_lt, Nat.le_refl, Nat.reduceLeDiff, Nat.reduceLT, xf44_L0, ai, aS, lt_cast, h0, get_sh h1, shA, d1, wi, b1, i1, hsm, Go.Proofs.Eng.fullOf, Bool.false_and]
      refine W_call (args := [aS false (seg A b (i + 1)), .fn 54 []]) rfl (noRefs_ln _ _ _) hcall rfl (W_run 80 ?_)
      by_cases hc : R < smM (seg A b (i + 1))
      · have d2 : decide (R < smM (seg A b (i + 1))) = true := decide_eq_true hc
        rw [if_pos hc] at hinv
        have hone : smM (seg A i (i + 1)) = (A.getD i (0, 0)).2 := by
          rw [seg_snoc h1 (Nat.le_refl i), seg_self, List.nil_append]
          simp [smM, sumI]
        have next := ih (i + 1) (by omega) (E ++ [(i : Int)]) i (by simp; omega) (by omega) hall' (by rw [hone, List.append_assoc]; exact hinv)
        rw [List.length_append, List.map_append] at next
        simp (maxSteps := 2000000) only [go_some, go_none, go_zero, nxt_op, nxt_guard, nxt_skip, nxt_label, nxt_region, nxt_drawn, nxt_seq, nxt_block, nxt_scope, nxt_exit, nxt_blk, nxt_lp, nxt_cond, nxt_loop, nxt_ret, nxt_stop, nxt_nil, Eng.start, frG, frF, isCall, stp, exec1, exec1K, dK, Nat.reduceDiv, keyA, wantedA, stepF, stF_mv, stF_bin, stF_len, stF_un, stF_pick, stF_load, stF_iadr, stF_box, stF_fadr, stF_store, stF_ext, stF_fld, stF_idx, stF_aadr, stF_app, stF_bldS, stF_slc, stF_slcA, stF_bld, stF_isnil, stF_mki, stF_mkf, stF_mkb, stF_nilc, stF_mks, stF_tas, mapF_eq, evalF_eq, evalA, setAF, setA, setF_eq, putF_eq, lookF_eq, List.getD_cons_zero, List.getD_cons_succ, List.set_cons_zero, List.set_cons_succ, List.replicate, List.length_cons, List.length_nil, Nat.zero_add, Nat.reduceSub, Nat.reduceAdd, List.cons_append, List.nil_append, Option.getD, drop, Nat.beq, List.length_map, binV, binI, unV, if_true, Eng.asInt, Eng.part, cellsOf, toNat_cast, cast_nonneg, true_and, and_true, if_pos, giveOp, gvK, List.getElem?_cons_zero, List.getElem?_cons_succ, Bool.not_true, Bool.not_false, ofVal, eq_self, and_self, true_implies, dfF, touch, regF, quietF, pairOK, noCs, Go.Value.oneCell', decide_true, decide_false, Nat.mul_one, asBound, fullOf, Option.isSome_none, Option.isSome_some, Nat.zero_le, Bool.false_eq_true, false_implies, Int.cast_ofNat_Int, Int.reduceLT, Int.reduceLE, Int.reduceToNat, Nat.reduceMul, Int.le_refl, Eng.look, putAt, Nat.reduceEqDiff, reduceCtorEq, Nat.reduceBEq, if_false, List.all_cons, List.all_nil, tf_beq, ft_beq, lvSub, lvOK, isNone, width, solid, splice, List.take_zero, List.drop_zero, List.drop_nil, List.take_nil, List.drop_succ_cons, List.take_succ_cons, List.append_nil, beq_self_eq_true, Bool.and_true, Bool.true_and, Bool.and_self, ge_iff_le, gt_iff_lt, Nat.le_refl, Nat.reduceLeDiff, Nat.reduceLT, ai, aS, d2, wi, q1, q2, Go.Proofs.Eng.elems, List.map_cons, List.map_nil]
        exact next _ _ _ _ _ _ _ _ _ _ _ _ _ _ _ _ _ _ _ _ _ _ _ _ _ _ _ _ _ _ _ _ _ _
      · have d2 : decide (R < smM (seg A b (i + 1))) = false := decide_eq_false hc
        rw [if_neg hc] at hinv
        simp (maxSteps := 2000000) only [go_some, go_none, go_zero, nxt_op, nxt_guard, nxt_skip, nxt_label, nxt_region, nxt_drawn, nxt_seq, nxt_block, nxt_scope, nxt_exit, nxt_blk, nxt_lp, nxt_cond, nxt_loop, nxt_ret, nxt_stop, nxt_nil, Eng.start, frG, frF, isCall, stp, exec1, exec1K, dK, Nat.reduceDiv, keyA, wantedA, stepF, stF_mv, stF_bin, stF_len, stF_un, stF_pick, stF_load, stF_iadr, stF_box, stF_fadr, stF_store, stF_ext, stF_fld, stF_idx, stF_aadr, stF_app, stF_bldS, stF_slc, stF_slcA, stF_bld, stF_isnil, stF_mki, stF_mkf, stF_mkb, stF_nilc, stF_mks, stF_tas, mapF_eq, evalF_eq, evalA, setAF, setA, setF_eq, putF_eq, lookF_eq, List.getD_cons_zero, List.getD_cons_succ, List.set_cons_zero, List.set_cons_succ, List.replicate, List.length_cons, List.length_nil, Nat.zero_add, Nat.reduceSub, Nat.reduceAdd, List.cons_append, List.nil_append, Option.getD, drop, Nat.beq, List.length_map, binV, binI, unV, if_true, Eng.asInt, Eng.part, cellsOf, toNat_cast, cast_nonneg, true_and, and_true, if_pos, giveOp, gvK, List.getElem?_cons_zero, List.getElem?_cons_succ, Bool.not_true, Bool.not_false, ofVal, eq_self, and_self, true_implies, dfF, touch, regF, quietF, pairOK, noCs, Go.Value.oneCell', decide_true, decide_false, Nat.mul_one, asBound, fullOf, Option.isSome_none, Option.isSome_some, Nat.zero_le, Bool.false_eq_true, false_implies, Int.cast_ofNat_Int, Int.reduceLT, Int.reduceLE, Int.reduceToNat, Nat.reduceMul, Int.le_refl, Eng.look, putAt, Nat.reduceEqDiff, reduceCtorEq, Nat.reduceBEq, if_false, List.all_cons, List.all_nil, tf_beq, ft_beq, lvSub, lvOK, isNone, width, solid, splice, List.take_zero, List.drop_zero, List.drop_nil, List.take_nil, List.drop_succ_cons, List.take_succ_cons, List.append_nil, beq_self_eq_true, Bool.and_true, Bool.true_and, Bool.and_self, ge_iff_le, gt_iff_lt, Nat.le_refl, Nat.reduceLeDiff, Nat.reduceLT, ai, aS, d2, wi]
        exact ih (i + 1) (by omega) E b (by omega) (by omega) hall' hinv _ _ _ _ _ _ _ _ _ _ _ _ _ _ _ _ _ _ _ _ _ _ _ _ _ _ _ _ _ _ _ _ _ _
theorem fillR_run (A : List (Int × Int)) (R : Int) (hn : A.length ≤ 1000) (hA : ∀ p, p ∈ A → gA p) (hall : ∀ p, p ∈ A → p.2 ≤ R) : ∃ r8, RunsR Try.prog xf 1000 44 [aS false A, ai R] [] (.os 1009 1 (filL R A).length 1 0 (filL R A).length) [(1008, r8), (1009, (1, some ⟨3, 1, (filL R A).map ai⟩))] := by
  have key : W Try.prog (RelU Try.prog xf) 1000 [.code xf44.body] (Go.Proofs.Eng.start xf44 [aS false A, ai R] []) fun o c => (o = .ret ∨ o = .normal) ∧ ∃ r8 : Nat × Option Ob, ∃ rs, xf44.results.mapM (resOf Try.prog c) = some rs ∧ (.os 1009 1 (filL R A).length 1 0 (filL R A).length : AV) = retOf rs ∧ [(1008, r8), (1009, (1, some (Ob.mk 3 1 ((filL R A).map ai))))] = c.η := by
    refine W_run 80 ?_
    simp (maxSteps := 2000000) only [go_some, go_none, go_zero, nxt_op, nxt_guard, nxt_skip, nxt_label, nxt_region, nxt_drawn, nxt_seq, nxt_block, nxt_scope, nxt_exit, nxt_blk, nxt_lp, nxt_cond, nxt_loop, nxt_ret, nxt_stop, nxt_nil, Eng.start, frG, frF, isCall, stp, exec1, exec1K, dK, Nat.reduceDiv, keyA, wantedA, stepF, stF_mv, stF_bin, stF_len, stF_un, stF_pick, stF_load, stF_iadr, stF_box, stF_fadr, stF_store, stF_ext, stF_fld, stF_idx, stF_aadr, stF_app, stF_bldS, stF_slc, stF_slcA, stF_bld, stF_isnil, stF_mki, stF_mkf, stF_mkb, stF_nilc, stF_mks, stF_tas, mapF_eq, evalF_eq, evalA, setAF, setA, setF_eq, putF_eq, lookF_eq, List.getD_cons_zero, List.getD_cons_succ, List.set_cons_zero, List.set_cons_succ, List.replicate, List.length_cons, List.length_nil, Nat.zero_add, Nat.reduceSub, Nat.reduceAdd, List.cons_append, List.nil_append, Option.getD, drop, Nat.beq, List.length_map, binV, binI, unV, if_true, Eng.asInt, Eng.part, cellsOf, toNat_cast, cast_nonneg, true_and, and_true, if_pos, giveOp, gvK, List.getElem?_cons_zero, List.getElem?_cons_succ, Bool.not_true, Bool.not_false, ofVal, eq_self, and_self, true_implies, dfF, touch, regF, quietF, pairOK, noCs, Go.Value.oneCell', decide_true, decide_false, Nat.mul_one, asBound, fullOf, Option.isSome_none, Option.isSome_some, Nat.zero_le, Bool.false_eq_true, false_implies, Int.cast_ofNat_Int, Int.reduceLT, Int.reduceLE, Int.reduceToNat, Nat.reduceMul, Int.le_refl, Eng.look, putAt, Nat.reduceEqDiff, reduceCtorEq, Nat.reduceBEq, if_false, List.all_cons, List.all_nil, tf_beq, ft_beq, lvSub, lvOK, isNone, width, solid, splice, List.take_zero, List.drop_zero, List.drop_nil, List.take_nil, List.drop_succ_cons, List.take_succ_cons, List.append_nil, beq_self_eq_true, Bool.and_true, Bool.true_and, Bool.and_self, ge_iff_le, gt_iff_lt, Nat.le_refl, Nat.reduceLeDiff, Nat.reduceLT, xf44, ai, aS, List.map_nil]
    refine W_alone (W_named named1089 (fil_loopR A R hn hA _ _ (fun hall E b hE hinv r8 j2 j3 j7 j8 j9 j13 j14 j15 j16 j17 j18 j19 j20 j21 j22 j23 j24 j25 j26 j27 j28 j29 j30 j31 j32 j33 j34 j35 j36 j37 j38 j39 => W_run 80 ?_) (fun hex E b i r8 j2 j3 j7 j8 j9 j13 j14 j15 j16 j17 j18 j19 j20 j21 j22 j23 j24 j25 j26 j27 j28 j29 j30 j31 j32 j33 j34 j35 j36 j37 j38 j39 => ?_) A.length 0 (by omega) [] 0 (Nat.le_refl _) (Nat.le_refl _) (by simp) rfl _ _ _ _ _ _ _ _ _ _ _ _ _ _ _ _ _ _ _ _ _ _ _ _ _ _ _ _ _ _ _ _ _ _))
    · have q1 : (E.length + 1) * 8 ≤ 100000000000000 := by omega
      have q2 : E.length + 1 ≤ 100000000000000 := by omega
      have hl : (filL R A).length = E.length + 1 := by rw [← hinv]; simp
      have hm : (filL R A).map ai = E.map ai ++ [ai (A.length : Int)] := by rw [← hinv]; simp
      rw [hl, hm]
      simp (maxSteps := 2000000) only [go_some, go_none, go_zero, nxt_op, nxt_guard, nxt_skip, nxt_label, nxt_region, nxt_drawn, nxt_seq, nxt_block, nxt_scope, nxt_exit, nxt_blk, nxt_lp, nxt_cond, nxt_loop, nxt_ret, nxt_stop, nxt_nil, Eng.start, frG, frF, isCall, stp, exec1, exec1K, dK, Nat.reduceDiv, keyA, wantedA, stepF, stF_mv, stF_bin, stF_len, stF_un, stF_pick, stF_load, stF_iadr, stF_box, stF_fadr, stF_store, stF_ext, stF_fld, stF_idx, stF_aadr, stF_app, stF_bldS, stF_slc, stF_slcA, stF_bld, stF_isnil, stF_mki, stF_mkf, stF_mkb, stF_nilc, stF_mks, stF_tas, mapF_eq, evalF_eq, evalA, setAF, setA, setF_eq, putF_eq, lookF_eq, List.getD_cons_zero, List.getD_cons_succ, List.set_cons_zero, List.set_cons_succ, List.replicate, List.length_cons, List.length_nil, Nat.zero_add, Nat.reduceSub, Nat.reduceAdd, List.cons_append, List.nil_append, Option.getD, drop, Nat.beq, List.length_map, binV, binI, unV, if_true, Eng.asInt, Eng.part, cellsOf, toNat_cast, cast_nonneg, true_and, and_true, if_pos, giveOp, gvK, List.getElem?_cons_zero, List.getElem?_cons_succ, Bool.not_true, Bool.not_false, ofVal, eq_self, and_self, true_implies, dfF, touch, regF, quietF, pairOK, noCs, Go.Value.oneCell', decide_true, decide_false, Nat.mul_one, asBound, fullOf, Option.isSome_none, Option.isSome_some, Nat.zero_le, Bool.false_eq_true, false_implies, Int.cast_ofNat_Int, Int.reduceLT, Int.reduceLE, Int.reduceToNat, Nat.reduceMul, Int.le_refl, Eng.look, putAt, Nat.reduceEqDiff, reduceCtorEq, Nat.reduceBEq, if_false, List.all_cons, List.all_nil, tf_beq, ft_beq, lvSub, lvOK, isNone, width, solid, splice, List.take_zero, List.drop_zero, List.drop_nil, List.take_nil, List.drop_succ_cons, List.take_succ_cons, List.append_nil, beq_self_eq_true, Bool.and_true, Bool.true_and, Bool.and_self, ge_iff_le, gt_iff_lt, Nat.le_refl, Nat.reduceLeDiff, Nat.reduceLT, xf44_R0, ai, aS, q1, q2, Go.Proofs.Eng.elems, List.map_cons, List.map_nil]
      exact W_ret1 (WX_nil ⟨.inl rfl, r8, _, rfl, rfl, rfl⟩)
    · exfalso
      obtain ⟨p, hp, hr⟩ := hex
      have := hall p hp
      omega
  obtain ⟨o, c, h1, ho, r8, rs, h2, h3, h4⟩ := key
  exact ⟨r8, RunsR.ofW (fn := xf44) (by kernel_rfl) ⟨o, c, h1, ho, rs, h2, h3, h4⟩⟩
theorem RunsN.ofW {P : Program} {xf : Nat → Option XFunc} {f : Nat} {fn : XFunc} {args : List AV} {r : AV} (hf : xf f = some fn)
    (h : W P (RelU P xf) 0 [.code fn.body] (Go.Proofs.Eng.start fn args []) fun o c => (o = .ret ∨ o = .normal) ∧ ∃ rs, fn.results.mapM (resOf P c) = some rs ∧ reifyN c.η (retOf rs) = some r) : RunsN P xf f args r := by
  obtain ⟨o, c, ⟨o1, c1, h1, ⟨rfl, rfl⟩, _⟩, ho, rs, h3, h4⟩ := h
  exact RunsN.of hf h1 ho h3 h4
theorem few_N (A : List (Int × Int)) (R F : Int) (hg : gB A R F) : RunsN Try.prog xf 13 [bkA false A R F] (fewR A R) := by
  have hck := check_run false A R F hg
  have n00 : ((0 : Int) != 0) = false := rfl
  have hn1 := hg.n1
  refine RunsN.ofW (fn := xf13) (by kernel_rfl) (W_run 80 ?_)
  simp (maxSteps := 2000000) only [go_some, go_none, go_zero, nxt_op, nxt_guard, nxt_skip, nxt_label, nxt_region, nxt_drawn, nxt_seq, nxt_block, nxt_scope, nxt_exit, nxt_blk, nxt_lp, nxt_cond, nxt_loop, nxt_ret, nxt_stop, nxt_nil, Eng.start, frG, frF, isCall, stp, exec1, exec1K, dK, Nat.reduceDiv, keyA, wantedA, stepF, stF_mv, stF_bin, stF_len, stF_un, stF_pick, stF_load, stF_iadr, stF_box, stF_fadr, stF_store, stF_ext, stF_fld, stF_idx, stF_aadr, stF_app, stF_bldS, stF_slc, stF_slcA, stF_bld, stF_isnil, stF_mki, stF_mkf, stF_mkb, stF_nilc, stF_mks, stF_tas, mapF_eq, evalF_eq, evalA, setAF, setA, setF_eq, putF_eq, lookF_eq, List.getD_cons_zero, List.getD_cons_succ, List.set_cons_zero, List.set_cons_succ, List.replicate, List.length_cons, List.length_nil, Nat.zero_add, Nat.reduceSub, Nat.reduceAdd, List.cons_append, List.nil_append, Option.getD, drop, Nat.beq, List.length_map, binV, binI, unV, if_true, Eng.asInt, Eng.part, cellsOf, toNat_cast, cast_nonneg, true_and, and_true, if_pos, giveOp, gvK, List.getElem?_cons_zero, List.getElem?_cons_succ, Bool.not_true, Bool.not_false, ofVal, eq_self, and_self, true_implies, dfF, touch, regF, quietF, pairOK, noCs, Go.Value.oneCell', decide_true, decide_false, Nat.mul_one, asBound, fullOf, Option.isSome_none, Option.isSome_some, Nat.zero_le, Bool.false_eq_true, false_implies, Int.cast_ofNat_Int, Int.reduceLT, Int.reduceLE, Int.reduceToNat, Nat.reduceMul, Int.le_refl, Eng.look, putAt, Nat.reduceEqDiff, reduceCtorEq, Nat.reduceBEq, if_false, List.all_cons, List.all_nil, tf_beq, ft_beq, lvSub, lvOK, isNone, width, solid, splice, List.take_zero, List.drop_zero, List.drop_nil, List.take_nil, List.drop_succ_cons, List.take_succ_cons, List.append_nil, beq_self_eq_true, Bool.and_true, Bool.true_and, Bool.and_self, ge_iff_le, gt_iff_lt, Nat.le_refl, Nat.reduceLeDiff, Nat.reduceLT, xf13, ai, aS, bkA]
  refine W_call (args := [bkA false A R F]) rfl (noRefs_1 (noRef_bk _ _ _ _)) hck rfl (W_run 80 ?_)
  simp (maxSteps := 2000000) only [go_some, go_none, go_zero, nxt_op, nxt_guard, nxt_skip, nxt_label, nxt_region, nxt_drawn, nxt_seq, nxt_block, nxt_scope, nxt_exit, nxt_blk, nxt_lp, nxt_cond, nxt_loop, nxt_ret, nxt_stop, nxt_nil, Eng.start, frG, frF, isCall, stp, exec1, exec1K, dK, Nat.reduceDiv, keyA, wantedA, stepF, stF_mv, stF_bin, stF_len, stF_un, stF_pick, stF_load, stF_iadr, stF_box, stF_fadr, stF_store, stF_ext, stF_fld, stF_idx, stF_aadr, stF_app, stF_bldS, stF_slc, stF_slcA, stF_bld, stF_isnil, stF_mki, stF_mkf, stF_mkb, stF_nilc, stF_mks, stF_tas, mapF_eq, evalF_eq, evalA, setAF, setA, setF_eq, putF_eq, lookF_eq, List.getD_cons_zero, List.getD_cons_succ, List.set_cons_zero, List.set_cons_succ, List.replicate, List.length_cons, List.length_nil, Nat.zero_add, Nat.reduceSub, Nat.reduceAdd, List.cons_append, List.nil_append, Option.getD, drop, Nat.beq, List.length_map, binV, binI, unV, if_true, Eng.asInt, Eng.part, cellsOf, toNat_cast, cast_nonneg, true_and, and_true, if_pos, giveOp, gvK, List.getElem?_cons_zero, List.getElem?_cons_succ, Bool.not_true, Bool.not_false, ofVal, eq_self, and_self, true_implies, dfF, touch, regF, quietF, pairOK, noCs, Go.Value.oneCell', decide_true, decide_false, Nat.mul_one, asBound, fullOf, Option.isSome_none, Option.isSome_some, Nat.zero_le, Bool.false_eq_true, false_implies, Int.cast_ofNat_Int, Int.reduceLT, Int.reduceLE, Int.reduceToNat, Nat.reduceMul, Int.le_refl, Eng.look, putAt, Nat.reduceEqDiff, reduceCtorEq, Nat.reduceBEq, if_false, List.all_cons, List.all_nil, tf_beq, ft_beq, lvSub, lvOK, isNone, width, solid, splice, List.take_zero, List.drop_zero, List.drop_nil, List.take_nil, List.drop_succ_cons, List.take_succ_cons, List.append_nil, beq_self_eq_true, Bool.and_true, Bool.true_and, Bool.and_self, ge_iff_le, gt_iff_lt, Nat.le_refl, Nat.reduceLeDiff, Nat.reduceLT, ai, aS, n00]
  unfold fewR
  by_cases hall : ∀ p, p ∈ A → p.2 ≤ R
  · rw [if_pos hall]
    obtain ⟨r8, hfl⟩ := fillR_run A R (by omega) hg.art hall
    have hl := fil_len R A
    have e1 : (((filL R A).length : Int) == 0) = false := by rw [beq_eq_false_iff_ne]; omega
    refine W_callR (kb' := 1000) rfl hfl rfl (W_run 80 ?_)
    simp (maxSteps := 2000000) only [go_some, go_none, go_zero, nxt_op, nxt_guard, nxt_skip, nxt_label, nxt_region, nxt_drawn, nxt_seq, nxt_block, nxt_scope, nxt_exit, nxt_blk, nxt_lp, nxt_cond, nxt_loop, nxt_ret, nxt_stop, nxt_nil, Eng.start, frG, frF, isCall, stp, exec1, exec1K, dK, Nat.reduceDiv, keyA, wantedA, stepF, stF_mv, stF_bin, stF_len, stF_un, stF_pick, stF_load, stF_iadr, stF_box, stF_fadr, stF_store, stF_ext, stF_fld, stF_idx, stF_aadr, stF_app, stF_bldS, stF_slc, stF_slcA, stF_bld, stF_isnil, stF_mki, stF_mkf, stF_mkb, stF_nilc, stF_mks, stF_tas, mapF_eq, evalF_eq, evalA, setAF, setA, setF_eq, putF_eq, lookF_eq, List.getD_cons_zero, List.getD_cons_succ, List.set_cons_zero, List.set_cons_succ, List.replicate, List.length_cons, List.length_nil, Nat.zero_add, Nat.reduceSub, Nat.reduceAdd, List.cons_append, List.nil_append, Option.getD, drop, Nat.beq, List.length_map, binV, binI, unV, if_true, Eng.asInt, Eng.part, cellsOf, toNat_cast, cast_nonneg, true_and, and_true, if_pos, giveOp, gvK, List.getElem?_cons_zero, List.getElem?_cons_succ, Bool.not_true, Bool.not_false, ofVal, eq_self, and_self, true_implies, dfF, touch, regF, quietF, pairOK, noCs, Go.Value.oneCell', decide_true, decide_false, Nat.mul_one, asBound, fullOf, Option.isSome_none, Option.isSome_some, Nat.zero_le, Bool.false_eq_true, false_implies, Int.cast_ofNat_Int, Int.reduceLT, Int.reduceLE, Int.reduceToNat, Nat.reduceMul, Int.le_refl, Eng.look, putAt, Nat.reduceEqDiff, reduceCtorEq, Nat.reduceBEq, if_false, List.all_cons, List.all_nil, tf_beq, ft_beq, lvSub, lvOK, isNone, width, solid, splice, List.take_zero, List.drop_zero, List.drop_nil, List.take_nil, List.drop_succ_cons, List.take_succ_cons, List.append_nil, beq_self_eq_true, Bool.and_true, Bool.true_and, Bool.and_self, ge_iff_le, gt_iff_lt, Nat.le_refl, Nat.reduceLeDiff, Nat.reduceLT, ai, al, e1]
    refine W_ret1 (WX_nil ⟨.inl rfl, _, rfl, ?_⟩)
    generalize filL R A = E at *
    have hrow : rowN [(1008, r8), (1009, (1, some (Ob.mk 3 1 (E.map ai))))] (.os 1009 1 E.length 1 0 E.length) = some (al false E) := by
      simp only [rowN, Go.Proofs.Eng.look, if_true, Nat.reduceEqDiff, if_false]
      have ht : List.take E.length (E.map ai) = E.map ai := List.take_of_length_le (by simp)
      rw [if_pos]
      · simp [al, ht]
      · refine ⟨trivial, by simp, trivial, by simp, ?_⟩
        rw [List.drop_zero, ht, List.all_eq_true]
        intro x hx
        obtain ⟨z, _, rfl⟩ := List.mem_map.1 hx
        rfl
    show ([.os 1009 1 E.length 1 0 E.length, ai 0].mapM (rowN _)).map AV.tup = _
    rw [List.mapM_cons, hrow]; rfl
  · rw [if_neg hall]
    have hfl := fill_run A R (by omega) hg.art
    rw [if_neg hall] at hfl
    have e1 : ((0 : Int) == 0) = true := rfl
    refine W_call (args := [aS false A, ai R]) rfl (noRefs_2 (noRef_aS _ _) rfl) hfl rfl (W_run 80 ?_)
    simp (maxSteps := 2000000) only [go_some, go_none, go_zero, nxt_op, nxt_guard, nxt_skip, nxt_label, nxt_region, nxt_drawn, nxt_seq, nxt_block, nxt_scope, nxt_exit, nxt_blk, nxt_lp, nxt_cond, nxt_loop, nxt_ret, nxt_stop, nxt_nil, Eng.start, frG, frF, isCall, stp, exec1, exec1K, dK, Nat.reduceDiv, keyA, wantedA, stepF, stF_mv, stF_bin, stF_len, stF_un, stF_pick, stF_load, stF_iadr, stF_box, stF_fadr, stF_store, stF_ext, stF_fld, stF_idx, stF_aadr, stF_app, stF_bldS, stF_slc, stF_slcA, stF_bld, stF_isnil, stF_mki, stF_mkf, stF_mkb, stF_nilc, stF_mks, stF_tas, mapF_eq, evalF_eq, evalA, setAF, setA, setF_eq, putF_eq, lookF_eq, List.getD_cons_zero, List.getD_cons_succ, List.set_cons_zero, List.set_cons_succ, List.replicate, List.length_cons, List.length_nil, Nat.zero_add, Nat.reduceSub, Nat.reduceAdd, List.cons_append, List.nil_append, Option.getD, drop, Nat.beq, List.length_map, binV, binI, unV, if_true, Eng.asInt, Eng.part, cellsOf, toNat_cast, cast_nonneg, true_and, and_true, if_pos, giveOp, gvK, List.getElem?_cons_zero, List.getElem?_cons_succ, Bool.not_true, Bool.not_false, ofVal, eq_self, and_self, true_implies, dfF, touch, regF, quietF, pairOK, noCs, Go.Value.oneCell', decide_true, decide_false, Nat.mul_one, asBound, fullOf, Option.isSome_none, Option.isSome_some, Nat.zero_le, Bool.false_eq_true, false_implies, Int.cast_ofNat_Int, Int.reduceLT, Int.reduceLE, Int.reduceToNat, Nat.reduceMul, Int.le_refl, Eng.look, putAt, Nat.reduceEqDiff, reduceCtorEq, Nat.reduceBEq, if_false, List.all_cons, List.all_nil, tf_beq, ft_beq, lvSub, lvOK, isNone, width, solid, splice, List.take_zero, List.drop_zero, List.drop_nil, List.take_nil, List.drop_succ_cons, List.take_succ_cons, List.append_nil, beq_self_eq_true, Bool.and_true, Bool.true_and, Bool.and_self, ge_iff_le, gt_iff_lt, Nat.le_refl, Nat.reduceLeDiff, Nat.reduceLT, ai, al, nilA, e1]
    exact W_ret1 (WX_pop (WX_nil ⟨.inl rfl, _, rfl, rfl⟩))
def sI : List Int → Int
  | [] => 0
  | x :: t => x + sI t
theorem sI_app : ∀ (s t : List Int), sI (s ++ t) = sI s + sI t
  | [], t => by simp [sI]
  | x :: s, t => by rw [List.cons_append, sI, sI, sI_app s t]; omega
theorem sI_rev : ∀ s : List Int, sI s.reverse = sI s
  | [] => rfl
  | x :: s => by rw [List.reverse_cons, sI_app, sI_rev s]; simp only [sI]; omega
theorem sI_nn : ∀ s : List Int, (∀ x, x ∈ s → 0 ≤ x) → 0 ≤ sI s
  | [], _ => Int.le_refl _
  | x :: s, h => by
    have := h x List.mem_cons_self
    have := sI_nn s fun y hy => h y (List.mem_cons_of_mem _ hy)
    simp only [sI]; omega
theorem fold_sI : ∀ (l : List Int) (z : Int), l.foldl (· + ·) z = z + sI l
  | [], z => by simp [sI]
  | x :: l, z => by rw [List.foldl_cons, fold_sI l]; simp only [sI]; omega
theorem sumI_rev (l : List Int) : sumI l.reverse = sumI l := by unfold sumI; rw [fold_sI, fold_sI, sI_rev]
theorem smM_rev (l : List (Int × Int)) : smM l.reverse = smM l := by unfold smM; rw [List.map_reverse, sumI_rev]
theorem smL_rev (l : List (Int × Int)) : smL l.reverse = smL l := by unfold smL; rw [List.map_reverse, sumI_rev]
/-- what fits puts no end -/
theorem nb_fit {R : Int} (t : List Int) : ∀ (s : List Int) (c : Int), (∀ x, x ∈ s → 0 ≤ x) → c + sI s ≤ R → nb R (s ++ t) c = nb R t (c + sI s)
  | [], c, _, _ => by simp [sI]
  | m :: s, c, h, hc => by
    have h0 := sI_nn s fun y hy => h y (List.mem_cons_of_mem _ hy)
    simp only [sI] at hc ⊢
    rw [List.cons_append, nb, if_neg (by omega), nb_fit t s (c + m) (fun y hy => h y (List.mem_cons_of_mem _ hy)) (by omega), Int.add_assoc]
/-- what fits one volume puts at most one end -/
theorem nb_one {R : Int} (t : List Int) : ∀ (s : List Int) (c : Int), (∀ x, x ∈ s → 0 ≤ x) → sI s ≤ R → 0 ≤ c → c ≤ R → ∃ c', 0 ≤ c' ∧ c' ≤ R ∧ nb R (s ++ t) c ≤ nb R t c' + 1
  | [], c, _, _, h0, h1 => ⟨c, h0, h1, by simp⟩
  | m :: s, c, h, hs, h0, h1 => by
    have hm := h m List.mem_cons_self
    have ht : ∀ y, y ∈ s → 0 ≤ y := fun y hy => h y (List.mem_cons_of_mem _ hy)
    have hn := sI_nn s ht
    simp only [sI] at hs
    rw [List.cons_append, nb]
    by_cases a : c + m > R
    · rw [if_pos a, nb_fit t s m ht (by omega)]
      exact ⟨m + sI s, by omega, by omega, Nat.le_refl _⟩
    · rw [if_neg a]
      exact nb_one t s (c + m) ht (by omega) (by omega) (by omega)
theorem nb_flat {R : Int} : ∀ (S : List (List Int)) (c : Int), (∀ s, s ∈ S → (∀ x, x ∈ s → 0 ≤ x) ∧ sI s ≤ R) → 0 ≤ c → c ≤ R → nb R S.flatten c ≤ S.length
  | [], c, _, _, _ => Nat.le_refl _
  | s :: S, c, h, h0, h1 => by
    have hs := h s List.mem_cons_self
    obtain ⟨c', a, b, q⟩ := nb_one S.flatten s c hs.1 hs.2 h0 h1
    have := nb_flat S c' (fun x hx => h x (List.mem_cons_of_mem _ hx)) a b
    rw [List.flatten_cons, List.length_cons]
    omega
theorem nb_cut {R : Int} : ∀ (t : List Int) (c : Int), (∀ x, x ∈ t → 0 ≤ x ∧ x ≤ R) → 0 ≤ c → c ≤ R → ∃ (s0 : List Int) (S : List (List Int)), t = s0 ++ S.flatten ∧ c + sI s0 ≤ R ∧ (∀ s, s ∈ S → sI s ≤ R) ∧ S.length = nb R t c
  | [], c, _, _, h1 => ⟨[], [], rfl, by simpa [sI] using h1, (fun s hs => by cases hs), rfl⟩
  | m :: t, c, h, h0, h1 => by
    have hm := h m List.mem_cons_self
    have ht : ∀ y, y ∈ t → 0 ≤ y ∧ y ≤ R := fun y hy => h y (List.mem_cons_of_mem _ hy)
    rw [nb]
    by_cases a : c + m > R
    · rw [if_pos a]
      obtain ⟨s0, S, e1, e2, e3, e4⟩ := nb_cut t m ht hm.1 hm.2
      refine ⟨[], (m :: s0) :: S, by rw [List.flatten_cons, List.nil_append, List.cons_append, e1], by simpa [sI] using h1, fun s hs => ?_, by rw [List.length_cons, e4]⟩
      rcases List.mem_cons.1 hs with rfl | hs
      · simpa [sI] using e2
      · exact e3 s hs
    · rw [if_neg a]
      obtain ⟨s0, S, e1, e2, e3, e4⟩ := nb_cut t (c + m) ht (by omega) (by omega)
      refine ⟨m :: s0, S, by rw [List.cons_append, ← e1], by simp only [sI]; omega, e3, e4⟩
theorem nb_rev_le {R : Int} (t : List Int) (h : ∀ x, x ∈ t → 0 ≤ x ∧ x ≤ R) (hR : 0 ≤ R) : nb R t.reverse 0 ≤ nb R t 0 := by
  obtain ⟨s0, S, e1, e2, e3, e4⟩ := nb_cut t 0 h (Int.le_refl _) hR
  have hall : ∀ s, s ∈ (s0 :: S) → (∀ x, x ∈ s → 0 ≤ x) ∧ sI s ≤ R := fun s hs => by
    constructor
    · intro x hx
      refine (h x ?_).1
      rw [e1]
      rcases List.mem_cons.1 hs with rfl | hs
      · exact List.mem_append_left _ hx
      · exact List.mem_append_right _ (List.mem_flatten.2 ⟨s, hs, hx⟩)
    · rcases List.mem_cons.1 hs with rfl | hs
      · omega
      · exact e3 s hs
  have hrev : t.reverse = (((s0 :: S).map List.reverse).reverse).flatten := by
    rw [e1, ← List.flatten_cons, List.reverse_flatten]
  have hl : (((s0 :: S).map List.reverse).reverse).length = nb R t 0 + 1 := by rw [List.length_reverse, List.length_map, List.length_cons, e4]
  have hall2 : ∀ s, s ∈ ((s0 :: S).map List.reverse).reverse → (∀ x, x ∈ s → 0 ≤ x) ∧ sI s ≤ R := fun s hs => by
    obtain ⟨s', h1, rfl⟩ := List.mem_map.1 (List.mem_reverse.1 hs)
    have := hall s' h1
    exact ⟨fun x hx => this.1 x (List.mem_reverse.1 hx), by rw [sI_rev]; exact this.2⟩
  generalize ((s0 :: S).map List.reverse).reverse = T at *
  cases T with
  | nil => cases hl
  | cons s T =>
    rw [List.length_cons] at hl
    have hs := hall2 s List.mem_cons_self
    have hn := sI_nn s hs.1
    rw [hrev, List.flatten_cons, nb_fit T.flatten s 0 hs.1 (by omega)]
    have := nb_flat T (0 + sI s) (fun x hx => hall2 x (List.mem_cons_of_mem _ hx)) (by omega) (by omega)
    omega
theorem nb_rev {R : Int} (t : List Int) (h : ∀ x, x ∈ t → 0 ≤ x ∧ x ≤ R) (hR : 0 ≤ R) : nb R t.reverse 0 = nb R t 0 := by
  have h1 := nb_rev_le t h hR
  have h2 := nb_rev_le t.reverse (fun x hx => h x (List.mem_reverse.1 hx)) hR
  rw [List.reverse_reverse] at h2
  omega
theorem nb_revA {R : Int} {A : List (Int × Int)} (hA : ∀ p, p ∈ A → gA p) (hall : ∀ p, p ∈ A → p.2 ≤ R) (hR : 0 ≤ R) : nb R (A.reverse.map Prod.snd) 0 = nb R (A.map Prod.snd) 0 := by
  rw [List.map_reverse]
  refine nb_rev _ (fun x hx => ?_) hR
  obtain ⟨p, hp, rfl⟩ := List.mem_map.1 hx
  have := hA p hp
  have := hall p hp
  unfold gA at *
  omega
theorem okL_rev {A : List (Int × Int)} (hA : ∀ p, p ∈ A → gA p) {v r : Int} (hr : 0 ≤ r) : okL A.reverse v r ↔ okL A v r := by
  unfold okL
  constructor
  · rintro ⟨h1, h2⟩
    have h1' : ∀ p, p ∈ A → p.2 ≤ r := fun p hp => h1 p (List.mem_reverse.2 hp)
    rw [nb_revA hA h1' hr] at h2
    exact ⟨h1', h2⟩
  · rintro ⟨h1, h2⟩
    rw [nb_revA hA h1 hr]
    exact ⟨fun p hp => h1 p (List.mem_reverse.1 hp), h2⟩
/-! how many cuts -/
def sg (g : Nat → Nat) : Nat → Nat
  | 0 => 0
  | m + 1 => sg g m + g m
theorem sg_ext {g g' : Nat → Nat} : ∀ m, (∀ j, j < m → g j = g' j) → sg g m = sg g' m
  | 0, _ => rfl
  | m + 1, h => by rw [sg, sg, sg_ext m fun j hj => h j (by omega), h m (by omega)]
theorem sg_add (g g' : Nat → Nat) : ∀ m, sg (fun j => g j + g' j) m = sg g m + sg g' m
  | 0 => rfl
  | m + 1 => by rw [sg, sg, sg, sg_add g g' m]; omega
theorem sg_mulr (g : Nat → Nat) (c : Nat) : ∀ m, sg (fun j => g j * c) m = sg g m * c
  | 0 => by simp [sg]
  | m + 1 => by rw [sg, sg, sg_mulr g c m, Nat.add_mul]
theorem sg_mull (g : Nat → Nat) (c : Nat) (m : Nat) : sg (fun j => c * g j) m = c * sg g m := by
  rw [Nat.mul_comm c, ← sg_mulr]
  exact sg_ext m fun j _ => Nat.mul_comm _ _
theorem sg_zero {g : Nat → Nat} : ∀ m, (∀ j, j < m → g j = 0) → sg g m = 0
  | 0, _ => rfl
  | m + 1, h => by rw [sg, sg_zero m fun j hj => h j (by omega), h m (by omega)]
theorem sg_pick (g : Nat → Nat) (k : Nat) : ∀ m, k < m → sg (fun j => if k ≤ j then g j else 0) m = sg (fun j => if k + 1 ≤ j then g j else 0) m + g k
  | 0, h => by omega
  | m + 1, h => by
    rw [sg, sg]
    by_cases q : k = m
    · subst q
      rw [if_pos (Nat.le_refl _), if_neg (by omega), sg_zero k fun j hj => if_neg (by omega), sg_zero k fun j hj => if_neg (by omega)]
    · have := sg_pick g k m (by omega)
      rw [if_pos (by omega), if_pos (by omega)]
      omega
theorem sg_rng (g : Nat → Nat) (s : Nat) : ∀ k, ((List.range' s k).map g).sum = sg (fun j => if s ≤ j then g j else 0) (s + k)
  | 0 => by rw [sg_zero (s + 0) fun j hj => if_neg (by omega)]; rfl
  | k + 1 => by
    rw [List.range'_concat, List.map_append, List.sum_append, sg_rng g s k, ← Nat.add_assoc, sg, if_pos (by omega)]
    simp
theorem sg_back (g : Nat → Nat) (n : Nat) : ∀ j, j ≤ n → ((List.range' (n - j + 1) j).map g).sum = sg (fun i => g (n - i)) j
  | 0, _ => rfl
  | j + 1, h => by
    rw [List.range'_succ, List.map_cons, List.sum_cons, show n - (j + 1) + 1 = n - j by omega, sg_back g n j (by omega), sg]
    omega
def ic (b : Bool) : Nat := if b = true then 1 else 0
theorem cts_sum (ok : Nat → Nat → Bool) {n b : Nat} (h : b < n) : (cts ok n b).length = ((List.range' (b + 1) (n - b)).map fun e => ic (ok b e) * (cts ok n e).length).sum := by
  rw [cts_rec ok h, List.length_flatMap]
  congr 1
  refine List.map_congr_left fun e _ => ?_
  unfold ctG ic
  split
  · rw [List.length_map, Nat.one_mul]
  · rw [List.length_nil, Nat.zero_mul]
theorem cts_fore (ok : Nat → Nat → Bool) {n b : Nat} (h : b < n) : (cts ok n b).length = sg (fun j => if b + 1 ≤ j then ic (ok b j) * (cts ok n j).length else 0) (n + 1) := by
  rw [cts_sum ok h, sg_rng, show b + 1 + (n - b) = n + 1 by omega]
/-- every way crosses the line in front of k just once -/
theorem paths (n : Nat) (o : Nat → Nat → Nat) (f h : Nat → Nat) (hf : ∀ b, b < n → f b = sg (fun j => if b + 1 ≤ j then o b j * f j else 0) (n + 1)) (hfn : f n = 1) (hh0 : h 0 = 1) (hh : ∀ j, 0 < j → j ≤ n → h j = sg (fun i => o i j * h i) j) (hn : 0 < n) : f 0 = h n := by
  have step : ∀ k, 1 ≤ k → k ≤ n → sg (fun i => sg (fun j => if k ≤ j then h i * (o i j * f j) else 0) (n + 1)) k = f 0 := by
    intro k
    induction k with
    | zero => intro h; omega
    | succ k ih =>
      intro _ hk
      by_cases q : k = 0
      · subst q
        rw [sg, sg, Nat.zero_add, hf 0 hn]
        exact sg_ext _ fun j _ => by
          split
          · rw [hh0, Nat.one_mul]
          · rfl
      · have ih := ih (by omega) (by omega)
        have e1 : sg (fun i => sg (fun j => if k ≤ j then h i * (o i j * f j) else 0) (n + 1)) k = sg (fun i => sg (fun j => if k + 1 ≤ j then h i * (o i j * f j) else 0) (n + 1) + h i * (o i k * f k)) k :=
          sg_ext k fun i _ => sg_pick (fun j => h i * (o i j * f j)) k (n + 1) (by omega)
        rw [e1, sg_add] at ih
        have e2 : sg (fun i => h i * (o i k * f k)) k = h k * f k := by
          rw [hh k (by omega) (by omega), ← sg_mulr]
          exact sg_ext k fun i _ => by rw [← Nat.mul_assoc, Nat.mul_comm (h i)]
        have e3 : sg (fun j => if k + 1 ≤ j then h k * (o k j * f j) else 0) (n + 1) = h k * f k := by
          conv => rhs; rw [hf k (by omega)]
          rw [← sg_mull]
          exact sg_ext _ fun j _ => by
            split
            · rfl
            · rfl
        rw [sg, e3, ← e2]
        exact ih
  have hl := step n hn (Nat.le_refl _)
  rw [← hl, hh n hn (Nat.le_refl _)]
  refine sg_ext n fun i hi => ?_
  rw [sg, if_pos (Nat.le_refl _), sg_zero n fun j hj => if_neg (by omega), hfn, Nat.mul_one, Nat.zero_add, Nat.mul_comm]
theorem cts_back (ok ok' : Nat → Nat → Bool) {n : Nat} (hn : 0 < n) (h : ∀ b e, b < e → e ≤ n → ok' b e = ok (n - e) (n - b)) : (cts ok n 0).length = (cts ok' n 0).length := by
  have := paths n (fun i j => ic (ok i j)) (fun b => (cts ok n b).length) (fun j => (cts ok' n (n - j)).length)
    (fun b hb => cts_fore ok hb) (by rw [cts_end]; rfl) (by rw [Nat.sub_zero, cts_end]; rfl)
    (fun j h0 h1 => by
      rw [cts_sum ok' (by omega), show n - (n - j) = j by omega, sg_back _ n j h1]
      refine sg_ext j fun i hi => ?_
      rw [h (n - j) (n - i) (by omega) (by omega), show n - (n - i) = i by omega, show n - (n - j) = j by omega]) hn
  simpa using this
theorem seg_rev {A : List (Int × Int)} {b e : Nat} (hb : b < e) (he : e ≤ A.length) : seg A.reverse b e = (seg A (A.length - e) (A.length - b)).reverse := by
  unfold seg
  rw [List.take_reverse, List.drop_reverse, List.drop_take, List.length_drop, show A.length - (A.length - e) - b = A.length - b - (A.length - e) by omega]
theorem cntN_len (A : List (Int × Int)) (R F : Int) : cntN (sfS A R F 0) = (cts (sfOk A R F) A.length 0).length := by
  have h := smry_ok (cts (sfOk A R F) A.length 0)
  show cntN (smry (cts (sfOk A R F) A.length 0)) = _
  cases hs : smry (cts (sfOk A R F) A.length 0) with
  | none => rw [h.1.1 hs]; rfl
  | some p =>
    obtain ⟨c, f⟩ := p
    exact (h.2 c f hs).1
theorem cnt_rev (A : List (Int × Int)) (R F : Int) (hn : 0 < A.length) : cntN (sfS A.reverse R F 0) = cntN (sfS A R F 0) := by
  rw [cntN_len, cntN_len, List.length_reverse]
  refine (cts_back _ _ hn fun b e h1 h2 => ?_).symm
  unfold sfOk sfP
  rw [seg_rev h1 h2, smM_rev, smL_rev]
theorem ext_getD {α : Type} {L M : List α} {d : α} (hl : L.length = M.length) (h : ∀ a, a < L.length → L.getD a d = M.getD a d) : L = M := by
  refine List.ext_getElem hl fun a h1 h2 => ?_
  have := h a h1
  rwa [List.getD_eq_getElem?_getD, List.getD_eq_getElem?_getD, List.getElem?_eq_getElem h1, List.getElem?_eq_getElem h2] at this
theorem rev_getD {α : Type} {A : List α} {d : α} {a : Nat} (h : a < A.length) : A.reverse.getD a d = A.getD (A.length - 1 - a) d := by
  rw [List.getD_eq_getElem?_getD, List.getD_eq_getElem?_getD, List.getElem?_reverse h]
theorem set_getD {α : Type} {L : List α} {i a : Nat} {x d : α} (h : i < L.length) : (L.set i x).getD a d = if i = a then x else L.getD a d := by
  rw [List.getD_eq_getElem?_getD, List.getD_eq_getElem?_getD, List.getElem?_set]
  by_cases q : i = a
  · subst q; rw [if_pos rfl, if_pos h, if_pos rfl]; rfl
  · rw [if_neg q, if_neg q]
def rO (L : List (Int × Int)) : Nat × Option Ob := (1, some ⟨52, 2, L.map shA⟩)
theorem rev_loop (A : List (Int × Int)) (n : Nat) (hn : A.length = n) (hn1 : n ≤ 100) (η : Heap) (K : List Fr) (Q : Out → Cfg → Prop)
    (hK : ∀ i j : Nat, ∀ j1 j4 j5 j6 j7 j8 j9 j10 j11 j12 j13 j14 j15 j16 j17 j18 j19 j20 j21 j22 j23 j24 j25 j26 j27 : AV, W Try.prog (RelU Try.prog xf) 1000 K ⟨((.os 1005 1 n 2 0 n) :: j1 :: (ai i) :: (ai j) :: j4 :: j5 :: j6 :: j7 :: j8 :: j9 :: j10 :: j11 :: j12 :: j13 :: j14 :: j15 :: j16 :: j17 :: j18 :: j19 :: j20 :: j21 :: j22 :: j23 :: j24 :: j25 :: j26 :: j27 :: []), Go.Proofs.Eng.putAt η 1005 (rO A.reverse)⟩ Q) :
    ∀ (j i : Nat), i + j + 1 = n → ∀ L : List (Int × Int), L.length = n → (∀ a, a < n → L.getD a (0, 0) = if a < i ∨ j < a then A.getD (n - 1 - a) (0, 0) else A.getD a (0, 0)) → ∀ j1 j4 j5 j6 j7 j8 j9 j10 j11 j12 j13 j14 j15 j16 j17 j18 j19 j20 j21 j22 j23 j24 j25 j26 j27 : AV, W Try.prog (RelU Try.prog xf) 1000 (.code (.loop xf39_L0) :: .blk 0 :: .stop :: K) ⟨((.os 1005 1 n 2 0 n) :: j1 :: (ai i) :: (ai j) :: j4 :: j5 :: j6 :: j7 :: j8 :: j9 :: j10 :: j11 :: j12 :: j13 :: j14 :: j15 :: j16 :: j17 :: j18 :: j19 :: j20 :: j21 :: j22 :: j23 :: j24 :: j25 :: j26 :: j27 :: []), Go.Proofs.Eng.putAt η 1005 (rO L)⟩ Q := by
  intro j
  induction j using Nat.strongRecOn with
  | ind j ih =>
    intro i hij L hL hinv j1 j4 j5 j6 j7 j8 j9 j10 j11 j12 j13 j14 j15 j16 j17 j18 j19 j20 j21 j22 j23 j24 j25 j26 j27
    by_cases hlt : i < j
    · have h0 : decide (i < j) = true := decide_eq_true hlt
      have i1 : i < L.length := by omega
      have j1 : j < L.length := by omega
      have hi : (i : Int) < (n : Int) := by omega
      have hj : (j : Int) < (n : Int) := by omega
      have hgi := get_sh i1
      have hgj := get_sh j1
      have wi : IntKind.i64.wrap ((i : Int) + 1) = ((i + 1 : Nat) : Int) := by rw [wrap_id (by omega) (by omega)]; simp
      have wj : IntKind.i64.wrap ((j : Int) - 1) = ((j - 1 : Nat) : Int) := by rw [wrap_id (by omega) (by omega)]; omega
      have next := ih (j - 1) (by omega) (i + 1) (by omega) ((L.set i (L.getD j (0, 0))).set j (L.getD i (0, 0))) (by simp [hL]) (fun a ha => by
        have hI : L.getD i (0, 0) = A.getD i (0, 0) := (hinv i (by omega)).trans (if_neg (by omega))
        have hJ : L.getD j (0, 0) = A.getD j (0, 0) := (hinv j (by omega)).trans (if_neg (by omega))
        rw [set_getD (by rw [List.length_set]; omega), set_getD (by omega), hI, hJ, hinv a ha]
        by_cases q1 : j = a
        · subst q1
          rw [if_pos rfl, if_pos (by omega), show n - 1 - j = i by omega]
        · rw [if_neg q1]
          by_cases q2 : i = a
          · subst q2
            rw [if_pos rfl, if_pos (by omega), show n - 1 - i = j by omega]
          · rw [if_neg q2]
            by_cases q3 : a < i ∨ j < a
            · rw [if_pos q3, if_pos (by omega)]
            · rw [if_neg q3, if_neg (by omega)])
      have e1 : (L.map shA).set i (.ag [.v (.int .i64 (L.getD j (0, 0)).1), .v (.int .i64 (L.getD j (0, 0)).2)]) = (L.set i (L.getD j (0, 0))).map shA := by rw [List.map_set]; rfl
      have e2 : ((L.set i (L.getD j (0, 0))).map shA).set j (.ag [.v (.int .i64 (L.getD i (0, 0)).1), .v (.int .i64 (L.getD i (0, 0)).2)]) = ((L.set i (L.getD j (0, 0))).set j (L.getD i (0, 0))).map shA := List.map_set.symm
      have hgj2 : ((L.set i (L.getD j (0, 0))).map shA)[j]? = some (shA (L.getD j (0, 0))) := by
        rw [get_sh (by rw [List.length_set]; exact j1), set_getD i1, if_neg (by omega)]
      unfold rO at next ⊢
      refine W_loop (W_run 120 ?_)
      simp (maxSteps := 2000000) only [go_some, go_none, go_zero, nxt_op, nxt_guard, nxt_skip, nxt_label, nxt_region, nxt_drawn, nxt_seq, nxt_block, nxt_scope, nxt_exit, nxt_blk, nxt_lp, nxt_cond, nxt_loop, nxt_ret, nxt_stop, nxt_nil, Eng.start, frG, frF, isCall, stp, exec1, exec1K, dK, Nat.reduceDiv, keyA, wantedA, stepF, stF_mv, stF_bin, stF_len, stF_un, stF_pick, stF_load, stF_iadr, stF_box, stF_fadr, stF_store, stF_ext, stF_fld, stF_idx, stF_aadr, stF_app, stF_bldS, stF_slc, stF_slcA, stF_bld, stF_isnil, stF_mki, stF_mkf, stF_mkb, stF_nilc, stF_mks, stF_tas, mapF_eq, evalF_eq, evalA, setAF, setA, setF_eq, putF_eq, lookF_eq, List.getD_cons_zero, List.getD_cons_succ, List.set_cons_zero, List.set_cons_succ, List.replicate, List.length_cons, List.length_nil, Nat.zero_add, Nat.reduceSub, Nat.reduceAdd, List.cons_append, List.nil_append, Option.getD, drop, Nat.beq, List.length_map, binV, binI, unV, if_true, Eng.asInt, Eng.part, cellsOf, toNat_cast, cast_nonneg, true_and, and_true, if_pos, giveOp, gvK, List.getElem?_cons_zero, List.getElem?_cons_succ, Bool.not_true, Bool.not_false, ofVal, eq_self, and_self, true_implies, dfF, touch, regF, quietF, pairOK, noCs, Go.Value.oneCell', decide_true, decide_false, Nat.mul_one, asBound, fullOf, Option.isSome_none, Option.isSome_some, Nat.zero_le, Bool.false_eq_true, false_implies, Int.cast_ofNat_Int, Int.reduceLT, Int.reduceLE, Int.reduceToNat, Nat.reduceMul, Int.le_refl, Eng.look, putAt, Nat.reduceEqDiff, reduceCtorEq, Nat.reduceBEq, if_false, List.all_cons, List.all_nil, tf_beq, ft_beq, lvSub, lvOK, isNone, width, solid, splice, List.take_zero, List.drop_zero, List.drop_nil, List.take_nil, List.drop_succ_cons, List.take_succ_cons, List.append_nil, beq_self_eq_true, Bool.and_true, Bool.true_and, Bool.and_self, ge_iff_le, gt_iff_lt, Nat.le_refl, Nat.reduceLeDiff, Nat.reduceLT, xf39_L0, ai, shA, lt_cast, h0, hi, hj, hgi, hgj, hgj2, wi, wj, e1, e2, look_putAt, putAt_twice, List.length_map, hL, List.length_set]
      exact next _ _ _ _ _ _ _ _ _ _ _ _ _ _ _ _ _ _ _ _ _ _ _ _ _
    · have h0 : decide (i < j) = false := decide_eq_false hlt
      have hLr : L = A.reverse := ext_getD (d := (0, 0)) (by rw [List.length_reverse]; omega) (fun a ha => by
        rw [rev_getD (by omega), hinv a (by omega), hn]
        by_cases q : a < i ∨ j < a
        · rw [if_pos q]
        · rw [if_neg q, show n - 1 - a = a by omega])
      subst hLr
      refine W_loop (W_run 80 ?_)
      simp (maxSteps := 2000000) only [go_some, go_none, go_zero, nxt_op, nxt_guard, nxt_skip, nxt_label, nxt_region, nxt_drawn, nxt_seq, nxt_block, nxt_scope, nxt_exit, nxt_blk, nxt_lp, nxt_cond, nxt_loop, nxt_ret, nxt_stop, nxt_nil, Eng.start, frG, frF, isCall, stp, exec1, exec1K, dK, Nat.reduceDiv, keyA, wantedA, stepF, stF_mv, stF_bin, stF_len, stF_un, stF_pick, stF_load, stF_iadr, stF_box, stF_fadr, stF_store, stF_ext, stF_fld, stF_idx, stF_aadr, stF_app, stF_bldS, stF_slc, stF_slcA, stF_bld, stF_isnil, stF_mki, stF_mkf, stF_mkb, stF_nilc, stF_mks, stF_tas, mapF_eq, evalF_eq, evalA, setAF, setA, setF_eq, putF_eq, lookF_eq, List.getD_cons_zero, List.getD_cons_succ, List.set_cons_zero, List.set_cons_succ, List.replicate, List.length_cons, List.length_nil, Nat.zero_add, Nat.reduceSub, Nat.reduceAdd, List.cons_append, List.nil_append, Option.getD, drop, Nat.beq, List.length_map, binV, binI, unV, if_true, Eng.asInt, Eng.part, cellsOf, toNat_cast, cast_nonneg, true_and, and_true, if_pos, giveOp, gvK, List.getElem?_cons_zero, List.getElem?_cons_succ, Bool.not_true, Bool.not_false, ofVal, eq_self, and_self, true_implies, dfF, touch, regF, quietF, pairOK, noCs, Go.Value.oneCell', decide_true, decide_false, Nat.mul_one, asBound, fullOf, Option.isSome_none, Option.isSome_some, Nat.zero_le, Bool.false_eq_true, false_implies, Int.cast_ofNat_Int, Int.reduceLT, Int.reduceLE, Int.reduceToNat, Nat.reduceMul, Int.le_refl, Eng.look, putAt, Nat.reduceEqDiff, reduceCtorEq, Nat.reduceBEq, if_false, List.all_cons, List.all_nil, tf_beq, ft_beq, lvSub, lvOK, isNone, width, solid, splice, List.take_zero, List.drop_zero, List.drop_nil, List.take_nil, List.drop_succ_cons, List.take_succ_cons, List.append_nil, beq_self_eq_true, Bool.and_true, Bool.true_and, Bool.and_self, ge_iff_le, gt_iff_lt, Nat.le_refl, Nat.reduceLeDiff, Nat.reduceLT, xf39_L0, ai, lt_cast, h0]
      exact W_stop (hK i j _ _ _ _ _ _ _ _ _ _ _ _ _ _ _ _ _ _ _ _ _ _ _ _ _)
theorem rev_run (A : List (Int × Int)) (hn0 : 1 ≤ A.length) (hn1 : A.length ≤ 100) (η : Heap) (hη : Go.Proofs.Eng.look η 1005 = rO A) :
    RunsR Try.prog xf 1000 39 [.os 1005 1 A.length 2 0 A.length] η (.tup []) (Go.Proofs.Eng.putAt η 1005 (rO A.reverse)) := by
  have w1 : IntKind.i64.wrap ((A.length : Int) - 1) = ((A.length - 1 : Nat) : Int) := by rw [wrap_id (by omega) (by omega)]; omega
  refine RunsR.ofW (fn := xf39) (by kernel_rfl) (W_run 80 ?_)
  simp (maxSteps := 2000000) only [go_some, go_none, go_zero, nxt_op, nxt_guard, nxt_skip, nxt_label, nxt_region, nxt_drawn, nxt_seq, nxt_block, nxt_scope, nxt_exit, nxt_blk, nxt_lp, nxt_cond, nxt_loop, nxt_ret, nxt_stop, nxt_nil, Eng.start, frG, frF, isCall, stp, exec1, exec1K, dK, Nat.reduceDiv, keyA, wantedA, stepF, stF_mv, stF_bin, stF_len, stF_un, stF_pick, stF_load, stF_iadr, stF_box, stF_fadr, stF_store, stF_ext, stF_fld, stF_idx, stF_aadr, stF_app, stF_bldS, stF_slc, stF_slcA, stF_bld, stF_isnil, stF_mki, stF_mkf, stF_mkb, stF_nilc, stF_mks, stF_tas, mapF_eq, evalF_eq, evalA, setAF, setA, setF_eq, putF_eq, lookF_eq, List.getD_cons_zero, List.getD_cons_succ, List.set_cons_zero, List.set_cons_succ, List.replicate, List.length_cons, List.length_nil, Nat.zero_add, Nat.reduceSub, Nat.reduceAdd, List.cons_append, List.nil_append, Option.getD, drop, Nat.beq, List.length_map, binV, binI, unV, if_true, Eng.asInt, Eng.part, cellsOf, toNat_cast, cast_nonneg, true_and, and_true, if_pos, giveOp, gvK, List.getElem?_cons_zero, List.getElem?_cons_succ, Bool.not_true, Bool.not_false, ofVal, eq_self, and_self, true_implies, dfF, touch, regF, quietF, pairOK, noCs, Go.Value.oneCell', decide_true, decide_false, Nat.mul_one, asBound, fullOf, Option.isSome_none, Option.isSome_some, Nat.zero_le, Bool.false_eq_true, false_implies, Int.cast_ofNat_Int, Int.reduceLT, Int.reduceLE, Int.reduceToNat, Nat.reduceMul, Int.le_refl, Eng.look, putAt, Nat.reduceEqDiff, reduceCtorEq, Nat.reduceBEq, if_false, List.all_cons, List.all_nil, tf_beq, ft_beq, lvSub, lvOK, isNone, width, solid, splice, List.take_zero, List.drop_zero, List.drop_nil, List.take_nil, List.drop_succ_cons, List.take_succ_cons, List.append_nil, beq_self_eq_true, Bool.and_true, Bool.true_and, Bool.and_self, ge_iff_le, gt_iff_lt, Nat.le_refl, Nat.reduceLeDiff, Nat.reduceLT, xf39, ai, w1]
  refine W_alone (W_named (η' := Go.Proofs.Eng.putAt η 1005 (rO A)) (fun k => by rw [look_putAt]; split; (rename_i h; rw [← h, hη]); rfl) (rev_loop A A.length rfl hn1 η _ _ (fun i j j1 j4 j5 j6 j7 j8 j9 j10 j11 j12 j13 j14 j15 j16 j17 j18 j19 j20 j21 j22 j23 j24 j25 j26 j27 => W_run 80 ?_) (A.length - 1) 0 (by omega) A rfl (fun a ha => by rw [if_neg (by omega)]) _ _ _ _ _ _ _ _ _ _ _ _ _ _ _ _ _ _ _ _ _ _ _ _ _))
  simp (maxSteps := 2000000) only [go_some, go_none, go_zero, nxt_op, nxt_guard, nxt_skip, nxt_label, nxt_region, nxt_drawn, nxt_seq, nxt_block, nxt_scope, nxt_exit, nxt_blk, nxt_lp, nxt_cond, nxt_loop, nxt_ret, nxt_stop, nxt_nil, Eng.start, frG, frF, isCall, stp, exec1, exec1K, dK, Nat.reduceDiv, keyA, wantedA, stepF, stF_mv, stF_bin, stF_len, stF_un, stF_pick, stF_load, stF_iadr, stF_box, stF_fadr, stF_store, stF_ext, stF_fld, stF_idx, stF_aadr, stF_app, stF_bldS, stF_slc, stF_slcA, stF_bld, stF_isnil, stF_mki, stF_mkf, stF_mkb, stF_nilc, stF_mks, stF_tas, mapF_eq, evalF_eq, evalA, setAF, setA, setF_eq, putF_eq, lookF_eq, List.getD_cons_zero, List.getD_cons_succ, List.set_cons_zero, List.set_cons_succ, List.replicate, List.length_cons, List.length_nil, Nat.zero_add, Nat.reduceSub, Nat.reduceAdd, List.cons_append, List.nil_append, Option.getD, drop, Nat.beq, List.length_map, binV, binI, unV, if_true, Eng.asInt, Eng.part, cellsOf, toNat_cast, cast_nonneg, true_and, and_true, if_pos, giveOp, gvK, List.getElem?_cons_zero, List.getElem?_cons_succ, Bool.not_true, Bool.not_false, ofVal, eq_self, and_self, true_implies, dfF, touch, regF, quietF, pairOK, noCs, Go.Value.oneCell', decide_true, decide_false, Nat.mul_one, asBound, fullOf, Option.isSome_none, Option.isSome_some, Nat.zero_le, Bool.false_eq_true, false_implies, Int.cast_ofNat_Int, Int.reduceLT, Int.reduceLE, Int.reduceToNat, Nat.reduceMul, Int.le_refl, Eng.look, putAt, Nat.reduceEqDiff, reduceCtorEq, Nat.reduceBEq, if_false, List.all_cons, List.all_nil, tf_beq, ft_beq, lvSub, lvOK, isNone, width, solid, splice, List.take_zero, List.drop_zero, List.drop_nil, List.take_nil, List.drop_succ_cons, List.take_succ_cons, List.append_nil, beq_self_eq_true, Bool.and_true, Bool.true_and, Bool.and_self, ge_iff_le, gt_iff_lt, Nat.le_refl, Nat.reduceLeDiff, Nat.reduceLT]
  exact WX_nil ⟨.inr rfl, _, rfl, rfl, rfl⟩
theorem why_N (A : List (Int × Int)) (R F : Int) (hg : gB A R F) (hall : ∀ p, p ∈ A → p.2 ≤ R) : RunsN Try.prog xf 14 [bkA false A R F] (whyR A R) := by
  have hf := few_run A R F hg
  unfold fewR at hf
  rw [if_pos hall] at hf
  have hl := fil_len R A
  have hnb := nb_n R (A.map Prod.snd) 0
  rw [List.length_map] at hnb
  have hn := hg.n1
  have n00 : ((0 : Int) != 0) = false := rfl
  refine RunsN.ofW (fn := xf14) (by kernel_rfl) (W_run 80 ?_)
  simp (maxSteps := 2000000) only [go_some, go_none, go_zero, nxt_op, nxt_guard, nxt_skip, nxt_label, nxt_region, nxt_drawn, nxt_seq, nxt_block, nxt_scope, nxt_exit, nxt_blk, nxt_lp, nxt_cond, nxt_loop, nxt_ret, nxt_stop, nxt_nil, Eng.start, frG, frF, isCall, stp, exec1, exec1K, dK, Nat.reduceDiv, keyA, wantedA, stepF, stF_mv, stF_bin, stF_len, stF_un, stF_pick, stF_load, stF_iadr, stF_box, stF_fadr, stF_store, stF_ext, stF_fld, stF_idx, stF_aadr, stF_app, stF_bldS, stF_slc, stF_slcA, stF_bld, stF_isnil, stF_mki, stF_mkf, stF_mkb, stF_nilc, stF_mks, stF_tas, mapF_eq, evalF_eq, evalA, setAF, setA, setF_eq, putF_eq, lookF_eq, List.getD_cons_zero, List.getD_cons_succ, List.set_cons_zero, List.set_cons_succ, List.replicate, List.length_cons, List.length_nil, Nat.zero_add, Nat.reduceSub, Nat.reduceAdd, List.cons_append, List.nil_append, Option.getD, drop, Nat.beq, List.length_map, binV, binI, unV, if_true, Eng.asInt, Eng.part, cellsOf, toNat_cast, cast_nonneg, true_and, and_true, if_pos, giveOp, gvK, List.getElem?_cons_zero, List.getElem?_cons_succ, Bool.not_true, Bool.not_false, ofVal, eq_self, and_self, true_implies, dfF, touch, regF, quietF, pairOK, noCs, Go.Value.oneCell', decide_true, decide_false, Nat.mul_one, asBound, fullOf, Option.isSome_none, Option.isSome_some, Nat.zero_le, Bool.false_eq_true, false_implies, Int.cast_ofNat_Int, Int.reduceLT, Int.reduceLE, Int.reduceToNat, Nat.reduceMul, Int.le_refl, Eng.look, putAt, Nat.reduceEqDiff, reduceCtorEq, Nat.reduceBEq, if_false, List.all_cons, List.all_nil, tf_beq, ft_beq, lvSub, lvOK, isNone, width, solid, splice, List.take_zero, List.drop_zero, List.drop_nil, List.take_nil, List.drop_succ_cons, List.take_succ_cons, List.append_nil, beq_self_eq_true, Bool.and_true, Bool.true_and, Bool.and_self, ge_iff_le, gt_iff_lt, Nat.le_refl, Nat.reduceLeDiff, Nat.reduceLT, xf14, ai, aS, bkA]
  refine W_call (args := [bkA false A R F]) rfl (noRefs_1 (noRef_bk _ _ _ _)) hf (noRef_t2 (noRef_al _ _) rfl) (W_run 120 ?_)
  unfold whyR
  generalize hE : filL R A = E at *
  by_cases h1 : E.length = 1
  · have e1 : ((E.length : Int) == 1) = true := by rw [h1]; rfl
    rw [if_pos h1]
    simp (maxSteps := 2000000) only [go_some, go_none, go_zero, nxt_op, nxt_guard, nxt_skip, nxt_label, nxt_region, nxt_drawn, nxt_seq, nxt_block, nxt_scope, nxt_exit, nxt_blk, nxt_lp, nxt_cond, nxt_loop, nxt_ret, nxt_stop, nxt_nil, Eng.start, frG, frF, isCall, stp, exec1, exec1K, dK, Nat.reduceDiv, keyA, wantedA, stepF, stF_mv, stF_bin, stF_len, stF_un, stF_pick, stF_load, stF_iadr, stF_box, stF_fadr, stF_store, stF_ext, stF_fld, stF_idx, stF_aadr, stF_app, stF_bldS, stF_slc, stF_slcA, stF_bld, stF_isnil, stF_mki, stF_mkf, stF_mkb, stF_nilc, stF_mks, stF_tas, mapF_eq, evalF_eq, evalA, setAF, setA, setF_eq, putF_eq, lookF_eq, List.getD_cons_zero, List.getD_cons_succ, List.set_cons_zero, List.set_cons_succ, List.replicate, List.length_cons, List.length_nil, Nat.zero_add, Nat.reduceSub, Nat.reduceAdd, List.cons_append, List.nil_append, Option.getD, drop, Nat.beq, List.length_map, binV, binI, unV, if_true, Eng.asInt, Eng.part, cellsOf, toNat_cast, cast_nonneg, true_and, and_true, if_pos, giveOp, gvK, List.getElem?_cons_zero, List.getElem?_cons_succ, Bool.not_true, Bool.not_false, ofVal, eq_self, and_self, true_implies, dfF, touch, regF, quietF, pairOK, noCs, Go.Value.oneCell', decide_true, decide_false, Nat.mul_one, asBound, fullOf, Option.isSome_none, Option.isSome_some, Nat.zero_le, Bool.false_eq_true, false_implies, Int.cast_ofNat_Int, Int.reduceLT, Int.reduceLE, Int.reduceToNat, Nat.reduceMul, Int.le_refl, Eng.look, putAt, Nat.reduceEqDiff, reduceCtorEq, Nat.reduceBEq, if_false, List.all_cons, List.all_nil, tf_beq, ft_beq, lvSub, lvOK, isNone, width, solid, splice, List.take_zero, List.drop_zero, List.drop_nil, List.take_nil, List.drop_succ_cons, List.take_succ_cons, List.append_nil, beq_self_eq_true, Bool.and_true, Bool.true_and, Bool.and_self, ge_iff_le, gt_iff_lt, Nat.le_refl, Nat.reduceLeDiff, Nat.reduceLT, ai, al, n00, e1]
    exact W_ret1 (WX_pop (WX_nil ⟨.inl rfl, _, rfl, rfl⟩))
  · have e1 : ((E.length : Int) == 1) = false := by rw [beq_eq_false_iff_ne]; omega
    rw [if_neg h1]
    have hne : E ≠ [] := fun q => by rw [q] at hl; cases hl
    have hdl : E.dropLast.length = E.length - 1 := List.length_dropLast
    have wl : IntKind.i64.wrap ((E.length : Int) - 1) = (E.dropLast.length : Int) := by rw [wrap_id (by omega) (by omega)]; omega
    have hle : E.dropLast.length ≤ E.length := by omega
    have ht : List.take E.dropLast.length (E.map ai) = E.dropLast.map ai := by
      rw [← List.map_take, hdl, List.dropLast_eq_take]
    simp (maxSteps := 2000000) only [go_some, go_none, go_zero, nxt_op, nxt_guard, nxt_skip, nxt_label, nxt_region, nxt_drawn, nxt_seq, nxt_block, nxt_scope, nxt_exit, nxt_blk, nxt_lp, nxt_cond, nxt_loop, nxt_ret, nxt_stop, nxt_nil, Eng.start, frG, frF, isCall, stp, exec1, exec1K, dK, Nat.reduceDiv, keyA, wantedA, stepF, stF_mv, stF_bin, stF_len, stF_un, stF_pick, stF_load, stF_iadr, stF_box, stF_fadr, stF_store, stF_ext, stF_fld, stF_idx, stF_aadr, stF_app, stF_bldS, stF_slc, stF_slcA, stF_bld, stF_isnil, stF_mki, stF_mkf, stF_mkb, stF_nilc, stF_mks, stF_tas, mapF_eq, evalF_eq, evalA, setAF, setA, setF_eq, putF_eq, lookF_eq, List.getD_cons_zero, List.getD_cons_succ, List.set_cons_zero, List.set_cons_succ, List.replicate, List.length_cons, List.length_nil, Nat.zero_add, Nat.reduceSub, Nat.reduceAdd, List.cons_append, List.nil_append, Option.getD, drop, Nat.beq, List.length_map, binV, binI, unV, if_true, Eng.asInt, Eng.part, cellsOf, toNat_cast, cast_nonneg, true_and, and_true, if_pos, giveOp, gvK, List.getElem?_cons_zero, List.getElem?_cons_succ, Bool.not_true, Bool.not_false, ofVal, eq_self, and_self, true_implies, dfF, touch, regF, quietF, pairOK, noCs, Go.Value.oneCell', decide_true, decide_false, Nat.mul_one, asBound, fullOf, Option.isSome_none, Option.isSome_some, Nat.zero_le, Bool.false_eq_true, false_implies, Int.cast_ofNat_Int, Int.reduceLT, Int.reduceLE, Int.reduceToNat, Nat.reduceMul, Int.le_refl, Eng.look, putAt, Nat.reduceEqDiff, reduceCtorEq, Nat.reduceBEq, if_false, List.all_cons, List.all_nil, tf_beq, ft_beq, lvSub, lvOK, isNone, width, solid, splice, List.take_zero, List.drop_zero, List.drop_nil, List.take_nil, List.drop_succ_cons, List.take_succ_cons, List.append_nil, beq_self_eq_true, Bool.and_true, Bool.true_and, Bool.and_self, ge_iff_le, gt_iff_lt, Nat.le_refl, Nat.reduceLeDiff, Nat.reduceLT, ai, al, n00, e1, wl, hle, ht, Go.Proofs.Eng.fullOf, Bool.false_and, List.map_nil, List.map_cons]
    refine W_alone (why_loop E.dropLast (by omega) _ _ _ _ _ _ (fun W b hW j8 j9 j10 j11 j12 j13 j14 j15 j16 j17 j18 j19 j20 j21 j22 j23 j24 j25 j29 j30 j31 j32 j33 j34 j35 j36 j37 j38 j39 j40 => W_run 80 ?_) E.dropLast.length 0 (by omega) [] 0 rfl rfl _ _ _ _ _ _ _ _ _ _ _ _ _ _ _ _ _ _ _ _ _ _ _ _ _ _ _ _ _ _)
    simp (maxSteps := 2000000) only [go_some, go_none, go_zero, nxt_op, nxt_guard, nxt_skip, nxt_label, nxt_region, nxt_drawn, nxt_seq, nxt_block, nxt_scope, nxt_exit, nxt_blk, nxt_lp, nxt_cond, nxt_loop, nxt_ret, nxt_stop, nxt_nil, Eng.start, frG, frF, isCall, stp, exec1, exec1K, dK, Nat.reduceDiv, keyA, wantedA, stepF, stF_mv, stF_bin, stF_len, stF_un, stF_pick, stF_load, stF_iadr, stF_box, stF_fadr, stF_store, stF_ext, stF_fld, stF_idx, stF_aadr, stF_app, stF_bldS, stF_slc, stF_slcA, stF_bld, stF_isnil, stF_mki, stF_mkf, stF_mkb, stF_nilc, stF_mks, stF_tas, mapF_eq, evalF_eq, evalA, setAF, setA, setF_eq, putF_eq, lookF_eq, List.getD_cons_zero, List.getD_cons_succ, List.set_cons_zero, List.set_cons_succ, List.replicate, List.length_cons, List.length_nil, Nat.zero_add, Nat.reduceSub, Nat.reduceAdd, List.cons_append, List.nil_append, Option.getD, drop, Nat.beq, List.length_map, binV, binI, unV, if_true, Eng.asInt, Eng.part, cellsOf, toNat_cast, cast_nonneg, true_and, and_true, if_pos, giveOp, gvK, List.getElem?_cons_zero, List.getElem?_cons_succ, Bool.not_true, Bool.not_false, ofVal, eq_self, and_self, true_implies, dfF, touch, regF, quietF, pairOK, noCs, Go.Value.oneCell', decide_true, decide_false, Nat.mul_one, asBound, fullOf, Option.isSome_none, Option.isSome_some, Nat.zero_le, Bool.false_eq_true, false_implies, Int.cast_ofNat_Int, Int.reduceLT, Int.reduceLE, Int.reduceToNat, Nat.reduceMul, Int.le_refl, Eng.look, putAt, Nat.reduceEqDiff, reduceCtorEq, Nat.reduceBEq, if_false, List.all_cons, List.all_nil, tf_beq, ft_beq, lvSub, lvOK, isNone, width, solid, splice, List.take_zero, List.drop_zero, List.drop_nil, List.take_nil, List.drop_succ_cons, List.take_succ_cons, List.append_nil, beq_self_eq_true, Bool.and_true, Bool.true_and, Bool.and_self, ge_iff_le, gt_iff_lt, Nat.le_refl, Nat.reduceLeDiff, Nat.reduceLT, xf14_R0, ai]
    refine W_ret1 (WX_nil ⟨.inl rfl, _, rfl, ?_⟩)
    rw [← hW]
    have hrow : rowN [(21, (1, some (Ob.mk 43 2 (W.map shA))))] (.os 21 1 W.length 2 0 W.length) = some (aS false W) := by
      simp only [rowN, Go.Proofs.Eng.look, if_true]
      have ht : List.take W.length (W.map shA) = W.map shA := List.take_of_length_le (by simp)
      rw [if_pos]
      · simp [aS, ht]
      · refine ⟨trivial, by simp, trivial, by simp, ?_⟩
        rw [List.drop_zero, ht, List.all_eq_true]
        intro x hx
        obtain ⟨z, _, rfl⟩ := List.mem_map.1 hx
        rfl
    show ([.os 21 1 W.length 2 0 W.length, ai 0].mapM (rowN _)).map AV.tup = _
    rw [List.mapM_cons, hrow]; rfl
theorem ord_mixed : Try.prog.follows .mixedOrders = true := by kernel_rfl
theorem reify_bk2 {η : Heap} {A : List (Int × Int)} {R F : Int} {g : Nat} (hk : Go.Proofs.Eng.look η 1005 = (g, some ⟨52, 2, A.map shA⟩)) : reify η 20 (.ag [.os 1005 g A.length 2 0 A.length, ai R, ai F]) = some (bkA false A R F) := by
  have h : reify η 19 (.os 1005 g A.length 2 0 A.length) = some (aS false A) := reify_os (elem_sh _ 17) hk
  show ([.os 1005 g A.length 2 0 A.length, ai R, ai F].mapM (reify η 19)).map AV.ag = _
  rw [List.mapM_cons, h]; rfl
theorem okL_some {A : List (Int × Int)} (hA : ∀ p, p ∈ A → gA p) {v : Int} (hv : 1 ≤ v) (h0 : 0 < A.length) : ∃ L : Nat, 1 ≤ L ∧ (L : Int) ≤ 30 * A.length ∧ okL A v L ∧ ∀ r : Nat, 1 ≤ r → r < L → ¬ okL A v r := by
  have hb := smM_b hA
  have hpos : 1 ≤ smM A := by
    have h1 := getD_mem (d := ((0 : Int), (0 : Int))) h0
    have h2 := mem_sm hA h1
    have h3 := hA _ h1
    unfold gA at h3
    omega
  have hok : okL A v ((smM A).toNat : Nat) := by
    rw [show (((smM A).toNat : Nat) : Int) = smM A by omega]
    refine ⟨fun p hp => mem_sm hA hp, ?_⟩
    rw [nb_tot A 0 hA (by omega)]
    simpa using hv
  obtain ⟨L, h1, h2, h3, h4⟩ := least_ex (fun r : Nat => okL A v (r : Int)) (smM A).toNat (by omega) hok
  exact ⟨L, h1, by omega, h3, h4⟩
def lenW (A : List (Int × Int)) (R : Int) : Nat := if (filL R A).length = 1 then 0 else (filL R A).length - 1
def errW (A : List (Int × Int)) (R : Int) : Int := if (filL R A).length = 1 then 13 else 0
def lstW (A : List (Int × Int)) (R : Int) : AV := if (filL R A).length = 1 then nilA else aS false (whyP 0 (filL R A).dropLast)
theorem whyR_eq (A : List (Int × Int)) (R : Int) : whyR A R = .tup [lstW A R, ai (errW A R)] := by
  unfold whyR lstW errW
  split <;> rfl
theorem turned_law (a b c z : Int) (D H : List Int) (ha : 0 ≤ a ∧ a ≤ 255) (hb : 0 ≤ b ∧ b ≤ 255) (hc : 0 ≤ c ∧ c ≤ 255) (hz : 0 ≤ z ∧ z ≤ 255) (hD : D.length = 12) (hH : H.length = 12) (bD : ∀ x, x ∈ D → 0 ≤ x ∧ x ≤ 255) (bH : ∀ x, x ∈ H → 0 ≤ x ∧ x ≤ 255) (hwk : Runs Try.prog xf 23 [] (ab true)) :
    Runs Try.prog xf 9 [shelf a b c D H, u8 z] (ab true) := by
  obtain ⟨r, ⟨A, R, F, rfl, hg, hm, hl29, hall⟩, hmade⟩ := made_run 12 20 a b c D H (by omega) (by omega) ha hb hc hD hH bD bH
  obtain ⟨G, hG, hGl, hGt, hGn⟩ := shelf_ag a b c D H hD hH
  rw [hG] at hmade ⊢
  have hn0 := hg.n0
  have hn1 := hg.n1
  have wz : IntKind.i64.wrap z = z := wrap_id (by omega) (by omega)
  have zn : ((A.length : Int) = 0) = False := eq_false (by omega)
  obtain ⟨t1, t2⟩ := tmod_b (a := z) (n := (A.length : Int)) hz.1 (by omega)
  obtain ⟨q, hq⟩ : ∃ q : Nat, z.tmod (A.length : Int) = (q : Int) := ⟨(z.tmod (A.length : Int)).toNat, by omega⟩
  have hqn : q < A.length := by omega
  have wv : IntKind.i64.wrap (1 + (q : Int)) = 1 + (q : Int) := wrap_id (by omega) (by omega)
  have hr0 := hg.r0
  have hr1 := hg.r1
  have hl2 : A.reverse.length = A.length := List.length_reverse
  have hall2 : ∀ p, p ∈ A.reverse → p.2 ≤ R := fun p hp => hall p (List.mem_reverse.1 hp)
  have hart2 : ∀ p, p ∈ A.reverse → gA p := fun p hp => hg.art p (List.mem_reverse.1 hp)
  have hg2 : gB A.reverse R F := ⟨by omega, by omega, hart2, hg.r0, hg.r1, hg.f0, hg.f1⟩
  obtain ⟨L, lv1, lv2, lv3, lv4⟩ := okL_some hg.art (v := 1 + (q : Int)) (by omega) hn0
  have hlev := fun h => lev_run A R F hg (1 + (q : Int)) (by omega) L lv1 h lv3 lv4
  have hlev2 := fun h => lev_run A.reverse R F hg2 (1 + (q : Int)) (by omega) L lv1 h ((okL_rev hg.art (by omega)).2 lv3) (fun r h1 h2 h3 => lv4 r h1 h2 ((okL_rev hg.art (by omega)).1 h3))
  have hlev := hlev (by omega)
  have hlev2 := hlev2 (by omega)
  have hcnt := count_run A R F hg
  have hcnt2 := count_run A.reverse R F hg2
  rw [cnt_rev A R F hn0] at hcnt2
  have hfew := few_run A R F hg
  unfold fewR at hfew
  rw [if_pos hall] at hfew
  have hfN := few_N _ R F hg2
  unfold fewR at hfN
  rw [if_pos hall2] at hfN
  have hlen1 := fil_len R A
  have hlen2 := fil_len R A.reverse
  rw [nb_revA hg.art hall (by omega), ← hlen1] at hlen2
  have hw := why_run A R F hg hall
  have hwN := why_N A.reverse R F hg2 hall2
  have hnw := noRef_why A R
  have hnw2 := noRef_why A.reverse R
  have hdl : (filL R A).dropLast.length = (filL R A.reverse).dropLast.length := by rw [List.length_dropLast, List.length_dropLast, hlen2]
  have hrun := fun η h => rev_run A (by omega) (by omega) η h
  have hne1 : ((((filL R A).length : Nat) : Int) != (((filL R A.reverse).length : Nat) : Int)) = false := by rw [hlen2]; exact bne_self_eq_false _
  have hne2 : ((L : Int) != (L : Int)) = false := bne_self_eq_false _
  generalize hcn : cntN (sfS A R F 0) = cn at *
  have hne3 : ((cn : Int) != (cn : Int)) = false := bne_self_eq_false _
  have n00 : ((0 : Int) != 0) = false := rfl
  have e00 : ((0 : Int) == 0) = true := rfl
  have e13 : ((13 : Int) == 13) = true := rfl
  unfold rO at hrun
  unfold whyR at hw hwN hnw hnw2
  generalize hA2 : A.reverse = A2 at *
  refine Runs.ofW (fn := xf9) 20 (by kernel_rfl) (W_run 160 ?_)
  simp (maxSteps := 2000000) only [go_some, go_none, go_zero, nxt_op, nxt_guard, nxt_skip, nxt_label, nxt_region, nxt_drawn, nxt_seq, nxt_block, nxt_scope, nxt_exit, nxt_blk, nxt_lp, nxt_cond, nxt_loop, nxt_ret, nxt_stop, nxt_nil, Eng.start, frG, frF, isCall, stp, exec1, exec1K, dK, Nat.reduceDiv, keyA, wantedA, stepF, stF_mv, stF_bin, stF_len, stF_un, stF_pick, stF_load, stF_iadr, stF_box, stF_fadr, stF_store, stF_ext, stF_fld, stF_idx, stF_aadr, stF_app, stF_bldS, stF_slc, stF_slcA, stF_bld, stF_isnil, stF_mki, stF_mkf, stF_mkb, stF_nilc, stF_mks, stF_tas, mapF_eq, evalF_eq, evalA, setAF, setA, setF_eq, putF_eq, lookF_eq, List.getD_cons_zero, List.getD_cons_succ, List.set_cons_zero, List.set_cons_succ, List.replicate, List.length_cons, List.length_nil, Nat.zero_add, Nat.reduceSub, Nat.reduceAdd, List.cons_append, List.nil_append, Option.getD, drop, Nat.beq, List.length_map, binV, binI, unV, if_true, Eng.asInt, Eng.part, cellsOf, toNat_cast, cast_nonneg, true_and, and_true, if_pos, giveOp, gvK, List.getElem?_cons_zero, List.getElem?_cons_succ, Bool.not_true, Bool.not_false, ofVal, eq_self, and_self, true_implies, dfF, touch, regF, quietF, pairOK, noCs, Go.Value.oneCell', decide_true, decide_false, Nat.mul_one, asBound, fullOf, Option.isSome_none, Option.isSome_some, Nat.zero_le, Bool.false_eq_true, false_implies, Int.cast_ofNat_Int, Int.reduceLT, Int.reduceLE, Int.reduceToNat, Nat.reduceMul, Int.le_refl, Eng.look, putAt, Nat.reduceEqDiff, reduceCtorEq, Nat.reduceBEq, if_false, List.all_cons, List.all_nil, tf_beq, ft_beq, lvSub, lvOK, isNone, width, solid, splice, List.take_zero, List.drop_zero, List.drop_nil, List.take_nil, List.drop_succ_cons, List.take_succ_cons, List.append_nil, beq_self_eq_true, Bool.and_true, Bool.true_and, Bool.and_self, ge_iff_le, gt_iff_lt, Nat.le_refl, Nat.reduceLeDiff, Nat.reduceLT, xf9, ai, u8, hGl, hGt]
  refine W_call (args := [.ag G, ai 12, ai 20]) rfl (noRefs_3 hGn rfl rfl) hmade (noRef_bk _ _ _ _) (W_run 160 ?_)
  simp (maxSteps := 2000000) only [go_some, go_none, go_zero, nxt_op, nxt_guard, nxt_skip, nxt_label, nxt_region, nxt_drawn, nxt_seq, nxt_block, nxt_scope, nxt_exit, nxt_blk, nxt_lp, nxt_cond, nxt_loop, nxt_ret, nxt_stop, nxt_nil, Eng.start, frG, frF, isCall, stp, exec1, exec1K, dK, Nat.reduceDiv, keyA, wantedA, stepF, stF_mv, stF_bin, stF_len, stF_un, stF_pick, stF_load, stF_iadr, stF_box, stF_fadr, stF_store, stF_ext, stF_fld, stF_idx, stF_aadr, stF_app, stF_bldS, stF_slc, stF_slcA, stF_bld, stF_isnil, stF_mki, stF_mkf, stF_mkb, stF_nilc, stF_mks, stF_tas, mapF_eq, evalF_eq, evalA, setAF, setA, setF_eq, putF_eq, lookF_eq, List.getD_cons_zero, List.getD_cons_succ, List.set_cons_zero, List.set_cons_succ, List.replicate, List.length_cons, List.length_nil, Nat.zero_add, Nat.reduceSub, Nat.reduceAdd, List.cons_append, List.nil_append, Option.getD, drop, Nat.beq, List.length_map, binV, binI, unV, if_true, Eng.asInt, Eng.part, cellsOf, toNat_cast, cast_nonneg, true_and, and_true, if_pos, giveOp, gvK, List.getElem?_cons_zero, List.getElem?_cons_succ, Bool.not_true, Bool.not_false, ofVal, eq_self, and_self, true_implies, dfF, touch, regF, quietF, pairOK, noCs, Go.Value.oneCell', decide_true, decide_false, Nat.mul_one, asBound, fullOf, Option.isSome_none, Option.isSome_some, Nat.zero_le, Bool.false_eq_true, false_implies, Int.cast_ofNat_Int, Int.reduceLT, Int.reduceLE, Int.reduceToNat, Nat.reduceMul, Int.le_refl, Eng.look, putAt, Nat.reduceEqDiff, reduceCtorEq, Nat.reduceBEq, if_false, List.all_cons, List.all_nil, tf_beq, ft_beq, lvSub, lvOK, isNone, width, solid, splice, List.take_zero, List.drop_zero, List.drop_nil, List.take_nil, List.drop_succ_cons, List.take_succ_cons, List.append_nil, beq_self_eq_true, Bool.and_true, Bool.true_and, Bool.and_self, ge_iff_le, gt_iff_lt, Nat.le_refl, Nat.reduceLeDiff, Nat.reduceLT, ai, u8, aS, bkA]
  refine W_frF [.none, .rk 5, .wk 1005, .none, .rk 5, .none, .rk 5, .none, .wk 7, .wk 7] (by kernel_rfl) (W_run 160 ?_)
  simp (maxSteps := 2000000) only [go_some, go_none, go_zero, nxt_op, nxt_guard, nxt_skip, nxt_label, nxt_region, nxt_drawn, nxt_seq, nxt_block, nxt_scope, nxt_exit, nxt_blk, nxt_lp, nxt_cond, nxt_loop, nxt_ret, nxt_stop, nxt_nil, Eng.start, frG, frF, isCall, stp, exec1, exec1K, dK, Nat.reduceDiv, keyA, wantedA, stepF, stF_mv, stF_bin, stF_len, stF_un, stF_pick, stF_load, stF_iadr, stF_box, stF_fadr, stF_store, stF_ext, stF_fld, stF_idx, stF_aadr, stF_app, stF_bldS, stF_slc, stF_slcA, stF_bld, stF_isnil, stF_mki, stF_mkf, stF_mkb, stF_nilc, stF_mks, stF_tas, mapF_eq, evalF_eq, evalA, setAF, setA, setF_eq, putF_eq, lookF_eq, List.getD_cons_zero, List.getD_cons_succ, List.set_cons_zero, List.set_cons_succ, List.replicate, List.length_cons, List.length_nil, Nat.zero_add, Nat.reduceSub, Nat.reduceAdd, List.cons_append, List.nil_append, Option.getD, drop, Nat.beq, List.length_map, binV, binI, unV, if_true, Eng.asInt, Eng.part, cellsOf, toNat_cast, cast_nonneg, true_and, and_true, if_pos, giveOp, gvK, List.getElem?_cons_zero, List.getElem?_cons_succ, Bool.not_true, Bool.not_false, ofVal, eq_self, and_self, true_implies, dfF, touch, regF, quietF, pairOK, noCs, Go.Value.oneCell', decide_true, decide_false, Nat.mul_one, asBound, fullOf, Option.isSome_none, Option.isSome_some, Nat.zero_le, Bool.false_eq_true, false_implies, Int.cast_ofNat_Int, Int.reduceLT, Int.reduceLE, Int.reduceToNat, Nat.reduceMul, Int.le_refl, Eng.look, putAt, Nat.reduceEqDiff, reduceCtorEq, Nat.reduceBEq, if_false, List.all_cons, List.all_nil, tf_beq, ft_beq, lvSub, lvOK, isNone, width, solid, splice, List.take_zero, List.drop_zero, List.drop_nil, List.take_nil, List.drop_succ_cons, List.take_succ_cons, List.append_nil, beq_self_eq_true, Bool.and_true, Bool.true_and, Bool.and_self, ge_iff_le, gt_iff_lt, Nat.le_refl, Nat.reduceLeDiff, Nat.reduceLT, ai, aS, bkA]
  refine W_callU (k0 := 1005) (args := [aS false A]) rfl (fun η hη => (cloneA_run A (by omega) η (hη.trans rfl)).pureR ord_mixed xf_ok) rfl (W_run 160 ?_)
  simp (maxSteps := 2000000) only [go_some, go_none, go_zero, nxt_op, nxt_guard, nxt_skip, nxt_label, nxt_region, nxt_drawn, nxt_seq, nxt_block, nxt_scope, nxt_exit, nxt_blk, nxt_lp, nxt_cond, nxt_loop, nxt_ret, nxt_stop, nxt_nil, Eng.start, frG, frF, isCall, stp, exec1, exec1K, dK, Nat.reduceDiv, keyA, wantedA, stepF, stF_mv, stF_bin, stF_len, stF_un, stF_pick, stF_load, stF_iadr, stF_box, stF_fadr, stF_store, stF_ext, stF_fld, stF_idx, stF_aadr, stF_app, stF_bldS, stF_slc, stF_slcA, stF_bld, stF_isnil, stF_mki, stF_mkf, stF_mkb, stF_nilc, stF_mks, stF_tas, mapF_eq, evalF_eq, evalA, setAF, setA, setF_eq, putF_eq, lookF_eq, List.getD_cons_zero, List.getD_cons_succ, List.set_cons_zero, List.set_cons_succ, List.replicate, List.length_cons, List.length_nil, Nat.zero_add, Nat.reduceSub, Nat.reduceAdd, List.cons_append, List.nil_append, Option.getD, drop, Nat.beq, List.length_map, binV, binI, unV, if_true, Eng.asInt, Eng.part, cellsOf, toNat_cast, cast_nonneg, true_and, and_true, if_pos, giveOp, gvK, List.getElem?_cons_zero, List.getElem?_cons_succ, Bool.not_true, Bool.not_false, ofVal, eq_self, and_self, true_implies, dfF, touch, regF, quietF, pairOK, noCs, Go.Value.oneCell', decide_true, decide_false, Nat.mul_one, asBound, fullOf, Option.isSome_none, Option.isSome_some, Nat.zero_le, Bool.false_eq_true, false_implies, Int.cast_ofNat_Int, Int.reduceLT, Int.reduceLE, Int.reduceToNat, Nat.reduceMul, Int.le_refl, Eng.look, putAt, Nat.reduceEqDiff, reduceCtorEq, Nat.reduceBEq, if_false, List.all_cons, List.all_nil, tf_beq, ft_beq, lvSub, lvOK, isNone, width, solid, splice, List.take_zero, List.drop_zero, List.drop_nil, List.take_nil, List.drop_succ_cons, List.take_succ_cons, List.append_nil, beq_self_eq_true, Bool.and_true, Bool.true_and, Bool.and_self, ge_iff_le, gt_iff_lt, Nat.le_refl, Nat.reduceLeDiff, Nat.reduceLT, ai, aS, bkA, Go.Proofs.Eng.fillA, List.map_cons, List.map_nil]
  refine W_callR (kb' := 1000) (args := [.os 1005 1 A.length 2 0 A.length]) rfl (hrun _ rfl) rfl (W_run 160 ?_)
  simp (maxSteps := 2000000) only [go_some, go_none, go_zero, nxt_op, nxt_guard, nxt_skip, nxt_label, nxt_region, nxt_drawn, nxt_seq, nxt_block, nxt_scope, nxt_exit, nxt_blk, nxt_lp, nxt_cond, nxt_loop, nxt_ret, nxt_stop, nxt_nil, Eng.start, frG, frF, isCall, stp, exec1, exec1K, dK, Nat.reduceDiv, keyA, wantedA, stepF, stF_mv, stF_bin, stF_len, stF_un, stF_pick, stF_load, stF_iadr, stF_box, stF_fadr, stF_store, stF_ext, stF_fld, stF_idx, stF_aadr, stF_app, stF_bldS, stF_slc, stF_slcA, stF_bld, stF_isnil, stF_mki, stF_mkf, stF_mkb, stF_nilc, stF_mks, stF_tas, mapF_eq, evalF_eq, evalA, setAF, setA, setF_eq, putF_eq, lookF_eq, List.getD_cons_zero, List.getD_cons_succ, List.set_cons_zero, List.set_cons_succ, List.replicate, List.length_cons, List.length_nil, Nat.zero_add, Nat.reduceSub, Nat.reduceAdd, List.cons_append, List.nil_append, Option.getD, drop, Nat.beq, List.length_map, binV, binI, unV, if_true, Eng.asInt, Eng.part, cellsOf, toNat_cast, cast_nonneg, true_and, and_true, if_pos, giveOp, gvK, List.getElem?_cons_zero, List.getElem?_cons_succ, Bool.not_true, Bool.not_false, ofVal, eq_self, and_self, true_implies, dfF, touch, regF, quietF, pairOK, noCs, Go.Value.oneCell', decide_true, decide_false, Nat.mul_one, asBound, fullOf, Option.isSome_none, Option.isSome_some, Nat.zero_le, Bool.false_eq_true, false_implies, Int.cast_ofNat_Int, Int.reduceLT, Int.reduceLE, Int.reduceToNat, Nat.reduceMul, Int.le_refl, Eng.look, putAt, Nat.reduceEqDiff, reduceCtorEq, Nat.reduceBEq, if_false, List.all_cons, List.all_nil, tf_beq, ft_beq, lvSub, lvOK, isNone, width, solid, splice, List.take_zero, List.drop_zero, List.drop_nil, List.take_nil, List.drop_succ_cons, List.take_succ_cons, List.append_nil, beq_self_eq_true, Bool.and_true, Bool.true_and, Bool.and_self, ge_iff_le, gt_iff_lt, Nat.le_refl, Nat.reduceLeDiff, Nat.reduceLT, ai, u8, aS, bkA, wz, zn, hq, wv, raw_conv, rawC, opA, argT, Option.elim, List.map_cons, List.map_nil]
  refine W_call (args := [bkA false A R F]) rfl (noRefs_1 (noRef_bk _ _ _ _)) hfew (noRef_t2 (noRef_al _ _) rfl) (W_run 160 ?_)
  simp (maxSteps := 2000000) only [go_some, go_none, go_zero, nxt_op, nxt_guard, nxt_skip, nxt_label, nxt_region, nxt_drawn, nxt_seq, nxt_block, nxt_scope, nxt_exit, nxt_blk, nxt_lp, nxt_cond, nxt_loop, nxt_ret, nxt_stop, nxt_nil, Eng.start, frG, frF, isCall, stp, exec1, exec1K, dK, Nat.reduceDiv, keyA, wantedA, stepF, stF_mv, stF_bin, stF_len, stF_un, stF_pick, stF_load, stF_iadr, stF_box, stF_fadr, stF_store, stF_ext, stF_fld, stF_idx, stF_aadr, stF_app, stF_bldS, stF_slc, stF_slcA, stF_bld, stF_isnil, stF_mki, stF_mkf, stF_mkb, stF_nilc, stF_mks, stF_tas, mapF_eq, evalF_eq, evalA, setAF, setA, setF_eq, putF_eq, lookF_eq, List.getD_cons_zero, List.getD_cons_succ, List.set_cons_zero, List.set_cons_succ, List.replicate, List.length_cons, List.length_nil, Nat.zero_add, Nat.reduceSub, Nat.reduceAdd, List.cons_append, List.nil_append, Option.getD, drop, Nat.beq, List.length_map, binV, binI, unV, if_true, Eng.asInt, Eng.part, cellsOf, toNat_cast, cast_nonneg, true_and, and_true, if_pos, giveOp, gvK, List.getElem?_cons_zero, List.getElem?_cons_succ, Bool.not_true, Bool.not_false, ofVal, eq_self, and_self, true_implies, dfF, touch, regF, quietF, pairOK, noCs, Go.Value.oneCell', decide_true, decide_false, Nat.mul_one, asBound, fullOf, Option.isSome_none, Option.isSome_some, Nat.zero_le, Bool.false_eq_true, false_implies, Int.cast_ofNat_Int, Int.reduceLT, Int.reduceLE, Int.reduceToNat, Nat.reduceMul, Int.le_refl, Eng.look, putAt, Nat.reduceEqDiff, reduceCtorEq, Nat.reduceBEq, if_false, List.all_cons, List.all_nil, tf_beq, ft_beq, lvSub, lvOK, isNone, width, solid, splice, List.take_zero, List.drop_zero, List.drop_nil, List.take_nil, List.drop_succ_cons, List.take_succ_cons, List.append_nil, beq_self_eq_true, Bool.and_true, Bool.true_and, Bool.and_self, ge_iff_le, gt_iff_lt, Nat.le_refl, Nat.reduceLeDiff, Nat.reduceLT, ai, al, aS, bkA]
  refine W_fresh (fuel := 20) (args := [.ag [.os 1005 1 A.length 2 0 A.length, ai R, ai F]]) (args' := [bkA false A2 R F]) rfl (by rw [List.mapM_cons, ← hl2, reify_bk2 (A := A2) rfl]; rfl) hfN (noRef_t2 (noRef_al _ _) rfl) rfl (W_run 160 ?_)
  simp (maxSteps := 2000000) only [go_some, go_none, go_zero, nxt_op, nxt_guard, nxt_skip, nxt_label, nxt_region, nxt_drawn, nxt_seq, nxt_block, nxt_scope, nxt_exit, nxt_blk, nxt_lp, nxt_cond, nxt_loop, nxt_ret, nxt_stop, nxt_nil, Eng.start, frG, frF, isCall, stp, exec1, exec1K, dK, Nat.reduceDiv, keyA, wantedA, stepF, stF_mv, stF_bin, stF_len, stF_un, stF_pick, stF_load, stF_iadr, stF_box, stF_fadr, stF_store, stF_ext, stF_fld, stF_idx, stF_aadr, stF_app, stF_bldS, stF_slc, stF_slcA, stF_bld, stF_isnil, stF_mki, stF_mkf, stF_mkb, stF_nilc, stF_mks, stF_tas, mapF_eq, evalF_eq, evalA, setAF, setA, setF_eq, putF_eq, lookF_eq, List.getD_cons_zero, List.getD_cons_succ, List.set_cons_zero, List.set_cons_succ, List.replicate, List.length_cons, List.length_nil, Nat.zero_add, Nat.reduceSub, Nat.reduceAdd, List.cons_append, List.nil_append, Option.getD, drop, Nat.beq, List.length_map, binV, binI, unV, if_true, Eng.asInt, Eng.part, cellsOf, toNat_cast, cast_nonneg, true_and, and_true, if_pos, giveOp, gvK, List.getElem?_cons_zero, List.getElem?_cons_succ, Bool.not_true, Bool.not_false, ofVal, eq_self, and_self, true_implies, dfF, touch, regF, quietF, pairOK, noCs, Go.Value.oneCell', decide_true, decide_false, Nat.mul_one, asBound, fullOf, Option.isSome_none, Option.isSome_some, Nat.zero_le, Bool.false_eq_true, false_implies, Int.cast_ofNat_Int, Int.reduceLT, Int.reduceLE, Int.reduceToNat, Nat.reduceMul, Int.le_refl, Eng.look, putAt, Nat.reduceEqDiff, reduceCtorEq, Nat.reduceBEq, if_false, List.all_cons, List.all_nil, tf_beq, ft_beq, lvSub, lvOK, isNone, width, solid, splice, List.take_zero, List.drop_zero, List.drop_nil, List.take_nil, List.drop_succ_cons, List.take_succ_cons, List.append_nil, beq_self_eq_true, Bool.and_true, Bool.true_and, Bool.and_self, ge_iff_le, gt_iff_lt, Nat.le_refl, Nat.reduceLeDiff, Nat.reduceLT, ai, al, aS, bkA]
  refine W_call (args := [bkA false A R F, ai (1 + (q : Int))]) rfl (noRefs_2 (noRef_bk _ _ _ _) rfl) hlev rfl (W_run 160 ?_)
  simp (maxSteps := 2000000) only [go_some, go_none, go_zero, nxt_op, nxt_guard, nxt_skip, nxt_label, nxt_region, nxt_drawn, nxt_seq, nxt_block, nxt_scope, nxt_exit, nxt_blk, nxt_lp, nxt_cond, nxt_loop, nxt_ret, nxt_stop, nxt_nil, Eng.start, frG, frF, isCall, stp, exec1, exec1K, dK, Nat.reduceDiv, keyA, wantedA, stepF, stF_mv, stF_bin, stF_len, stF_un, stF_pick, stF_load, stF_iadr, stF_box, stF_fadr, stF_store, stF_ext, stF_fld, stF_idx, stF_aadr, stF_app, stF_bldS, stF_slc, stF_slcA, stF_bld, stF_isnil, stF_mki, stF_mkf, stF_mkb, stF_nilc, stF_mks, stF_tas, mapF_eq, evalF_eq, evalA, setAF, setA, setF_eq, putF_eq, lookF_eq, List.getD_cons_zero, List.getD_cons_succ, List.set_cons_zero, List.set_cons_succ, List.replicate, List.length_cons, List.length_nil, Nat.zero_add, Nat.reduceSub, Nat.reduceAdd, List.cons_append, List.nil_append, Option.getD, drop, Nat.beq, List.length_map, binV, binI, unV, if_true, Eng.asInt, Eng.part, cellsOf, toNat_cast, cast_nonneg, true_and, and_true, if_pos, giveOp, gvK, List.getElem?_cons_zero, List.getElem?_cons_succ, Bool.not_true, Bool.not_false, ofVal, eq_self, and_self, true_implies, dfF, touch, regF, quietF, pairOK, noCs, Go.Value.oneCell', decide_true, decide_false, Nat.mul_one, asBound, fullOf, Option.isSome_none, Option.isSome_some, Nat.zero_le, Bool.false_eq_true, false_implies, Int.cast_ofNat_Int, Int.reduceLT, Int.reduceLE, Int.reduceToNat, Nat.reduceMul, Int.le_refl, Eng.look, putAt, Nat.reduceEqDiff, reduceCtorEq, Nat.reduceBEq, if_false, List.all_cons, List.all_nil, tf_beq, ft_beq, lvSub, lvOK, isNone, width, solid, splice, List.take_zero, List.drop_zero, List.drop_nil, List.take_nil, List.drop_succ_cons, List.take_succ_cons, List.append_nil, beq_self_eq_true, Bool.and_true, Bool.true_and, Bool.and_self, ge_iff_le, gt_iff_lt, Nat.le_refl, Nat.reduceLeDiff, Nat.reduceLT, ai, al, aS, bkA]
  refine W_look (fuel := 20) (args := [.ag [.os 1005 1 A.length 2 0 A.length, ai R, ai F], ai (1 + (q : Int))]) (args' := [bkA false A2 R F, ai (1 + (q : Int))]) rfl (by rw [List.mapM_cons, ← hl2, reify_bk2 (A := A2) rfl]; rfl) hlev2 rfl rfl (W_run 160 ?_)
  simp (maxSteps := 2000000) only [go_some, go_none, go_zero, nxt_op, nxt_guard, nxt_skip, nxt_label, nxt_region, nxt_drawn, nxt_seq, nxt_block, nxt_scope, nxt_exit, nxt_blk, nxt_lp, nxt_cond, nxt_loop, nxt_ret, nxt_stop, nxt_nil, Eng.start, frG, frF, isCall, stp, exec1, exec1K, dK, Nat.reduceDiv, keyA, wantedA, stepF, stF_mv, stF_bin, stF_len, stF_un, stF_pick, stF_load, stF_iadr, stF_box, stF_fadr, stF_store, stF_ext, stF_fld, stF_idx, stF_aadr, stF_app, stF_bldS, stF_slc, stF_slcA, stF_bld, stF_isnil, stF_mki, stF_mkf, stF_mkb, stF_nilc, stF_mks, stF_tas, mapF_eq, evalF_eq, evalA, setAF, setA, setF_eq, putF_eq, lookF_eq, List.getD_cons_zero, List.getD_cons_succ, List.set_cons_zero, List.set_cons_succ, List.replicate, List.length_cons, List.length_nil, Nat.zero_add, Nat.reduceSub, Nat.reduceAdd, List.cons_append, List.nil_append, Option.getD, drop, Nat.beq, List.length_map, binV, binI, unV, if_true, Eng.asInt, Eng.part, cellsOf, toNat_cast, cast_nonneg, true_and, and_true, if_pos, giveOp, gvK, List.getElem?_cons_zero, List.getElem?_cons_succ, Bool.not_true, Bool.not_false, ofVal, eq_self, and_self, true_implies, dfF, touch, regF, quietF, pairOK, noCs, Go.Value.oneCell', decide_true, decide_false, Nat.mul_one, asBound, fullOf, Option.isSome_none, Option.isSome_some, Nat.zero_le, Bool.false_eq_true, false_implies, Int.cast_ofNat_Int, Int.reduceLT, Int.reduceLE, Int.reduceToNat, Nat.reduceMul, Int.le_refl, Eng.look, putAt, Nat.reduceEqDiff, reduceCtorEq, Nat.reduceBEq, if_false, List.all_cons, List.all_nil, tf_beq, ft_beq, lvSub, lvOK, isNone, width, solid, splice, List.take_zero, List.drop_zero, List.drop_nil, List.take_nil, List.drop_succ_cons, List.take_succ_cons, List.append_nil, beq_self_eq_true, Bool.and_true, Bool.true_and, Bool.and_self, ge_iff_le, gt_iff_lt, Nat.le_refl, Nat.reduceLeDiff, Nat.reduceLT, ai, al, aS, bkA]
  refine W_call (args := [bkA false A R F]) rfl (noRefs_1 (noRef_bk _ _ _ _)) hcnt rfl (W_run 160 ?_)
  simp (maxSteps := 2000000) only [go_some, go_none, go_zero, nxt_op, nxt_guard, nxt_skip, nxt_label, nxt_region, nxt_drawn, nxt_seq, nxt_block, nxt_scope, nxt_exit, nxt_blk, nxt_lp, nxt_cond, nxt_loop, nxt_ret, nxt_stop, nxt_nil, Eng.start, frG, frF, isCall, stp, exec1, exec1K, dK, Nat.reduceDiv, keyA, wantedA, stepF, stF_mv, stF_bin, stF_len, stF_un, stF_pick, stF_load, stF_iadr, stF_box, stF_fadr, stF_store, stF_ext, stF_fld, stF_idx, stF_aadr, stF_app, stF_bldS, stF_slc, stF_slcA, stF_bld, stF_isnil, stF_mki, stF_mkf, stF_mkb, stF_nilc, stF_mks, stF_tas, mapF_eq, evalF_eq, evalA, setAF, setA, setF_eq, putF_eq, lookF_eq, List.getD_cons_zero, List.getD_cons_succ, List.set_cons_zero, List.set_cons_succ, List.replicate, List.length_cons, List.length_nil, Nat.zero_add, Nat.reduceSub, Nat.reduceAdd, List.cons_append, List.nil_append, Option.getD, drop, Nat.beq, List.length_map, binV, binI, unV, if_true, Eng.asInt, Eng.part, cellsOf, toNat_cast, cast_nonneg, true_and, and_true, if_pos, giveOp, gvK, List.getElem?_cons_zero, List.getElem?_cons_succ, Bool.not_true, Bool.not_false, ofVal, eq_self, and_self, true_implies, dfF, touch, regF, quietF, pairOK, noCs, Go.Value.oneCell', decide_true, decide_false, Nat.mul_one, asBound, fullOf, Option.isSome_none, Option.isSome_some, Nat.zero_le, Bool.false_eq_true, false_implies, Int.cast_ofNat_Int, Int.reduceLT, Int.reduceLE, Int.reduceToNat, Nat.reduceMul, Int.le_refl, Eng.look, putAt, Nat.reduceEqDiff, reduceCtorEq, Nat.reduceBEq, if_false, List.all_cons, List.all_nil, tf_beq, ft_beq, lvSub, lvOK, isNone, width, solid, splice, List.take_zero, List.drop_zero, List.drop_nil, List.take_nil, List.drop_succ_cons, List.take_succ_cons, List.append_nil, beq_self_eq_true, Bool.and_true, Bool.true_and, Bool.and_self, ge_iff_le, gt_iff_lt, Nat.le_refl, Nat.reduceLeDiff, Nat.reduceLT, ai, al, aS, bkA]
  refine W_look (fuel := 20) (args := [.ag [.os 1005 1 A.length 2 0 A.length, ai R, ai F]]) (args' := [bkA false A2 R F]) rfl (by rw [List.mapM_cons, ← hl2, reify_bk2 (A := A2) rfl]; rfl) hcnt2 rfl rfl (W_run 160 ?_)
  simp (maxSteps := 2000000) only [go_some, go_none, go_zero, nxt_op, nxt_guard, nxt_skip, nxt_label, nxt_region, nxt_drawn, nxt_seq, nxt_block, nxt_scope, nxt_exit, nxt_blk, nxt_lp, nxt_cond, nxt_loop, nxt_ret, nxt_stop, nxt_nil, Eng.start, frG, frF, isCall, stp, exec1, exec1K, dK, Nat.reduceDiv, keyA, wantedA, stepF, stF_mv, stF_bin, stF_len, stF_un, stF_pick, stF_load, stF_iadr, stF_box, stF_fadr, stF_store, stF_ext, stF_fld, stF_idx, stF_aadr, stF_app, stF_bldS, stF_slc, stF_slcA, stF_bld, stF_isnil, stF_mki, stF_mkf, stF_mkb, stF_nilc, stF_mks, stF_tas, mapF_eq, evalF_eq, evalA, setAF, setA, setF_eq, putF_eq, lookF_eq, List.getD_cons_zero, List.getD_cons_succ, List.set_cons_zero, List.set_cons_succ, List.replicate, List.length_cons, List.length_nil, Nat.zero_add, Nat.reduceSub, Nat.reduceAdd, List.cons_append, List.nil_append, Option.getD, drop, Nat.beq, List.length_map, binV, binI, unV, if_true, Eng.asInt, Eng.part, cellsOf, toNat_cast, cast_nonneg, true_and, and_true, if_pos, giveOp, gvK, List.getElem?_cons_zero, List.getElem?_cons_succ, Bool.not_true, Bool.not_false, ofVal, eq_self, and_self, true_implies, dfF, touch, regF, quietF, pairOK, noCs, Go.Value.oneCell', decide_true, decide_false, Nat.mul_one, asBound, fullOf, Option.isSome_none, Option.isSome_some, Nat.zero_le, Bool.false_eq_true, false_implies, Int.cast_ofNat_Int, Int.reduceLT, Int.reduceLE, Int.reduceToNat, Nat.reduceMul, Int.le_refl, Eng.look, putAt, Nat.reduceEqDiff, reduceCtorEq, Nat.reduceBEq, if_false, List.all_cons, List.all_nil, tf_beq, ft_beq, lvSub, lvOK, isNone, width, solid, splice, List.take_zero, List.drop_zero, List.drop_nil, List.take_nil, List.drop_succ_cons, List.take_succ_cons, List.append_nil, beq_self_eq_true, Bool.and_true, Bool.true_and, Bool.and_self, ge_iff_le, gt_iff_lt, Nat.le_refl, Nat.reduceLeDiff, Nat.reduceLT, ai, al, aS, bkA, undef, n00, hne1, hne2, hne3, List.length_map]
  by_cases h1 : (filL R A).length = 1
  · have h2 : (filL R A2).length = 1 := by omega
    rw [if_pos h1] at hw hnw
    rw [if_pos h2] at hwN hnw2
    refine W_call (args := [bkA false A R F]) rfl (noRefs_1 (noRef_bk _ _ _ _)) hw hnw (W_run 160 ?_)
    simp (maxSteps := 2000000) only [go_some, go_none, go_zero, nxt_op, nxt_guard, nxt_skip, nxt_label, nxt_region, nxt_drawn, nxt_seq, nxt_block, nxt_scope, nxt_exit, nxt_blk, nxt_lp, nxt_cond, nxt_loop, nxt_ret, nxt_stop, nxt_nil, Eng.start, frG, frF, isCall, stp, exec1, exec1K, dK, Nat.reduceDiv, keyA, wantedA, stepF, stF_mv, stF_bin, stF_len, stF_un, stF_pick, stF_load, stF_iadr, stF_box, stF_fadr, stF_store, stF_ext, stF_fld, stF_idx, stF_aadr, stF_app, stF_bldS, stF_slc, stF_slcA, stF_bld, stF_isnil, stF_mki, stF_mkf, stF_mkb, stF_nilc, stF_mks, stF_tas, mapF_eq, evalF_eq, evalA, setAF, setA, setF_eq, putF_eq, lookF_eq, List.getD_cons_zero, List.getD_cons_succ, List.set_cons_zero, List.set_cons_succ, List.replicate, List.length_cons, List.length_nil, Nat.zero_add, Nat.reduceSub, Nat.reduceAdd, List.cons_append, List.nil_append, Option.getD, drop, Nat.beq, List.length_map, binV, binI, unV, if_true, Eng.asInt, Eng.part, cellsOf, toNat_cast, cast_nonneg, true_and, and_true, if_pos, giveOp, gvK, List.getElem?_cons_zero, List.getElem?_cons_succ, Bool.not_true, Bool.not_false, ofVal, eq_self, and_self, true_implies, dfF, touch, regF, quietF, pairOK, noCs, Go.Value.oneCell', decide_true, decide_false, Nat.mul_one, asBound, fullOf, Option.isSome_none, Option.isSome_some, Nat.zero_le, Bool.false_eq_true, false_implies, Int.cast_ofNat_Int, Int.reduceLT, Int.reduceLE, Int.reduceToNat, Nat.reduceMul, Int.le_refl, Eng.look, putAt, Nat.reduceEqDiff, reduceCtorEq, Nat.reduceBEq, if_false, List.all_cons, List.all_nil, tf_beq, ft_beq, lvSub, lvOK, isNone, width, solid, splice, List.take_zero, List.drop_zero, List.drop_nil, List.take_nil, List.drop_succ_cons, List.take_succ_cons, List.append_nil, beq_self_eq_true, Bool.and_true, Bool.true_and, Bool.and_self, ge_iff_le, gt_iff_lt, Nat.le_refl, Nat.reduceLeDiff, Nat.reduceLT, ai, al, ab, aS, bkA, nilA, undef]
    refine W_fresh (fuel := 20) (args := [.ag [.os 1005 1 A.length 2 0 A.length, ai R, ai F]]) (args' := [bkA false A2 R F]) rfl (by rw [List.mapM_cons, ← hl2, reify_bk2 (A := A2) rfl]; rfl) hwN hnw2 rfl (W_run 160 ?_)
    simp (maxSteps := 2000000) only [go_some, go_none, go_zero, nxt_op, nxt_guard, nxt_skip, nxt_label, nxt_region, nxt_drawn, nxt_seq, nxt_block, nxt_scope, nxt_exit, nxt_blk, nxt_lp, nxt_cond, nxt_loop, nxt_ret, nxt_stop, nxt_nil, Eng.start, frG, frF, isCall, stp, exec1, exec1K, dK, Nat.reduceDiv, keyA, wantedA, stepF, stF_mv, stF_bin, stF_len, stF_un, stF_pick, stF_load, stF_iadr, stF_box, stF_fadr, stF_store, stF_ext, stF_fld, stF_idx, stF_aadr, stF_app, stF_bldS, stF_slc, stF_slcA, stF_bld, stF_isnil, stF_mki, stF_mkf, stF_mkb, stF_nilc, stF_mks, stF_tas, mapF_eq, evalF_eq, evalA, setAF, setA, setF_eq, putF_eq, lookF_eq, List.getD_cons_zero, List.getD_cons_succ, List.set_cons_zero, List.set_cons_succ, List.replicate, List.length_cons, List.length_nil, Nat.zero_add, Nat.reduceSub, Nat.reduceAdd, List.cons_append, List.nil_append, Option.getD, drop, Nat.beq, List.length_map, binV, binI, unV, if_true, Eng.asInt, Eng.part, cellsOf, toNat_cast, cast_nonneg, true_and, and_true, if_pos, giveOp, gvK, List.getElem?_cons_zero, List.getElem?_cons_succ, Bool.not_true, Bool.not_false, ofVal, eq_self, and_self, true_implies, dfF, touch, regF, quietF, pairOK, noCs, Go.Value.oneCell', decide_true, decide_false, Nat.mul_one, asBound, fullOf, Option.isSome_none, Option.isSome_some, Nat.zero_le, Bool.false_eq_true, false_implies, Int.cast_ofNat_Int, Int.reduceLT, Int.reduceLE, Int.reduceToNat, Nat.reduceMul, Int.le_refl, Eng.look, putAt, Nat.reduceEqDiff, reduceCtorEq, Nat.reduceBEq, if_false, List.all_cons, List.all_nil, tf_beq, ft_beq, lvSub, lvOK, isNone, width, solid, splice, List.take_zero, List.drop_zero, List.drop_nil, List.take_nil, List.drop_succ_cons, List.take_succ_cons, List.append_nil, beq_self_eq_true, Bool.and_true, Bool.true_and, Bool.and_self, ge_iff_le, gt_iff_lt, Nat.le_refl, Nat.reduceLeDiff, Nat.reduceLT, ai, al, ab, aS, bkA, nilA, undef, e00, e13]
    refine W_call (args := []) rfl rfl hwk rfl (W_run 160 ?_)
    simp (maxSteps := 2000000) only [go_some, go_none, go_zero, nxt_op, nxt_guard, nxt_skip, nxt_label, nxt_region, nxt_drawn, nxt_seq, nxt_block, nxt_scope, nxt_exit, nxt_blk, nxt_lp, nxt_cond, nxt_loop, nxt_ret, nxt_stop, nxt_nil, Eng.start, frG, frF, isCall, stp, exec1, exec1K, dK, Nat.reduceDiv, keyA, wantedA, stepF, stF_mv, stF_bin, stF_len, stF_un, stF_pick, stF_load, stF_iadr, stF_box, stF_fadr, stF_store, stF_ext, stF_fld, stF_idx, stF_aadr, stF_app, stF_bldS, stF_slc, stF_slcA, stF_bld, stF_isnil, stF_mki, stF_mkf, stF_mkb, stF_nilc, stF_mks, stF_tas, mapF_eq, evalF_eq, evalA, setAF, setA, setF_eq, putF_eq, lookF_eq, List.getD_cons_zero, List.getD_cons_succ, List.set_cons_zero, List.set_cons_succ, List.replicate, List.length_cons, List.length_nil, Nat.zero_add, Nat.reduceSub, Nat.reduceAdd, List.cons_append, List.nil_append, Option.getD, drop, Nat.beq, List.length_map, binV, binI, unV, if_true, Eng.asInt, Eng.part, cellsOf, toNat_cast, cast_nonneg, true_and, and_true, if_pos, giveOp, gvK, List.getElem?_cons_zero, List.getElem?_cons_succ, Bool.not_true, Bool.not_false, ofVal, eq_self, and_self, true_implies, dfF, touch, regF, quietF, pairOK, noCs, Go.Value.oneCell', decide_true, decide_false, Nat.mul_one, asBound, fullOf, Option.isSome_none, Option.isSome_some, Nat.zero_le, Bool.false_eq_true, false_implies, Int.cast_ofNat_Int, Int.reduceLT, Int.reduceLE, Int.reduceToNat, Nat.reduceMul, Int.le_refl, Eng.look, putAt, Nat.reduceEqDiff, reduceCtorEq, Nat.reduceBEq, if_false, List.all_cons, List.all_nil, tf_beq, ft_beq, lvSub, lvOK, isNone, width, solid, splice, List.take_zero, List.drop_zero, List.drop_nil, List.take_nil, List.drop_succ_cons, List.take_succ_cons, List.append_nil, beq_self_eq_true, Bool.and_true, Bool.true_and, Bool.and_self, ge_iff_le, gt_iff_lt, Nat.le_refl, Nat.reduceLeDiff, Nat.reduceLT, ab]
    exact W_ret1 (WX_nil ⟨.inl rfl, _, rfl, rfl⟩)
  · have h2 : ¬ (filL R A2).length = 1 := by omega
    have hww : (((whyP 0 (filL R A).dropLast).length : Int) == ((whyP 0 (filL R A2).dropLast).length : Int)) = true := by rw [whyP_len, whyP_len, hdl]; simp
    rw [if_neg h1] at hw hnw
    rw [if_neg h2] at hwN hnw2
    refine W_call (args := [bkA false A R F]) rfl (noRefs_1 (noRef_bk _ _ _ _)) hw hnw (W_run 160 ?_)
    simp (maxSteps := 2000000) only [go_some, go_none, go_zero, nxt_op, nxt_guard, nxt_skip, nxt_label, nxt_region, nxt_drawn, nxt_seq, nxt_block, nxt_scope, nxt_exit, nxt_blk, nxt_lp, nxt_cond, nxt_loop, nxt_ret, nxt_stop, nxt_nil, Eng.start, frG, frF, isCall, stp, exec1, exec1K, dK, Nat.reduceDiv, keyA, wantedA, stepF, stF_mv, stF_bin, stF_len, stF_un, stF_pick, stF_load, stF_iadr, stF_box, stF_fadr, stF_store, stF_ext, stF_fld, stF_idx, stF_aadr, stF_app, stF_bldS, stF_slc, stF_slcA, stF_bld, stF_isnil, stF_mki, stF_mkf, stF_mkb, stF_nilc, stF_mks, stF_tas, mapF_eq, evalF_eq, evalA, setAF, setA, setF_eq, putF_eq, lookF_eq, List.getD_cons_zero, List.getD_cons_succ, List.set_cons_zero, List.set_cons_succ, List.replicate, List.length_cons, List.length_nil, Nat.zero_add, Nat.reduceSub, Nat.reduceAdd, List.cons_append, List.nil_append, Option.getD, drop, Nat.beq, List.length_map, binV, binI, unV, if_true, Eng.asInt, Eng.part, cellsOf, toNat_cast, cast_nonneg, true_and, and_true, if_pos, giveOp, gvK, List.getElem?_cons_zero, List.getElem?_cons_succ, Bool.not_true, Bool.not_false, ofVal, eq_self, and_self, true_implies, dfF, touch, regF, quietF, pairOK, noCs, Go.Value.oneCell', decide_true, decide_false, Nat.mul_one, asBound, fullOf, Option.isSome_none, Option.isSome_some, Nat.zero_le, Bool.false_eq_true, false_implies, Int.cast_ofNat_Int, Int.reduceLT, Int.reduceLE, Int.reduceToNat, Nat.reduceMul, Int.le_refl, Eng.look, putAt, Nat.reduceEqDiff, reduceCtorEq, Nat.reduceBEq, if_false, List.all_cons, List.all_nil, tf_beq, ft_beq, lvSub, lvOK, isNone, width, solid, splice, List.take_zero, List.drop_zero, List.drop_nil, List.take_nil, List.drop_succ_cons, List.take_succ_cons, List.append_nil, beq_self_eq_true, Bool.and_true, Bool.true_and, Bool.and_self, ge_iff_le, gt_iff_lt, Nat.le_refl, Nat.reduceLeDiff, Nat.reduceLT, ai, al, ab, aS, bkA, nilA, undef]
    refine W_fresh (fuel := 20) (args := [.ag [.os 1005 1 A.length 2 0 A.length, ai R, ai F]]) (args' := [bkA false A2 R F]) rfl (by rw [List.mapM_cons, ← hl2, reify_bk2 (A := A2) rfl]; rfl) hwN hnw2 rfl (W_run 160 ?_)
    simp (maxSteps := 2000000) only [go_some, go_none, go_zero, nxt_op, nxt_guard, nxt_skip, nxt_label, nxt_region, nxt_drawn, nxt_seq, nxt_block, nxt_scope, nxt_exit, nxt_blk, nxt_lp, nxt_cond, nxt_loop, nxt_ret, nxt_stop, nxt_nil, Eng.start, frG, frF, isCall, stp, exec1, exec1K, dK, Nat.reduceDiv, keyA, wantedA, stepF, stF_mv, stF_bin, stF_len, stF_un, stF_pick, stF_load, stF_iadr, stF_box, stF_fadr, stF_store, stF_ext, stF_fld, stF_idx, stF_aadr, stF_app, stF_bldS, stF_slc, stF_slcA, stF_bld, stF_isnil, stF_mki, stF_mkf, stF_mkb, stF_nilc, stF_mks, stF_tas, mapF_eq, evalF_eq, evalA, setAF, setA, setF_eq, putF_eq, lookF_eq, List.getD_cons_zero, List.getD_cons_succ, List.set_cons_zero, List.set_cons_succ, List.replicate, List.length_cons, List.length_nil, Nat.zero_add, Nat.reduceSub, Nat.reduceAdd, List.cons_append, List.nil_append, Option.getD, drop, Nat.beq, List.length_map, binV, binI, unV, if_true, Eng.asInt, Eng.part, cellsOf, toNat_cast, cast_nonneg, true_and, and_true, if_pos, giveOp, gvK, List.getElem?_cons_zero, List.getElem?_cons_succ, Bool.not_true, Bool.not_false, ofVal, eq_self, and_self, true_implies, dfF, touch, regF, quietF, pairOK, noCs, Go.Value.oneCell', decide_true, decide_false, Nat.mul_one, asBound, fullOf, Option.isSome_none, Option.isSome_some, Nat.zero_le, Bool.false_eq_true, false_implies, Int.cast_ofNat_Int, Int.reduceLT, Int.reduceLE, Int.reduceToNat, Nat.reduceMul, Int.le_refl, Eng.look, putAt, Nat.reduceEqDiff, reduceCtorEq, Nat.reduceBEq, if_false, List.all_cons, List.all_nil, tf_beq, ft_beq, lvSub, lvOK, isNone, width, solid, splice, List.take_zero, List.drop_zero, List.drop_nil, List.take_nil, List.drop_succ_cons, List.take_succ_cons, List.append_nil, beq_self_eq_true, Bool.and_true, Bool.true_and, Bool.and_self, ge_iff_le, gt_iff_lt, Nat.le_refl, Nat.reduceLeDiff, Nat.reduceLT, ai, al, ab, aS, bkA, nilA, undef, e00, List.length_map, hww]
    refine W_call (args := []) rfl rfl hwk rfl (W_run 160 ?_)
    simp (maxSteps := 2000000) only [go_some, go_none, go_zero, nxt_op, nxt_guard, nxt_skip, nxt_label, nxt_region, nxt_drawn, nxt_seq, nxt_block, nxt_scope, nxt_exit, nxt_blk, nxt_lp, nxt_cond, nxt_loop, nxt_ret, nxt_stop, nxt_nil, Eng.start, frG, frF, isCall, stp, exec1, exec1K, dK, Nat.reduceDiv, keyA, wantedA, stepF, stF_mv, stF_bin, stF_len, stF_un, stF_pick, stF_load, stF_iadr, stF_box, stF_fadr, stF_store, stF_ext, stF_fld, stF_idx, stF_aadr, stF_app, stF_bldS, stF_slc, stF_slcA, stF_bld, stF_isnil, stF_mki, stF_mkf, stF_mkb, stF_nilc, stF_mks, stF_tas, mapF_eq, evalF_eq, evalA, setAF, setA, setF_eq, putF_eq, lookF_eq, List.getD_cons_zero, List.getD_cons_succ, List.set_cons_zero, List.set_cons_succ, List.replicate, List.length_cons, List.length_nil, Nat.zero_add, Nat.reduceSub, Nat.reduceAdd, List.cons_append, List.nil_append, Option.getD, drop, Nat.beq, List.length_map, binV, binI, unV, if_true, Eng.asInt, Eng.part, cellsOf, toNat_cast, cast_nonneg, true_and, and_true, if_pos, giveOp, gvK, List.getElem?_cons_zero, List.getElem?_cons_succ, Bool.not_true, Bool.not_false, ofVal, eq_self, and_self, true_implies, dfF, touch, regF, quietF, pairOK, noCs, Go.Value.oneCell', decide_true, decide_false, Nat.mul_one, asBound, fullOf, Option.isSome_none, Option.isSome_some, Nat.zero_le, Bool.false_eq_true, false_implies, Int.cast_ofNat_Int, Int.reduceLT, Int.reduceLE, Int.reduceToNat, Nat.reduceMul, Int.le_refl, Eng.look, putAt, Nat.reduceEqDiff, reduceCtorEq, Nat.reduceBEq, if_false, List.all_cons, List.all_nil, tf_beq, ft_beq, lvSub, lvOK, isNone, width, solid, splice, List.take_zero, List.drop_zero, List.drop_nil, List.take_nil, List.drop_succ_cons, List.take_succ_cons, List.append_nil, beq_self_eq_true, Bool.and_true, Bool.true_and, Bool.and_self, ge_iff_le, gt_iff_lt, Nat.le_refl, Nat.reduceLeDiff, Nat.reduceLT, ab]
    exact W_ret1 (WX_nil ⟨.inl rfl, _, rfl, rfl⟩)
end Go.Proofs.Ytnpdpkeackicmaa

