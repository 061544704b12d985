/-
  The greedy cut is a cut that holds; the law's long; the least number of which something holds.
-/
import Derived.Test.YtnpdpkeackicmaaVj
set_option linter.unusedSimpArgs false
set_option linter.unusedVariables false
namespace Go.Proofs.Ytnpdpkeackicmaa
open Go Go.Proofs.Eng
set_option maxRecDepth 100000
set_option maxHeartbeats 4000000
theorem sm_one (A : List (Int × Int)) {i : Nat} (h : i < A.length) : smM (seg A i (i + 1)) = (A.getD i (0, 0)).2 := by
  rw [seg_snoc h (Nat.le_refl i), seg_self, List.nil_append]
  simp [smM, sumI]
theorem fil_good (A : List (Int × Int)) (R : Int) (hall : ∀ p, p ∈ A → p.2 ≤ R) (h0 : 0 < A.length) : ∀ (k i b : Nat), i + k = A.length → (b < i ∨ (i = 0 ∧ b = 0)) → smM (seg A b i) ≤ R →
    vErr A.length b (fl R ((A.drop i).map Prod.snd) (smM (seg A b i)) i) = 0 ∧ (vSeg A b (fl R ((A.drop i).map Prod.snd) (smM (seg A b i)) i)).any (buP R) = false
  | 0, i, b, hi, hb, hs => by
    have : i = A.length := by omega
    subst this
    rw [List.drop_length, List.map_nil, fl]
    constructor
    · unfold vErr
      rw [if_neg (by omega), if_neg (by omega)]
      unfold vErr
      exact if_pos rfl
    · simp only [vSeg, List.any_cons, List.any_nil, Bool.or_false, toNat_cast]
      exact decide_eq_false (by omega)
  | k + 1, i, b, hi, hb, hs => by
    have h1 : i < A.length := by omega
    have hm := hall _ (getD_mem (d := (0, 0)) h1)
    have hone := sm_one A h1
    have hsn : smM (seg A b (i + 1)) = smM (seg A b i) + (A.getD i (0, 0)).2 := by rw [seg_snoc h1 (by omega), smM_snoc]
    rw [drop_at (d := (0, 0)) h1, List.map_cons, fl]
    by_cases hc : smM (seg A b i) + (A.getD i (0, 0)).2 > R
    · rw [if_pos hc]
      have hbi : b < i := by
        rcases hb with h | ⟨h, h'⟩
        · exact h
        · subst h; subst h'
          rw [seg_self] at hc
          have : smM [] = 0 := rfl
          omega
      have ih := fil_good A R hall h0 k (i + 1) i (by omega) (.inl (by omega)) (by omega)
      rw [hone] at ih
      constructor
      · unfold vErr
        rw [if_neg (by omega), if_neg (by omega)]
        exact ih.1
      · simp only [vSeg, List.any_cons, toNat_cast]
        rw [ih.2, Bool.or_false]
        exact decide_eq_false (by omega)
    · rw [if_neg hc, ← hsn]
      exact fil_good A R hall h0 k (i + 1) b (by omega) (.inl (by omega)) (by omega)
theorem fil_cut (A : List (Int × Int)) (R : Int) (hall : ∀ p, p ∈ A → p.2 ≤ R) (h0 : 0 < A.length) (hR : 0 ≤ R) : vErr A.length 0 (filL R A) = 0 ∧ (vSeg A 0 (filL R A)).any (buP R) = false := by
  have h := fil_good A R hall h0 A.length 0 0 (by omega) (.inr ⟨rfl, rfl⟩) (by rw [seg_self]; exact hR)
  rw [seg_self, List.drop_zero] at h
  exact h
theorem vErr_get {n : Nat} : ∀ {E : List Int} {b : Int}, vErr n b E = 0 → ∀ i, i < E.length → 1 ≤ E.getD i 0 ∧ E.getD i 0 ≤ n ∧ (i = 0 → b < E.getD i 0) ∧ (0 < i → E.getD (i - 1) 0 < E.getD i 0)
  | [], b, _, i, hi => by cases hi
  | e :: t, b, h, i, hi => by
    obtain ⟨h1, h2, h3, h4⟩ := vErr_cons h
    match i, hi with
    | 0, _ => exact ⟨h1, h2, fun _ => h3, fun q => by omega⟩
    | j + 1, hi =>
      have ih := vErr_get h4 j (by simpa using hi)
      simp only [List.getD_cons_succ]
      refine ⟨ih.1, ih.2.1, fun q => by omega, fun _ => ?_⟩
      rcases Nat.eq_zero_or_pos j with q | q
      · subst q; exact ih.2.2.1 rfl
      · have := ih.2.2.2 q
        obtain ⟨a, rfl⟩ : ∃ a, j = a + 1 := ⟨j - 1, by omega⟩
        exact this
theorem vErr_ne {n : Nat} (h0 : 0 < n) {E : List Int} (h : vErr n 0 E = 0) : E ≠ [] := fun e => by
  rw [e] at h
  unfold vErr at h
  split at h
  · omega
  · cases h
theorem vErr_end {n : Nat} (h0 : 0 < n) {E : List Int} (h : vErr n 0 E = 0) : 0 < E.length ∧ E.getD (E.length - 1) 0 = n := by
  have hne := vErr_ne h0 h
  obtain ⟨P, x, hP⟩ : ∃ P x, E = P ++ [x] := ⟨E.dropLast, E.getLast hne, (List.dropLast_concat_getLast hne).symm⟩
  obtain ⟨hx, _⟩ := vErr_last (n := (n : Int)) (P := P) (b := 0) (e := x) (by rw [← hP]; exact h)
  rw [hP]
  refine ⟨by simp, ?_⟩
  rw [List.getD_eq_getElem?_getD]
  simp [hx]
theorem long_loop (n : Nat) (f : Bool) (E : List Int) (hE : E.length ≤ 1000) (hv : vErr n 0 E = 0) (x2 x3 : AV) (K : List Fr) (Q : Out → Cfg → Prop)
    (hK : ∀ j5 j6 j10 j11 j12 j13 j14 j15 j16 j17 j18 j19 j20 j21 j22 j23 j24 j25 j26 j27 j28 j29 j30 j31 j32 j33 j34 j35 j36 j37 j38 j39 j40 j41 j42 j43 j44 j45 j46 j47 : AV, W Try.prog (RelU Try.prog xf) 0 K ⟨((al f E) :: (ai n) :: x2 :: x3 :: (ab false) :: j5 :: j6 :: (al f E) :: (ai E.length) :: (ai E.length) :: j10 :: j11 :: j12 :: j13 :: j14 :: j15 :: j16 :: j17 :: j18 :: j19 :: j20 :: j21 :: j22 :: j23 :: j24 :: j25 :: j26 :: j27 :: j28 :: j29 :: j30 :: j31 :: j32 :: j33 :: j34 :: j35 :: j36 :: j37 :: j38 :: j39 :: j40 :: j41 :: j42 :: j43 :: j44 :: j45 :: j46 :: j47 :: []), []⟩ Q) :
    ∀ (k i : Nat), i + k = E.length → ∀ j5 j6 j10 j11 j12 j13 j14 j15 j16 j17 j18 j19 j20 j21 j22 j23 j24 j25 j26 j27 j28 j29 j30 j31 j32 j33 j34 j35 j36 j37 j38 j39 j40 j41 j42 j43 j44 j45 j46 j47 : AV, W Try.prog (RelU Try.prog xf) 0 (.code (.loop xf16_L0) :: .blk 0 :: .stop :: K) ⟨((al f E) :: (ai n) :: x2 :: x3 :: (ab false) :: j5 :: j6 :: (al f E) :: (ai E.length) :: (ai i) :: j10 :: j11 :: j12 :: j13 :: j14 :: j15 :: j16 :: j17 :: j18 :: j19 :: j20 :: j21 :: j22 :: j23 :: j24 :: j25 :: j26 :: j27 :: j28 :: j29 :: j30 :: j31 :: j32 :: j33 :: j34 :: j35 :: j36 :: j37 :: j38 :: j39 :: j40 :: j41 :: j42 :: j43 :: j44 :: j45 :: j46 :: j47 :: []), []⟩ Q := by
  intro k
  induction k with
  | zero =>
    intro i hi j5 j6 j10 j11 j12 j13 j14 j15 j16 j17 j18 j19 j20 j21 j22 j23 j24 j25 j26 j27 j28 j29 j30 j31 j32 j33 j34 j35 j36 j37 j38 j39 j40 j41 j42 j43 j44 j45 j46 j47
    have : i = E.length := by omega
    subst this
    have h0 : decide (E.length < E.length) = false := by simp
    refine W_loop (W_run 80 ?_)
    simp (maxSteps := 2000000) only [go_some, go_none, go_zero, nxt_op, nxt_guard, nxt_skip, nxt_label, nxt_region, nxt_drawn, nxt_seq, nxt_block, nxt_scope, nxt_exit, nxt_blk, nxt_lp, nxt_cond, nxt_loop, nxt_ret, nxt_stop, nxt_nil, Eng.start, frG, frF, isCall, stp, exec1, exec1K, dK, Nat.reduceDiv, keyA, wantedA, stepF, stF_mv, stF_bin, stF_len, stF_un, stF_pick, stF_load, stF_iadr, stF_box, stF_fadr, stF_store, stF_ext, stF_fld, stF_idx, stF_aadr, stF_app, stF_bldS, stF_slc, stF_slcA, stF_bld, stF_isnil, stF_mki, stF_mkf, stF_mkb, stF_nilc, stF_mks, mapF_eq, evalF_eq, evalA, setAF, setA, setF_eq, putF_eq, lookF_eq, List.getD_cons_zero, List.getD_cons_succ, List.set_cons_zero, List.set_cons_succ, List.replicate, List.length_cons, List.length_nil, Nat.zero_add, Nat.reduceSub, Nat.reduceAdd, List.cons_append, List.nil_append, Option.getD, drop, Nat.beq, List.length_map, binV, binI, unV, if_true, Eng.asInt, Eng.part, cellsOf, toNat_cast, cast_nonneg, true_and, and_true, if_pos, giveOp, gvK, List.getElem?_cons_zero, List.getElem?_cons_succ, Bool.not_true, Bool.not_false, ofVal, eq_self, and_self, true_implies, dfF, touch, regF, quietF, pairOK, noCs, Go.Value.oneCell', decide_true, decide_false, Nat.mul_one, asBound, fullOf, Option.isSome_none, Option.isSome_some, Nat.zero_le, Bool.false_eq_true, false_implies, Int.cast_ofNat_Int, Int.reduceLT, Int.reduceLE, Int.reduceToNat, Nat.reduceMul, Int.le_refl, Eng.look, putAt, Nat.reduceEqDiff, reduceCtorEq, Nat.reduceBEq, if_false, List.all_cons, List.all_nil, tf_beq, ft_beq, lvSub, lvOK, isNone, width, solid, splice, List.take_zero, List.drop_zero, List.drop_nil, List.take_nil, List.drop_succ_cons, List.take_succ_cons, List.append_nil, beq_self_eq_true, Bool.and_true, Bool.true_and, Bool.and_self, ge_iff_le, gt_iff_lt, Nat.le_refl, Nat.reduceLeDiff, Nat.reduceLT, xf16_L0, ai, al, lt_cast, h0]
    exact W_stop (hK _ _ _ _ _ _ _ _ _ _ _ _ _ _ _ _ _ _ _ _ _ _ _ _ _ _ _ _ _ _ _ _ _ _ _ _ _ _ _ _)
  | succ k ih =>
    intro i hi j5 j6 j10 j11 j12 j13 j14 j15 j16 j17 j18 j19 j20 j21 j22 j23 j24 j25 j26 j27 j28 j29 j30 j31 j32 j33 j34 j35 j36 j37 j38 j39 j40 j41 j42 j43 j44 j45 j46 j47
    have h1 : i < E.length := by omega
    have h0 : decide (i < E.length) = true := decide_eq_true h1
    obtain ⟨g1, g2, g3, g4⟩ := vErr_get hv i h1
    have d1 : decide (E.getD i 0 < 1) = false := decide_eq_false (by omega)
    have d2 : decide ((n : Int) < E.getD i 0) = false := decide_eq_false (by omega)
    have wi : IntKind.i64.wrap ((i : Int) + 1) = ((i + 1 : Nat) : Int) := by rw [wrap_id (by omega) (by omega)]; simp
    refine W_loop (W_run 120 ?_)
    rcases Nat.eq_zero_or_pos i with q | q
    · have d3 : decide ((0 : Int) < (i : Int)) = false := decide_eq_false (by omega)
      simp (maxSteps := 2000000) only [go_some, go_none, go_zero, nxt_op, nxt_guard, nxt_skip, nxt_label, nxt_region, nxt_drawn, nxt_seq, nxt_block, nxt_scope, nxt_exit, nxt_blk, nxt_lp, nxt_cond, nxt_loop, nxt_ret, nxt_stop, nxt_nil, Eng.start, frG, frF, isCall, stp, exec1, exec1K, dK, Nat.reduceDiv, keyA, wantedA, stepF, stF_mv, stF_bin, stF_len, stF_un, stF_pick, stF_load, stF_iadr, stF_box, stF_fadr, stF_store, stF_ext, stF_fld, stF_idx, stF_aadr, stF_app, stF_bldS, stF_slc, stF_slcA, stF_bld, stF_isnil, stF_mki, stF_mkf, stF_mkb, stF_nilc, stF_mks, mapF_eq, evalF_eq, evalA, setAF, setA, setF_eq, putF_eq, lookF_eq, List.getD_cons_zero, List.getD_cons_succ, List.set_cons_zero, List.set_cons_succ, List.replicate, List.length_cons, List.length_nil, Nat.zero_add, Nat.reduceSub, Nat.reduceAdd, List.cons_append, List.nil_append, Option.getD, drop, Nat.beq, List.length_map, binV, binI, unV, if_true, Eng.asInt, Eng.part, cellsOf, toNat_cast, cast_nonneg, true_and, and_true, if_pos, giveOp, gvK, List.getElem?_cons_zero, List.getElem?_cons_succ, Bool.not_true, Bool.not_false, ofVal, eq_self, and_self, true_implies, dfF, touch, regF, quietF, pairOK, noCs, Go.Value.oneCell', decide_true, decide_false, Nat.mul_one, asBound, fullOf, Option.isSome_none, Option.isSome_some, Nat.zero_le, Bool.false_eq_true, false_implies, Int.cast_ofNat_Int, Int.reduceLT, Int.reduceLE, Int.reduceToNat, Nat.reduceMul, Int.le_refl, Eng.look, putAt, Nat.reduceEqDiff, reduceCtorEq, Nat.reduceBEq, if_false, List.all_cons, List.all_nil, tf_beq, ft_beq, lvSub, lvOK, isNone, width, solid, splice, List.take_zero, List.drop_zero, List.drop_nil, List.take_nil, List.drop_succ_cons, List.take_succ_cons, List.append_nil, beq_self_eq_true, Bool.and_true, Bool.true_and, Bool.and_self, ge_iff_le, gt_iff_lt, Nat.le_refl, Nat.reduceLeDiff, Nat.reduceLT, xf16_L0, ai, al, undef, lt_cast, h0, get_al h1, d1, d2, d3, wi]
      exact ih (i + 1) (by omega) _ _ _ _ _ _ _ _ _ _ _ _ _ _ _ _ _ _ _ _ _ _ _ _ _ _ _ _ _ _ _ _ _ _ _ _ _ _ _ _
    · have d3 : decide ((0 : Int) < (i : Int)) = true := decide_eq_true (by omega)
      have wm : IntKind.i64.wrap ((i : Int) - 1) = ((i - 1 : Nat) : Int) := by rw [wrap_id (by omega) (by omega)]; omega
      have hgm := get_al (l := E) (i := i - 1) (by omega)
      have d4 : decide (E.getD i 0 ≤ E.getD (i - 1) 0) = false := decide_eq_false (by have := g4 q; omega)
      simp (maxSteps := 2000000) only [go_some, go_none, go_zero, nxt_op, nxt_guard, nxt_skip, nxt_label, nxt_region, nxt_drawn, nxt_seq, nxt_block, nxt_scope, nxt_exit, nxt_blk, nxt_lp, nxt_cond, nxt_loop, nxt_ret, nxt_stop, nxt_nil, Eng.start, frG, frF, isCall, stp, exec1, exec1K, dK, Nat.reduceDiv, keyA, wantedA, stepF, stF_mv, stF_bin, stF_len, stF_un, stF_pick, stF_load, stF_iadr, stF_box, stF_fadr, stF_store, stF_ext, stF_fld, stF_idx, stF_aadr, stF_app, stF_bldS, stF_slc, stF_slcA, stF_bld, stF_isnil, stF_mki, stF_mkf, stF_mkb, stF_nilc, stF_mks, mapF_eq, evalF_eq, evalA, setAF, setA, setF_eq, putF_eq, lookF_eq, List.getD_cons_zero, List.getD_cons_succ, List.set_cons_zero, List.set_cons_succ, List.replicate, List.length_cons, List.length_nil, Nat.zero_add, Nat.reduceSub, Nat.reduceAdd, List.cons_append, List.nil_append, Option.getD, drop, Nat.beq, List.length_map, binV, binI, unV, if_true, Eng.asInt, Eng.part, cellsOf, toNat_cast, cast_nonneg, true_and, and_true, if_pos, giveOp, gvK, List.getElem?_cons_zero, List.getElem?_cons_succ, Bool.not_true, Bool.not_false, ofVal, eq_self, and_self, true_implies, dfF, touch, regF, quietF, pairOK, noCs, Go.Value.oneCell', decide_true, decide_false, Nat.mul_one, asBound, fullOf, Option.isSome_none, Option.isSome_some, Nat.zero_le, Bool.false_eq_true, false_implies, Int.cast_ofNat_Int, Int.reduceLT, Int.reduceLE, Int.reduceToNat, Nat.reduceMul, Int.le_refl, Eng.look, putAt, Nat.reduceEqDiff, reduceCtorEq, Nat.reduceBEq, if_false, List.all_cons, List.all_nil, tf_beq, ft_beq, lvSub, lvOK, isNone, width, solid, splice, List.take_zero, List.drop_zero, List.drop_nil, List.take_nil, List.drop_succ_cons, List.take_succ_cons, List.append_nil, beq_self_eq_true, Bool.and_true, Bool.true_and, Bool.and_self, ge_iff_le, gt_iff_lt, Nat.le_refl, Nat.reduceLeDiff, Nat.reduceLT, xf16_L0, ai, al, undef, lt_cast, h0, get_al h1, d1, d2, d3, wi, wm, hgm, d4]
      exact ih (i + 1) (by omega) _ _ _ _ _ _ _ _ _ _ _ _ _ _ _ _ _ _ _ _ _ _ _ _ _ _ _ _ _ _ _ _ _ _ _ _ _ _ _ _
theorem long_run (n : Nat) (h0 : 0 < n) (f : Bool) (E : List Int) (hE : E.length ≤ 1000) (hv : vErr n 0 E = 0) : Runs Try.prog xf 16 [al f E, ai n] (ab true) := by
  obtain ⟨e1, e2⟩ := vErr_end h0 hv
  have d1 : decide ((0 : Int) < (E.length : Int)) = true := decide_eq_true (by omega)
  have wm : IntKind.i64.wrap ((E.length : Int) - 1) = ((E.length - 1 : Nat) : Int) := by rw [wrap_id (by omega) (by omega)]; omega
  have hgm := get_al (l := E) (i := E.length - 1) (by omega)
  rw [e2] at hgm
  have enn : ((n : Int) == (n : Int)) = true := by simp
  refine Runs.ofW (fn := xf16) 20 (by kernel_rfl) (W_run 80 ?_)
  simp (maxSteps := 2000000) only [go_some, go_none, go_zero, nxt_op, nxt_guard, nxt_skip, nxt_label, nxt_region, nxt_drawn, nxt_seq, nxt_block, nxt_scope, nxt_exit, nxt_blk, nxt_lp, nxt_cond, nxt_loop, nxt_ret, nxt_stop, nxt_nil, Eng.start, frG, frF, isCall, stp, exec1, exec1K, dK, Nat.reduceDiv, keyA, wantedA, stepF, stF_mv, stF_bin, stF_len, stF_un, stF_pick, stF_load, stF_iadr, stF_box, stF_fadr, stF_store, stF_ext, stF_fld, stF_idx, stF_aadr, stF_app, stF_bldS, stF_slc, stF_slcA, stF_bld, stF_isnil, stF_mki, stF_mkf, stF_mkb, stF_nilc, stF_mks, mapF_eq, evalF_eq, evalA, setAF, setA, setF_eq, putF_eq, lookF_eq, List.getD_cons_zero, List.getD_cons_succ, List.set_cons_zero, List.set_cons_succ, List.replicate, List.length_cons, List.length_nil, Nat.zero_add, Nat.reduceSub, Nat.reduceAdd, List.cons_append, List.nil_append, Option.getD, drop, Nat.beq, List.length_map, binV, binI, unV, if_true, Eng.asInt, Eng.part, cellsOf, toNat_cast, cast_nonneg, true_and, and_true, if_pos, giveOp, gvK, List.getElem?_cons_zero, List.getElem?_cons_succ, Bool.not_true, Bool.not_false, ofVal, eq_self, and_self, true_implies, dfF, touch, regF, quietF, pairOK, noCs, Go.Value.oneCell', decide_true, decide_false, Nat.mul_one, asBound, fullOf, Option.isSome_none, Option.isSome_some, Nat.zero_le, Bool.false_eq_true, false_implies, Int.cast_ofNat_Int, Int.reduceLT, Int.reduceLE, Int.reduceToNat, Nat.reduceMul, Int.le_refl, Eng.look, putAt, Nat.reduceEqDiff, reduceCtorEq, Nat.reduceBEq, if_false, List.all_cons, List.all_nil, tf_beq, ft_beq, lvSub, lvOK, isNone, width, solid, splice, List.take_zero, List.drop_zero, List.drop_nil, List.take_nil, List.drop_succ_cons, List.take_succ_cons, List.append_nil, beq_self_eq_true, Bool.and_true, Bool.true_and, Bool.and_self, ge_iff_le, gt_iff_lt, Nat.le_refl, Nat.reduceLeDiff, Nat.reduceLT, xf16, ai, al]
  refine W_alone (long_loop n f E hE hv _ _ _ _ (fun j5 j6 j10 j11 j12 j13 j14 j15 j16 j17 j18 j19 j20 j21 j22 j23 j24 j25 j26 j27 j28 j29 j30 j31 j32 j33 j34 j35 j36 j37 j38 j39 j40 j41 j42 j43 j44 j45 j46 j47 => W_run 80 ?_) E.length 0 (by omega) _ _ _ _ _ _ _ _ _ _ _ _ _ _ _ _ _ _ _ _ _ _ _ _ _ _ _ _ _ _ _ _ _ _ _ _ _ _ _ _)
  simp (maxSteps := 2000000) only [go_some, go_none, go_zero, nxt_op, nxt_guard, nxt_skip, nxt_label, nxt_region, nxt_drawn, nxt_seq, nxt_block, nxt_scope, nxt_exit, nxt_blk, nxt_lp, nxt_cond, nxt_loop, nxt_ret, nxt_stop, nxt_nil, Eng.start, frG, frF, isCall, stp, exec1, exec1K, dK, Nat.reduceDiv, keyA, wantedA, stepF, stF_mv, stF_bin, stF_len, stF_un, stF_pick, stF_load, stF_iadr, stF_box, stF_fadr, stF_store, stF_ext, stF_fld, stF_idx, stF_aadr, stF_app, stF_bldS, stF_slc, stF_slcA, stF_bld, stF_isnil, stF_mki, stF_mkf, stF_mkb, stF_nilc, stF_mks, mapF_eq, evalF_eq, evalA, setAF, setA, setF_eq, putF_eq, lookF_eq, List.getD_cons_zero, List.getD_cons_succ, List.set_cons_zero, List.set_cons_succ, List.replicate, List.length_cons, List.length_nil, Nat.zero_add, Nat.reduceSub, Nat.reduceAdd, List.cons_append, List.nil_append, Option.getD, drop, Nat.beq, List.length_map, binV, binI, unV, if_true, Eng.asInt, Eng.part, cellsOf, toNat_cast, cast_nonneg, true_and, and_true, if_pos, giveOp, gvK, List.getElem?_cons_zero, List.getElem?_cons_succ, Bool.not_true, Bool.not_false, ofVal, eq_self, and_self, true_implies, dfF, touch, regF, quietF, pairOK, noCs, Go.Value.oneCell', decide_true, decide_false, Nat.mul_one, asBound, fullOf, Option.isSome_none, Option.isSome_some, Nat.zero_le, Bool.false_eq_true, false_implies, Int.cast_ofNat_Int, Int.reduceLT, Int.reduceLE, Int.reduceToNat, Nat.reduceMul, Int.le_refl, Eng.look, putAt, Nat.reduceEqDiff, reduceCtorEq, Nat.reduceBEq, if_false, List.all_cons, List.all_nil, tf_beq, ft_beq, lvSub, lvOK, isNone, width, solid, splice, List.take_zero, List.drop_zero, List.drop_nil, List.take_nil, List.drop_succ_cons, List.take_succ_cons, List.append_nil, beq_self_eq_true, Bool.and_true, Bool.true_and, Bool.and_self, ge_iff_le, gt_iff_lt, Nat.le_refl, Nat.reduceLeDiff, Nat.reduceLT, xf16_R0, ai, al, d1, wm, hgm, enn]
  exact W_ret1 (WX_nil ⟨.inl rfl, _, rfl, rfl⟩)
theorem least_ex (p : Nat → Prop) : ∀ N, 1 ≤ N → p N → ∃ L, 1 ≤ L ∧ L ≤ N ∧ p L ∧ ∀ r, 1 ≤ r → r < L → ¬ p r := by
  intro N
  induction N using Nat.strongRecOn with
  | ind N ih =>
    intro h1 hp
    by_cases h : ∃ r, 1 ≤ r ∧ r < N ∧ p r
    · obtain ⟨r, a, b, c⟩ := h
      obtain ⟨L, l1, l2, l3, l4⟩ := ih r b a c
      exact ⟨L, l1, by omega, l3, l4⟩
    · exact ⟨N, h1, Nat.le_refl _, hp, fun r a b c => h ⟨r, a, b, c⟩⟩
theorem nb_tot {R : Int} : ∀ (l : List (Int × Int)) (c : Int), (∀ p, p ∈ l → gA p) → c + smM l ≤ R → nb R (l.map Prod.snd) c = 0
  | [], c, _, _ => rfl
  | p :: l, c, hA, h => by
    rw [smM_cons] at h
    have hb := smM_b (l := l) fun q hq => hA q (List.mem_cons_of_mem _ hq)
    rw [List.map_cons, nb, if_neg (by omega)]
    exact nb_tot l _ (fun q hq => hA q (List.mem_cons_of_mem _ hq)) (by omega)
theorem nb_tot' {R : Int} : ∀ (l : List (Int × Int)) (c : Int), c ≤ R → nb R (l.map Prod.snd) c = 0 → c + smM l ≤ R
  | [], c, h, _ => by rw [smM_nil]; omega
  | p :: l, c, h, h0 => by
    rw [List.map_cons, nb] at h0
    split at h0
    · cases h0
    · have := nb_tot' l (c + p.2) (by omega) h0
      rw [smM_cons]; omega
theorem mem_sm {l : List (Int × Int)} (hA : ∀ p, p ∈ l → gA p) {p : Int × Int} (h : p ∈ l) : p.2 ≤ smM l := by
  induction l with
  | nil => cases h
  | cons q l ih =>
    have hb := smM_b (l := l) fun q hq => hA q (List.mem_cons_of_mem _ hq)
    have hq := hA q List.mem_cons_self
    unfold gA at hq
    rw [smM_cons]
    rcases List.mem_cons.1 h with rfl | h
    · omega
    · have := ih (fun q hq => hA q (List.mem_cons_of_mem _ hq)) h; omega
def mxl (l : List (Int × Int)) : Int := l.foldl (fun m p => mx2 m p.2) 0
theorem mxl_snoc (l : List (Int × Int)) (p : Int × Int) : mxl (l ++ [p]) = mx2 (mxl l) p.2 := by simp [mxl, List.foldl_append]
theorem mxl_ok (l : List (Int × Int)) : (∀ p, p ∈ l → p.2 ≤ mxl l) ∧ 0 ≤ mxl l ∧ (mxl l = 0 ∨ ∃ p, p ∈ l ∧ p.2 = mxl l) := by
  have key : ∀ (l : List (Int × Int)) (a : Int), a ≤ l.foldl (fun m p => mx2 m p.2) a ∧ (∀ p, p ∈ l → p.2 ≤ l.foldl (fun m p => mx2 m p.2) a) ∧ (l.foldl (fun m p => mx2 m p.2) a = a ∨ ∃ p, p ∈ l ∧ p.2 = l.foldl (fun m p => mx2 m p.2) a) := by
    intro l
    induction l with
    | nil => intro a; exact ⟨Int.le_refl _, fun p h => (by cases h), .inl rfl⟩
    | cons q l ih =>
      intro a
      obtain ⟨i1, i2, i3⟩ := ih (mx2 a q.2)
      have h1 : a ≤ mx2 a q.2 := by unfold mx2; split <;> omega
      have h2 : q.2 ≤ mx2 a q.2 := by unfold mx2; split <;> omega
      have h3 : mx2 a q.2 = a ∨ mx2 a q.2 = q.2 := by unfold mx2; split <;> simp
      simp only [List.foldl_cons]
      refine ⟨by omega, fun p hp => ?_, ?_⟩
      · rcases List.mem_cons.1 hp with rfl | hp
        · omega
        · exact i2 p hp
      · rcases i3 with e | ⟨p, hp, e⟩
        · rcases h3 with h3 | h3
          · left; omega
          · right; exact ⟨q, List.mem_cons_self, by omega⟩
        · right; exact ⟨p, List.mem_cons_of_mem _ hp, e⟩
  obtain ⟨h1, h2, h3⟩ := key l 0
  exact ⟨h2, h1, h3⟩
end Go.Proofs.Ytnpdpkeackicmaa

