/-
  For VolumeShown: the law's sum of lines; stretches in a row of which each bursts need as many ends.
-/
import Derived.Test.YtkaoelhhabecnaaSj
set_option linter.unusedSimpArgs false
set_option linter.unusedVariables false
namespace Go.Proofs.Ytkaoelhhabecnaa
open Go Go.Proofs.Eng
set_option maxRecDepth 100000
set_option maxHeartbeats 4000000
theorem named9 (j : Nat) : Go.Proofs.Eng.look ([] : Heap) j = Go.Proofs.Eng.look [(9, (0, (none : Option Ob)))] j := by
  simp only [Go.Proofs.Eng.look]
  by_cases h : 9 = j
  · simp [h]
  · simp [h]
theorem mst_loop (l : List (Int × Int)) (hn : l.length ≤ 1000) (hb : ∀ p, p ∈ l → gA p) (x0 x1 x2 x3 x4 x5 : AV) (K : List Fr) (Q : Out → Cfg → Prop)
    (hK : ∀ r9 : Nat × Option Ob, ∀ j8 j9 j10 j11 j12 j13 j17 j18 j19 j20 j21 j22 j23 j24 j25 : AV, W Try.prog (RelU Try.prog xf) 0 K ⟨(x0 :: x1 :: x2 :: x3 :: x4 :: x5 :: (ai 0) :: (ai (sumI (l.map Prod.snd))) :: j8 :: j9 :: j10 :: j11 :: j12 :: j13 :: (aS false l) :: (ai l.length) :: (ai l.length) :: j17 :: j18 :: j19 :: j20 :: j21 :: j22 :: j23 :: j24 :: j25 :: []), [(9, r9)]⟩ Q) :
    ∀ (k i : Nat), i + k = l.length → ∀ (g9 : Nat) (o9 : Option Ob), ∀ j8 j9 j10 j11 j12 j13 j17 j18 j19 j20 j21 j22 j23 j24 j25 : AV, W Try.prog (RelU Try.prog xf) 0 (.code (.loop xf8_L0) :: .blk 0 :: .stop :: K) ⟨(x0 :: x1 :: x2 :: x3 :: x4 :: x5 :: (ai 0) :: (ai (sumI ((l.take i).map Prod.snd))) :: j8 :: j9 :: j10 :: j11 :: j12 :: j13 :: (aS false l) :: (ai l.length) :: (ai i) :: j17 :: j18 :: j19 :: j20 :: j21 :: j22 :: j23 :: j24 :: j25 :: []), [(9, (g9, o9))]⟩ Q := by
  intro k
  induction k with
  | zero =>
    intro i hi g9 o9 j8 j9 j10 j11 j12 j13 j17 j18 j19 j20 j21 j22 j23 j24 j25
    have : i = l.length := by omega
    subst this
    have h0 : decide (l.length < l.length) = false := by simp
    rw [List.take_length]
    refine W_loop (W_run 80 ?_)
    simp (maxSteps := 2000000) only [go_some, go_none, go_zero, nxt_op, nxt_guard, nxt_skip, nxt_label, nxt_region, nxt_drawn, nxt_seq, nxt_block, nxt_scope, nxt_exit, nxt_blk, nxt_lp, nxt_cond, nxt_loop, nxt_ret, nxt_stop, nxt_nil, Eng.start, frG, frF, isCall, stp, exec1, exec1K, dK, Nat.reduceDiv, keyA, wantedA, stepF, stF_mv, stF_bin, stF_len, stF_un, stF_pick, stF_load, stF_iadr, stF_box, stF_fadr, stF_store, stF_ext, stF_fld, stF_idx, stF_aadr, stF_app, stF_bldS, stF_slc, stF_slcA, stF_bld, stF_isnil, stF_mki, stF_mkf, stF_mkb, stF_nilc, stF_mks, stF_tas, mapF_eq, evalF_eq, evalA, setAF, setA, setF_eq, putF_eq, lookF_eq, List.getD_cons_zero, List.getD_cons_succ, List.set_cons_zero, List.set_cons_succ, List.replicate, List.length_cons, List.length_nil, Nat.zero_add, Nat.reduceSub, Nat.reduceAdd, List.cons_append, List.nil_append, Option.getD, drop, Nat.beq, List.length_map, binV, binI, unV, if_true, Eng.asInt, Eng.part, cellsOf, toNat_cast, cast_nonneg, true_and, and_true, if_pos, giveOp, gvK, List.getElem?_cons_zero, List.getElem?_cons_succ, Bool.not_true, Bool.not_false, ofVal, eq_self, and_self, true_implies, dfF, touch, regF, quietF, pairOK, noCs, Go.Value.oneCell', decide_true, decide_false, Nat.mul_one, asBound, fullOf, Option.isSome_none, Option.isSome_some, Nat.zero_le, Bool.false_eq_true, false_implies, Int.cast_ofNat_Int, Int.reduceLT, Int.reduceLE, Int.reduceToNat, Nat.reduceMul, Int.le_refl, Eng.look, putAt, Nat.reduceEqDiff, reduceCtorEq, Nat.reduceBEq, if_false, List.all_cons, List.all_nil, tf_beq, ft_beq, lvSub, lvOK, isNone, width, solid, splice, List.take_zero, List.drop_zero, List.drop_nil, List.take_nil, List.drop_succ_cons, List.take_succ_cons, List.append_nil, beq_self_eq_true, Bool.and_true, Bool.true_and, Bool.and_self, ge_iff_le, gt_iff_lt, Nat.le_refl, Nat.reduceLeDiff, Nat.reduceLT, xf8_L0, ai, aS, lt_cast, h0]
    exact W_stop (hK _ _ _ _ _ _ _ _ _ _ _ _ _ _ _ _)
  | succ k ih =>
    intro i hi g9 o9 j8 j9 j10 j11 j12 j13 j17 j18 j19 j20 j21 j22 j23 j24 j25
    have h1 : i < l.length := by omega
    have h0 : decide (i < l.length) = true := decide_eq_true h1
    have hx := hb _ (getD_mem (d := (0, 0)) h1)
    unfold gA at hx
    have hs := sumI_b (l := (l.take i).map Prod.snd) (b := 30) (by omega) fun x hx => by obtain ⟨p, hp, rfl⟩ := List.mem_map.1 hx; have := hb p (List.mem_of_mem_take hp); unfold gA at this; omega
    have hlen : ((l.take i).map Prod.snd).length ≤ 1000 := by rw [List.length_map, List.length_take]; omega
    have hnx : sumI ((l.take (i + 1)).map Prod.snd) = sumI ((l.take i).map Prod.snd) + (l.getD i (0, 0)).2 := by rw [take_snoc (d := (0, 0)) h1, List.map_append, List.map_cons, List.map_nil, sumI_snoc]
    have next := ih (i + 1) (by omega)
    rw [hnx] at next
    refine W_loop (W_run 80 ?_)
    simp (maxSteps := 2000000) only [go_some, go_none, go_zero, nxt_op, nxt_guard, nxt_skip, nxt_label, nxt_region, nxt_drawn, nxt_seq, nxt_block, nxt_scope, nxt_exit, nxt_blk, nxt_lp, nxt_cond, nxt_loop, nxt_ret, nxt_stop, nxt_nil, Eng.start, frG, frF, isCall, stp, exec1, exec1K, dK, Nat.reduceDiv, keyA, wantedA, stepF, stF_mv, stF_bin, stF_len, stF_un, stF_pick, stF_load, stF_iadr, stF_box, stF_fadr, stF_store, stF_ext, stF_fld, stF_idx, stF_aadr, stF_app, stF_bldS, stF_slc, stF_slcA, stF_bld, stF_isnil, stF_mki, stF_mkf, stF_mkb, stF_nilc, stF_mks, stF_tas, mapF_eq, evalF_eq, evalA, setAF, setA, setF_eq, putF_eq, lookF_eq, List.getD_cons_zero, List.getD_cons_succ, List.set_cons_zero, List.set_cons_succ, List.replicate, List.length_cons, List.length_nil, Nat.zero_add, Nat.reduceSub, Nat.reduceAdd, List.cons_append, List.nil_append, Option.getD, drop, Nat.beq, List.length_map, binV, binI, unV, if_true, Eng.asInt, Eng.part, cellsOf, toNat_cast, cast_nonneg, true_and, and_true, if_pos, giveOp, gvK, List.getElem?_cons_zero, List.getElem?_cons_succ, Bool.not_true, Bool.not_false, ofVal, eq_self, and_self, true_implies, dfF, touch, regF, quietF, pairOK, noCs, Go.Value.oneCell', decide_true, decide_false, Nat.mul_one, asBound, fullOf, Option.isSome_none, Option.isSome_some, Nat.zero_le, Bool.false_eq_true, false_implies, Int.cast_ofNat_Int, Int.reduceLT, Int.reduceLE, Int.reduceToNat, Nat.reduceMul, Int.le_refl, Eng.look, putAt, Nat.reduceEqDiff, reduceCtorEq, Nat.reduceBEq, if_false, List.all_cons, List.all_nil, tf_beq, ft_beq, lvSub, lvOK, isNone, width, solid, splice, List.take_zero, List.drop_zero, List.drop_nil, List.take_nil, List.drop_succ_cons, List.take_succ_cons, List.append_nil, beq_self_eq_true, Bool.and_true, Bool.true_and, Bool.and_self, ge_iff_le, gt_iff_lt, Nat.le_refl, Nat.reduceLeDiff, Nat.reduceLT, xf8_L0, ai, aS, lt_cast, h0, get_sh h1, shA]
    rw [wrap_id (z := sumI ((l.take i).map Prod.snd) + (l.getD i (0, 0)).2) (by omega) (by omega), wrap_id (z := (i : Int) + 1) (by omega) (by omega)]
    exact next _ _ _ _ _ _ _ _ _ _ _ _ _ _ _ _ _
theorem mst_run (A : List (Int × Int)) (R F : Int) (b e : Nat) (hbe : b ≤ e) (he : e ≤ A.length) (hn : A.length ≤ 1000) (hA : ∀ p, p ∈ A → gA p) : Runs Try.prog xf 8 [bkA false A R F, ai b, ai e] (ai (smM (seg A b e))) := by
  have hsm := seg_map A b e
  have hl : (seg A b e).length ≤ 1000 := by have := seg_len A b e; omega
  refine Runs.ofW (fn := xf8) 20 (by kernel_rfl) (W_run 80 ?_)
  simp (maxSteps := 2000000) only [go_some, go_none, go_zero, nxt_op, nxt_guard, nxt_skip, nxt_label, nxt_region, nxt_drawn, nxt_seq, nxt_block, nxt_scope, nxt_exit, nxt_blk, nxt_lp, nxt_cond, nxt_loop, nxt_ret, nxt_stop, nxt_nil, Eng.start, frG, frF, isCall, stp, exec1, exec1K, dK, Nat.reduceDiv, keyA, wantedA, stepF, stF_mv, stF_bin, stF_len, stF_un, stF_pick, stF_load, stF_iadr, stF_box, stF_fadr, stF_store, stF_ext, stF_fld, stF_idx, stF_aadr, stF_app, stF_bldS, stF_slc, stF_slcA, stF_bld, stF_isnil, stF_mki, stF_mkf, stF_mkb, stF_nilc, stF_mks, stF_tas, mapF_eq, evalF_eq, evalA, setAF, setA, setF_eq, putF_eq, lookF_eq, List.getD_cons_zero, List.getD_cons_succ, List.set_cons_zero, List.set_cons_succ, List.replicate, List.length_cons, List.length_nil, Nat.zero_add, Nat.reduceSub, Nat.reduceAdd, List.cons_append, List.nil_append, Option.getD, drop, Nat.beq, List.length_map, binV, binI, unV, if_true, Eng.asInt, Eng.part, cellsOf, toNat_cast, cast_nonneg, true_and, and_true, if_pos, giveOp, gvK, List.getElem?_cons_zero, List.getElem?_cons_succ, Bool.not_true, Bool.not_false, ofVal, eq_self, and_self, true_implies, dfF, touch, regF, quietF, pairOK, noCs, Go.Value.oneCell', decide_true, decide_false, Nat.mul_one, asBound, fullOf, Option.isSome_none, Option.isSome_some, Nat.zero_le, Bool.false_eq_true, false_implies, Int.cast_ofNat_Int, Int.reduceLT, Int.reduceLE, Int.reduceToNat, Nat.reduceMul, Int.le_refl, Eng.look, putAt, Nat.reduceEqDiff, reduceCtorEq, Nat.reduceBEq, if_false, List.all_cons, List.all_nil, tf_beq, ft_beq, lvSub, lvOK, isNone, width, solid, splice, List.take_zero, List.drop_zero, List.drop_nil, List.take_nil, List.drop_succ_cons, List.take_succ_cons, List.append_nil, beq_self_eq_true, Bool.and_true, Bool.true_and, Bool.and_self, ge_iff_le, gt_iff_lt, Nat.le_refl, Nat.reduceLeDiff, Nat.reduceLT, xf8, ai, aS, bkA, hbe, he, hsm, Go.Proofs.Eng.fullOf, Bool.false_and]
  refine W_alone (W_named named9 (mst_loop (seg A b e) hl (fun p hp => hA p (seg_mem hp)) _ _ _ _ _ _ _ _ (fun r9 j8 j9 j10 j11 j12 j13 j17 j18 j19 j20 j21 j22 j23 j24 j25 => W_run 80 ?_) (seg A b e).length 0 (by omega) _ _ _ _ _ _ _ _ _ _ _ _ _ _ _ _ _))
  simp (maxSteps := 2000000) only [go_some, go_none, go_zero, nxt_op, nxt_guard, nxt_skip, nxt_label, nxt_region, nxt_drawn, nxt_seq, nxt_block, nxt_scope, nxt_exit, nxt_blk, nxt_lp, nxt_cond, nxt_loop, nxt_ret, nxt_stop, nxt_nil, Eng.start, frG, frF, isCall, stp, exec1, exec1K, dK, Nat.reduceDiv, keyA, wantedA, stepF, stF_mv, stF_bin, stF_len, stF_un, stF_pick, stF_load, stF_iadr, stF_box, stF_fadr, stF_store, stF_ext, stF_fld, stF_idx, stF_aadr, stF_app, stF_bldS, stF_slc, stF_slcA, stF_bld, stF_isnil, stF_mki, stF_mkf, stF_mkb, stF_nilc, stF_mks, stF_tas, mapF_eq, evalF_eq, evalA, setAF, setA, setF_eq, putF_eq, lookF_eq, List.getD_cons_zero, List.getD_cons_succ, List.set_cons_zero, List.set_cons_succ, List.replicate, List.length_cons, List.length_nil, Nat.zero_add, Nat.reduceSub, Nat.reduceAdd, List.cons_append, List.nil_append, Option.getD, drop, Nat.beq, List.length_map, binV, binI, unV, if_true, Eng.asInt, Eng.part, cellsOf, toNat_cast, cast_nonneg, true_and, and_true, if_pos, giveOp, gvK, List.getElem?_cons_zero, List.getElem?_cons_succ, Bool.not_true, Bool.not_false, ofVal, eq_self, and_self, true_implies, dfF, touch, regF, quietF, pairOK, noCs, Go.Value.oneCell', decide_true, decide_false, Nat.mul_one, asBound, fullOf, Option.isSome_none, Option.isSome_some, Nat.zero_le, Bool.false_eq_true, false_implies, Int.cast_ofNat_Int, Int.reduceLT, Int.reduceLE, Int.reduceToNat, Nat.reduceMul, Int.le_refl, Eng.look, putAt, Nat.reduceEqDiff, reduceCtorEq, Nat.reduceBEq, if_false, List.all_cons, List.all_nil, tf_beq, ft_beq, lvSub, lvOK, isNone, width, solid, splice, List.take_zero, List.drop_zero, List.drop_nil, List.take_nil, List.drop_succ_cons, List.take_succ_cons, List.append_nil, beq_self_eq_true, Bool.and_true, Bool.true_and, Bool.and_self, ge_iff_le, gt_iff_lt, Nat.le_refl, Nat.reduceLeDiff, Nat.reduceLT, xf8_R0, ai]
  exact W_ret1 (WX_nil ⟨.inl rfl, _, rfl, rfl⟩)
def sI : List Int → Int
  | [] => 0
  | x :: t => x + sI t
theorem sI_app : ∀ (s t : List Int), sI (s ++ t) = sI s + sI t
  | [], t => by simp [sI]
  | x :: s, t => by rw [List.cons_append, sI, sI, sI_app s t]; omega
theorem sI_rev : ∀ s : List Int, sI s.reverse = sI s
  | [] => rfl
  | x :: s => by rw [List.reverse_cons, sI_app, sI_rev s]; simp only [sI]; omega
theorem sI_nn : ∀ s : List Int, (∀ x, x ∈ s → 0 ≤ x) → 0 ≤ sI s
  | [], _ => Int.le_refl _
  | x :: s, h => by
    have := h x List.mem_cons_self
    have := sI_nn s fun y hy => h y (List.mem_cons_of_mem _ hy)
    simp only [sI]; omega
theorem fold_sI : ∀ (l : List Int) (z : Int), l.foldl (· + ·) z = z + sI l
  | [], z => by simp [sI]
  | x :: l, z => by rw [List.foldl_cons, fold_sI l]; simp only [sI]; omega
theorem sumI_rev (l : List Int) : sumI l.reverse = sumI l := by unfold sumI; rw [fold_sI, fold_sI, sI_rev]
theorem smM_rev (l : List (Int × Int)) : smM l.reverse = smM l := by unfold smM; rw [List.map_reverse, sumI_rev]
theorem smL_rev (l : List (Int × Int)) : smL l.reverse = smL l := by unfold smL; rw [List.map_reverse, sumI_rev]
/-- over some articles: what is left is filled on from some number of lines, not less than the last one's -/
theorem nb_over {R : Int} (t : List Int) : ∀ (s : List Int) (c : Int), (∀ x, x ∈ s → 0 ≤ x ∧ x ≤ R) → 0 ≤ c → c ≤ R → ∃ (k : Nat) (c' : Int), nb R (s ++ t) c = k + nb R t c' ∧ 0 ≤ c' ∧ c' ≤ R ∧ (R < c + sI s → 1 ≤ k) ∧ (∀ (i : Nat), i + 1 = s.length → s.getD i 0 ≤ c') ∧ (s = [] → c' = c)
  | [], c, _, h0, h1 => ⟨0, c, by simp, h0, h1, fun h => by simp only [sI] at h; omega, fun i hi => by simp at hi, fun _ => rfl⟩
  | m :: s, c, h, h0, h1 => by
    have hm := h m List.mem_cons_self
    have ht : ∀ y, y ∈ s → 0 ≤ y ∧ y ≤ R := fun y hy => h y (List.mem_cons_of_mem _ hy)
    rw [List.cons_append, nb]
    have last : ∀ (c0 c' : Int), m ≤ c0 → (∀ (i : Nat), i + 1 = s.length → s.getD i 0 ≤ c') → (s = [] → c' = c0) → ∀ (i : Nat), i + 1 = (m :: s).length → (m :: s).getD i 0 ≤ c' := fun c0 c' hc0 q1 q2 i hi => by
      rw [List.length_cons] at hi
      match i with
      | 0 =>
        have hs : s = [] := List.eq_nil_of_length_eq_zero (by omega)
        rw [q2 hs]; exact hc0
      | i + 1 => exact q1 i (by omega)
    by_cases a : c + m > R
    · rw [if_pos a]
      obtain ⟨k, c', e1, e2, e3, e4, e5, e6⟩ := nb_over t s m ht hm.1 hm.2
      exact ⟨k + 1, c', by omega, e2, e3, fun _ => by omega, last m c' (Int.le_refl _) e5 e6, fun q => by cases q⟩
    · rw [if_neg a]
      obtain ⟨k, c', e1, e2, e3, e4, e5, e6⟩ := nb_over t s (c + m) ht (by omega) (by omega)
      exact ⟨k, c', e1, e2, e3, fun q => e4 (by simp only [sI] at q; omega), last (c + m) c' (by omega) e5 e6, fun q => by cases q⟩
/-- stretches in a row, each of which bursts -/
def Acc (R : Int) (ms : List Int) : Nat → List (Nat × Nat) → Prop
  | _, [] => True
  | b, p :: t => b ≤ p.1 ∧ p.1 < p.2 ∧ p.2 < ms.length ∧ R < sI ((ms.take (p.2 + 1)).drop p.1) ∧ Acc R ms p.2 t
theorem drop_cut {ms : List Int} {b p : Nat} (hb : b ≤ p) : ms.drop b = (ms.take p).drop b ++ ms.drop p := by
  conv => lhs; rw [← List.take_append_drop p ms]
  rcases Nat.lt_or_ge ms.length p with h | h
  · rw [List.take_of_length_le (by omega), List.drop_eq_nil_of_le (by omega : ms.length ≤ p), List.append_nil, List.append_nil]
  · rw [List.drop_append_of_le_length (by rw [List.length_take]; omega)]
theorem cut_last {ms : List Int} {b p : Nat} (hb : b ≤ p) (hp : p < ms.length) : ∀ i, i + 1 = ((ms.take (p + 1)).drop b).length → ((ms.take (p + 1)).drop b).getD i 0 = ms.getD p 0 := by
  intro i hi
  rw [List.length_drop, List.length_take] at hi
  rw [List.getD_eq_getElem?_getD, List.getElem?_drop, List.getElem?_take_of_lt (by omega), show b + i = p by omega, ← List.getD_eq_getElem?_getD]
theorem cut_mem {ms : List Int} {b p : Nat} {x : Int} (h : x ∈ (ms.take p).drop b) : x ∈ ms := List.mem_of_mem_take (List.mem_of_mem_drop h)
theorem acc_nb {R : Int} {ms : List Int} (hm : ∀ x, x ∈ ms → 0 ≤ x ∧ x ≤ R) : ∀ (l : List (Nat × Nat)) (b : Nat) (c : Int), b < ms.length → ms.getD b 0 ≤ c → c ≤ R → Acc R ms b l → l.length ≤ nb R (ms.drop (b + 1)) c
  | [], _, _, _, _, _, _ => Nat.zero_le _
  | (p, q) :: l, b, c, hb, h0, h1, hacc => by
    obtain ⟨a1, a2, a3, a4, a5⟩ := hacc
    simp only at a1 a2 a3 a4 a5
    have hmb := hm _ (getD_mem (d := 0) hb)
    have hmp := hm _ (getD_mem (d := 0) (show p < ms.length by omega))
    -- on to the first article of the stretch
    obtain ⟨k1, c1, e1, f1, g1, i1, j1, n1⟩ := nb_over (R := R) (ms.drop (p + 1)) ((ms.take (p + 1)).drop (b + 1)) c (fun x hx => hm x (cut_mem hx)) (by omega) h1
    rw [← drop_cut (by omega)] at e1
    have hc1 : ms.getD p 0 ≤ c1 := by
      by_cases hbp : b = p
      · subst hbp
        rw [n1 (List.drop_eq_nil_of_le (by rw [List.length_take]; omega))]
        exact h0
      · have hl : (p - b - 1) + 1 = ((ms.take (p + 1)).drop (b + 1)).length := by rw [List.length_drop, List.length_take]; omega
        have := j1 _ hl
        rwa [cut_last (by omega) (by omega) _ hl] at this
    -- over the stretch
    obtain ⟨k2, c2, e2, f2, g2, i2, j2, n2⟩ := nb_over (R := R) (ms.drop (q + 1)) ((ms.take (q + 1)).drop (p + 1)) c1 (fun x hx => hm x (cut_mem hx)) (by omega) g1
    rw [← drop_cut (by omega)] at e2
    have hc2 : ms.getD q 0 ≤ c2 := by
      have hl : (q - p - 1) + 1 = ((ms.take (q + 1)).drop (p + 1)).length := by rw [List.length_drop, List.length_take]; omega
      have := j2 _ hl
      rwa [cut_last (by omega) (by omega) _ hl] at this
    have hk2 : 1 ≤ k2 := i2 (by
      have hp1 : p < (ms.take (q + 1)).length := by rw [List.length_take]; omega
      have hd : (ms.take (q + 1)).drop p = ms.getD p 0 :: (ms.take (q + 1)).drop (p + 1) := by
        rw [drop_at (d := 0) hp1]
        congr 1
        rw [List.getD_eq_getElem?_getD, List.getElem?_take_of_lt (by omega), ← List.getD_eq_getElem?_getD]
      rw [hd] at a4
      simp only [sI] at a4
      omega)
    have ih := acc_nb hm l q c2 a3 hc2 g2 a5
    rw [List.length_cons]
    omega
/-- as many ends as stretches -/
theorem acc_few {R : Int} {A : List (Int × Int)} (hA : ∀ p, p ∈ A → gA p) (hall : ∀ p, p ∈ A → p.2 ≤ R) (h0 : 0 < A.length) {l : List (Nat × Nat)} (h : Acc R (A.map Prod.snd) 0 l) : l.length + 1 ≤ (filL R A).length := by
  have hm : ∀ x, x ∈ A.map Prod.snd → 0 ≤ x ∧ x ≤ R := fun x hx => by
    obtain ⟨p, hp, rfl⟩ := List.mem_map.1 hx
    have := hA p hp
    have := hall p hp
    unfold gA at *
    omega
  have hl : 0 < (A.map Prod.snd).length := by rw [List.length_map]; exact h0
  have hm0 := hm _ (getD_mem (d := 0) hl)
  have := acc_nb hm l 0 ((A.map Prod.snd).getD 0 0) hl (Int.le_refl _) hm0.2 h
  rw [Nat.zero_add] at this
  rw [fil_len]
  have hd : A.map Prod.snd = (A.map Prod.snd).getD 0 0 :: (A.map Prod.snd).drop 1 := by
    have := drop_at (d := (0 : Int)) hl
    rwa [List.drop_zero] at this
  generalize (A.map Prod.snd).getD 0 0 = m at *
  have e : nb R (A.map Prod.snd) 0 = nb R ((A.map Prod.snd).drop 1) m := by
    conv => lhs; rw [hd]
    rw [nb, if_neg (by omega), Int.zero_add]
  rw [e]
  omega
theorem seg_sI (A : List (Int × Int)) (b e : Nat) : smM (seg A b e) = sI (((A.map Prod.snd).take e).drop b) := by
  unfold smM sumI seg
  rw [fold_sI, Int.zero_add, List.map_drop, List.map_take]
theorem prl_acc {A : List (Int × Int)} {R : Int} : ∀ (l : List (Int × Int)) (b : Int), 0 ≤ b → (∀ p, p ∈ l → inB A p) → prL A R b l = 0 → Acc R (A.map Prod.snd) b.toNat (l.map fun p => (p.1.toNat, p.2.toNat))
  | [], _, _, _, _ => trivial
  | p :: l, b, hb, hin, h => by
    have hp := hin p List.mem_cons_self
    unfold inB at hp
    simp only [prL] at h
    by_cases c : ckE A R p b = 0
    · rw [if_pos c] at h
      unfold ckE at c
      by_cases c1 : p.1 = A.length ∨ p.2 = A.length
      · rw [if_pos c1] at c; omega
      · rw [if_neg c1] at c
        by_cases c2 : p.2 ≤ p.1 ∨ p.1 < b
        · rw [if_pos c2] at c; omega
        · rw [if_neg c2] at c
          by_cases c3 : R < smM (seg A p.1.toNat (p.2.toNat + 1))
          · rw [seg_sI] at c3
            refine ⟨by simp only; omega, by simp only; omega, by rw [List.length_map]; simp only; omega, c3, ?_⟩
            exact prl_acc l p.2 hp.2.2.1 (fun q hq => hin q (List.mem_cons_of_mem _ hq)) h
          · rw [if_neg c3] at c; omega
    · rw [if_neg c] at h; exact absurd h c
theorem prv_few {A : List (Int × Int)} {R v : Int} (hA : ∀ p, p ∈ A → gA p) (hall : ∀ p, p ∈ A → p.2 ≤ R) (h0 : 0 < A.length) {l : List (Int × Int)} (hin : ∀ p, p ∈ l → inB A p) (h : prvG A R v l = 0) : v ≤ (filL R A).length := by
  unfold prvG at h
  by_cases c : v < 1
  · rw [if_pos c] at h; omega
  · rw [if_neg c] at h
    by_cases c1 : prL A R 0 l = 0
    · rw [if_pos c1] at h
      by_cases c2 : (l.length : Int) < v - 1
      · rw [if_pos c2] at h; omega
      · have := acc_few hA hall h0 (prl_acc l 0 (Int.le_refl _) hin c1)
        rw [List.length_map] at this
        omega
    · rw [if_neg c1] at h; exact absurd h c1
end Go.Proofs.Ytkaoelhhabecnaa

