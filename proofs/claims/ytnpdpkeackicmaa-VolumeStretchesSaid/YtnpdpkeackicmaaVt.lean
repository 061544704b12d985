/-
  The law of stretches: all cuts are tried, whole.
-/
import Derived.Test.YtnpdpkeackicmaaVs
set_option linter.unusedSimpArgs false
set_option linter.unusedVariables false
namespace Go.Proofs.Ytnpdpkeackicmaa
open Go Go.Proofs.Eng
set_option maxRecDepth 100000
set_option maxHeartbeats 4000000
def PutQ (A : List (Int × Int)) (R F fw : Int) (L : List Int) (o : Out) (c : Cfg) : Prop := (o = .ret ∨ o = .normal) ∧ ∃ fw' r', c.η = hpS A R F fw' r' ∧ flen A R ≤ fw' ∧ fw' ≤ fw ∧ ((∃ t, filL R A = L ++ t) → fw' = flen A R)
theorem PutQ.run {A : List (Int × Int)} {R F fw : Int} {L : List Int} {args : List AV} {η : Heap}
    (h : W Try.prog (RelU Try.prog xf) 1000 [.code xf49.body] (Go.Proofs.Eng.start xf49 args η) (PutQ A R F fw L)) :
    ∃ fw' r', RunsR Try.prog xf 1000 49 args η (.tup []) (hpS A R F fw' r') ∧ flen A R ≤ fw' ∧ fw' ≤ fw ∧ ((∃ t, filL R A = L ++ t) → fw' = flen A R) := by
  obtain ⟨o, c, h1, ho, fw', r', e, hp⟩ := h
  exact ⟨fw', r', RunsR.ofW (fn := xf49) (by kernel_rfl) ⟨o, c, h1, ho, [], rfl, rfl, e.symm⟩, hp⟩
theorem put_all (A : List (Int × Int)) (R F : Int) (hg : gB A R F) (hall : ∀ p, p ∈ A → p.2 ≤ R) : ∀ (k fr : Nat), fr + k = A.length → PutS A R F fr := by
  have hn0 := hg.n0
  have hn1 := hg.n1
  obtain ⟨hcut, hany⟩ := fil_cut A R hall hn0 (by have := hg.r0; omega)
  intro k
  induction k using Nat.strongRecOn with
  | ind k ihk =>
    intro fr hk L fw lav r hL hLl hls hfw
    have hvn : vErr A.length 0 L = vErr A.length fr [] := by have := hL []; rw [List.append_nil] at this; exact this
    by_cases hfr : fr = A.length
    · subst hfr
      have hv : vErr A.length 0 L = 0 := by rw [hvn]; unfold vErr; exact if_pos rfl
      have hLne := vErr_ne hn0 hv
      cases hls with
      | a r h => exact absurd h hLne
      | b g h =>
        have e1 : ((A.length : Int) == (A.length : Int)) = true := by simp
        have hrun := each_run A R F fw hg hall (g, none) L hv
        refine PutQ.run (W_giveC (t := 0) (giveT_row (k := 1030) (g := g) (e := 3) (s := 1) (xs := L.map ai) (n := L.length) rfl rfl (by simp)) (W_run 120 ?_))
        simp (maxSteps := 2000000) only [go_some, go_none, go_zero, nxt_op, nxt_guard, nxt_skip, nxt_label, nxt_region, nxt_drawn, nxt_seq, nxt_block, nxt_scope, nxt_exit, nxt_blk, nxt_lp, nxt_cond, nxt_loop, nxt_ret, nxt_stop, nxt_nil, Eng.start, frG, frF, isCall, stp, exec1, exec1K, dK, Nat.reduceDiv, keyA, wantedA, stepF, stF_mv, stF_bin, stF_len, stF_un, stF_pick, stF_load, stF_iadr, stF_box, stF_fadr, stF_store, stF_ext, stF_fld, stF_idx, stF_aadr, stF_app, stF_bldS, stF_slc, stF_slcA, stF_bld, stF_isnil, stF_mki, stF_mkf, stF_mkb, stF_nilc, stF_mks, mapF_eq, evalF_eq, evalA, setAF, setA, setF_eq, putF_eq, lookF_eq, List.getD_cons_zero, List.getD_cons_succ, List.set_cons_zero, List.set_cons_succ, List.replicate, List.length_cons, List.length_nil, Nat.zero_add, Nat.reduceSub, Nat.reduceAdd, List.cons_append, List.nil_append, Option.getD, drop, Nat.beq, List.length_map, binV, binI, unV, if_true, Eng.asInt, Eng.part, cellsOf, toNat_cast, cast_nonneg, true_and, and_true, if_pos, giveOp, gvK, List.getElem?_cons_zero, List.getElem?_cons_succ, Bool.not_true, Bool.not_false, ofVal, eq_self, and_self, true_implies, dfF, touch, regF, quietF, pairOK, noCs, Go.Value.oneCell', decide_true, decide_false, Nat.mul_one, asBound, fullOf, Option.isSome_none, Option.isSome_some, Nat.zero_le, Bool.false_eq_true, false_implies, Int.cast_ofNat_Int, Int.reduceLT, Int.reduceLE, Int.reduceToNat, Nat.reduceMul, Int.le_refl, Eng.look, putAt, Nat.reduceEqDiff, reduceCtorEq, Nat.reduceBEq, if_false, List.all_cons, List.all_nil, tf_beq, ft_beq, lvSub, lvOK, isNone, width, solid, splice, List.take_zero, List.drop_zero, List.drop_nil, List.take_nil, List.drop_succ_cons, List.take_succ_cons, List.append_nil, beq_self_eq_true, Bool.and_true, Bool.true_and, Bool.and_self, ge_iff_le, gt_iff_lt, Nat.le_refl, Nat.reduceLeDiff, Nat.reduceLT, xf49, ai, hpS, cpC, e1, toData_os, toData_v, toData_ptr, toData_o, Go.Proofs.Eng.putAt, List.map_cons, List.map_nil]
        refine W_callvR (kb' := 1000) (caps := cpE) rfl call_each rfl hrun rfl (W_run 120 ?_)
        simp (maxSteps := 2000000) only [go_some, go_none, go_zero, nxt_op, nxt_guard, nxt_skip, nxt_label, nxt_region, nxt_drawn, nxt_seq, nxt_block, nxt_scope, nxt_exit, nxt_blk, nxt_lp, nxt_cond, nxt_loop, nxt_ret, nxt_stop, nxt_nil, Eng.start, frG, frF, isCall, stp, exec1, exec1K, dK, Nat.reduceDiv, keyA, wantedA, stepF, stF_mv, stF_bin, stF_len, stF_un, stF_pick, stF_load, stF_iadr, stF_box, stF_fadr, stF_store, stF_ext, stF_fld, stF_idx, stF_aadr, stF_app, stF_bldS, stF_slc, stF_slcA, stF_bld, stF_isnil, stF_mki, stF_mkf, stF_mkb, stF_nilc, stF_mks, mapF_eq, evalF_eq, evalA, setAF, setA, setF_eq, putF_eq, lookF_eq, List.getD_cons_zero, List.getD_cons_succ, List.set_cons_zero, List.set_cons_succ, List.replicate, List.length_cons, List.length_nil, Nat.zero_add, Nat.reduceSub, Nat.reduceAdd, List.cons_append, List.nil_append, Option.getD, drop, Nat.beq, List.length_map, binV, binI, unV, if_true, Eng.asInt, Eng.part, cellsOf, toNat_cast, cast_nonneg, true_and, and_true, if_pos, giveOp, gvK, List.getElem?_cons_zero, List.getElem?_cons_succ, Bool.not_true, Bool.not_false, ofVal, eq_self, and_self, true_implies, dfF, touch, regF, quietF, pairOK, noCs, Go.Value.oneCell', decide_true, decide_false, Nat.mul_one, asBound, fullOf, Option.isSome_none, Option.isSome_some, Nat.zero_le, Bool.false_eq_true, false_implies, Int.cast_ofNat_Int, Int.reduceLT, Int.reduceLE, Int.reduceToNat, Nat.reduceMul, Int.le_refl, Eng.look, putAt, Nat.reduceEqDiff, reduceCtorEq, Nat.reduceBEq, if_false, List.all_cons, List.all_nil, tf_beq, ft_beq, lvSub, lvOK, isNone, width, solid, splice, List.take_zero, List.drop_zero, List.drop_nil, List.take_nil, List.drop_succ_cons, List.take_succ_cons, List.append_nil, beq_self_eq_true, Bool.and_true, Bool.true_and, Bool.and_self, ge_iff_le, gt_iff_lt, Nat.le_refl, Nat.reduceLeDiff, Nat.reduceLT, ai, hpS]
        refine W_ret1 (WX_pop (WX_nil ⟨.inl rfl, eaF A R fw L, (g, none), rfl, ?_⟩))
        unfold eaF
        cases ha : (vSeg A 0 L).any (buP R) with
        | true =>
          rw [if_pos rfl]
          refine ⟨hfw, Int.le_refl _, fun ⟨t, ht⟩ => ?_⟩
          have ht0 : t = [] := by
            cases t with
            | nil => rfl
            | cons e t =>
              rw [ht, hL] at hcut
              have := vErr_cons hcut
              omega
          rw [ht0, List.append_nil] at ht
          rw [← ht, hany] at ha
          cases ha
        | false =>
          rw [if_neg (by simp)]
          have hdom := dom hg.art hall L 0 0 (Nat.le_refl _) hn0 hv ha
          rw [flB_zero] at hdom
          have h1 := hdom.1
          unfold flen at hfw ⊢
          unfold mn2
          refine ⟨by split <;> omega, by split <;> omega, fun ⟨t, ht⟩ => ?_⟩
          have ht0 : t = [] := by
            cases t with
            | nil => rfl
            | cons e t =>
              rw [ht, hL] at hcut
              have := vErr_cons hcut
              omega
          rw [ht0, List.append_nil] at ht
          rw [ht] at hfw ⊢
          split <;> omega
    · have hlt : fr < A.length := by omega
      have e1 : ((fr : Int) == (A.length : Int)) = false := by rw [beq_eq_false_iff_ne]; omega
      have wf : IntKind.i64.wrap ((fr : Int) + 1) = ((fr + 1 : Nat) : Int) := by rw [wrap_id (by omega) (by omega)]; simp
      have hih : ∀ x, fr < x → x ≤ A.length → PutS A R F x := fun x h1 h2 => ihk (A.length - x) (by omega) x (by omega)
      have hlp := put_loop2 A R F fw hn1 fr hlt L hL hLl hih [] (PutQ A R F fw L) (fun fw' r' a1 a2 a3 x j5 j6 j8 j9 j10 j11 j12 j13 j14 j15 j16 j17 j18 j19 j20 j21 j22 j23 j24 j25 j26 j27 j28 j29 j30 j31 j32 => W_done ⟨.inr rfl, fw', r', rfl, a1, a2, fun ⟨t, ht⟩ => by
        cases t with
        | nil =>
          rw [List.append_nil] at ht
          rw [ht, hvn] at hcut
          unfold vErr at hcut
          split at hcut
          · omega
          · cases hcut
        | cons e t =>
          have hc := hcut
          rw [ht, hL] at hc
          have hc := vErr_cons hc
          obtain ⟨q, rfl⟩ : ∃ q : Nat, e = (q : Int) := ⟨e.toNat, by omega⟩
          exact a3 ⟨q, t, ht, by omega⟩⟩) (A.length - fr) (fr + 1) (by omega) (by omega) fw
      have h0 : ((∃ (e : Nat) (t : List Int), filL R A = L ++ (e : Int) :: t ∧ e < fr + 1) → fw = flen A R) := by
        rintro ⟨e, t, ht, he⟩
        rw [ht, hL] at hcut
        have := vErr_cons hcut
        omega
      cases hls with
      | a r h =>
        subst h
        obtain ⟨g, o⟩ := r
        have hlp := hlp g o hfw (Int.le_refl _) h0
        simp only [dv] at hlp
        refine PutQ.run (W_run 120 ?_)
        simp (maxSteps := 2000000) only [go_some, go_none, go_zero, nxt_op, nxt_guard, nxt_skip, nxt_label, nxt_region, nxt_drawn, nxt_seq, nxt_block, nxt_scope, nxt_exit, nxt_blk, nxt_lp, nxt_cond, nxt_loop, nxt_ret, nxt_stop, nxt_nil, Eng.start, frG, frF, isCall, stp, exec1, exec1K, dK, Nat.reduceDiv, keyA, wantedA, stepF, stF_mv, stF_bin, stF_len, stF_un, stF_pick, stF_load, stF_iadr, stF_box, stF_fadr, stF_store, stF_ext, stF_fld, stF_idx, stF_aadr, stF_app, stF_bldS, stF_slc, stF_slcA, stF_bld, stF_isnil, stF_mki, stF_mkf, stF_mkb, stF_nilc, stF_mks, mapF_eq, evalF_eq, evalA, setAF, setA, setF_eq, putF_eq, lookF_eq, List.getD_cons_zero, List.getD_cons_succ, List.set_cons_zero, List.set_cons_succ, List.replicate, List.length_cons, List.length_nil, Nat.zero_add, Nat.reduceSub, Nat.reduceAdd, List.cons_append, List.nil_append, Option.getD, drop, Nat.beq, List.length_map, binV, binI, unV, if_true, Eng.asInt, Eng.part, cellsOf, toNat_cast, cast_nonneg, true_and, and_true, if_pos, giveOp, gvK, List.getElem?_cons_zero, List.getElem?_cons_succ, Bool.not_true, Bool.not_false, ofVal, eq_self, and_self, true_implies, dfF, touch, regF, quietF, pairOK, noCs, Go.Value.oneCell', decide_true, decide_false, Nat.mul_one, asBound, fullOf, Option.isSome_none, Option.isSome_some, Nat.zero_le, Bool.false_eq_true, false_implies, Int.cast_ofNat_Int, Int.reduceLT, Int.reduceLE, Int.reduceToNat, Nat.reduceMul, Int.le_refl, Eng.look, putAt, Nat.reduceEqDiff, reduceCtorEq, Nat.reduceBEq, if_false, List.all_cons, List.all_nil, tf_beq, ft_beq, lvSub, lvOK, isNone, width, solid, splice, List.take_zero, List.drop_zero, List.drop_nil, List.take_nil, List.drop_succ_cons, List.take_succ_cons, List.append_nil, beq_self_eq_true, Bool.and_true, Bool.true_and, Bool.and_self, ge_iff_le, gt_iff_lt, Nat.le_refl, Nat.reduceLeDiff, Nat.reduceLT, xf49, ai, nilA, hpS, cpC, e1, wf]
        exact W_alone (hlp _ _ _ _ _ _ _ _ _ _ _ _ _ _ _ _ _ _ _ _ _ _ _ _ _ _ _)
      | b g h =>
        have hlp := hlp g none hfw (Int.le_refl _) h0
        refine PutQ.run (W_giveC (t := 0) (giveT_row (k := 1030) (g := g) (e := 3) (s := 1) (xs := L.map ai) (n := L.length) rfl rfl (by simp)) (W_run 120 ?_))
        cases L with
        | nil => exact absurd rfl h
        | cons y T =>
          simp only [dv] at hlp
          generalize hLL : y :: T = L at *
          simp (maxSteps := 2000000) only [go_some, go_none, go_zero, nxt_op, nxt_guard, nxt_skip, nxt_label, nxt_region, nxt_drawn, nxt_seq, nxt_block, nxt_scope, nxt_exit, nxt_blk, nxt_lp, nxt_cond, nxt_loop, nxt_ret, nxt_stop, nxt_nil, Eng.start, frG, frF, isCall, stp, exec1, exec1K, dK, Nat.reduceDiv, keyA, wantedA, stepF, stF_mv, stF_bin, stF_len, stF_un, stF_pick, stF_load, stF_iadr, stF_box, stF_fadr, stF_store, stF_ext, stF_fld, stF_idx, stF_aadr, stF_app, stF_bldS, stF_slc, stF_slcA, stF_bld, stF_isnil, stF_mki, stF_mkf, stF_mkb, stF_nilc, stF_mks, mapF_eq, evalF_eq, evalA, setAF, setA, setF_eq, putF_eq, lookF_eq, List.getD_cons_zero, List.getD_cons_succ, List.set_cons_zero, List.set_cons_succ, List.replicate, List.length_cons, List.length_nil, Nat.zero_add, Nat.reduceSub, Nat.reduceAdd, List.cons_append, List.nil_append, Option.getD, drop, Nat.beq, List.length_map, binV, binI, unV, if_true, Eng.asInt, Eng.part, cellsOf, toNat_cast, cast_nonneg, true_and, and_true, if_pos, giveOp, gvK, List.getElem?_cons_zero, List.getElem?_cons_succ, Bool.not_true, Bool.not_false, ofVal, eq_self, and_self, true_implies, dfF, touch, regF, quietF, pairOK, noCs, Go.Value.oneCell', decide_true, decide_false, Nat.mul_one, asBound, fullOf, Option.isSome_none, Option.isSome_some, Nat.zero_le, Bool.false_eq_true, false_implies, Int.cast_ofNat_Int, Int.reduceLT, Int.reduceLE, Int.reduceToNat, Nat.reduceMul, Int.le_refl, Eng.look, putAt, Nat.reduceEqDiff, reduceCtorEq, Nat.reduceBEq, if_false, List.all_cons, List.all_nil, tf_beq, ft_beq, lvSub, lvOK, isNone, width, solid, splice, List.take_zero, List.drop_zero, List.drop_nil, List.take_nil, List.drop_succ_cons, List.take_succ_cons, List.append_nil, beq_self_eq_true, Bool.and_true, Bool.true_and, Bool.and_self, ge_iff_le, gt_iff_lt, Nat.le_refl, Nat.reduceLeDiff, Nat.reduceLT, xf49, ai, hpS, cpC, e1, wf, toData_os, toData_v, toData_ptr, toData_o, Go.Proofs.Eng.putAt, List.map_cons, List.map_nil]
          exact W_alone (hlp _ _ _ _ _ _ _ _ _ _ _ _ _ _ _ _ _ _ _ _ _ _ _ _ _ _ _)
def hp4 (A : List (Int × Int)) (R F fw : Int) : Heap := [(3, (1, some ⟨27, 3, [bkA false A R F]⟩)), (5, (1, some ⟨29, 1, [al false (filL R A)]⟩)), (9, (1, some ⟨3, 1, [ai fw]⟩)), (10, (1, some ⟨4, 1, [ab true]⟩))]
theorem named1030 {a b c d : Nat × Option Ob} (j : Nat) : Go.Proofs.Eng.look [(3, a), (5, b), (9, c), (10, d)] j = Go.Proofs.Eng.look [(3, a), (5, b), (9, c), (10, d), (1030, (0, (none : Option Ob)))] j := by
  simp only [Go.Proofs.Eng.look]
  by_cases h3 : 3 = j
  · simp [h3]
  · by_cases h5 : 5 = j
    · simp [h3, h5]
    · by_cases h9 : 9 = j
      · simp [h3, h5, h9]
      · by_cases h10 : 10 = j
        · simp [h3, h5, h9, h10]
        · by_cases h : 1030 = j
          · subst h; simp
          · simp [h3, h5, h9, h10, h]
theorem cuts_run (A : List (Int × Int)) (R F fw : Int) (hg : gB A R F) (hall : ∀ p, p ∈ A → p.2 ≤ R) (hfw : flen A R ≤ fw) :
    ∃ r', RunsR Try.prog xf 1000 18 [ai A.length, .fn 19 cpE] (hp4 A R F fw) (.tup []) (hpS A R F (flen A R) r') := by
  obtain ⟨fw', r', hrun, f1, f2, f3⟩ := put_all A R F hg hall A.length 0 (by omega) [] fw nilA (0, none) (fun t => rfl) (Nat.le_refl _) (.a _ rfl) hfw
  have hfe : fw' = flen A R := f3 ⟨_, rfl⟩
  subst hfe
  refine ⟨r', RunsR.ofW (fn := xf18) (by kernel_rfl) (W_named named1030 (W_run 120 ?_))⟩
  simp (maxSteps := 2000000) only [go_some, go_none, go_zero, nxt_op, nxt_guard, nxt_skip, nxt_label, nxt_region, nxt_drawn, nxt_seq, nxt_block, nxt_scope, nxt_exit, nxt_blk, nxt_lp, nxt_cond, nxt_loop, nxt_ret, nxt_stop, nxt_nil, Eng.start, frG, frF, isCall, stp, exec1, exec1K, dK, Nat.reduceDiv, keyA, wantedA, stepF, stF_mv, stF_bin, stF_len, stF_un, stF_pick, stF_load, stF_iadr, stF_box, stF_fadr, stF_store, stF_ext, stF_fld, stF_idx, stF_aadr, stF_app, stF_bldS, stF_slc, stF_slcA, stF_bld, stF_isnil, stF_mki, stF_mkf, stF_mkb, stF_nilc, stF_mks, mapF_eq, evalF_eq, evalA, setAF, setA, setF_eq, putF_eq, lookF_eq, List.getD_cons_zero, List.getD_cons_succ, List.set_cons_zero, List.set_cons_succ, List.replicate, List.length_cons, List.length_nil, Nat.zero_add, Nat.reduceSub, Nat.reduceAdd, List.cons_append, List.nil_append, Option.getD, drop, Nat.beq, List.length_map, binV, binI, unV, if_true, Eng.asInt, Eng.part, cellsOf, toNat_cast, cast_nonneg, true_and, and_true, if_pos, giveOp, gvK, List.getElem?_cons_zero, List.getElem?_cons_succ, Bool.not_true, Bool.not_false, ofVal, eq_self, and_self, true_implies, dfF, touch, regF, quietF, pairOK, noCs, Go.Value.oneCell', decide_true, decide_false, Nat.mul_one, asBound, fullOf, Option.isSome_none, Option.isSome_some, Nat.zero_le, Bool.false_eq_true, false_implies, Int.cast_ofNat_Int, Int.reduceLT, Int.reduceLE, Int.reduceToNat, Nat.reduceMul, Int.le_refl, Eng.look, putAt, Nat.reduceEqDiff, reduceCtorEq, Nat.reduceBEq, if_false, List.all_cons, List.all_nil, tf_beq, ft_beq, lvSub, lvOK, isNone, width, solid, splice, List.take_zero, List.drop_zero, List.drop_nil, List.take_nil, List.drop_succ_cons, List.take_succ_cons, List.append_nil, beq_self_eq_true, Bool.and_true, Bool.true_and, Bool.and_self, ge_iff_le, gt_iff_lt, Nat.le_refl, Nat.reduceLeDiff, Nat.reduceLT, xf18, ai, hp4, cpE]
  refine W_callvR (kb' := 1000) (caps := cpC A.length) rfl call_cuts rfl hrun rfl (W_run 120 ?_)
  simp (maxSteps := 2000000) only [go_some, go_none, go_zero, nxt_op, nxt_guard, nxt_skip, nxt_label, nxt_region, nxt_drawn, nxt_seq, nxt_block, nxt_scope, nxt_exit, nxt_blk, nxt_lp, nxt_cond, nxt_loop, nxt_ret, nxt_stop, nxt_nil, Eng.start, frG, frF, isCall, stp, exec1, exec1K, dK, Nat.reduceDiv, keyA, wantedA, stepF, stF_mv, stF_bin, stF_len, stF_un, stF_pick, stF_load, stF_iadr, stF_box, stF_fadr, stF_store, stF_ext, stF_fld, stF_idx, stF_aadr, stF_app, stF_bldS, stF_slc, stF_slcA, stF_bld, stF_isnil, stF_mki, stF_mkf, stF_mkb, stF_nilc, stF_mks, mapF_eq, evalF_eq, evalA, setAF, setA, setF_eq, putF_eq, lookF_eq, List.getD_cons_zero, List.getD_cons_succ, List.set_cons_zero, List.set_cons_succ, List.replicate, List.length_cons, List.length_nil, Nat.zero_add, Nat.reduceSub, Nat.reduceAdd, List.cons_append, List.nil_append, Option.getD, drop, Nat.beq, List.length_map, binV, binI, unV, if_true, Eng.asInt, Eng.part, cellsOf, toNat_cast, cast_nonneg, true_and, and_true, if_pos, giveOp, gvK, List.getElem?_cons_zero, List.getElem?_cons_succ, Bool.not_true, Bool.not_false, ofVal, eq_self, and_self, true_implies, dfF, touch, regF, quietF, pairOK, noCs, Go.Value.oneCell', decide_true, decide_false, Nat.mul_one, asBound, fullOf, Option.isSome_none, Option.isSome_some, Nat.zero_le, Bool.false_eq_true, false_implies, Int.cast_ofNat_Int, Int.reduceLT, Int.reduceLE, Int.reduceToNat, Nat.reduceMul, Int.le_refl, Eng.look, putAt, Nat.reduceEqDiff, reduceCtorEq, Nat.reduceBEq, if_false, List.all_cons, List.all_nil, tf_beq, ft_beq, lvSub, lvOK, isNone, width, solid, splice, List.take_zero, List.drop_zero, List.drop_nil, List.take_nil, List.drop_succ_cons, List.take_succ_cons, List.append_nil, beq_self_eq_true, Bool.and_true, Bool.true_and, Bool.and_self, ge_iff_le, gt_iff_lt, Nat.le_refl, Nat.reduceLeDiff, Nat.reduceLT, ai, hpS]
  exact W_done ⟨.inr rfl, [], rfl, rfl, rfl⟩
end Go.Proofs.Ytnpdpkeackicmaa

