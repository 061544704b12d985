/-
  The law's book is in order; a ring that is nil.
-/
import Derived.Test.YtdbodafhpmmnhaaMl
set_option linter.unusedSimpArgs false
set_option linter.unusedVariables false
namespace Go.Proofs.Ytdbodafhpmmnhaa
open Go Go.Proofs.Eng
set_option maxRecDepth 100000
set_option maxHeartbeats 1000000
theorem mdv_isP (L : List (Int × Int)) : isP (mdv L) L := by
  cases L with
  | nil => exact .inr ⟨rfl, rfl⟩
  | cons x t => exact .inl ⟨false, rfl⟩
structure GoodL (m : Int) (l : List (Int × Int)) : Prop where
  rng : ∀ p, p ∈ l → 0 ≤ p.1 ∧ p.1 < m ∧ 0 ≤ p.2 ∧ p.2 < m ∧ p.1 ≠ p.2
  nodup : l.Nodup
theorem mkS_good {m : Int} (hm : 1 ≤ m) {l : List (Int × Int)} (h : GoodL m l) {x : Int × Int} (hx : 0 ≤ x.1 ∧ 0 ≤ x.2) : GoodL m (mkS m l x) := by
  unfold mkS
  split
  · rename_i hc
    obtain ⟨a1, a2⟩ := tmod_b (a := x.1) (n := m) hx.1 (by omega)
    obtain ⟨b1, b2⟩ := tmod_b (a := x.2) (n := m) hx.2 (by omega)
    refine ⟨fun p hp => ?_, ?_⟩
    · rcases List.mem_append.1 hp with hp | hp
      · exact h.rng p hp
      · rw [List.mem_singleton.1 hp]
        exact ⟨a1, a2, b1, b2, hc.1⟩
    · rw [List.nodup_append]
      refine ⟨h.nodup, by simp, fun a ha b hb => ?_⟩
      rw [List.mem_singleton.1 hb]
      intro e; subst e; exact hc.2 ha
  · exact h
theorem foldl_good {m : Int} (hm : 1 ≤ m) : ∀ (E l : List (Int × Int)), GoodL m l → (∀ p, p ∈ E → 0 ≤ p.1 ∧ 0 ≤ p.2) → GoodL m (E.foldl (mkS m) l)
  | [], l, h, _ => h
  | x :: E, l, h, hE => foldl_good hm E (mkS m l x) (mkS_good hm h (hE x List.mem_cons_self)) fun p hp => hE p (List.mem_cons_of_mem _ hp)
theorem mkL_good {m : Int} (hm : 1 ≤ m) {E : List (Int × Int)} (hE : ∀ p, p ∈ E → 0 ≤ p.1 ∧ 0 ≤ p.2) : GoodL m (mkL m E) := foldl_good hm E [] ⟨fun p hp => (by cases hp), List.nodup_nil⟩ hE
theorem pair_good {m : Int} {l : List (Int × Int)} (h : GoodL m l) {i : Nat} (hi : i < l.length) : pairE m l i = 0 := by
  obtain ⟨a, b, c, d, e⟩ := h.rng _ (getD_mem (d := (0, 0)) hi)
  have h1 : inB m (l.getD i (0, 0)).1 = true := by unfold inB; rw [decide_eq_true a, decide_eq_true b]; rfl
  have h2 : inB m (l.getD i (0, 0)).2 = true := by unfold inB; rw [decide_eq_true c, decide_eq_true d]; rfl
  have h3 : ¬ memD (l.take i) (l.getD i (0, 0)) = true := by
    rw [memD_iff]
    have e2 : l.getD i (0, 0) = l[i] := by rw [List.getD_eq_getElem?_getD, List.getElem?_eq_getElem hi]; rfl
    rw [e2]
    intro hm
    obtain ⟨j, hj, hjv⟩ := List.mem_take_iff_getElem.1 hm
    have hj2 : j < i := by omega
    exact List.pairwise_iff_getElem.1 h.nodup j i (by omega) hi hj2 hjv
  unfold pairE
  rw [h1, h2, Bool.and_self, if_pos rfl, if_neg e, if_neg h3]
theorem chkL_good {m : Int} {l : List (Int × Int)} (h : GoodL m l) : ∀ (k i : Nat), i + k = l.length → chkL m l k i = 0
  | 0, i, _ => rfl
  | k + 1, i, hi => by
    unfold chkL
    rw [if_pos (pair_good h (by omega))]
    exact chkL_good h k (i + 1) (by omega)
theorem chk_good {m : Int} {l : List (Int × Int)} (h : GoodL m l) (hm : 1 ≤ m ∧ m ≤ 7) (hn : l.length ≤ 16) : chkE m l = 0 := by
  unfold chkE
  rw [if_neg (by omega), if_neg (by omega), if_neg (by omega)]
  exact chkL_good h _ _ (by omega)
theorem proves_nil {x : AV} {l : List (Int × Int)} (h : isP x l) (m : Int) (hn : l.length ≤ 1000) (hc : chkE m l = 0) : Runs Try.prog xf 7 [bkA m x, nilA] (ai 5) := by
  have H := check_any h m hn
  rw [hc] at H
  have d3 : decide ((0 : Int) < 3) = true := rfl
  have b0 : ((0 : Int) != 0) = false := rfl
  refine Runs.ofW (fn := xf7) 20 (by kernel_rfl) (W_run 80 ?_)
  simp only [go_some, go_none, go_zero, nxt_op, nxt_guard, nxt_skip, nxt_label, nxt_region, nxt_drawn, nxt_seq, nxt_block, nxt_scope, nxt_exit, nxt_blk, nxt_lp, nxt_cond, nxt_loop, nxt_ret, nxt_stop, nxt_nil, Eng.start, frG, frF, isCall, stp, exec1, exec1K, dK, Nat.reduceDiv, keyA, wantedA, stepF, stF_mv, stF_bin, stF_len, stF_un, stF_pick, stF_load, stF_iadr, stF_box, stF_fadr, stF_store, stF_ext, stF_fld, stF_idx, stF_aadr, stF_app, stF_bldS, stF_slc, stF_slcA, stF_bld, stF_isnil, stF_mki, stF_mkf, stF_mkb, mapF_eq, evalF_eq, evalA, setAF, setA, setF_eq, putF_eq, lookF_eq, List.getD_cons_zero, List.getD_cons_succ, List.set_cons_zero, List.set_cons_succ, List.replicate, List.length_cons, List.length_nil, Nat.zero_add, Nat.reduceSub, Nat.reduceAdd, List.cons_append, List.nil_append, Option.getD, drop, Nat.beq, List.length_map, binV, binI, unV, if_true, Eng.asInt, Eng.part, cellsOf, toNat_cast, cast_nonneg, true_and, and_true, if_pos, giveOp, gvK, List.getElem?_cons_zero, List.getElem?_cons_succ, Bool.not_true, Bool.not_false, ofVal, eq_self, and_self, true_implies, dfF, touch, regF, quietF, pairOK, noCs, Go.Value.oneCell', decide_true, decide_false, Nat.mul_one, asBound, fullOf, Option.isSome_none, Option.isSome_some, Nat.zero_le, Bool.false_eq_true, false_implies, Int.cast_ofNat_Int, Int.reduceLT, Int.reduceLE, Int.reduceToNat, Nat.reduceMul, Int.le_refl, Eng.look, putAt, Nat.reduceEqDiff, reduceCtorEq, Nat.reduceBEq, if_false, List.all_cons, List.all_nil, tf_beq, ft_beq, lvSub, lvOK, isNone, width, solid, splice, List.take_zero, List.drop_zero, List.drop_nil, List.take_nil, List.drop_succ_cons, List.take_succ_cons, List.append_nil, beq_self_eq_true, Bool.and_true, Bool.true_and, Bool.and_self, ge_iff_le, gt_iff_lt, Nat.le_refl, Nat.reduceLeDiff, Nat.reduceLT, xf7, bkA, nilA]
  refine W_call (args := [bkA m x]) rfl (by simp [noRefs, noRef, bkA, ai, h.ref]) H rfl (W_run 80 ?_)
  simp only [go_some, go_none, go_zero, nxt_op, nxt_guard, nxt_skip, nxt_label, nxt_region, nxt_drawn, nxt_seq, nxt_block, nxt_scope, nxt_exit, nxt_blk, nxt_lp, nxt_cond, nxt_loop, nxt_ret, nxt_stop, nxt_nil, Eng.start, frG, frF, isCall, stp, exec1, exec1K, dK, Nat.reduceDiv, keyA, wantedA, stepF, stF_mv, stF_bin, stF_len, stF_un, stF_pick, stF_load, stF_iadr, stF_box, stF_fadr, stF_store, stF_ext, stF_fld, stF_idx, stF_aadr, stF_app, stF_bldS, stF_slc, stF_slcA, stF_bld, stF_isnil, stF_mki, stF_mkf, stF_mkb, mapF_eq, evalF_eq, evalA, setAF, setA, setF_eq, putF_eq, lookF_eq, List.getD_cons_zero, List.getD_cons_succ, List.set_cons_zero, List.set_cons_succ, List.replicate, List.length_cons, List.length_nil, Nat.zero_add, Nat.reduceSub, Nat.reduceAdd, List.cons_append, List.nil_append, Option.getD, drop, Nat.beq, List.length_map, binV, binI, unV, if_true, Eng.asInt, Eng.part, cellsOf, toNat_cast, cast_nonneg, true_and, and_true, if_pos, giveOp, gvK, List.getElem?_cons_zero, List.getElem?_cons_succ, Bool.not_true, Bool.not_false, ofVal, eq_self, and_self, true_implies, dfF, touch, regF, quietF, pairOK, noCs, Go.Value.oneCell', decide_true, decide_false, Nat.mul_one, asBound, fullOf, Option.isSome_none, Option.isSome_some, Nat.zero_le, Bool.false_eq_true, false_implies, Int.cast_ofNat_Int, Int.reduceLT, Int.reduceLE, Int.reduceToNat, Nat.reduceMul, Int.le_refl, Eng.look, putAt, Nat.reduceEqDiff, reduceCtorEq, Nat.reduceBEq, if_false, List.all_cons, List.all_nil, tf_beq, ft_beq, lvSub, lvOK, isNone, width, solid, splice, List.take_zero, List.drop_zero, List.drop_nil, List.take_nil, List.drop_succ_cons, List.take_succ_cons, List.append_nil, beq_self_eq_true, Bool.and_true, Bool.true_and, Bool.and_self, ge_iff_le, gt_iff_lt, Nat.le_refl, Nat.reduceLeDiff, Nat.reduceLT, ai, b0, d3]
  exact W_ret1 (WX_pop (WX_nil ⟨.inl rfl, _, rfl, rfl⟩))
end Go.Proofs.Ytdbodafhpmmnhaa

