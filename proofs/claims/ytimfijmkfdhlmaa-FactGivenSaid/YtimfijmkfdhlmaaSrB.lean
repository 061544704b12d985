/-
  Package fact's search for lists: what it finds.
-/
import Derived.Test.YtimfijmkfdhlmaaValid
import Derived.Test.YtimfijmkfdhlmaaEngU
set_option linter.unusedSimpArgs false
set_option linter.unusedVariables false
namespace Go.Proofs.Ytimfijmkfdhlmaa
open Go Go.Proofs.Eng
set_option maxRecDepth 100000
set_option maxHeartbeats 1000000
theorem W_callvR {P : Program} {R : Rel} {kb : Nat} {k : List Fr} {c : Cfg} {Q : Out → Cfg → Prop} {l : Option Lv} {f kb' : Nat} {d : Option Nat} {x : XArg} {caps : List AV} {xs : List XArg} {args : List AV} {r : AV} {η' : Heap} (hx : evalA c.σ x = .fn f caps) (hc : callable P f = true) (ha : xs.map (evalA c.σ) ++ caps = args)
    (hr : R.q kb' f args c.η r η') (hl : limOK l .any = true) (h : W P R kb k ⟨setA c.σ d r, η'⟩ Q) : W P R kb (.op l ⟨d, .callv x xs, none⟩ :: k) c Q := by
  subst ha
  exact W_op (.callR c kb' f _ r η' rfl (by simp only [Go.Proofs.Eng.step, hx, hc, if_true]) hr) hl h
theorem RunsN.ofW {P : Program} {xf : Nat → Option XFunc} {f : Nat} {fn : XFunc} {args : List AV} {r : AV} (hf : xf f = some fn)
    (h : W P (RelU P xf) 0 [.code fn.body] (Go.Proofs.Eng.start fn args []) fun o c => (o = .ret ∨ o = .normal) ∧ ∃ rs, fn.results.mapM (resOf P c) = some rs ∧ reifyN c.η (retOf rs) = some r) : RunsN P xf f args r := by
  obtain ⟨o, c, ⟨o1, c1, h1, rfl, rfl⟩, ho, rs, h3, h4⟩ := h
  exact RunsN.of hf h1 ho h3 h4
/-- a list that is cloned -/
theorem clone_run (f : Bool) (w : List Int) (hn : w.length ≤ 1000) : RunsN Try.prog xf 63 [al f w] (al false w) := by
  have b1 : w.length * 8 ≤ 100000000000000 := by omega
  have b2 : w.length ≤ 100000000000000 := by omega
  refine RunsN.ofW (fn := xf63) (by kernel_rfl) (W_run 60 ?_)
  simp only [go_some, go_none, go_zero, nxt_op, nxt_guard, nxt_skip, nxt_region, nxt_drawn, nxt_seq, nxt_block, nxt_scope, nxt_exit, nxt_blk, nxt_lp, nxt_cond, nxt_loop, nxt_ret, nxt_stop, nxt_nil, Eng.start, frG, frF, isCall, stp, exec1, exec1K, keyA, wantedA, stepF, stF_mv, stF_bin, stF_len, stF_un, stF_pick, stF_load, stF_iadr, stF_box, stF_fadr, stF_store, stF_ext, stF_fld, stF_idx, stF_aadr, stF_app, stF_bldS, stF_slc, stF_slcA, stF_bld, stF_isnil, stF_mki, stF_mkf, stF_mkb, mapF_eq, evalF_eq, evalA, setAF, setA, setF_eq, putF_eq, lookF_eq, List.getD_cons_zero, List.getD_cons_succ, List.set_cons_zero, List.set_cons_succ, List.replicate, List.length_cons, List.length_nil, Nat.zero_add, Nat.reduceSub, Nat.reduceAdd, List.cons_append, List.nil_append, Option.getD, drop, Nat.beq, List.length_map, binV, binI, unV, if_true, Eng.asInt, Eng.part, cellsOf, toNat_cast, cast_nonneg, true_and, and_true, if_pos, giveOp, List.getElem?_cons_zero, List.getElem?_cons_succ, Bool.not_true, Bool.not_false, ofVal, eq_self, and_self, true_implies, dfF, touch, regF, quietF, pairOK, noCs, Go.Value.oneCell', decide_true, decide_false, Nat.mul_one, asBound, fullOf, Option.isSome_none, Option.isSome_some, Nat.zero_le, Bool.false_eq_true, false_implies, Int.cast_ofNat_Int, Int.reduceLT, Int.reduceLE, Int.reduceToNat, Nat.reduceMul, Int.le_refl, Eng.look, putAt, Nat.reduceEqDiff, reduceCtorEq, Nat.reduceBEq, if_false, List.all_cons, List.all_nil, tf_beq, ft_beq, lvSub, lvOK, isNone, width, solid, splice, List.take_zero, List.drop_zero, List.drop_nil, List.take_nil, List.drop_succ_cons, List.take_succ_cons, List.append_nil, beq_self_eq_true, Bool.and_true, Bool.true_and, Bool.and_self, ge_iff_le, gt_iff_lt, Nat.le_refl, Nat.reduceLeDiff, Nat.reduceLT, xf63, al, Go.Proofs.Eng.elems, b1, b2, List.map_nil]
  refine W_ret1 (WX_nil ⟨.inl rfl, _, rfl, ?_⟩)
  show reifyN _ (.os 5 1 w.length 1 0 w.length) = _
  simp only [reifyN, rowN, Go.Proofs.Eng.look, if_true]
  rw [if_pos]
  · have ht : List.take w.length (w.map ai) = w.map ai := List.take_of_length_le (by simp)
    simp [al, ht]
  · refine ⟨trivial, by simp, trivial, by simp, ?_⟩
    have ht : List.take w.length (w.map ai) = w.map ai := List.take_of_length_le (by simp)
    rw [List.drop_zero, ht, List.all_eq_true]
    intro x hx
    obtain ⟨z, _, rfl⟩ := List.mem_map.1 hx
    rfl
/-- the state of the list that grows and is cut back -/
inductive WSt (w : List Int) : AV → Nat × Option Ob → Prop
  | a (g : Nat) (h : w = []) : WSt w (.sl 1 true []) (g, none)
  | b (g : Nat) (r st : List Int) (h : r = w ++ st) : WSt w (.os 1029 g r.length 1 0 w.length) (g, some ⟨3, 1, r.map ai⟩)
/-- the state of what is found -/
inductive LSt (L : List (List Int)) : AV → Nat × Option Ob → Prop
  | a (g : Nat) (h : L = []) : LSt L (.sl 1 true []) (g, none)
  | b (g : Nat) (h : L ≠ []) : LSt L (.os 1018 g L.length 1 0 L.length) (g, some ⟨30, 1, L.map (al false)⟩)
def capsA (m : Int) (pv : AV) : List AV := [.ptr (bkA m pv), .o 4 1 1 0 0, .o 3 1 1 0 0, .o 5 1 1 0 0]
def hpA (m : Int) (pv Lc : AV) (Lr : Nat × Option Ob) (Wc : AV) (Wr : Nat × Option Ob) : Heap :=
  [(3, (1, some ⟨46, 1, [Lc]⟩)), (4, (1, some ⟨30, 1, [Wc]⟩)), (5, (1, some ⟨92, 1, [.fn 66 (capsA m pv)]⟩)), (1018, Lr), (1029, Wr)]
/-- the lists of so many articles more, from one on, behind others, that explain all pairs -/
def fnd (n : Nat) (l : List (Int × Int)) : Nat → Nat → List Int → List (List Int)
  | 0, _, w => if explB l w = true then [w] else []
  | k + 1, a, w => (List.range' a (n - a)).flatMap fun x => fnd n l k (x + 1) (w ++ [(x : Int)])
theorem reify_al (η : Heap) (n : Nat) (f : Bool) (l : List Int) : reify η (n + 2) (al f l) = some (al f l) := by
  have h : ∀ l : List Int, (l.map ai).mapM (elemR (reify η (n + 1))) = some (l.map ai) := fun l => by
    induction l with
    | nil => rfl
    | cons a l ih => rw [List.map_cons, List.mapM_cons, ih]; rfl
  show Option.map (AV.sl 1 f) ((l.map ai).mapM (elemR (reify η (n + 1)))) = _
  rw [h]; rfl
theorem reify_ap (η : Heap) (n : Nat) (f : Bool) (l : List (Int × Int)) : reify η (n + 2) (ap f l) = some (ap f l) := by
  have h : ∀ l : List (Int × Int), (l.map a2).mapM (elemR (reify η (n + 1))) = some (l.map a2) := fun l => by
    induction l with
    | nil => rfl
    | cons a l ih => rw [List.map_cons, List.mapM_cons, ih]; rfl
  show Option.map (AV.sl 2 f) ((l.map a2).mapM (elemR (reify η (n + 1)))) = _
  rw [h]; rfl
theorem reify_bk {pv : AV} {l : List (Int × Int)} (hx : isP pv l) (η : Heap) (n : Nat) (m : Int) : reify η (n + 3) (bkA m pv) = some (bkA m pv) := by
  have h : reify η (n + 2) pv = some pv := by
    rcases hx with ⟨f, rfl⟩ | ⟨rfl, rfl⟩
    · exact reify_ap η n f l
    · rfl
  show Option.map AV.ag ([ai m, pv].mapM (reify η (n + 2))) = _
  rw [List.mapM_cons, List.mapM_cons, h]; rfl
theorem reify_cut {η : Heap} {n k g e : Nat} {w st : List Int} (hk : Go.Proofs.Eng.look η k = (g, some ⟨e, 1, (w ++ st).map ai⟩)) : reify η (n + 2) (.os k g (w ++ st).length 1 0 w.length) = some (al false w) := by
  have h : ∀ l : List Int, (l.map ai).mapM (elemR (reify η (n + 1))) = some (l.map ai) := fun l => by
    induction l with
    | nil => rfl
    | cons a l ih => rw [List.map_cons, List.mapM_cons, ih]; rfl
  show (match Go.Proofs.Eng.look η k with | (g', some ob) => if g' = g ∧ ob.xs.length = (w ++ st).length ∧ ob.s = 1 ∧ 0 + w.length ≤ (w ++ st).length then (((ob.xs.drop 0).take w.length).mapM (elemR (reify η (n + 1)))).map (AV.sl 1 false) else none | _ => none) = _
  rw [hk]
  simp only
  rw [if_pos (by simp), List.drop_zero, ← List.map_take, List.take_left' rfl, h]
  rfl
theorem call_srch : callable Try.prog 66 = true := by kernel_rfl
end Go.Proofs.Ytimfijmkfdhlmaa


set_option linter.unusedSimpArgs false
set_option linter.unusedVariables false
namespace Go.Proofs.Ytimfijmkfdhlmaa
open Go Go.Proofs.Eng
set_option maxRecDepth 100000
set_option maxHeartbeats 4000000
/-- what holds when the search returns -/
def SrQ (m : Int) (pv : AV) (w : List Int) (L : List (List Int)) (o : Out) (c : Cfg) : Prop :=
  (o = .ret ∨ o = .normal) ∧ ∃ Lc Lr Wc Wr, c.η = hpA m pv Lc Lr Wc Wr ∧ WSt w Wc Wr ∧ LSt L Lc Lr
theorem SrQ.run {m : Int} {pv : AV} {w : List Int} {L : List (List Int)} {args : List AV} {η : Heap}
    (h : W Try.prog (RelU Try.prog xf) 1000 [.code xf66.body] (Go.Proofs.Eng.start xf66 args η) (SrQ m pv w L)) :
    ∃ Lc Lr Wc Wr, RunsR Try.prog xf 1000 66 args η (.tup []) (hpA m pv Lc Lr Wc Wr) ∧ WSt w Wc Wr ∧ LSt L Lc Lr := by
  obtain ⟨o, c, h1, ho, Lc, Lr, Wc, Wr, e, hW, hL⟩ := h
  exact ⟨Lc, Lr, Wc, Wr, RunsR.ofW (fn := xf66) (by kernel_rfl) ⟨o, c, h1, ho, [], rfl, rfl, e.symm⟩, hW, hL⟩
def srArgs (m : Int) (pv : AV) (a k : Nat) : List AV := ai a :: ai k :: capsA m pv
/-- nothing more is to be added -/
theorem srch_zero {pv : AV} {l : List (Int × Int)} (hx : isP pv l) (n : Nat) (hn : l.length ≤ 1000) (a : Nat) (w : List Int) (L : List (List Int)) (Lc Wc : AV) (Lr Wr : Nat × Option Ob) (hW : WSt w Wc Wr) (hL : LSt L Lc Lr) (hwn : w.length ≤ 1000) (hLn : L.length ≤ 1000000) :
    W Try.prog (RelU Try.prog xf) 1000 [.code xf66.body] (Go.Proofs.Eng.start xf66 (srArgs (n : Int) pv a 0) (hpA (n : Int) pv Lc Lr Wc Wr)) (SrQ (n : Int) pv w (L ++ fnd n l 0 a w)) := by
  have HE : ∀ y, isL y w → Runs Try.prog xf 58 [bkA (n : Int) pv, y] (ab (explB l w)) := fun y hy => expl_run hx hy _ hn hwn
  have e0 : (((0 : Nat) : Int) == 0) = true := rfl
  have b1 : (L.length + 1) * 24 ≤ 100000000000000 := by omega
  have b2 : L.length + 1 ≤ 100000000000000 := by omega
  have hF : fnd n l 0 a w = if explB l w = true then [w] else [] := rfl
  refine W_run 60 ?_
  cases hW with
  | a g hw =>
    subst hw
    simp only [go_some, go_none, go_zero, nxt_op, nxt_guard, nxt_skip, nxt_region, nxt_drawn, nxt_seq, nxt_block, nxt_scope, nxt_exit, nxt_blk, nxt_lp, nxt_cond, nxt_loop, nxt_ret, nxt_stop, nxt_nil, Eng.start, frG, frF, isCall, stp, exec1, exec1K, keyA, wantedA, stepF, stF_mv, stF_bin, stF_len, stF_un, stF_pick, stF_load, stF_iadr, stF_box, stF_fadr, stF_store, stF_ext, stF_fld, stF_idx, stF_aadr, stF_app, stF_bldS, stF_slc, stF_slcA, stF_bld, stF_isnil, stF_mki, stF_mkf, stF_mkb, mapF_eq, evalF_eq, evalA, setAF, setA, setF_eq, putF_eq, lookF_eq, List.getD_cons_zero, List.getD_cons_succ, List.set_cons_zero, List.set_cons_succ, List.replicate, List.length_cons, List.length_nil, Nat.zero_add, Nat.reduceSub, Nat.reduceAdd, List.cons_append, List.nil_append, Option.getD, drop, Nat.beq, List.length_map, binV, binI, unV, if_true, Eng.asInt, Eng.part, cellsOf, toNat_cast, cast_nonneg, true_and, and_true, if_pos, giveOp, List.getElem?_cons_zero, List.getElem?_cons_succ, Bool.not_true, Bool.not_false, ofVal, eq_self, and_self, true_implies, dfF, touch, regF, quietF, pairOK, noCs, Go.Value.oneCell', decide_true, decide_false, Nat.mul_one, asBound, fullOf, Option.isSome_none, Option.isSome_some, Nat.zero_le, Bool.false_eq_true, false_implies, Int.cast_ofNat_Int, Int.reduceLT, Int.reduceLE, Int.reduceToNat, Nat.reduceMul, Int.le_refl, Eng.look, putAt, Nat.reduceEqDiff, reduceCtorEq, Nat.reduceBEq, if_false, List.all_cons, List.all_nil, tf_beq, ft_beq, lvSub, lvOK, isNone, width, solid, splice, List.take_zero, List.drop_zero, List.drop_nil, List.take_nil, List.drop_succ_cons, List.take_succ_cons, List.append_nil, beq_self_eq_true, Bool.and_true, Bool.true_and, Bool.and_self, ge_iff_le, gt_iff_lt, Nat.le_refl, Nat.reduceLeDiff, Nat.reduceLT, xf66, srArgs, capsA, hpA, bkA, ai, e0]
    refine W_call (args := [bkA (n : Int) pv, al true []]) rfl (noRef_b2 hx (.inl ⟨true, rfl⟩) _) (HE _ (.inl ⟨true, rfl⟩)) rfl (W_run 60 ?_)
    cases he : explB l [] with
    | true =>
      have hF2 : fnd n l 0 a [] = [[]] := by rw [hF, if_pos he]
      rw [hF2]
      have HC := clone_run true [] hwn
      cases hL with
      | a g2 hL0 =>
        subst hL0
        simp only [go_some, go_none, go_zero, nxt_op, nxt_guard, nxt_skip, nxt_region, nxt_drawn, nxt_seq, nxt_block, nxt_scope, nxt_exit, nxt_blk, nxt_lp, nxt_cond, nxt_loop, nxt_ret, nxt_stop, nxt_nil, Eng.start, frG, frF, isCall, stp, exec1, exec1K, keyA, wantedA, stepF, stF_mv, stF_bin, stF_len, stF_un, stF_pick, stF_load, stF_iadr, stF_box, stF_fadr, stF_store, stF_ext, stF_fld, stF_idx, stF_aadr, stF_app, stF_bldS, stF_slc, stF_slcA, stF_bld, stF_isnil, stF_mki, stF_mkf, stF_mkb, mapF_eq, evalF_eq, evalA, setAF, setA, setF_eq, putF_eq, lookF_eq, List.getD_cons_zero, List.getD_cons_succ, List.set_cons_zero, List.set_cons_succ, List.replicate, List.length_cons, List.length_nil, Nat.zero_add, Nat.reduceSub, Nat.reduceAdd, List.cons_append, List.nil_append, Option.getD, drop, Nat.beq, List.length_map, binV, binI, unV, if_true, Eng.asInt, Eng.part, cellsOf, toNat_cast, cast_nonneg, true_and, and_true, if_pos, giveOp, List.getElem?_cons_zero, List.getElem?_cons_succ, Bool.not_true, Bool.not_false, ofVal, eq_self, and_self, true_implies, dfF, touch, regF, quietF, pairOK, noCs, Go.Value.oneCell', decide_true, decide_false, Nat.mul_one, asBound, fullOf, Option.isSome_none, Option.isSome_some, Nat.zero_le, Bool.false_eq_true, false_implies, Int.cast_ofNat_Int, Int.reduceLT, Int.reduceLE, Int.reduceToNat, Nat.reduceMul, Int.le_refl, Eng.look, putAt, Nat.reduceEqDiff, reduceCtorEq, Nat.reduceBEq, if_false, List.all_cons, List.all_nil, tf_beq, ft_beq, lvSub, lvOK, isNone, width, solid, splice, List.take_zero, List.drop_zero, List.drop_nil, List.take_nil, List.drop_succ_cons, List.take_succ_cons, List.append_nil, beq_self_eq_true, Bool.and_true, Bool.true_and, Bool.and_self, ge_iff_le, gt_iff_lt, Nat.le_refl, Nat.reduceLeDiff, Nat.reduceLT, ab, ai]
        refine W_fresh (args := [al true []]) rfl (show [al true []].mapM (reify _ 20) = some [al true []] from by rw [List.mapM_cons, reify_al]; rfl) HC (noRef_al _ _) rfl (W_run 60 ?_)
        simp only [go_some, go_none, go_zero, nxt_op, nxt_guard, nxt_skip, nxt_region, nxt_drawn, nxt_seq, nxt_block, nxt_scope, nxt_exit, nxt_blk, nxt_lp, nxt_cond, nxt_loop, nxt_ret, nxt_stop, nxt_nil, Eng.start, frG, frF, isCall, stp, exec1, exec1K, keyA, wantedA, stepF, stF_mv, stF_bin, stF_len, stF_un, stF_pick, stF_load, stF_iadr, stF_box, stF_fadr, stF_store, stF_ext, stF_fld, stF_idx, stF_aadr, stF_app, stF_bldS, stF_slc, stF_slcA, stF_bld, stF_isnil, stF_mki, stF_mkf, stF_mkb, mapF_eq, evalF_eq, evalA, setAF, setA, setF_eq, putF_eq, lookF_eq, List.getD_cons_zero, List.getD_cons_succ, List.set_cons_zero, List.set_cons_succ, List.replicate, List.length_cons, List.length_nil, Nat.zero_add, Nat.reduceSub, Nat.reduceAdd, List.cons_append, List.nil_append, Option.getD, drop, Nat.beq, List.length_map, binV, binI, unV, if_true, Eng.asInt, Eng.part, cellsOf, toNat_cast, cast_nonneg, true_and, and_true, if_pos, giveOp, List.getElem?_cons_zero, List.getElem?_cons_succ, Bool.not_true, Bool.not_false, ofVal, eq_self, and_self, true_implies, dfF, touch, regF, quietF, pairOK, noCs, Go.Value.oneCell', decide_true, decide_false, Nat.mul_one, asBound, fullOf, Option.isSome_none, Option.isSome_some, Nat.zero_le, Bool.false_eq_true, false_implies, Int.cast_ofNat_Int, Int.reduceLT, Int.reduceLE, Int.reduceToNat, Nat.reduceMul, Int.le_refl, Eng.look, putAt, Nat.reduceEqDiff, reduceCtorEq, Nat.reduceBEq, if_false, List.all_cons, List.all_nil, tf_beq, ft_beq, lvSub, lvOK, isNone, width, solid, splice, List.take_zero, List.drop_zero, List.drop_nil, List.take_nil, List.drop_succ_cons, List.take_succ_cons, List.append_nil, beq_self_eq_true, Bool.and_true, Bool.true_and, Bool.and_self, ge_iff_le, gt_iff_lt, Nat.le_refl, Nat.reduceLeDiff, Nat.reduceLT, ab, ai, Go.Proofs.Eng.elems, al, List.length_cons, List.length_nil, List.nil_append, List.map_cons, List.map_nil, ne_eq, not_false_eq_true]
        refine W_ret1 (WX_pop (WX_nil ⟨.inl rfl, _, _, _, _, rfl, .a g rfl, ?_⟩))
        exact .b (g2 + 1) (by simp)
      | b g2 hL0 =>
        simp only [go_some, go_none, go_zero, nxt_op, nxt_guard, nxt_skip, nxt_region, nxt_drawn, nxt_seq, nxt_block, nxt_scope, nxt_exit, nxt_blk, nxt_lp, nxt_cond, nxt_loop, nxt_ret, nxt_stop, nxt_nil, Eng.start, frG, frF, isCall, stp, exec1, exec1K, keyA, wantedA, stepF, stF_mv, stF_bin, stF_len, stF_un, stF_pick, stF_load, stF_iadr, stF_box, stF_fadr, stF_store, stF_ext, stF_fld, stF_idx, stF_aadr, stF_app, stF_bldS, stF_slc, stF_slcA, stF_bld, stF_isnil, stF_mki, stF_mkf, stF_mkb, mapF_eq, evalF_eq, evalA, setAF, setA, setF_eq, putF_eq, lookF_eq, List.getD_cons_zero, List.getD_cons_succ, List.set_cons_zero, List.set_cons_succ, List.replicate, List.length_cons, List.length_nil, Nat.zero_add, Nat.reduceSub, Nat.reduceAdd, List.cons_append, List.nil_append, Option.getD, drop, Nat.beq, List.length_map, binV, binI, unV, if_true, Eng.asInt, Eng.part, cellsOf, toNat_cast, cast_nonneg, true_and, and_true, if_pos, giveOp, List.getElem?_cons_zero, List.getElem?_cons_succ, Bool.not_true, Bool.not_false, ofVal, eq_self, and_self, true_implies, dfF, touch, regF, quietF, pairOK, noCs, Go.Value.oneCell', decide_true, decide_false, Nat.mul_one, asBound, fullOf, Option.isSome_none, Option.isSome_some, Nat.zero_le, Bool.false_eq_true, false_implies, Int.cast_ofNat_Int, Int.reduceLT, Int.reduceLE, Int.reduceToNat, Nat.reduceMul, Int.le_refl, Eng.look, putAt, Nat.reduceEqDiff, reduceCtorEq, Nat.reduceBEq, if_false, List.all_cons, List.all_nil, tf_beq, ft_beq, lvSub, lvOK, isNone, width, solid, splice, List.take_zero, List.drop_zero, List.drop_nil, List.take_nil, List.drop_succ_cons, List.take_succ_cons, List.append_nil, beq_self_eq_true, Bool.and_true, Bool.true_and, Bool.and_self, ge_iff_le, gt_iff_lt, Nat.le_refl, Nat.reduceLeDiff, Nat.reduceLT, ab, ai]
        refine W_fresh (args := [al true []]) rfl (show [al true []].mapM (reify _ 20) = some [al true []] from by rw [List.mapM_cons, reify_al]; rfl) HC (noRef_al _ _) rfl (W_run 60 ?_)
        simp only [go_some, go_none, go_zero, nxt_op, nxt_guard, nxt_skip, nxt_region, nxt_drawn, nxt_seq, nxt_block, nxt_scope, nxt_exit, nxt_blk, nxt_lp, nxt_cond, nxt_loop, nxt_ret, nxt_stop, nxt_nil, Eng.start, frG, frF, isCall, stp, exec1, exec1K, keyA, wantedA, stepF, stF_mv, stF_bin, stF_len, stF_un, stF_pick, stF_load, stF_iadr, stF_box, stF_fadr, stF_store, stF_ext, stF_fld, stF_idx, stF_aadr, stF_app, stF_bldS, stF_slc, stF_slcA, stF_bld, stF_isnil, stF_mki, stF_mkf, stF_mkb, mapF_eq, evalF_eq, evalA, setAF, setA, setF_eq, putF_eq, lookF_eq, List.getD_cons_zero, List.getD_cons_succ, List.set_cons_zero, List.set_cons_succ, List.replicate, List.length_cons, List.length_nil, Nat.zero_add, Nat.reduceSub, Nat.reduceAdd, List.cons_append, List.nil_append, Option.getD, drop, Nat.beq, List.length_map, binV, binI, unV, if_true, Eng.asInt, Eng.part, cellsOf, toNat_cast, cast_nonneg, true_and, and_true, if_pos, giveOp, List.getElem?_cons_zero, List.getElem?_cons_succ, Bool.not_true, Bool.not_false, ofVal, eq_self, and_self, true_implies, dfF, touch, regF, quietF, pairOK, noCs, Go.Value.oneCell', decide_true, decide_false, Nat.mul_one, asBound, fullOf, Option.isSome_none, Option.isSome_some, Nat.zero_le, Bool.false_eq_true, false_implies, Int.cast_ofNat_Int, Int.reduceLT, Int.reduceLE, Int.reduceToNat, Nat.reduceMul, Int.le_refl, Eng.look, putAt, Nat.reduceEqDiff, reduceCtorEq, Nat.reduceBEq, if_false, List.all_cons, List.all_nil, tf_beq, ft_beq, lvSub, lvOK, isNone, width, solid, splice, List.take_zero, List.drop_zero, List.drop_nil, List.take_nil, List.drop_succ_cons, List.take_succ_cons, List.append_nil, beq_self_eq_true, Bool.and_true, Bool.true_and, Bool.and_self, ge_iff_le, gt_iff_lt, Nat.le_refl, Nat.reduceLeDiff, Nat.reduceLT, ab, ai, Go.Proofs.Eng.elems, al, List.length_cons, List.length_nil, List.nil_append, List.map_cons, List.map_nil, ne_eq, not_false_eq_true, b1, b2]
        refine W_ret1 (WX_pop (WX_nil ⟨.inl rfl, _, _, _, _, rfl, .a g rfl, ?_⟩))
        have := LSt.b (L := L ++ [[]]) g2 (by simp)
        simpa [al] using this
    | false =>
      have hF2 : fnd n l 0 a [] = [] := by rw [hF, if_neg (by rw [he]; simp)]
      rw [hF2, List.append_nil]
      simp only [go_some, go_none, go_zero, nxt_op, nxt_guard, nxt_skip, nxt_region, nxt_drawn, nxt_seq, nxt_block, nxt_scope, nxt_exit, nxt_blk, nxt_lp, nxt_cond, nxt_loop, nxt_ret, nxt_stop, nxt_nil, Eng.start, frG, frF, isCall, stp, exec1, exec1K, keyA, wantedA, stepF, stF_mv, stF_bin, stF_len, stF_un, stF_pick, stF_load, stF_iadr, stF_box, stF_fadr, stF_store, stF_ext, stF_fld, stF_idx, stF_aadr, stF_app, stF_bldS, stF_slc, stF_slcA, stF_bld, stF_isnil, stF_mki, stF_mkf, stF_mkb, mapF_eq, evalF_eq, evalA, setAF, setA, setF_eq, putF_eq, lookF_eq, List.getD_cons_zero, List.getD_cons_succ, List.set_cons_zero, List.set_cons_succ, List.replicate, List.length_cons, List.length_nil, Nat.zero_add, Nat.reduceSub, Nat.reduceAdd, List.cons_append, List.nil_append, Option.getD, drop, Nat.beq, List.length_map, binV, binI, unV, if_true, Eng.asInt, Eng.part, cellsOf, toNat_cast, cast_nonneg, true_and, and_true, if_pos, giveOp, List.getElem?_cons_zero, List.getElem?_cons_succ, Bool.not_true, Bool.not_false, ofVal, eq_self, and_self, true_implies, dfF, touch, regF, quietF, pairOK, noCs, Go.Value.oneCell', decide_true, decide_false, Nat.mul_one, asBound, fullOf, Option.isSome_none, Option.isSome_some, Nat.zero_le, Bool.false_eq_true, false_implies, Int.cast_ofNat_Int, Int.reduceLT, Int.reduceLE, Int.reduceToNat, Nat.reduceMul, Int.le_refl, Eng.look, putAt, Nat.reduceEqDiff, reduceCtorEq, Nat.reduceBEq, if_false, List.all_cons, List.all_nil, tf_beq, ft_beq, lvSub, lvOK, isNone, width, solid, splice, List.take_zero, List.drop_zero, List.drop_nil, List.take_nil, List.drop_succ_cons, List.take_succ_cons, List.append_nil, beq_self_eq_true, Bool.and_true, Bool.true_and, Bool.and_self, ge_iff_le, gt_iff_lt, Nat.le_refl, Nat.reduceLeDiff, Nat.reduceLT, ab, ai]
      exact W_ret1 (WX_pop (WX_nil ⟨.inl rfl, _, _, _, _, rfl, .a g rfl, hL⟩))
  | b g r st hr =>
    have hcut : ∀ η : Heap, Go.Proofs.Eng.look η 1029 = (g, some ⟨3, 1, r.map ai⟩) → reify η 20 (.os 1029 g r.length 1 0 w.length) = some (al false w) := fun η hk => by
      subst hr; exact reify_cut (n := 18) hk
    simp only [go_some, go_none, go_zero, nxt_op, nxt_guard, nxt_skip, nxt_region, nxt_drawn, nxt_seq, nxt_block, nxt_scope, nxt_exit, nxt_blk, nxt_lp, nxt_cond, nxt_loop, nxt_ret, nxt_stop, nxt_nil, Eng.start, frG, frF, isCall, stp, exec1, exec1K, keyA, wantedA, stepF, stF_mv, stF_bin, stF_len, stF_un, stF_pick, stF_load, stF_iadr, stF_box, stF_fadr, stF_store, stF_ext, stF_fld, stF_idx, stF_aadr, stF_app, stF_bldS, stF_slc, stF_slcA, stF_bld, stF_isnil, stF_mki, stF_mkf, stF_mkb, mapF_eq, evalF_eq, evalA, setAF, setA, setF_eq, putF_eq, lookF_eq, List.getD_cons_zero, List.getD_cons_succ, List.set_cons_zero, List.set_cons_succ, List.replicate, List.length_cons, List.length_nil, Nat.zero_add, Nat.reduceSub, Nat.reduceAdd, List.cons_append, List.nil_append, Option.getD, drop, Nat.beq, List.length_map, binV, binI, unV, if_true, Eng.asInt, Eng.part, cellsOf, toNat_cast, cast_nonneg, true_and, and_true, if_pos, giveOp, List.getElem?_cons_zero, List.getElem?_cons_succ, Bool.not_true, Bool.not_false, ofVal, eq_self, and_self, true_implies, dfF, touch, regF, quietF, pairOK, noCs, Go.Value.oneCell', decide_true, decide_false, Nat.mul_one, asBound, fullOf, Option.isSome_none, Option.isSome_some, Nat.zero_le, Bool.false_eq_true, false_implies, Int.cast_ofNat_Int, Int.reduceLT, Int.reduceLE, Int.reduceToNat, Nat.reduceMul, Int.le_refl, Eng.look, putAt, Nat.reduceEqDiff, reduceCtorEq, Nat.reduceBEq, if_false, List.all_cons, List.all_nil, tf_beq, ft_beq, lvSub, lvOK, isNone, width, solid, splice, List.take_zero, List.drop_zero, List.drop_nil, List.take_nil, List.drop_succ_cons, List.take_succ_cons, List.append_nil, beq_self_eq_true, Bool.and_true, Bool.true_and, Bool.and_self, ge_iff_le, gt_iff_lt, Nat.le_refl, Nat.reduceLeDiff, Nat.reduceLT, xf66, srArgs, capsA, hpA, bkA, ai, e0]
    refine W_look (args := [bkA (n : Int) pv, .os 1029 g r.length 1 0 w.length]) (args' := [bkA (n : Int) pv, al false w]) (fuel := 20) rfl (by rw [List.mapM_cons, List.mapM_cons, reify_bk hx, hcut _ rfl]; rfl) (HE _ (.inl ⟨false, rfl⟩)) rfl rfl (W_run 60 ?_)
    cases he : explB l w with
    | true =>
      have hF2 : fnd n l 0 a w = [w] := by rw [hF, if_pos he]
      rw [hF2]
      have HC := clone_run false w hwn
      cases hL with
      | a g2 hL0 =>
        subst hL0
        simp only [go_some, go_none, go_zero, nxt_op, nxt_guard, nxt_skip, nxt_region, nxt_drawn, nxt_seq, nxt_block, nxt_scope, nxt_exit, nxt_blk, nxt_lp, nxt_cond, nxt_loop, nxt_ret, nxt_stop, nxt_nil, Eng.start, frG, frF, isCall, stp, exec1, exec1K, keyA, wantedA, stepF, stF_mv, stF_bin, stF_len, stF_un, stF_pick, stF_load, stF_iadr, stF_box, stF_fadr, stF_store, stF_ext, stF_fld, stF_idx, stF_aadr, stF_app, stF_bldS, stF_slc, stF_slcA, stF_bld, stF_isnil, stF_mki, stF_mkf, stF_mkb, mapF_eq, evalF_eq, evalA, setAF, setA, setF_eq, putF_eq, lookF_eq, List.getD_cons_zero, List.getD_cons_succ, List.set_cons_zero, List.set_cons_succ, List.replicate, List.length_cons, List.length_nil, Nat.zero_add, Nat.reduceSub, Nat.reduceAdd, List.cons_append, List.nil_append, Option.getD, drop, Nat.beq, List.length_map, binV, binI, unV, if_true, Eng.asInt, Eng.part, cellsOf, toNat_cast, cast_nonneg, true_and, and_true, if_pos, giveOp, List.getElem?_cons_zero, List.getElem?_cons_succ, Bool.not_true, Bool.not_false, ofVal, eq_self, and_self, true_implies, dfF, touch, regF, quietF, pairOK, noCs, Go.Value.oneCell', decide_true, decide_false, Nat.mul_one, asBound, fullOf, Option.isSome_none, Option.isSome_some, Nat.zero_le, Bool.false_eq_true, false_implies, Int.cast_ofNat_Int, Int.reduceLT, Int.reduceLE, Int.reduceToNat, Nat.reduceMul, Int.le_refl, Eng.look, putAt, Nat.reduceEqDiff, reduceCtorEq, Nat.reduceBEq, if_false, List.all_cons, List.all_nil, tf_beq, ft_beq, lvSub, lvOK, isNone, width, solid, splice, List.take_zero, List.drop_zero, List.drop_nil, List.take_nil, List.drop_succ_cons, List.take_succ_cons, List.append_nil, beq_self_eq_true, Bool.and_true, Bool.true_and, Bool.and_self, ge_iff_le, gt_iff_lt, Nat.le_refl, Nat.reduceLeDiff, Nat.reduceLT, ab, ai]
        refine W_fresh (args := [.os 1029 g r.length 1 0 w.length]) rfl (show [.os 1029 g r.length 1 0 w.length].mapM (reify _ 20) = some [al false w] from by rw [List.mapM_cons, hcut _ rfl]; rfl) HC (noRef_al _ _) rfl (W_run 60 ?_)
        simp only [go_some, go_none, go_zero, nxt_op, nxt_guard, nxt_skip, nxt_region, nxt_drawn, nxt_seq, nxt_block, nxt_scope, nxt_exit, nxt_blk, nxt_lp, nxt_cond, nxt_loop, nxt_ret, nxt_stop, nxt_nil, Eng.start, frG, frF, isCall, stp, exec1, exec1K, keyA, wantedA, stepF, stF_mv, stF_bin, stF_len, stF_un, stF_pick, stF_load, stF_iadr, stF_box, stF_fadr, stF_store, stF_ext, stF_fld, stF_idx, stF_aadr, stF_app, stF_bldS, stF_slc, stF_slcA, stF_bld, stF_isnil, stF_mki, stF_mkf, stF_mkb, mapF_eq, evalF_eq, evalA, setAF, setA, setF_eq, putF_eq, lookF_eq, List.getD_cons_zero, List.getD_cons_succ, List.set_cons_zero, List.set_cons_succ, List.replicate, List.length_cons, List.length_nil, Nat.zero_add, Nat.reduceSub, Nat.reduceAdd, List.cons_append, List.nil_append, Option.getD, drop, Nat.beq, List.length_map, binV, binI, unV, if_true, Eng.asInt, Eng.part, cellsOf, toNat_cast, cast_nonneg, true_and, and_true, if_pos, giveOp, List.getElem?_cons_zero, List.getElem?_cons_succ, Bool.not_true, Bool.not_false, ofVal, eq_self, and_self, true_implies, dfF, touch, regF, quietF, pairOK, noCs, Go.Value.oneCell', decide_true, decide_false, Nat.mul_one, asBound, fullOf, Option.isSome_none, Option.isSome_some, Nat.zero_le, Bool.false_eq_true, false_implies, Int.cast_ofNat_Int, Int.reduceLT, Int.reduceLE, Int.reduceToNat, Nat.reduceMul, Int.le_refl, Eng.look, putAt, Nat.reduceEqDiff, reduceCtorEq, Nat.reduceBEq, if_false, List.all_cons, List.all_nil, tf_beq, ft_beq, lvSub, lvOK, isNone, width, solid, splice, List.take_zero, List.drop_zero, List.drop_nil, List.take_nil, List.drop_succ_cons, List.take_succ_cons, List.append_nil, beq_self_eq_true, Bool.and_true, Bool.true_and, Bool.and_self, ge_iff_le, gt_iff_lt, Nat.le_refl, Nat.reduceLeDiff, Nat.reduceLT, ab, ai, Go.Proofs.Eng.elems, al, List.length_cons, List.length_nil, List.nil_append, List.map_cons, List.map_nil, ne_eq, not_false_eq_true]
        refine W_ret1 (WX_pop (WX_nil ⟨.inl rfl, _, _, _, _, rfl, .b g r st hr, ?_⟩))
        exact .b (g2 + 1) (by simp)
      | b g2 hL0 =>
        simp only [go_some, go_none, go_zero, nxt_op, nxt_guard, nxt_skip, nxt_region, nxt_drawn, nxt_seq, nxt_block, nxt_scope, nxt_exit, nxt_blk, nxt_lp, nxt_cond, nxt_loop, nxt_ret, nxt_stop, nxt_nil, Eng.start, frG, frF, isCall, stp, exec1, exec1K, keyA, wantedA, stepF, stF_mv, stF_bin, stF_len, stF_un, stF_pick, stF_load, stF_iadr, stF_box, stF_fadr, stF_store, stF_ext, stF_fld, stF_idx, stF_aadr, stF_app, stF_bldS, stF_slc, stF_slcA, stF_bld, stF_isnil, stF_mki, stF_mkf, stF_mkb, mapF_eq, evalF_eq, evalA, setAF, setA, setF_eq, putF_eq, lookF_eq, List.getD_cons_zero, List.getD_cons_succ, List.set_cons_zero, List.set_cons_succ, List.replicate, List.length_cons, List.length_nil, Nat.zero_add, Nat.reduceSub, Nat.reduceAdd, List.cons_append, List.nil_append, Option.getD, drop, Nat.beq, List.length_map, binV, binI, unV, if_true, Eng.asInt, Eng.part, cellsOf, toNat_cast, cast_nonneg, true_and, and_true, if_pos, giveOp, List.getElem?_cons_zero, List.getElem?_cons_succ, Bool.not_true, Bool.not_false, ofVal, eq_self, and_self, true_implies, dfF, touch, regF, quietF, pairOK, noCs, Go.Value.oneCell', decide_true, decide_false, Nat.mul_one, asBound, fullOf, Option.isSome_none, Option.isSome_some, Nat.zero_le, Bool.false_eq_true, false_implies, Int.cast_ofNat_Int, Int.reduceLT, Int.reduceLE, Int.reduceToNat, Nat.reduceMul, Int.le_refl, Eng.look, putAt, Nat.reduceEqDiff, reduceCtorEq, Nat.reduceBEq, if_false, List.all_cons, List.all_nil, tf_beq, ft_beq, lvSub, lvOK, isNone, width, solid, splice, List.take_zero, List.drop_zero, List.drop_nil, List.take_nil, List.drop_succ_cons, List.take_succ_cons, List.append_nil, beq_self_eq_true, Bool.and_true, Bool.true_and, Bool.and_self, ge_iff_le, gt_iff_lt, Nat.le_refl, Nat.reduceLeDiff, Nat.reduceLT, ab, ai]
        refine W_fresh (args := [.os 1029 g r.length 1 0 w.length]) rfl (show [.os 1029 g r.length 1 0 w.length].mapM (reify _ 20) = some [al false w] from by rw [List.mapM_cons, hcut _ rfl]; rfl) HC (noRef_al _ _) rfl (W_run 60 ?_)
        simp only [go_some, go_none, go_zero, nxt_op, nxt_guard, nxt_skip, nxt_region, nxt_drawn, nxt_seq, nxt_block, nxt_scope, nxt_exit, nxt_blk, nxt_lp, nxt_cond, nxt_loop, nxt_ret, nxt_stop, nxt_nil, Eng.start, frG, frF, isCall, stp, exec1, exec1K, keyA, wantedA, stepF, stF_mv, stF_bin, stF_len, stF_un, stF_pick, stF_load, stF_iadr, stF_box, stF_fadr, stF_store, stF_ext, stF_fld, stF_idx, stF_aadr, stF_app, stF_bldS, stF_slc, stF_slcA, stF_bld, stF_isnil, stF_mki, stF_mkf, stF_mkb, mapF_eq, evalF_eq, evalA, setAF, setA, setF_eq, putF_eq, lookF_eq, List.getD_cons_zero, List.getD_cons_succ, List.set_cons_zero, List.set_cons_succ, List.replicate, List.length_cons, List.length_nil, Nat.zero_add, Nat.reduceSub, Nat.reduceAdd, List.cons_append, List.nil_append, Option.getD, drop, Nat.beq, List.length_map, binV, binI, unV, if_true, Eng.asInt, Eng.part, cellsOf, toNat_cast, cast_nonneg, true_and, and_true, if_pos, giveOp, List.getElem?_cons_zero, List.getElem?_cons_succ, Bool.not_true, Bool.not_false, ofVal, eq_self, and_self, true_implies, dfF, touch, regF, quietF, pairOK, noCs, Go.Value.oneCell', decide_true, decide_false, Nat.mul_one, asBound, fullOf, Option.isSome_none, Option.isSome_some, Nat.zero_le, Bool.false_eq_true, false_implies, Int.cast_ofNat_Int, Int.reduceLT, Int.reduceLE, Int.reduceToNat, Nat.reduceMul, Int.le_refl, Eng.look, putAt, Nat.reduceEqDiff, reduceCtorEq, Nat.reduceBEq, if_false, List.all_cons, List.all_nil, tf_beq, ft_beq, lvSub, lvOK, isNone, width, solid, splice, List.take_zero, List.drop_zero, List.drop_nil, List.take_nil, List.drop_succ_cons, List.take_succ_cons, List.append_nil, beq_self_eq_true, Bool.and_true, Bool.true_and, Bool.and_self, ge_iff_le, gt_iff_lt, Nat.le_refl, Nat.reduceLeDiff, Nat.reduceLT, ab, ai, Go.Proofs.Eng.elems, al, List.length_cons, List.length_nil, List.nil_append, List.map_cons, List.map_nil, ne_eq, not_false_eq_true, b1, b2]
        refine W_ret1 (WX_pop (WX_nil ⟨.inl rfl, _, _, _, _, rfl, .b g r st hr, ?_⟩))
        have := LSt.b (L := L ++ [w]) g2 (by simp)
        simpa [al] using this
    | false =>
      have hF2 : fnd n l 0 a w = [] := by rw [hF, if_neg (by rw [he]; simp)]
      rw [hF2, List.append_nil]
      simp only [go_some, go_none, go_zero, nxt_op, nxt_guard, nxt_skip, nxt_region, nxt_drawn, nxt_seq, nxt_block, nxt_scope, nxt_exit, nxt_blk, nxt_lp, nxt_cond, nxt_loop, nxt_ret, nxt_stop, nxt_nil, Eng.start, frG, frF, isCall, stp, exec1, exec1K, keyA, wantedA, stepF, stF_mv, stF_bin, stF_len, stF_un, stF_pick, stF_load, stF_iadr, stF_box, stF_fadr, stF_store, stF_ext, stF_fld, stF_idx, stF_aadr, stF_app, stF_bldS, stF_slc, stF_slcA, stF_bld, stF_isnil, stF_mki, stF_mkf, stF_mkb, mapF_eq, evalF_eq, evalA, setAF, setA, setF_eq, putF_eq, lookF_eq, List.getD_cons_zero, List.getD_cons_succ, List.set_cons_zero, List.set_cons_succ, List.replicate, List.length_cons, List.length_nil, Nat.zero_add, Nat.reduceSub, Nat.reduceAdd, List.cons_append, List.nil_append, Option.getD, drop, Nat.beq, List.length_map, binV, binI, unV, if_true, Eng.asInt, Eng.part, cellsOf, toNat_cast, cast_nonneg, true_and, and_true, if_pos, giveOp, List.getElem?_cons_zero, List.getElem?_cons_succ, Bool.not_true, Bool.not_false, ofVal, eq_self, and_self, true_implies, dfF, touch, regF, quietF, pairOK, noCs, Go.Value.oneCell', decide_true, decide_false, Nat.mul_one, asBound, fullOf, Option.isSome_none, Option.isSome_some, Nat.zero_le, Bool.false_eq_true, false_implies, Int.cast_ofNat_Int, Int.reduceLT, Int.reduceLE, Int.reduceToNat, Nat.reduceMul, Int.le_refl, Eng.look, putAt, Nat.reduceEqDiff, reduceCtorEq, Nat.reduceBEq, if_false, List.all_cons, List.all_nil, tf_beq, ft_beq, lvSub, lvOK, isNone, width, solid, splice, List.take_zero, List.drop_zero, List.drop_nil, List.take_nil, List.drop_succ_cons, List.take_succ_cons, List.append_nil, beq_self_eq_true, Bool.and_true, Bool.true_and, Bool.and_self, ge_iff_le, gt_iff_lt, Nat.le_refl, Nat.reduceLeDiff, Nat.reduceLT, ab, ai]
      exact W_ret1 (WX_pop (WX_nil ⟨.inl rfl, _, _, _, _, rfl, .b g r st hr, hL⟩))
end Go.Proofs.Ytimfijmkfdhlmaa

