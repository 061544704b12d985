/-
  Calls of function values with references; lists as they are cloned; what the search keeps.
-/
import Derived.Test.YtimfijmkfdhlmaaUse
import Derived.Test.YtimfijmkfdhlmaaEngU
set_option linter.unusedSimpArgs false
set_option linter.unusedVariables false
namespace Go.Proofs.Ytimfijmkfdhlmaa
open Go Go.Proofs.Eng
set_option maxRecDepth 100000
set_option maxHeartbeats 1000000
theorem W_callvR {P : Program} {R : Rel} {kb : Nat} {k : List Fr} {c : Cfg} {Q : Out → Cfg → Prop} {l : Option Lv} {f kb' : Nat} {d : Option Nat} {x : XArg} {caps : List AV} {xs : List XArg} {args : List AV} {r : AV} {η' : Heap} (hx : evalA c.σ x = .fn f caps) (hc : callable P f = true) (ha : xs.map (evalA c.σ) ++ caps = args)
    (hr : R.q kb' f args c.η r η') (hl : limOK l .any = true) (h : W P R kb k ⟨setA c.σ d r, η'⟩ Q) : W P R kb (.op l ⟨d, .callv x xs, none⟩ :: k) c Q := by
  subst ha
  exact W_op (.callR c kb' f _ r η' rfl (by simp only [Go.Proofs.Eng.step, hx, hc, if_true]) hr) hl h
theorem RunsN.ofW {P : Program} {xf : Nat → Option XFunc} {f : Nat} {fn : XFunc} {args : List AV} {r : AV} (hf : xf f = some fn)
    (h : W P (RelU P xf) 0 [.code fn.body] (Go.Proofs.Eng.start fn args []) fun o c => (o = .ret ∨ o = .normal) ∧ ∃ rs, fn.results.mapM (resOf P c) = some rs ∧ reifyN c.η (retOf rs) = some r) : RunsN P xf f args r := by
  obtain ⟨o, c, ⟨o1, c1, h1, rfl, rfl⟩, ho, rs, h3, h4⟩ := h
  exact RunsN.of hf h1 ho h3 h4
/-- a list that is cloned -/
theorem clone_run (f : Bool) (w : List Int) (hn : w.length ≤ 1000) : RunsN Try.prog xf 63 [al f w] (al false w) := by
  have b1 : w.length * 8 ≤ 100000000000000 := by omega
  have b2 : w.length ≤ 100000000000000 := by omega
  refine RunsN.ofW (fn := xf63) (by kernel_rfl) (W_run 60 ?_)
  simp only [go_some, go_none, go_zero, nxt_op, nxt_guard, nxt_skip, nxt_region, nxt_drawn, nxt_seq, nxt_block, nxt_scope, nxt_exit, nxt_blk, nxt_lp, nxt_cond, nxt_loop, nxt_ret, nxt_stop, nxt_nil, Eng.start, frG, frF, isCall, stp, exec1, exec1K, keyA, wantedA, stepF, stF_mv, stF_bin, stF_len, stF_un, stF_pick, stF_load, stF_iadr, stF_box, stF_fadr, stF_store, stF_ext, stF_fld, stF_idx, stF_aadr, stF_app, stF_bldS, stF_slc, stF_slcA, stF_bld, stF_isnil, stF_mki, stF_mkf, stF_mkb, mapF_eq, evalF_eq, evalA, setAF, setA, setF_eq, putF_eq, lookF_eq, List.getD_cons_zero, List.getD_cons_succ, List.set_cons_zero, List.set_cons_succ, List.replicate, List.length_cons, List.length_nil, Nat.zero_add, Nat.reduceSub, Nat.reduceAdd, List.cons_append, List.nil_append, Option.getD, drop, Nat.beq, List.length_map, binV, binI, unV, if_true, Eng.asInt, Eng.part, cellsOf, toNat_cast, cast_nonneg, true_and, and_true, if_pos, giveOp, List.getElem?_cons_zero, List.getElem?_cons_succ, Bool.not_true, Bool.not_false, ofVal, eq_self, and_self, true_implies, dfF, touch, regF, quietF, pairOK, noCs, Go.Value.oneCell', decide_true, decide_false, Nat.mul_one, asBound, fullOf, Option.isSome_none, Option.isSome_some, Nat.zero_le, Bool.false_eq_true, false_implies, Int.cast_ofNat_Int, Int.reduceLT, Int.reduceLE, Int.reduceToNat, Nat.reduceMul, Int.le_refl, Eng.look, putAt, Nat.reduceEqDiff, reduceCtorEq, Nat.reduceBEq, if_false, List.all_cons, List.all_nil, tf_beq, ft_beq, lvSub, lvOK, isNone, width, solid, splice, List.take_zero, List.drop_zero, List.drop_nil, List.take_nil, List.drop_succ_cons, List.take_succ_cons, List.append_nil, beq_self_eq_true, Bool.and_true, Bool.true_and, Bool.and_self, ge_iff_le, gt_iff_lt, Nat.le_refl, Nat.reduceLeDiff, Nat.reduceLT, xf63, al, Go.Proofs.Eng.elems, b1, b2, List.map_nil]
  refine W_ret1 (WX_nil ⟨.inl rfl, _, rfl, ?_⟩)
  show reifyN _ (.os 5 1 w.length 1 0 w.length) = _
  simp only [reifyN, rowN, Go.Proofs.Eng.look, if_true]
  rw [if_pos]
  · have ht : List.take w.length (w.map ai) = w.map ai := List.take_of_length_le (by simp)
    simp [al, ht]
  · refine ⟨trivial, by simp, trivial, by simp, ?_⟩
    have ht : List.take w.length (w.map ai) = w.map ai := List.take_of_length_le (by simp)
    rw [List.drop_zero, ht, List.all_eq_true]
    intro x hx
    obtain ⟨z, _, rfl⟩ := List.mem_map.1 hx
    rfl
theorem reify_al (η : Heap) (n : Nat) (f : Bool) (l : List Int) : reify η (n + 2) (al f l) = some (al f l) := by
  have h : ∀ l : List Int, (l.map ai).mapM (elemR (reify η (n + 1))) = some (l.map ai) := fun l => by
    induction l with
    | nil => rfl
    | cons a l ih => rw [List.map_cons, List.mapM_cons, ih]; rfl
  show Option.map (AV.sl 1 f) ((l.map ai).mapM (elemR (reify η (n + 1)))) = _
  rw [h]; rfl
theorem reify_ap (η : Heap) (n : Nat) (f : Bool) (l : List (Int × Int)) : reify η (n + 2) (ap f l) = some (ap f l) := by
  have h : ∀ l : List (Int × Int), (l.map a2).mapM (elemR (reify η (n + 1))) = some (l.map a2) := fun l => by
    induction l with
    | nil => rfl
    | cons a l ih => rw [List.map_cons, List.mapM_cons, ih]; rfl
  show Option.map (AV.sl 2 f) ((l.map a2).mapM (elemR (reify η (n + 1)))) = _
  rw [h]; rfl
theorem reify_bk {pv : AV} {l : List (Int × Int)} (hx : isP pv l) (η : Heap) (n : Nat) (m : Int) : reify η (n + 3) (bkA m pv) = some (bkA m pv) := by
  have h : reify η (n + 2) pv = some pv := by
    rcases hx with ⟨f, rfl⟩ | ⟨rfl, rfl⟩
    · exact reify_ap η n f l
    · rfl
  show Option.map AV.ag ([ai m, pv].mapM (reify η (n + 2))) = _
  rw [List.mapM_cons, List.mapM_cons, h]; rfl
theorem reify_cut {η : Heap} {n k g e : Nat} {w st : List Int} (hk : Go.Proofs.Eng.look η k = (g, some ⟨e, 1, (w ++ st).map ai⟩)) : reify η (n + 2) (.os k g (w ++ st).length 1 0 w.length) = some (al false w) := by
  have h : ∀ l : List Int, (l.map ai).mapM (elemR (reify η (n + 1))) = some (l.map ai) := fun l => by
    induction l with
    | nil => rfl
    | cons a l ih => rw [List.map_cons, List.mapM_cons, ih]; rfl
  show (match Go.Proofs.Eng.look η k with | (g', some ob) => if g' = g ∧ ob.xs.length = (w ++ st).length ∧ ob.s = 1 ∧ 0 + w.length ≤ (w ++ st).length then (((ob.xs.drop 0).take w.length).mapM (elemR (reify η (n + 1)))).map (AV.sl 1 false) else none | _ => none) = _
  rw [hk]
  simp only
  rw [if_pos (by simp), List.drop_zero, ← List.map_take, List.take_left' rfl, h]
  rfl
end Go.Proofs.Ytimfijmkfdhlmaa

