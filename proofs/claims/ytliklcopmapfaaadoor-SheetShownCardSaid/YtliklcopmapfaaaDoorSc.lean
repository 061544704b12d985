/-
  Package sheet's cutOf and isOver.
-/
import Derived.Test.YtliklcopmapfaaaDoorSb
set_option linter.unusedSimpArgs false
set_option linter.unusedVariables false
namespace Go.Proofs.YtliklcopmapfaaaDoor
open Go Go.Proofs.Eng
set_option maxRecDepth 100000
set_option maxHeartbeats 1000000
section
variable {P : Program} {R : Rel} {kb : Nat} {k : List Fr} {c : Cfg} {Q : Out → Cfg → Prop} {l : Option Lv} {f : Nat} {d : Option Nat} {x : XArg} {caps : List AV} {xs : List XArg} {args args' : List AV} {r : AV}
theorem W_callv (hx : evalA c.σ x = .fn f caps) (hc : callable P f = true) (ha : xs.map (evalA c.σ) ++ caps = args) (hn : noRefs args = true) (hr : R.p f args r) (hn2 : noRef r = true) (h : W P R kb k ⟨setA c.σ d r, c.η⟩ Q) : W P R kb (.op l ⟨d, .callv x xs, none⟩ :: k) c Q := by
  subst ha
  exact W_op (.call c (d := 0) f _ r rfl (by simp only [Go.Proofs.Eng.step, hx, hc, if_true]) hn hr hn2) (limOK_none l) h
end
theorem isL_num {l : List Int} {i : Nat} (h : i < l.length) : l.getD i 0 ∈ l := getD_mem (d := 0) h
/-- the sheets after so many pieces -/
def cutN (s : Int) (ps qs : List Int) : Nat → List Int
  | 0 => []
  | i + 1 => putL s (cutN s ps qs i) (qs.getD i 0) (ps.getD i 0)
/-- the numbers of the sheets are in order so far -/
def goodN (s : Int) (ps qs : List Int) (n : Nat) : Prop := ∀ i, i < n → 0 ≤ qs.getD i 0 ∧ qs.getD i 0 ≤ (cutN s ps qs i).length
theorem cut_len {s : Int} {ps qs : List Int} {i : Nat} : (cutN s ps qs i).length ≤ (cutN s ps qs (i + 1)).length ∧ (cutN s ps qs (i + 1)).length ≤ (cutN s ps qs i).length + 1 := by
  simp only [cutN, putL, List.length_set]
  split <;> simp
theorem cut_le {s : Int} {ps qs : List Int} : ∀ i, (cutN s ps qs i).length ≤ i
  | 0 => Nat.le_refl _
  | i + 1 => Nat.le_trans cut_len.2 (Nat.succ_le_succ (cut_le i))
theorem cut_vals {s : Int} {ps qs : List Int} (hs : 0 ≤ s ∧ s ≤ 1000) (hp : ∀ y, y ∈ ps → 0 ≤ y ∧ y ≤ 1000) (n : Nat) (hn : n ≤ ps.length) : ∀ y, y ∈ cutN s ps qs n → s - 1000 * n ≤ y ∧ y ≤ s := by
  induction n with
  | zero => intro y hy; cases hy
  | succ n ih =>
    have ih := ih (by omega)
    have hpn := hp _ (isL_num (l := ps) (i := n) (by omega))
    intro y hy
    simp only [cutN, putL] at hy
    have hbase : ∀ z, z ∈ (if qs.getD n 0 = ((cutN s ps qs n).length : Int) then cutN s ps qs n ++ [s] else cutN s ps qs n) → s - 1000 * n ≤ z ∧ z ≤ s := by
      intro z hz
      split at hz
      · rcases List.mem_append.1 hz with h | h
        · exact ih z h
        · rw [List.mem_singleton.1 h]; omega
      · exact ih z hz
    generalize (if qs.getD n 0 = ((cutN s ps qs n).length : Int) then cutN s ps qs n ++ [s] else cutN s ps qs n) = B at *
    by_cases hlt : (qs.getD n 0).toNat < B.length
    · rcases List.mem_or_eq_of_mem_set hy with h | h
      · have := hbase y h; omega
      · have := hbase _ (isL_num hlt); omega
    · rw [List.set_eq_of_length_le (by omega)] at hy
      have := hbase y hy; omega
theorem put_first (s c : Int) (hs : 0 ≤ s ∧ s ≤ 1000) (hc : 0 ≤ c ∧ c ≤ 1000) (r6 : Nat × Option Ob) :
    RunsR Tryd.prog xf 1000 47 [.o 7 1 1 0 0, ai 0, ai c] [(6, r6), (7, kCut s [])] (.tup []) [(6, r6), (7, kCut s [s - c]), (1023, hrk [s - c])] := by
  refine RunsR.ofW (fn := xf47) (by kernel_rfl) (W_run 80 ?_)
  have w1 : IntKind.i64.wrap (s - c) = s - c := wrap_id (by omega) (by omega)
  have e0 : ((0 : Int) == 0) = true := rfl
  have d01 : (0 : Int) < 1 := by omega
  simp only [kCut, hvk, hrk, List.length_nil]
  simp only [go_some, go_none, go_zero, nxt_op, nxt_guard, nxt_skip, nxt_label, nxt_region, nxt_drawn, nxt_seq, nxt_block, nxt_scope, nxt_exit, nxt_blk, nxt_lp, nxt_cond, nxt_loop, nxt_ret, nxt_stop, nxt_nil, Eng.start, frG, frF, isCall, stp, exec1, exec1K, dK, Nat.reduceDiv, keyA, wantedA, stepF, stF_mv, stF_bin, stF_len, stF_un, stF_pick, stF_load, stF_iadr, stF_box, stF_fadr, stF_store, stF_ext, stF_fld, stF_idx, stF_aadr, stF_app, stF_bldS, stF_slc, stF_slcA, stF_bld, stF_isnil, stF_mki, stF_mkf, stF_mkb, stF_nilc, stF_mks, mapF_eq, evalF_eq, evalA, setAF, setA, setF_eq, putF_eq, lookF_eq, List.getD_cons_zero, List.getD_cons_succ, List.set_cons_zero, List.set_cons_succ, List.replicate, List.length_cons, List.length_nil, Nat.zero_add, Nat.reduceSub, Nat.reduceAdd, List.cons_append, List.nil_append, Option.getD, drop, Nat.beq, List.length_map, binV, binI, unV, if_true, Eng.asInt, Eng.part, cellsOf, toNat_cast, cast_nonneg, true_and, and_true, if_pos, giveOp, gvK, List.getElem?_cons_zero, List.getElem?_cons_succ, Bool.not_true, Bool.not_false, ofVal, eq_self, and_self, true_implies, dfF, touch, regF, quietF, pairOK, noCs, Go.Value.oneCell', decide_true, decide_false, Nat.mul_one, asBound, fullOf, Option.isSome_none, Option.isSome_some, Nat.zero_le, Bool.false_eq_true, false_implies, Int.cast_ofNat_Int, Int.reduceLT, Int.reduceLE, Int.reduceToNat, Nat.reduceMul, Int.le_refl, Eng.look, putAt, Nat.reduceEqDiff, reduceCtorEq, Nat.reduceBEq, if_false, List.all_cons, List.all_nil, tf_beq, ft_beq, lvSub, lvOK, isNone, width, solid, splice, List.take_zero, List.drop_zero, List.drop_nil, List.take_nil, List.drop_succ_cons, List.take_succ_cons, List.append_nil, beq_self_eq_true, Bool.and_true, Bool.true_and, Bool.and_self, ge_iff_le, gt_iff_lt, Nat.le_refl, Nat.reduceLeDiff, Nat.reduceLT, xf47, ai, nilA, Int.ofNat_zero, e0, d01, reduceCtorEq, Go.Proofs.Eng.elems, w1, List.map_cons, List.map_nil]
  exact W_done ⟨.inr rfl, _, rfl, rfl, rfl⟩
def hp0 (i : Nat) (L : List Int) : List (Nat × (Nat × Option Ob)) := match i with | 0 => [] | _ + 1 => [(1023, hrk L)]
def k6 : Nat × Option Ob := (1, some ⟨64, 2, [.ag [ai 0, nilA]]⟩)
theorem cut_loop (s : Int) (f g : Bool) (ps qs : List Int) (pv : AV) (hpv : 0 < qs.length → pv = al f ps) (hl : qs.length = ps.length) (hn : qs.length ≤ 100) (hs : 0 ≤ s ∧ s ≤ 1000) (hp : ∀ y, y ∈ ps → 0 ≤ y ∧ y ≤ 1000) (hg : goodN s ps qs qs.length) (K : List Fr) (Q : Out → Cfg → Prop)
    (hK : ∀ j3 j4 j5 j8 j9 j10 j11 j15 j16 j17 j18 j19 j20 j21 j22 j23 j24 j25 j26 : AV, W Tryd.prog (RelU Tryd.prog xf) 0 K ⟨((ai s) :: pv :: (al g qs) :: j3 :: j4 :: j5 :: (.o 6 1 1 0 0) :: (.o 7 1 1 0 0) :: j8 :: j9 :: j10 :: j11 :: (al g qs) :: (ai qs.length) :: (ai qs.length) :: j15 :: j16 :: j17 :: j18 :: j19 :: j20 :: j21 :: j22 :: j23 :: j24 :: j25 :: j26 :: []), (6, k6) :: (7, kCut s (cutN s ps qs qs.length)) :: hp0 qs.length (cutN s ps qs qs.length)⟩ Q) :
    ∀ (k i : Nat), i + k = qs.length → ∀ j3 j4 j5 j8 j9 j10 j11 j15 j16 j17 j18 j19 j20 j21 j22 j23 j24 j25 j26 : AV, W Tryd.prog (RelU Tryd.prog xf) 0 (.code (.loop xf38_L0) :: .blk 0 :: .stop :: K) ⟨((ai s) :: pv :: (al g qs) :: j3 :: j4 :: j5 :: (.o 6 1 1 0 0) :: (.o 7 1 1 0 0) :: j8 :: j9 :: j10 :: j11 :: (al g qs) :: (ai qs.length) :: (ai i) :: j15 :: j16 :: j17 :: j18 :: j19 :: j20 :: j21 :: j22 :: j23 :: j24 :: j25 :: j26 :: []), (6, k6) :: (7, kCut s (cutN s ps qs i)) :: hp0 i (cutN s ps qs i)⟩ Q := by
  intro k
  induction k with
  | zero =>
    intro i hi j3 j4 j5 j8 j9 j10 j11 j15 j16 j17 j18 j19 j20 j21 j22 j23 j24 j25 j26
    have : i = qs.length := by omega
    subst this
    have h0 : decide (qs.length < qs.length) = false := by simp
    generalize hH : (6, k6) :: (7, kCut s (cutN s ps qs qs.length)) :: hp0 qs.length (cutN s ps qs qs.length) = H at *
    refine W_loop (W_run 80 ?_)
    simp only [go_some, go_none, go_zero, nxt_op, nxt_guard, nxt_skip, nxt_label, nxt_region, nxt_drawn, nxt_seq, nxt_block, nxt_scope, nxt_exit, nxt_blk, nxt_lp, nxt_cond, nxt_loop, nxt_ret, nxt_stop, nxt_nil, Eng.start, frG, frF, isCall, stp, exec1, exec1K, dK, Nat.reduceDiv, keyA, wantedA, stepF, stF_mv, stF_bin, stF_len, stF_un, stF_pick, stF_load, stF_iadr, stF_box, stF_fadr, stF_store, stF_ext, stF_fld, stF_idx, stF_aadr, stF_app, stF_bldS, stF_slc, stF_slcA, stF_bld, stF_isnil, stF_mki, stF_mkf, stF_mkb, stF_nilc, stF_mks, mapF_eq, evalF_eq, evalA, setAF, setA, setF_eq, putF_eq, lookF_eq, List.getD_cons_zero, List.getD_cons_succ, List.set_cons_zero, List.set_cons_succ, List.replicate, List.length_cons, List.length_nil, Nat.zero_add, Nat.reduceSub, Nat.reduceAdd, List.cons_append, List.nil_append, Option.getD, drop, Nat.beq, List.length_map, binV, binI, unV, if_true, Eng.asInt, Eng.part, cellsOf, toNat_cast, cast_nonneg, true_and, and_true, if_pos, giveOp, gvK, List.getElem?_cons_zero, List.getElem?_cons_succ, Bool.not_true, Bool.not_false, ofVal, eq_self, and_self, true_implies, dfF, touch, regF, quietF, pairOK, noCs, Go.Value.oneCell', decide_true, decide_false, Nat.mul_one, asBound, fullOf, Option.isSome_none, Option.isSome_some, Nat.zero_le, Bool.false_eq_true, false_implies, Int.cast_ofNat_Int, Int.reduceLT, Int.reduceLE, Int.reduceToNat, Nat.reduceMul, Int.le_refl, Eng.look, putAt, Nat.reduceEqDiff, reduceCtorEq, Nat.reduceBEq, if_false, List.all_cons, List.all_nil, tf_beq, ft_beq, lvSub, lvOK, isNone, width, solid, splice, List.take_zero, List.drop_zero, List.drop_nil, List.take_nil, List.drop_succ_cons, List.take_succ_cons, List.append_nil, beq_self_eq_true, Bool.and_true, Bool.true_and, Bool.and_self, ge_iff_le, gt_iff_lt, Nat.le_refl, Nat.reduceLeDiff, Nat.reduceLT, xf38_L0, ai, al, lt_cast, h0]
    exact W_stop (hK _ _ _ _ _ _ _ _ _ _ _ _ _ _ _ _ _ _ _)
  | succ k ih =>
    intro i hi j3 j4 j5 j8 j9 j10 j11 j15 j16 j17 j18 j19 j20 j21 j22 j23 j24 j25 j26
    have h1 : i < qs.length := by omega
    have h0 : decide (i < qs.length) = true := decide_eq_true h1
    have h2 : i < ps.length := by omega
    have hq := hg i h1
    have hpn := hp _ (isL_num h2)
    have hv := cut_vals (qs := qs) hs hp i (by omega)
    have hle := cut_le (s := s) (ps := ps) (qs := qs) i
    have e := hpv (by omega)
    subst e
    have hput : RunsR Tryd.prog xf 1000 47 [.o 7 1 1 0 0, ai (qs.getD i 0), ai (ps.getD i 0)] ((6, k6) :: (7, kCut s (cutN s ps qs i)) :: hp0 i (cutN s ps qs i)) (.tup []) ((6, k6) :: (7, kCut s (cutN s ps qs (i + 1))) :: hp0 (i + 1) (cutN s ps qs (i + 1))) := by
      cases i with
      | zero =>
        have e0 : qs.getD 0 0 = 0 := by have := hq.2; simp only [cutN, List.length_nil] at this; omega
        have e1 : cutN s ps qs (0 + 1) = [s - ps.getD 0 0] := by simp only [cutN, e0]; exact putL_new s [] _
        rw [e1, e0]
        exact put_first s _ hs hpn _
      | succ i =>
        exact put_run s _ _ _ (by omega) hq (fun y hy => by have := hv y hy; omega) hs hpn _
    generalize hH : (6, k6) :: (7, kCut s (cutN s ps qs i)) :: hp0 i (cutN s ps qs i) = H at *
    refine W_loop (W_run 80 ?_)
    simp only [go_some, go_none, go_zero, nxt_op, nxt_guard, nxt_skip, nxt_label, nxt_region, nxt_drawn, nxt_seq, nxt_block, nxt_scope, nxt_exit, nxt_blk, nxt_lp, nxt_cond, nxt_loop, nxt_ret, nxt_stop, nxt_nil, Eng.start, frG, frF, isCall, stp, exec1, exec1K, dK, Nat.reduceDiv, keyA, wantedA, stepF, stF_mv, stF_bin, stF_len, stF_un, stF_pick, stF_load, stF_iadr, stF_box, stF_fadr, stF_store, stF_ext, stF_fld, stF_idx, stF_aadr, stF_app, stF_bldS, stF_slc, stF_slcA, stF_bld, stF_isnil, stF_mki, stF_mkf, stF_mkb, stF_nilc, stF_mks, mapF_eq, evalF_eq, evalA, setAF, setA, setF_eq, putF_eq, lookF_eq, List.getD_cons_zero, List.getD_cons_succ, List.set_cons_zero, List.set_cons_succ, List.replicate, List.length_cons, List.length_nil, Nat.zero_add, Nat.reduceSub, Nat.reduceAdd, List.cons_append, List.nil_append, Option.getD, drop, Nat.beq, List.length_map, binV, binI, unV, if_true, Eng.asInt, Eng.part, cellsOf, toNat_cast, cast_nonneg, true_and, and_true, if_pos, giveOp, gvK, List.getElem?_cons_zero, List.getElem?_cons_succ, Bool.not_true, Bool.not_false, ofVal, eq_self, and_self, true_implies, dfF, touch, regF, quietF, pairOK, noCs, Go.Value.oneCell', decide_true, decide_false, Nat.mul_one, asBound, fullOf, Option.isSome_none, Option.isSome_some, Nat.zero_le, Bool.false_eq_true, false_implies, Int.cast_ofNat_Int, Int.reduceLT, Int.reduceLE, Int.reduceToNat, Nat.reduceMul, Int.le_refl, Eng.look, putAt, Nat.reduceEqDiff, reduceCtorEq, Nat.reduceBEq, if_false, List.all_cons, List.all_nil, tf_beq, ft_beq, lvSub, lvOK, isNone, width, solid, splice, List.take_zero, List.drop_zero, List.drop_nil, List.take_nil, List.drop_succ_cons, List.take_succ_cons, List.append_nil, beq_self_eq_true, Bool.and_true, Bool.true_and, Bool.and_self, ge_iff_le, gt_iff_lt, Nat.le_refl, Nat.reduceLeDiff, Nat.reduceLT, xf38_L0, ai, al, lt_cast, h0, get_al h1, get_al h2]
    refine W_callR (kb' := 1000) rfl hput rfl (W_run 80 ?_)
    simp only [go_some, go_none, go_zero, nxt_op, nxt_guard, nxt_skip, nxt_label, nxt_region, nxt_drawn, nxt_seq, nxt_block, nxt_scope, nxt_exit, nxt_blk, nxt_lp, nxt_cond, nxt_loop, nxt_ret, nxt_stop, nxt_nil, Eng.start, frG, frF, isCall, stp, exec1, exec1K, dK, Nat.reduceDiv, keyA, wantedA, stepF, stF_mv, stF_bin, stF_len, stF_un, stF_pick, stF_load, stF_iadr, stF_box, stF_fadr, stF_store, stF_ext, stF_fld, stF_idx, stF_aadr, stF_app, stF_bldS, stF_slc, stF_slcA, stF_bld, stF_isnil, stF_mki, stF_mkf, stF_mkb, stF_nilc, stF_mks, mapF_eq, evalF_eq, evalA, setAF, setA, setF_eq, putF_eq, lookF_eq, List.getD_cons_zero, List.getD_cons_succ, List.set_cons_zero, List.set_cons_succ, List.replicate, List.length_cons, List.length_nil, Nat.zero_add, Nat.reduceSub, Nat.reduceAdd, List.cons_append, List.nil_append, Option.getD, drop, Nat.beq, List.length_map, binV, binI, unV, if_true, Eng.asInt, Eng.part, cellsOf, toNat_cast, cast_nonneg, true_and, and_true, if_pos, giveOp, gvK, List.getElem?_cons_zero, List.getElem?_cons_succ, Bool.not_true, Bool.not_false, ofVal, eq_self, and_self, true_implies, dfF, touch, regF, quietF, pairOK, noCs, Go.Value.oneCell', decide_true, decide_false, Nat.mul_one, asBound, fullOf, Option.isSome_none, Option.isSome_some, Nat.zero_le, Bool.false_eq_true, false_implies, Int.cast_ofNat_Int, Int.reduceLT, Int.reduceLE, Int.reduceToNat, Nat.reduceMul, Int.le_refl, Eng.look, putAt, Nat.reduceEqDiff, reduceCtorEq, Nat.reduceBEq, if_false, List.all_cons, List.all_nil, tf_beq, ft_beq, lvSub, lvOK, isNone, width, solid, splice, List.take_zero, List.drop_zero, List.drop_nil, List.take_nil, List.drop_succ_cons, List.take_succ_cons, List.append_nil, beq_self_eq_true, Bool.and_true, Bool.true_and, Bool.and_self, ge_iff_le, gt_iff_lt, Nat.le_refl, Nat.reduceLeDiff, Nat.reduceLT, xf38_L0, ai, al]
    rw [wrap_id (by omega) (by omega)]
    exact ih (i + 1) (by omega) _ _ _ _ _ _ _ _ _ _ _ _ _ _ _ _ _ _ _
def lvL (L : List Int) : AV := match L with | [] => nilA | x :: t => al false (x :: t)
theorem lvL_is (L : List Int) : isL (lvL L) L := by
  cases L with
  | nil => exact .inr ⟨rfl, rfl⟩
  | cons x t => exact .inl ⟨_, rfl⟩
theorem cut_reify (s : Int) (L : List Int) (a b : Nat × (Nat × Option Ob)) (T : List (Nat × (Nat × Option Ob))) (h : L = [] ∨ Go.Proofs.Eng.look (a :: b :: T) 1023 = hrk L) : reify (a :: b :: T) 20 (.ag [ai s, hvk 1023 L]) = some (.ag [ai s, lvL L]) := by
  cases L with
  | nil => rfl
  | cons x t =>
    have h := h.resolve_left (by simp)
    have e := reify_os (α := Int) (η := a :: b :: T) (n := 18) (k := 1023) (g := 1) (e := 3) (s := 1) (f := ai) (l := x :: t) (elem_ai _ 17) h
    have e2 : [ai s, hvk 1023 (x :: t)].mapM (reify (a :: b :: T) 19) = some [ai s, al false (x :: t)] := by
      rw [List.mapM_cons, List.mapM_cons]
      show ((reify (a :: b :: T) 19 (.os 1023 1 (x :: t).length 1 0 (x :: t).length)).bind _).bind _ = _
      rw [e]; rfl
    show ([ai s, hvk 1023 (x :: t)].mapM (reify (a :: b :: T) 19)).map AV.ag = _
    rw [e2]; rfl
end Go.Proofs.YtliklcopmapfaaaDoor

