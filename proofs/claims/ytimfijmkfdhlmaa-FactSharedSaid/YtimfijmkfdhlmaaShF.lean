/-
  ShE, ShF.
-/
import Derived.Test.YtimfijmkfdhlmaaShD
set_option linter.unusedSimpArgs false
set_option linter.unusedVariables false
namespace Go.Proofs.Ytimfijmkfdhlmaa
open Go Go.Proofs.Eng
set_option maxRecDepth 100000
set_option maxHeartbeats 4000000
theorem put_succ {pv : AV} {l : List (Int × Int)} (hx : isP pv l) (m : Int) (hl10 : l.length ≤ 10) (hl : ∀ p, p ∈ l → 0 ≤ p.1 ∧ p.1 < p.2 ∧ p.2 < 7) (k : Nat) (w : List Int) (hwk : w.length + (k + 1) = l.length) (hok : w.all okH = true) (hb : borneB l w = true) (lv : AV) (hlv : LN w lv) (s : Option (List Int)) (Bc Mc : AV) (A B R : Nat × Option Ob) (hs : okS l.length s) (hS : BS s Bc Mc)
    (IH : ∀ (x : Nat) (s : Option (List Int)) (Bc Mc : AV) (A B : Nat × Option Ob) (c : Nat), x < 3 → okS l.length s → BS s Bc Mc → borneB l (w ++ [(x : Int)]) = true →
      ∃ Bc2 Mc2 A2 B2 R2, RunsR Try.prog xf 1000 22 ([.os 1067 c (w ++ [(x : Int)]).length 1 0 (w ++ [(x : Int)]).length, tgA l (w ++ [(x : Int)]), ai (w ++ [(x : Int)]).sum] ++ scaps) (shp m pv Bc Mc A B (c, some ⟨3, 1, (w ++ [(x : Int)]).map ai⟩)) (.tup []) (shp m pv Bc2 Mc2 A2 B2 R2) ∧ BS (bst (borneB l) gtB k (w ++ [(x : Int)]) s) Bc2 Mc2 ∧ okS l.length (bst (borneB l) gtB k (w ++ [(x : Int)]) s)) :
    ∀ j7 j8 j9 j10 j11 j12 j13 j14 j15 j16 j17 j18 j19 j20 j21 j22 j23 j24 j25 j26 j27 j28 j29 j30 j31 j32 j33 j34 j35 j36 j37 j38 j39 j40 j41 j42 j43 j44 j45 j46 j47 j48 j49 j50 j51 j52 j53 j54 j55 j56 j57 j58 j59 j60 j61 j62 j63 j64 j65 j66 j67 j68 j69 j70 j71 j72 j73 : AV, W Try.prog (RelU Try.prog xf) 1000 [.code xf22.body] ⟨(lv :: (tgA l w) :: (ai w.sum) :: (.o 3 1 1 0 0) :: (.o 5 1 1 0 0) :: (.o 4 1 1 0 0) :: (.o 6 1 1 0 0) :: j7 :: j8 :: j9 :: j10 :: j11 :: j12 :: j13 :: j14 :: j15 :: j16 :: j17 :: j18 :: j19 :: j20 :: j21 :: j22 :: j23 :: j24 :: j25 :: j26 :: j27 :: j28 :: j29 :: j30 :: j31 :: j32 :: j33 :: j34 :: j35 :: j36 :: j37 :: j38 :: j39 :: j40 :: j41 :: j42 :: j43 :: j44 :: j45 :: j46 :: j47 :: j48 :: j49 :: j50 :: j51 :: j52 :: j53 :: j54 :: j55 :: j56 :: j57 :: j58 :: j59 :: j60 :: j61 :: j62 :: j63 :: j64 :: j65 :: j66 :: j67 :: j68 :: j69 :: j70 :: j71 :: j72 :: j73 :: []), shp m pv Bc Mc A B R⟩ (SQ m pv (bst (borneB l) gtB (k + 1) w s)) := by
  intro j7 j8 j9 j10 j11 j12 j13 j14 j15 j16 j17 j18 j19 j20 j21 j22 j23 j24 j25 j26 j27 j28 j29 j30 j31 j32 j33 j34 j35 j36 j37 j38 j39 j40 j41 j42 j43 j44 j45 j46 j47 j48 j49 j50 j51 j52 j53 j54 j55 j56 j57 j58 j59 j60 j61 j62 j63 j64 j65 j66 j67 j68 j69 j70 j71 j72 j73
  have hw : w.length < l.length := by omega
  have ht := tog_len l w w.length
  have hE : bst (borneB l) gtB (k + 1) w s = bstL (borneB l) gtB k w 3 0 s := by rw [bst, if_pos hb]
  rw [hE]
  have hno : ∀ (x : Nat) (s : Option (List Int)), borneB l (w ++ [(x : Int)]) = false → bst (borneB l) gtB k (w ++ [(x : Int)]) s = s := fun x s h => by
    cases k with
    | zero => rw [bst, if_neg (by rw [h]; simp)]
    | succ k => rw [bst, if_neg (by rw [h]; simp)]
  have q1 : ((w.length : Int) == (l.length : Int)) = false := by rw [beq_eq_false_iff_ne]; omega
  have gp := get_ap hw
  have n0 : (0 : Int) ≤ (w.length : Int) := by omega
  simp only [a2] at gp
  rcases hx with ⟨fp, rfl⟩ | ⟨rfl, el⟩
  · refine W_run 60 ?_
    rcases hlv.cas with ⟨elv, ew⟩ | ⟨elv, hne⟩
    · subst elv
      have l0 : w.length = 0 := by rw [ew]; rfl
      have q0 : ((0 : Int) == (l.length : Int)) = false := by rw [beq_eq_false_iff_ne]; omega
      have gp0 : (l.map a2)[0]? = some (a2 (l.getD w.length (0, 0))) := by rw [l0]; rw [l0] at hw; exact get_ap hw
      simp only [a2] at gp0
      simp only [go_some, go_none, go_zero, nxt_op, nxt_guard, nxt_skip, nxt_region, nxt_drawn, nxt_seq, nxt_block, nxt_scope, nxt_exit, nxt_blk, nxt_lp, nxt_cond, nxt_loop, nxt_ret, nxt_stop, nxt_nil, Eng.start, frG, frF, isCall, stp, exec1, exec1K, keyA, wantedA, stepF, stF_mv, stF_bin, stF_len, stF_un, stF_pick, stF_load, stF_iadr, stF_box, stF_fadr, stF_store, stF_ext, stF_fld, stF_idx, stF_aadr, stF_app, stF_bldS, stF_slc, stF_slcA, stF_bld, stF_isnil, stF_mki, stF_mkf, stF_mkb, mapF_eq, evalF_eq, evalA, setAF, setA, setF_eq, putF_eq, lookF_eq, List.getD_cons_zero, List.getD_cons_succ, List.set_cons_zero, List.set_cons_succ, List.replicate, List.length_cons, List.length_nil, Nat.zero_add, Nat.reduceSub, Nat.reduceAdd, List.cons_append, List.nil_append, Option.getD, drop, Nat.beq, List.length_map, binV, binI, unV, if_true, Eng.asInt, Eng.part, cellsOf, toNat_cast, cast_nonneg, true_and, and_true, if_pos, giveOp, List.getElem?_cons_zero, List.getElem?_cons_succ, Bool.not_true, Bool.not_false, ofVal, eq_self, and_self, true_implies, dfF, touch, regF, quietF, pairOK, noCs, Go.Value.oneCell', decide_true, decide_false, Nat.mul_one, asBound, fullOf, Option.isSome_none, Option.isSome_some, Nat.zero_le, Bool.false_eq_true, false_implies, Int.cast_ofNat_Int, Int.reduceLT, Int.reduceLE, Int.reduceToNat, Nat.reduceMul, Int.le_refl, Eng.look, putAt, Nat.reduceEqDiff, reduceCtorEq, Nat.reduceBEq, if_false, List.all_cons, List.all_nil, tf_beq, ft_beq, lvSub, lvOK, isNone, width, solid, splice, List.take_zero, List.drop_zero, List.drop_nil, List.take_nil, List.drop_succ_cons, List.take_succ_cons, List.append_nil, beq_self_eq_true, Bool.and_true, Bool.true_and, Bool.and_self, ge_iff_le, gt_iff_lt, Nat.le_refl, Nat.reduceLeDiff, Nat.reduceLT, xf22, ai, tgA, shp, scaps, List.length_map, ht, ap, nilA, q0, q1, a2, gp0, n0]
      refine W_alone (W_giveP (t := 10) (giveT_no (k := 1010) rfl) (giveP_box rfl rfl) ?_)
      simp only [List.map_cons, List.map_nil, toPtr_hit, toPtr_miss (show (3 : Nat) ≠ 1010 by decide), toPtr_miss (show (5 : Nat) ≠ 1010 by decide), toPtr_miss (show (4 : Nat) ≠ 1010 by decide), toPtr_miss (show (6 : Nat) ≠ 1010 by decide), toPtr_v, toPtr_ag, toPtr_sl, toPtr_ptr, Go.Proofs.Eng.putAt, Nat.reduceEqDiff, Nat.reduceLT, if_false, if_true]
      refine put_loop (pv := ap fp l) m hl10 hl k w hw hok hb _ hlv [] _ IH hno 3 0 s Bc Mc _ _ _ rfl hs hS (fun z j7 j9 j11 j12 j13 j14 j15 j16 j17 j18 j19 j20 j21 j22 j23 j24 j25 j26 j27 j28 j29 j31 j32 j33 j34 j35 j36 j37 j38 j39 j40 j41 j42 j43 j44 j45 j46 j47 j48 j49 j50 j51 j52 j53 j54 j55 j56 j57 j58 j59 j60 j61 j62 j63 j64 j65 j66 j67 j68 j69 j70 j71 j72 j73 Bc2 Mc2 A2 B2 R2 h => ?_) _ _ _ _ _ _ _ _ _ _ _ _ _ _ _ _ _ _ _ _ _ _ _ _ _ _ _ _ _ _ _ _ _ _ _ _ _ _ _ _ _ _ _ _ _ _ _ _ _ _ _ _ _ _ _ _ _ _ _ _ _ _ _ _
      exact W_done ⟨.inr rfl, Bc2, Mc2, A2, B2, R2, rfl, h⟩

    · subst elv
      have q0 : (0 : Int) = 0 := rfl
      simp only [go_some, go_none, go_zero, nxt_op, nxt_guard, nxt_skip, nxt_region, nxt_drawn, nxt_seq, nxt_block, nxt_scope, nxt_exit, nxt_blk, nxt_lp, nxt_cond, nxt_loop, nxt_ret, nxt_stop, nxt_nil, Eng.start, frG, frF, isCall, stp, exec1, exec1K, keyA, wantedA, stepF, stF_mv, stF_bin, stF_len, stF_un, stF_pick, stF_load, stF_iadr, stF_box, stF_fadr, stF_store, stF_ext, stF_fld, stF_idx, stF_aadr, stF_app, stF_bldS, stF_slc, stF_slcA, stF_bld, stF_isnil, stF_mki, stF_mkf, stF_mkb, mapF_eq, evalF_eq, evalA, setAF, setA, setF_eq, putF_eq, lookF_eq, List.getD_cons_zero, List.getD_cons_succ, List.set_cons_zero, List.set_cons_succ, List.replicate, List.length_cons, List.length_nil, Nat.zero_add, Nat.reduceSub, Nat.reduceAdd, List.cons_append, List.nil_append, Option.getD, drop, Nat.beq, List.length_map, binV, binI, unV, if_true, Eng.asInt, Eng.part, cellsOf, toNat_cast, cast_nonneg, true_and, and_true, if_pos, giveOp, List.getElem?_cons_zero, List.getElem?_cons_succ, Bool.not_true, Bool.not_false, ofVal, eq_self, and_self, true_implies, dfF, touch, regF, quietF, pairOK, noCs, Go.Value.oneCell', decide_true, decide_false, Nat.mul_one, asBound, fullOf, Option.isSome_none, Option.isSome_some, Nat.zero_le, Bool.false_eq_true, false_implies, Int.cast_ofNat_Int, Int.reduceLT, Int.reduceLE, Int.reduceToNat, Nat.reduceMul, Int.le_refl, Eng.look, putAt, Nat.reduceEqDiff, reduceCtorEq, Nat.reduceBEq, if_false, List.all_cons, List.all_nil, tf_beq, ft_beq, lvSub, lvOK, isNone, width, solid, splice, List.take_zero, List.drop_zero, List.drop_nil, List.take_nil, List.drop_succ_cons, List.take_succ_cons, List.append_nil, beq_self_eq_true, Bool.and_true, Bool.true_and, Bool.and_self, ge_iff_le, gt_iff_lt, Nat.le_refl, Nat.reduceLeDiff, Nat.reduceLT, xf22, ai, tgA, shp, scaps, List.length_map, ht, ap, al, q0, q1, a2, gp, n0]
      refine W_alone (W_giveP (t := 10) (giveT_no (k := 1010) rfl) (giveP_box rfl rfl) ?_)
      simp only [List.map_cons, List.map_nil, toPtr_hit, toPtr_miss (show (3 : Nat) ≠ 1010 by decide), toPtr_miss (show (5 : Nat) ≠ 1010 by decide), toPtr_miss (show (4 : Nat) ≠ 1010 by decide), toPtr_miss (show (6 : Nat) ≠ 1010 by decide), toPtr_v, toPtr_ag, toPtr_sl, toPtr_ptr, Go.Proofs.Eng.putAt, Nat.reduceEqDiff, Nat.reduceLT, if_false, if_true]
      refine put_loop (pv := ap fp l) m hl10 hl k w hw hok hb _ hlv [] _ IH hno 3 0 s Bc Mc _ _ _ rfl hs hS (fun z j7 j9 j11 j12 j13 j14 j15 j16 j17 j18 j19 j20 j21 j22 j23 j24 j25 j26 j27 j28 j29 j31 j32 j33 j34 j35 j36 j37 j38 j39 j40 j41 j42 j43 j44 j45 j46 j47 j48 j49 j50 j51 j52 j53 j54 j55 j56 j57 j58 j59 j60 j61 j62 j63 j64 j65 j66 j67 j68 j69 j70 j71 j72 j73 Bc2 Mc2 A2 B2 R2 h => ?_) _ _ _ _ _ _ _ _ _ _ _ _ _ _ _ _ _ _ _ _ _ _ _ _ _ _ _ _ _ _ _ _ _ _ _ _ _ _ _ _ _ _ _ _ _ _ _ _ _ _ _ _ _ _ _ _ _ _ _ _ _ _ _ _
      exact W_done ⟨.inr rfl, Bc2, Mc2, A2, B2, R2, rfl, h⟩

  · rw [el] at hw; simp at hw
end Go.Proofs.Ytimfijmkfdhlmaa


set_option linter.unusedSimpArgs false
set_option linter.unusedVariables false
namespace Go.Proofs.Ytimfijmkfdhlmaa
open Go Go.Proofs.Eng
set_option maxRecDepth 100000
set_option maxHeartbeats 4000000
theorem put_enter {pv : AV} {l : List (Int × Int)} (m : Int) (w : List Int) (Bc Mc : AV) (A B : Nat × Option Ob) (c : Nat) (Q : Out → Cfg → Prop)
    (h : ∀ j7 j8 j9 j10 j11 j12 j13 j14 j15 j16 j17 j18 j19 j20 j21 j22 j23 j24 j25 j26 j27 j28 j29 j30 j31 j32 j33 j34 j35 j36 j37 j38 j39 j40 j41 j42 j43 j44 j45 j46 j47 j48 j49 j50 j51 j52 j53 j54 j55 j56 j57 j58 j59 j60 j61 j62 j63 j64 j65 j66 j67 j68 j69 j70 j71 j72 j73 : AV, W Try.prog (RelU Try.prog xf) 1000 [.code xf22.body] ⟨((al false w) :: (tgA l w) :: (ai w.sum) :: (.o 3 1 1 0 0) :: (.o 5 1 1 0 0) :: (.o 4 1 1 0 0) :: (.o 6 1 1 0 0) :: j7 :: j8 :: j9 :: j10 :: j11 :: j12 :: j13 :: j14 :: j15 :: j16 :: j17 :: j18 :: j19 :: j20 :: j21 :: j22 :: j23 :: j24 :: j25 :: j26 :: j27 :: j28 :: j29 :: j30 :: j31 :: j32 :: j33 :: j34 :: j35 :: j36 :: j37 :: j38 :: j39 :: j40 :: j41 :: j42 :: j43 :: j44 :: j45 :: j46 :: j47 :: j48 :: j49 :: j50 :: j51 :: j52 :: j53 :: j54 :: j55 :: j56 :: j57 :: j58 :: j59 :: j60 :: j61 :: j62 :: j63 :: j64 :: j65 :: j66 :: j67 :: j68 :: j69 :: j70 :: j71 :: j72 :: j73 :: []), shp m pv Bc Mc A B (c, none)⟩ Q) :
    W Try.prog (RelU Try.prog xf) 1000 [.code xf22.body] (Go.Proofs.Eng.start xf22 ([.os 1067 c w.length 1 0 w.length, tgA l w, ai w.sum] ++ scaps) (shp m pv Bc Mc A B (c, some ⟨3, 1, w.map ai⟩))) Q := by
  show W Try.prog (RelU Try.prog xf) 1000 [.code xf22.body] ⟨[.os 1067 c w.length 1 0 w.length, tgA l w, ai w.sum, .o 3 1 1 0 0, .o 5 1 1 0 0, .o 4 1 1 0 0, .o 6 1 1 0 0] ++ List.replicate 67 (.v undef), shp m pv Bc Mc A B (c, some ⟨3, 1, w.map ai⟩)⟩ Q
  refine W_giveC (t := 0) (giveT_row (k := 1067) rfl rfl (by simp)) ?_
  have e1 : toData 1067 c w.length 1 (w.map ai) (tgA l w) = tgA l w := rfl
  have e2 : toData 1067 c w.length 1 (w.map ai) (ai w.sum) = ai w.sum := rfl
  simp only [List.map_append, List.map_replicate, List.map_cons, List.map_nil, toData_os, toData_v, toData_o, e1, e2]
  exact h _ _ _ _ _ _ _ _ _ _ _ _ _ _ _ _ _ _ _ _ _ _ _ _ _ _ _ _ _ _ _ _ _ _ _ _ _ _ _ _ _ _ _ _ _ _ _ _ _ _ _ _ _ _ _ _ _ _ _ _ _ _ _ _ _ _ _
theorem put_srch {pv : AV} {l : List (Int × Int)} (hx : isP pv l) (m : Int) (hl10 : l.length ≤ 10) (hl : ∀ p, p ∈ l → 0 ≤ p.1 ∧ p.1 < p.2 ∧ p.2 < 7) : ∀ (k : Nat) (w : List Int) (s : Option (List Int)) (Bc Mc : AV) (A B : Nat × Option Ob) (c : Nat), w ≠ [] → w.length + k = l.length → w.all okH = true → borneB l w = true → okS l.length s → BS s Bc Mc →
    ∃ Bc2 Mc2 A2 B2 R2, RunsR Try.prog xf 1000 22 ([.os 1067 c w.length 1 0 w.length, tgA l w, ai w.sum] ++ scaps) (shp m pv Bc Mc A B (c, some ⟨3, 1, w.map ai⟩)) (.tup []) (shp m pv Bc2 Mc2 A2 B2 R2) ∧ BS (bst (borneB l) gtB k w s) Bc2 Mc2 := by
  intro k
  induction k with
  | zero =>
    intro w s Bc Mc A B c hne hwl hok hb hs hS
    exact SQ.run (put_enter m w Bc Mc A B c _ (put_zero hx m hl10 w (by omega) hok hb _ (.s w hne) s Bc Mc A B _ hS))
  | succ k ih =>
    intro w s Bc Mc A B c hne hwl hok hb hs hS
    refine SQ.run (put_enter m w Bc Mc A B c _ (put_succ hx m hl10 hl k w hwl hok hb _ (.s w hne) s Bc Mc A B _ hs hS fun x s Bc Mc A B c h1 h2 h3 h4 => ?_))
    have hl1 : (w ++ [(x : Int)]).length + k = l.length := by rw [List.length_append, List.length_singleton]; omega
    obtain ⟨Bc2, Mc2, A2, B2, R2, a, b⟩ := ih (w ++ [(x : Int)]) s Bc Mc A B c (by simp) hl1 (okH_app hok h1) h4 h2 h3
    exact ⟨Bc2, Mc2, A2, B2, R2, a, b, bst_okS k _ s (okH_app hok h1) (by omega) h2⟩
/-- the whole search -/
theorem put_top {pv : AV} {l : List (Int × Int)} (hx : isP pv l) (m : Int) (hl10 : l.length ≤ 10) (hl : ∀ p, p ∈ l → 0 ≤ p.1 ∧ p.1 < p.2 ∧ p.2 < 7) :
    ∃ Bc2 Mc2 A2 B2 R2, RunsR Try.prog xf 1000 22 ([nilA, tgA l [], ai ([] : List Int).sum] ++ scaps) (shp m pv nilA (ai (-1)) (0, none) (0, none) (0, none)) (.tup []) (shp m pv Bc2 Mc2 A2 B2 R2) ∧ BS (bst (borneB l) gtB l.length [] none) Bc2 Mc2 := by
  cases hk : l.length with
  | zero =>
    refine SQ.run ?_
    exact put_zero hx m hl10 [] (by rw [hk]; rfl) rfl (borne_nil l) _ .n none nilA (ai (-1)) _ _ _ .n _ _ _ _ _ _ _ _ _ _ _ _ _ _ _ _ _ _ _ _ _ _ _ _ _ _ _ _ _ _ _ _ _ _ _ _ _ _ _ _ _ _ _ _ _ _ _ _ _ _ _ _ _ _ _ _ _ _ _ _ _ _ _ _ _ _ _
  | succ k =>
    refine SQ.run ?_
    refine put_succ hx m hl10 hl k [] (by rw [hk]; simp) rfl (borne_nil l) _ .n none nilA (ai (-1)) _ _ _ (fun f h => by cases h) .n (fun x s Bc Mc A B c h1 h2 h3 h4 => ?_) _ _ _ _ _ _ _ _ _ _ _ _ _ _ _ _ _ _ _ _ _ _ _ _ _ _ _ _ _ _ _ _ _ _ _ _ _ _ _ _ _ _ _ _ _ _ _ _ _ _ _ _ _ _ _ _ _ _ _ _ _ _ _ _ _ _ _
    have hl1 : ([] ++ [(x : Int)] : List Int).length + k = l.length := by rw [hk]; simp; omega
    obtain ⟨Bc2, Mc2, A2, B2, R2, a, b⟩ := put_srch hx m hl10 hl k ([] ++ [(x : Int)]) s Bc Mc A B c (by simp) hl1 (okH_app rfl h1) h4 h2 h3
    exact ⟨Bc2, Mc2, A2, B2, R2, a, b, bst_okS k _ s (okH_app rfl h1) (by omega) h2⟩
end Go.Proofs.Ytimfijmkfdhlmaa

