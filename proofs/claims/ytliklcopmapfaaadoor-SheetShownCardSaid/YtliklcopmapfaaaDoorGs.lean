/-
  Package sheet's Groups: the loop.
-/
import Derived.Test.YtliklcopmapfaaaDoorGr
set_option linter.unusedSimpArgs false
set_option linter.unusedVariables false
namespace Go.Proofs.YtliklcopmapfaaaDoor
open Go Go.Proofs.Eng
set_option maxRecDepth 100000
set_option maxHeartbeats 1000000
theorem cut_new {s : Int} {ps qs : List Int} {i : Nat} (h : qs.getD i 0 = ((cutN s ps qs i).length : Int)) : (cutN s ps qs (i + 1)).length = (cutN s ps qs i).length + 1 := by
  simp only [cutN, putL, List.length_set]
  rw [if_pos h, List.length_append]; rfl
theorem cut_old {s : Int} {ps qs : List Int} {i : Nat} (h : qs.getD i 0 ≠ ((cutN s ps qs i).length : Int)) : (cutN s ps qs (i + 1)).length = (cutN s ps qs i).length := by
  simp only [cutN, putL, List.length_set]
  rw [if_neg h]
theorem cut_mono {s : Int} {ps qs : List Int} {i : Nat} : ∀ k, (cutN s ps qs i).length ≤ (cutN s ps qs (i + k)).length
  | 0 => Nat.le_refl _
  | k + 1 => Nat.le_trans (cut_mono k) cut_len.1
theorem good_of {s : Int} {ps qs : List Int} (h : ordE 0 qs = 0) : ∀ i, i ≤ qs.length → goodN s ps qs i ∧ ordE (cutN s ps qs i).length (qs.drop i) = 0
  | 0, _ => ⟨fun j hj => absurd hj (Nat.not_lt_zero j), h⟩
  | i + 1, hi => by
    obtain ⟨h1, h2⟩ := good_of h i (by omega)
    have hl : i < qs.length := by omega
    rw [ordE_drop hl] at h2
    by_cases c1 : qs.getD i 0 < 0
    · rw [if_pos c1] at h2; omega
    · rw [if_neg c1] at h2
      by_cases c2 : ((cutN s ps qs i).length : Int) < qs.getD i 0
      · rw [if_pos c2] at h2; omega
      · rw [if_neg c2] at h2
        refine ⟨fun j hj => ?_, ?_⟩
        · rcases Nat.lt_succ_iff_lt_or_eq.1 hj with hj | rfl
          · exact h1 j hj
          · exact ⟨by omega, by omega⟩
        · by_cases c3 : qs.getD i 0 = ((cutN s ps qs i).length : Int)
          · have e : mx2 ((cutN s ps qs i).length : Int) (qs.getD i 0 + 1) = ((cutN s ps qs (i + 1)).length : Int) := by
              rw [cut_new c3]; unfold mx2; rw [if_pos (by omega)]; omega
            rw [← e]; exact h2
          · have e : mx2 ((cutN s ps qs i).length : Int) (qs.getD i 0 + 1) = ((cutN s ps qs (i + 1)).length : Int) := by
              rw [cut_old c3]; unfold mx2; rw [if_neg (by omega)]
            rw [← e]; exact h2
def stepG (G : List (List Int)) (q : Int) (i : Nat) : List (List Int) := if q = (G.length : Int) then G ++ [[(i : Int)]] else G.set q.toNat (G.getD q.toNat [] ++ [(i : Int)])
/-- the groups after so many pieces -/
def grpN (qs : List Int) : Nat → List (List Int)
  | 0 => []
  | i + 1 => stepG (grpN qs i) (qs.getD i 0) i
theorem gr_loop1 (s : Int) (g : Bool) (ps qs : List Int) (hn : qs.length ≤ 100) (x0 x1 : AV) (r8 : Nat × Option Ob) (hg : goodN s ps qs qs.length) (hN : (cutN s ps qs qs.length).length = 1) (K : List Fr) (Q : Out → Cfg → Prop)
    (hK : ∀ Gs : List (List Int), Gs = grpN qs qs.length → Gs.length = 1 → ∀ j3 j4 j5 j6 j7 j8 j9 j11 j12 j13 j14 j15 j16 j17 j18 j19 j20 j21 j22 j23 j24 j25 j26 j30 j31 j32 j33 j34 j35 j36 j37 j38 j39 j40 j41 j42 j43 j44 j45 : AV, W Tryd.prog (RelU Tryd.prog xf) 0 K ⟨(x0 :: x1 :: (al g qs) :: j3 :: j4 :: j5 :: j6 :: j7 :: j8 :: j9 :: (.os 26 1 1 1 0 1) :: j11 :: j12 :: j13 :: j14 :: j15 :: j16 :: j17 :: j18 :: j19 :: j20 :: j21 :: j22 :: j23 :: j24 :: j25 :: j26 :: (al g qs) :: (ai qs.length) :: (ai qs.length) :: j30 :: j31 :: j32 :: j33 :: j34 :: j35 :: j36 :: j37 :: j38 :: j39 :: j40 :: j41 :: j42 :: j43 :: j44 :: j45 :: []), (8, r8) :: (26, (1, some ⟨25, 1, padG 1 42 Gs⟩)) :: rowG 42 Gs⟩ Q) :
    ∀ (k i : Nat), i + k = qs.length → ∀ Gs : List (List Int), Gs = grpN qs i → Gs.length = (cutN s ps qs i).length → lenS Gs ≤ i → ∀ j3 j4 j5 j6 j7 j8 j9 j11 j12 j13 j14 j15 j16 j17 j18 j19 j20 j21 j22 j23 j24 j25 j26 j30 j31 j32 j33 j34 j35 j36 j37 j38 j39 j40 j41 j42 j43 j44 j45 : AV, W Tryd.prog (RelU Tryd.prog xf) 0 (.code (.loop xf9_L0) :: .blk 0 :: .stop :: K) ⟨(x0 :: x1 :: (al g qs) :: j3 :: j4 :: j5 :: j6 :: j7 :: j8 :: j9 :: (.os 26 1 1 1 0 1) :: j11 :: j12 :: j13 :: j14 :: j15 :: j16 :: j17 :: j18 :: j19 :: j20 :: j21 :: j22 :: j23 :: j24 :: j25 :: j26 :: (al g qs) :: (ai qs.length) :: (ai i) :: j30 :: j31 :: j32 :: j33 :: j34 :: j35 :: j36 :: j37 :: j38 :: j39 :: j40 :: j41 :: j42 :: j43 :: j44 :: j45 :: []), (8, r8) :: (26, (1, some ⟨25, 1, padG 1 42 Gs⟩)) :: rowG 42 Gs⟩ Q := by
  intro k
  induction k with
  | zero =>
    intro i hi Gs hG hl hs j3 j4 j5 j6 j7 j8 j9 j11 j12 j13 j14 j15 j16 j17 j18 j19 j20 j21 j22 j23 j24 j25 j26 j30 j31 j32 j33 j34 j35 j36 j37 j38 j39 j40 j41 j42 j43 j44 j45
    have : i = qs.length := by omega
    subst this
    have h0 : decide (qs.length < qs.length) = false := by simp
    have hk := hK Gs hG (by omega)
    generalize (8, r8) :: (26, (1, some (Ob.mk 25 1 (padG 1 42 Gs)))) :: rowG 42 Gs = H at *
    refine W_loop (W_run 80 ?_)
    simp only [go_some, go_none, go_zero, nxt_op, nxt_guard, nxt_skip, nxt_label, nxt_region, nxt_drawn, nxt_seq, nxt_block, nxt_scope, nxt_exit, nxt_blk, nxt_lp, nxt_cond, nxt_loop, nxt_ret, nxt_stop, nxt_nil, Eng.start, frG, frF, isCall, stp, exec1, exec1K, dK, Nat.reduceDiv, keyA, wantedA, stepF, stF_mv, stF_bin, stF_len, stF_un, stF_pick, stF_load, stF_iadr, stF_box, stF_fadr, stF_store, stF_ext, stF_fld, stF_idx, stF_aadr, stF_app, stF_bldS, stF_slc, stF_slcA, stF_bld, stF_isnil, stF_mki, stF_mkf, stF_mkb, stF_nilc, stF_mks, mapF_eq, evalF_eq, evalA, setAF, setA, setF_eq, putF_eq, lookF_eq, List.getD_cons_zero, List.getD_cons_succ, List.set_cons_zero, List.set_cons_succ, List.replicate, List.length_cons, List.length_nil, Nat.zero_add, Nat.reduceSub, Nat.reduceAdd, List.cons_append, List.nil_append, Option.getD, drop, Nat.beq, List.length_map, binV, binI, unV, if_true, Eng.asInt, Eng.part, cellsOf, toNat_cast, cast_nonneg, true_and, and_true, if_pos, giveOp, gvK, List.getElem?_cons_zero, List.getElem?_cons_succ, Bool.not_true, Bool.not_false, ofVal, eq_self, and_self, true_implies, dfF, touch, regF, quietF, pairOK, noCs, Go.Value.oneCell', decide_true, decide_false, Nat.mul_one, asBound, fullOf, Option.isSome_none, Option.isSome_some, Nat.zero_le, Bool.false_eq_true, false_implies, Int.cast_ofNat_Int, Int.reduceLT, Int.reduceLE, Int.reduceToNat, Nat.reduceMul, Int.le_refl, Eng.look, putAt, Nat.reduceEqDiff, reduceCtorEq, Nat.reduceBEq, if_false, List.all_cons, List.all_nil, tf_beq, ft_beq, lvSub, lvOK, isNone, width, solid, splice, List.take_zero, List.drop_zero, List.drop_nil, List.take_nil, List.drop_succ_cons, List.take_succ_cons, List.append_nil, beq_self_eq_true, Bool.and_true, Bool.true_and, Bool.and_self, ge_iff_le, gt_iff_lt, Nat.le_refl, Nat.reduceLeDiff, Nat.reduceLT, xf9_L0, ai, al, lt_cast, h0]
    exact W_stop (hk _ _ _ _ _ _ _ _ _ _ _ _ _ _ _ _ _ _ _ _ _ _ _ _ _ _ _ _ _ _ _ _ _ _ _ _ _ _ _)
  | succ k ih =>
    intro i hi Gs hG hl hs j3 j4 j5 j6 j7 j8 j9 j11 j12 j13 j14 j15 j16 j17 j18 j19 j20 j21 j22 j23 j24 j25 j26 j30 j31 j32 j33 j34 j35 j36 j37 j38 j39 j40 j41 j42 j43 j44 j45
    have h1 : i < qs.length := by omega
    obtain ⟨p1, p2⟩ := hg i h1
    have hmo := cut_mono (s := s) (ps := ps) (qs := qs) (i := i + 1) k
    rw [show i + 1 + k = qs.length by omega, hN] at hmo
    have hmo2 := cut_len (s := s) (ps := ps) (qs := qs) (i := i)
    match Gs, hG, hl, hs with
    | [], hG, hl, hs =>
      have hl2 : 0 = (cutN s ps qs i).length := hl
      simp only [lenS] at hs
      have hc : qs.getD i 0 = 0 := by omega
      have hq := hc
      · exact st_1_0_0 g qs i h1 hq hn x0 x1 r8 K Q (fun j3 j4 j5 j6 j7 j8 j9 j11 j12 j13 j14 j15 j16 j17 j18 j19 j20 j21 j22 j23 j24 j25 j26 j30 j31 j32 j33 j34 j35 j36 j37 j38 j39 j40 j41 j42 j43 j44 j45 => ih (i + 1) (by omega) [[(i : Int)]] (by rw [grpN, ← hG, hq]; rfl) (by rw [cut_new (by omega)]; show 1 = _; omega) (by simp only [lenS, List.length_append, List.length_cons, List.length_nil]; omega) j3 j4 j5 j6 j7 j8 j9 j11 j12 j13 j14 j15 j16 j17 j18 j19 j20 j21 j22 j23 j24 j25 j26 j30 j31 j32 j33 j34 j35 j36 j37 j38 j39 j40 j41 j42 j43 j44 j45) _ _ _ _ _ _ _ _ _ _ _ _ _ _ _ _ _ _ _ _ _ _ _ _ _ _ _ _ _ _ _ _ _ _ _ _ _ _ _
    | [a], hG, hl, hs =>
      have hl2 : 1 = (cutN s ps qs i).length := hl
      simp only [lenS] at hs
      have hc : qs.getD i 0 = 0 ∨ qs.getD i 0 = 1 := by omega
      rcases hc with hq | hq
      · exact st_1_1_0 g qs a (by omega) i h1 hq hn x0 x1 r8 K Q (fun j3 j4 j5 j6 j7 j8 j9 j11 j12 j13 j14 j15 j16 j17 j18 j19 j20 j21 j22 j23 j24 j25 j26 j30 j31 j32 j33 j34 j35 j36 j37 j38 j39 j40 j41 j42 j43 j44 j45 => ih (i + 1) (by omega) [a ++ [(i : Int)]] (by rw [grpN, ← hG, hq]; rfl) (by rw [cut_old (by omega)]; exact hl) (by simp only [lenS, List.length_append, List.length_cons, List.length_nil]; omega) j3 j4 j5 j6 j7 j8 j9 j11 j12 j13 j14 j15 j16 j17 j18 j19 j20 j21 j22 j23 j24 j25 j26 j30 j31 j32 j33 j34 j35 j36 j37 j38 j39 j40 j41 j42 j43 j44 j45) _ _ _ _ _ _ _ _ _ _ _ _ _ _ _ _ _ _ _ _ _ _ _ _ _ _ _ _ _ _ _ _ _ _ _ _ _ _ _
      · have := cut_new (s := s) (ps := ps) (qs := qs) (i := i) (by omega)
        omega
    | a :: y :: t, hG, hl, hs =>
      simp only [List.length_cons] at hl; omega
theorem gr_loop2 (s : Int) (g : Bool) (ps qs : List Int) (hn : qs.length ≤ 100) (x0 x1 : AV) (r8 : Nat × Option Ob) (hg : goodN s ps qs qs.length) (hN : (cutN s ps qs qs.length).length = 2) (K : List Fr) (Q : Out → Cfg → Prop)
    (hK : ∀ Gs : List (List Int), Gs = grpN qs qs.length → Gs.length = 2 → ∀ j3 j4 j5 j6 j7 j8 j9 j11 j12 j13 j14 j15 j16 j17 j18 j19 j20 j21 j22 j23 j24 j25 j26 j30 j31 j32 j33 j34 j35 j36 j37 j38 j39 j40 j41 j42 j43 j44 j45 : AV, W Tryd.prog (RelU Tryd.prog xf) 0 K ⟨(x0 :: x1 :: (al g qs) :: j3 :: j4 :: j5 :: j6 :: j7 :: j8 :: j9 :: (.os 26 1 2 1 0 2) :: j11 :: j12 :: j13 :: j14 :: j15 :: j16 :: j17 :: j18 :: j19 :: j20 :: j21 :: j22 :: j23 :: j24 :: j25 :: j26 :: (al g qs) :: (ai qs.length) :: (ai qs.length) :: j30 :: j31 :: j32 :: j33 :: j34 :: j35 :: j36 :: j37 :: j38 :: j39 :: j40 :: j41 :: j42 :: j43 :: j44 :: j45 :: []), (8, r8) :: (26, (1, some ⟨25, 1, padG 2 42 Gs⟩)) :: rowG 42 Gs⟩ Q) :
    ∀ (k i : Nat), i + k = qs.length → ∀ Gs : List (List Int), Gs = grpN qs i → Gs.length = (cutN s ps qs i).length → lenS Gs ≤ i → ∀ j3 j4 j5 j6 j7 j8 j9 j11 j12 j13 j14 j15 j16 j17 j18 j19 j20 j21 j22 j23 j24 j25 j26 j30 j31 j32 j33 j34 j35 j36 j37 j38 j39 j40 j41 j42 j43 j44 j45 : AV, W Tryd.prog (RelU Tryd.prog xf) 0 (.code (.loop xf9_L0) :: .blk 0 :: .stop :: K) ⟨(x0 :: x1 :: (al g qs) :: j3 :: j4 :: j5 :: j6 :: j7 :: j8 :: j9 :: (.os 26 1 2 1 0 2) :: j11 :: j12 :: j13 :: j14 :: j15 :: j16 :: j17 :: j18 :: j19 :: j20 :: j21 :: j22 :: j23 :: j24 :: j25 :: j26 :: (al g qs) :: (ai qs.length) :: (ai i) :: j30 :: j31 :: j32 :: j33 :: j34 :: j35 :: j36 :: j37 :: j38 :: j39 :: j40 :: j41 :: j42 :: j43 :: j44 :: j45 :: []), (8, r8) :: (26, (1, some ⟨25, 1, padG 2 42 Gs⟩)) :: rowG 42 Gs⟩ Q := by
  intro k
  induction k with
  | zero =>
    intro i hi Gs hG hl hs j3 j4 j5 j6 j7 j8 j9 j11 j12 j13 j14 j15 j16 j17 j18 j19 j20 j21 j22 j23 j24 j25 j26 j30 j31 j32 j33 j34 j35 j36 j37 j38 j39 j40 j41 j42 j43 j44 j45
    have : i = qs.length := by omega
    subst this
    have h0 : decide (qs.length < qs.length) = false := by simp
    have hk := hK Gs hG (by omega)
    generalize (8, r8) :: (26, (1, some (Ob.mk 25 1 (padG 2 42 Gs)))) :: rowG 42 Gs = H at *
    refine W_loop (W_run 80 ?_)
    simp only [go_some, go_none, go_zero, nxt_op, nxt_guard, nxt_skip, nxt_label, nxt_region, nxt_drawn, nxt_seq, nxt_block, nxt_scope, nxt_exit, nxt_blk, nxt_lp, nxt_cond, nxt_loop, nxt_ret, nxt_stop, nxt_nil, Eng.start, frG, frF, isCall, stp, exec1, exec1K, dK, Nat.reduceDiv, keyA, wantedA, stepF, stF_mv, stF_bin, stF_len, stF_un, stF_pick, stF_load, stF_iadr, stF_box, stF_fadr, stF_store, stF_ext, stF_fld, stF_idx, stF_aadr, stF_app, stF_bldS, stF_slc, stF_slcA, stF_bld, stF_isnil, stF_mki, stF_mkf, stF_mkb, stF_nilc, stF_mks, mapF_eq, evalF_eq, evalA, setAF, setA, setF_eq, putF_eq, lookF_eq, List.getD_cons_zero, List.getD_cons_succ, List.set_cons_zero, List.set_cons_succ, List.replicate, List.length_cons, List.length_nil, Nat.zero_add, Nat.reduceSub, Nat.reduceAdd, List.cons_append, List.nil_append, Option.getD, drop, Nat.beq, List.length_map, binV, binI, unV, if_true, Eng.asInt, Eng.part, cellsOf, toNat_cast, cast_nonneg, true_and, and_true, if_pos, giveOp, gvK, List.getElem?_cons_zero, List.getElem?_cons_succ, Bool.not_true, Bool.not_false, ofVal, eq_self, and_self, true_implies, dfF, touch, regF, quietF, pairOK, noCs, Go.Value.oneCell', decide_true, decide_false, Nat.mul_one, asBound, fullOf, Option.isSome_none, Option.isSome_some, Nat.zero_le, Bool.false_eq_true, false_implies, Int.cast_ofNat_Int, Int.reduceLT, Int.reduceLE, Int.reduceToNat, Nat.reduceMul, Int.le_refl, Eng.look, putAt, Nat.reduceEqDiff, reduceCtorEq, Nat.reduceBEq, if_false, List.all_cons, List.all_nil, tf_beq, ft_beq, lvSub, lvOK, isNone, width, solid, splice, List.take_zero, List.drop_zero, List.drop_nil, List.take_nil, List.drop_succ_cons, List.take_succ_cons, List.append_nil, beq_self_eq_true, Bool.and_true, Bool.true_and, Bool.and_self, ge_iff_le, gt_iff_lt, Nat.le_refl, Nat.reduceLeDiff, Nat.reduceLT, xf9_L0, ai, al, lt_cast, h0]
    exact W_stop (hk _ _ _ _ _ _ _ _ _ _ _ _ _ _ _ _ _ _ _ _ _ _ _ _ _ _ _ _ _ _ _ _ _ _ _ _ _ _ _)
  | succ k ih =>
    intro i hi Gs hG hl hs j3 j4 j5 j6 j7 j8 j9 j11 j12 j13 j14 j15 j16 j17 j18 j19 j20 j21 j22 j23 j24 j25 j26 j30 j31 j32 j33 j34 j35 j36 j37 j38 j39 j40 j41 j42 j43 j44 j45
    have h1 : i < qs.length := by omega
    obtain ⟨p1, p2⟩ := hg i h1
    have hmo := cut_mono (s := s) (ps := ps) (qs := qs) (i := i + 1) k
    rw [show i + 1 + k = qs.length by omega, hN] at hmo
    have hmo2 := cut_len (s := s) (ps := ps) (qs := qs) (i := i)
    match Gs, hG, hl, hs with
    | [], hG, hl, hs =>
      have hl2 : 0 = (cutN s ps qs i).length := hl
      simp only [lenS] at hs
      have hc : qs.getD i 0 = 0 := by omega
      have hq := hc
      · exact st_2_0_0 g qs i h1 hq hn x0 x1 r8 K Q (fun j3 j4 j5 j6 j7 j8 j9 j11 j12 j13 j14 j15 j16 j17 j18 j19 j20 j21 j22 j23 j24 j25 j26 j30 j31 j32 j33 j34 j35 j36 j37 j38 j39 j40 j41 j42 j43 j44 j45 => ih (i + 1) (by omega) [[(i : Int)]] (by rw [grpN, ← hG, hq]; rfl) (by rw [cut_new (by omega)]; show 1 = _; omega) (by simp only [lenS, List.length_append, List.length_cons, List.length_nil]; omega) j3 j4 j5 j6 j7 j8 j9 j11 j12 j13 j14 j15 j16 j17 j18 j19 j20 j21 j22 j23 j24 j25 j26 j30 j31 j32 j33 j34 j35 j36 j37 j38 j39 j40 j41 j42 j43 j44 j45) _ _ _ _ _ _ _ _ _ _ _ _ _ _ _ _ _ _ _ _ _ _ _ _ _ _ _ _ _ _ _ _ _ _ _ _ _ _ _
    | [a], hG, hl, hs =>
      have hl2 : 1 = (cutN s ps qs i).length := hl
      simp only [lenS] at hs
      have hc : qs.getD i 0 = 0 ∨ qs.getD i 0 = 1 := by omega
      rcases hc with hq | hq
      · exact st_2_1_0 g qs a (by omega) i h1 hq hn x0 x1 r8 K Q (fun j3 j4 j5 j6 j7 j8 j9 j11 j12 j13 j14 j15 j16 j17 j18 j19 j20 j21 j22 j23 j24 j25 j26 j30 j31 j32 j33 j34 j35 j36 j37 j38 j39 j40 j41 j42 j43 j44 j45 => ih (i + 1) (by omega) [a ++ [(i : Int)]] (by rw [grpN, ← hG, hq]; rfl) (by rw [cut_old (by omega)]; exact hl) (by simp only [lenS, List.length_append, List.length_cons, List.length_nil]; omega) j3 j4 j5 j6 j7 j8 j9 j11 j12 j13 j14 j15 j16 j17 j18 j19 j20 j21 j22 j23 j24 j25 j26 j30 j31 j32 j33 j34 j35 j36 j37 j38 j39 j40 j41 j42 j43 j44 j45) _ _ _ _ _ _ _ _ _ _ _ _ _ _ _ _ _ _ _ _ _ _ _ _ _ _ _ _ _ _ _ _ _ _ _ _ _ _ _
      · exact st_2_1_1 g qs a (by omega) i h1 hq hn x0 x1 r8 K Q (fun j3 j4 j5 j6 j7 j8 j9 j11 j12 j13 j14 j15 j16 j17 j18 j19 j20 j21 j22 j23 j24 j25 j26 j30 j31 j32 j33 j34 j35 j36 j37 j38 j39 j40 j41 j42 j43 j44 j45 => ih (i + 1) (by omega) [a, [(i : Int)]] (by rw [grpN, ← hG, hq]; rfl) (by rw [cut_new (by omega)]; show 2 = _; omega) (by simp only [lenS, List.length_append, List.length_cons, List.length_nil]; omega) j3 j4 j5 j6 j7 j8 j9 j11 j12 j13 j14 j15 j16 j17 j18 j19 j20 j21 j22 j23 j24 j25 j26 j30 j31 j32 j33 j34 j35 j36 j37 j38 j39 j40 j41 j42 j43 j44 j45) _ _ _ _ _ _ _ _ _ _ _ _ _ _ _ _ _ _ _ _ _ _ _ _ _ _ _ _ _ _ _ _ _ _ _ _ _ _ _
    | [a, b], hG, hl, hs =>
      have hl2 : 2 = (cutN s ps qs i).length := hl
      simp only [lenS] at hs
      have hc : qs.getD i 0 = 0 ∨ qs.getD i 0 = 1 ∨ qs.getD i 0 = 2 := by omega
      rcases hc with hq | hq | hq
      · exact st_2_2_0 g qs a (by omega) b (by omega) i h1 hq hn x0 x1 r8 K Q (fun j3 j4 j5 j6 j7 j8 j9 j11 j12 j13 j14 j15 j16 j17 j18 j19 j20 j21 j22 j23 j24 j25 j26 j30 j31 j32 j33 j34 j35 j36 j37 j38 j39 j40 j41 j42 j43 j44 j45 => ih (i + 1) (by omega) [a ++ [(i : Int)], b] (by rw [grpN, ← hG, hq]; rfl) (by rw [cut_old (by omega)]; exact hl) (by simp only [lenS, List.length_append, List.length_cons, List.length_nil]; omega) j3 j4 j5 j6 j7 j8 j9 j11 j12 j13 j14 j15 j16 j17 j18 j19 j20 j21 j22 j23 j24 j25 j26 j30 j31 j32 j33 j34 j35 j36 j37 j38 j39 j40 j41 j42 j43 j44 j45) _ _ _ _ _ _ _ _ _ _ _ _ _ _ _ _ _ _ _ _ _ _ _ _ _ _ _ _ _ _ _ _ _ _ _ _ _ _ _
      · exact st_2_2_1 g qs a (by omega) b (by omega) i h1 hq hn x0 x1 r8 K Q (fun j3 j4 j5 j6 j7 j8 j9 j11 j12 j13 j14 j15 j16 j17 j18 j19 j20 j21 j22 j23 j24 j25 j26 j30 j31 j32 j33 j34 j35 j36 j37 j38 j39 j40 j41 j42 j43 j44 j45 => ih (i + 1) (by omega) [a, b ++ [(i : Int)]] (by rw [grpN, ← hG, hq]; rfl) (by rw [cut_old (by omega)]; exact hl) (by simp only [lenS, List.length_append, List.length_cons, List.length_nil]; omega) j3 j4 j5 j6 j7 j8 j9 j11 j12 j13 j14 j15 j16 j17 j18 j19 j20 j21 j22 j23 j24 j25 j26 j30 j31 j32 j33 j34 j35 j36 j37 j38 j39 j40 j41 j42 j43 j44 j45) _ _ _ _ _ _ _ _ _ _ _ _ _ _ _ _ _ _ _ _ _ _ _ _ _ _ _ _ _ _ _ _ _ _ _ _ _ _ _
      · have := cut_new (s := s) (ps := ps) (qs := qs) (i := i) (by omega)
        omega
    | a :: b :: y :: t, hG, hl, hs =>
      simp only [List.length_cons] at hl; omega
theorem gr_loop3 (s : Int) (g : Bool) (ps qs : List Int) (hn : qs.length ≤ 100) (x0 x1 : AV) (r8 : Nat × Option Ob) (hg : goodN s ps qs qs.length) (hN : (cutN s ps qs qs.length).length = 3) (K : List Fr) (Q : Out → Cfg → Prop)
    (hK : ∀ Gs : List (List Int), Gs = grpN qs qs.length → Gs.length = 3 → ∀ j3 j4 j5 j6 j7 j8 j9 j11 j12 j13 j14 j15 j16 j17 j18 j19 j20 j21 j22 j23 j24 j25 j26 j30 j31 j32 j33 j34 j35 j36 j37 j38 j39 j40 j41 j42 j43 j44 j45 : AV, W Tryd.prog (RelU Tryd.prog xf) 0 K ⟨(x0 :: x1 :: (al g qs) :: j3 :: j4 :: j5 :: j6 :: j7 :: j8 :: j9 :: (.os 26 1 3 1 0 3) :: j11 :: j12 :: j13 :: j14 :: j15 :: j16 :: j17 :: j18 :: j19 :: j20 :: j21 :: j22 :: j23 :: j24 :: j25 :: j26 :: (al g qs) :: (ai qs.length) :: (ai qs.length) :: j30 :: j31 :: j32 :: j33 :: j34 :: j35 :: j36 :: j37 :: j38 :: j39 :: j40 :: j41 :: j42 :: j43 :: j44 :: j45 :: []), (8, r8) :: (26, (1, some ⟨25, 1, padG 3 42 Gs⟩)) :: rowG 42 Gs⟩ Q) :
    ∀ (k i : Nat), i + k = qs.length → ∀ Gs : List (List Int), Gs = grpN qs i → Gs.length = (cutN s ps qs i).length → lenS Gs ≤ i → ∀ j3 j4 j5 j6 j7 j8 j9 j11 j12 j13 j14 j15 j16 j17 j18 j19 j20 j21 j22 j23 j24 j25 j26 j30 j31 j32 j33 j34 j35 j36 j37 j38 j39 j40 j41 j42 j43 j44 j45 : AV, W Tryd.prog (RelU Tryd.prog xf) 0 (.code (.loop xf9_L0) :: .blk 0 :: .stop :: K) ⟨(x0 :: x1 :: (al g qs) :: j3 :: j4 :: j5 :: j6 :: j7 :: j8 :: j9 :: (.os 26 1 3 1 0 3) :: j11 :: j12 :: j13 :: j14 :: j15 :: j16 :: j17 :: j18 :: j19 :: j20 :: j21 :: j22 :: j23 :: j24 :: j25 :: j26 :: (al g qs) :: (ai qs.length) :: (ai i) :: j30 :: j31 :: j32 :: j33 :: j34 :: j35 :: j36 :: j37 :: j38 :: j39 :: j40 :: j41 :: j42 :: j43 :: j44 :: j45 :: []), (8, r8) :: (26, (1, some ⟨25, 1, padG 3 42 Gs⟩)) :: rowG 42 Gs⟩ Q := by
  intro k
  induction k with
  | zero =>
    intro i hi Gs hG hl hs j3 j4 j5 j6 j7 j8 j9 j11 j12 j13 j14 j15 j16 j17 j18 j19 j20 j21 j22 j23 j24 j25 j26 j30 j31 j32 j33 j34 j35 j36 j37 j38 j39 j40 j41 j42 j43 j44 j45
    have : i = qs.length := by omega
    subst this
    have h0 : decide (qs.length < qs.length) = false := by simp
    have hk := hK Gs hG (by omega)
    generalize (8, r8) :: (26, (1, some (Ob.mk 25 1 (padG 3 42 Gs)))) :: rowG 42 Gs = H at *
    refine W_loop (W_run 80 ?_)
    simp only [go_some, go_none, go_zero, nxt_op, nxt_guard, nxt_skip, nxt_label, nxt_region, nxt_drawn, nxt_seq, nxt_block, nxt_scope, nxt_exit, nxt_blk, nxt_lp, nxt_cond, nxt_loop, nxt_ret, nxt_stop, nxt_nil, Eng.start, frG, frF, isCall, stp, exec1, exec1K, dK, Nat.reduceDiv, keyA, wantedA, stepF, stF_mv, stF_bin, stF_len, stF_un, stF_pick, stF_load, stF_iadr, stF_box, stF_fadr, stF_store, stF_ext, stF_fld, stF_idx, stF_aadr, stF_app, stF_bldS, stF_slc, stF_slcA, stF_bld, stF_isnil, stF_mki, stF_mkf, stF_mkb, stF_nilc, stF_mks, mapF_eq, evalF_eq, evalA, setAF, setA, setF_eq, putF_eq, lookF_eq, List.getD_cons_zero, List.getD_cons_succ, List.set_cons_zero, List.set_cons_succ, List.replicate, List.length_cons, List.length_nil, Nat.zero_add, Nat.reduceSub, Nat.reduceAdd, List.cons_append, List.nil_append, Option.getD, drop, Nat.beq, List.length_map, binV, binI, unV, if_true, Eng.asInt, Eng.part, cellsOf, toNat_cast, cast_nonneg, true_and, and_true, if_pos, giveOp, gvK, List.getElem?_cons_zero, List.getElem?_cons_succ, Bool.not_true, Bool.not_false, ofVal, eq_self, and_self, true_implies, dfF, touch, regF, quietF, pairOK, noCs, Go.Value.oneCell', decide_true, decide_false, Nat.mul_one, asBound, fullOf, Option.isSome_none, Option.isSome_some, Nat.zero_le, Bool.false_eq_true, false_implies, Int.cast_ofNat_Int, Int.reduceLT, Int.reduceLE, Int.reduceToNat, Nat.reduceMul, Int.le_refl, Eng.look, putAt, Nat.reduceEqDiff, reduceCtorEq, Nat.reduceBEq, if_false, List.all_cons, List.all_nil, tf_beq, ft_beq, lvSub, lvOK, isNone, width, solid, splice, List.take_zero, List.drop_zero, List.drop_nil, List.take_nil, List.drop_succ_cons, List.take_succ_cons, List.append_nil, beq_self_eq_true, Bool.and_true, Bool.true_and, Bool.and_self, ge_iff_le, gt_iff_lt, Nat.le_refl, Nat.reduceLeDiff, Nat.reduceLT, xf9_L0, ai, al, lt_cast, h0]
    exact W_stop (hk _ _ _ _ _ _ _ _ _ _ _ _ _ _ _ _ _ _ _ _ _ _ _ _ _ _ _ _ _ _ _ _ _ _ _ _ _ _ _)
  | succ k ih =>
    intro i hi Gs hG hl hs j3 j4 j5 j6 j7 j8 j9 j11 j12 j13 j14 j15 j16 j17 j18 j19 j20 j21 j22 j23 j24 j25 j26 j30 j31 j32 j33 j34 j35 j36 j37 j38 j39 j40 j41 j42 j43 j44 j45
    have h1 : i < qs.length := by omega
    obtain ⟨p1, p2⟩ := hg i h1
    have hmo := cut_mono (s := s) (ps := ps) (qs := qs) (i := i + 1) k
    rw [show i + 1 + k = qs.length by omega, hN] at hmo
    have hmo2 := cut_len (s := s) (ps := ps) (qs := qs) (i := i)
    match Gs, hG, hl, hs with
    | [], hG, hl, hs =>
      have hl2 : 0 = (cutN s ps qs i).length := hl
      simp only [lenS] at hs
      have hc : qs.getD i 0 = 0 := by omega
      have hq := hc
      · exact st_3_0_0 g qs i h1 hq hn x0 x1 r8 K Q (fun j3 j4 j5 j6 j7 j8 j9 j11 j12 j13 j14 j15 j16 j17 j18 j19 j20 j21 j22 j23 j24 j25 j26 j30 j31 j32 j33 j34 j35 j36 j37 j38 j39 j40 j41 j42 j43 j44 j45 => ih (i + 1) (by omega) [[(i : Int)]] (by rw [grpN, ← hG, hq]; rfl) (by rw [cut_new (by omega)]; show 1 = _; omega) (by simp only [lenS, List.length_append, List.length_cons, List.length_nil]; omega) j3 j4 j5 j6 j7 j8 j9 j11 j12 j13 j14 j15 j16 j17 j18 j19 j20 j21 j22 j23 j24 j25 j26 j30 j31 j32 j33 j34 j35 j36 j37 j38 j39 j40 j41 j42 j43 j44 j45) _ _ _ _ _ _ _ _ _ _ _ _ _ _ _ _ _ _ _ _ _ _ _ _ _ _ _ _ _ _ _ _ _ _ _ _ _ _ _
    | [a], hG, hl, hs =>
      have hl2 : 1 = (cutN s ps qs i).length := hl
      simp only [lenS] at hs
      have hc : qs.getD i 0 = 0 ∨ qs.getD i 0 = 1 := by omega
      rcases hc with hq | hq
      · exact st_3_1_0 g qs a (by omega) i h1 hq hn x0 x1 r8 K Q (fun j3 j4 j5 j6 j7 j8 j9 j11 j12 j13 j14 j15 j16 j17 j18 j19 j20 j21 j22 j23 j24 j25 j26 j30 j31 j32 j33 j34 j35 j36 j37 j38 j39 j40 j41 j42 j43 j44 j45 => ih (i + 1) (by omega) [a ++ [(i : Int)]] (by rw [grpN, ← hG, hq]; rfl) (by rw [cut_old (by omega)]; exact hl) (by simp only [lenS, List.length_append, List.length_cons, List.length_nil]; omega) j3 j4 j5 j6 j7 j8 j9 j11 j12 j13 j14 j15 j16 j17 j18 j19 j20 j21 j22 j23 j24 j25 j26 j30 j31 j32 j33 j34 j35 j36 j37 j38 j39 j40 j41 j42 j43 j44 j45) _ _ _ _ _ _ _ _ _ _ _ _ _ _ _ _ _ _ _ _ _ _ _ _ _ _ _ _ _ _ _ _ _ _ _ _ _ _ _
      · exact st_3_1_1 g qs a (by omega) i h1 hq hn x0 x1 r8 K Q (fun j3 j4 j5 j6 j7 j8 j9 j11 j12 j13 j14 j15 j16 j17 j18 j19 j20 j21 j22 j23 j24 j25 j26 j30 j31 j32 j33 j34 j35 j36 j37 j38 j39 j40 j41 j42 j43 j44 j45 => ih (i + 1) (by omega) [a, [(i : Int)]] (by rw [grpN, ← hG, hq]; rfl) (by rw [cut_new (by omega)]; show 2 = _; omega) (by simp only [lenS, List.length_append, List.length_cons, List.length_nil]; omega) j3 j4 j5 j6 j7 j8 j9 j11 j12 j13 j14 j15 j16 j17 j18 j19 j20 j21 j22 j23 j24 j25 j26 j30 j31 j32 j33 j34 j35 j36 j37 j38 j39 j40 j41 j42 j43 j44 j45) _ _ _ _ _ _ _ _ _ _ _ _ _ _ _ _ _ _ _ _ _ _ _ _ _ _ _ _ _ _ _ _ _ _ _ _ _ _ _
    | [a, b], hG, hl, hs =>
      have hl2 : 2 = (cutN s ps qs i).length := hl
      simp only [lenS] at hs
      have hc : qs.getD i 0 = 0 ∨ qs.getD i 0 = 1 ∨ qs.getD i 0 = 2 := by omega
      rcases hc with hq | hq | hq
      · exact st_3_2_0 g qs a (by omega) b (by omega) i h1 hq hn x0 x1 r8 K Q (fun j3 j4 j5 j6 j7 j8 j9 j11 j12 j13 j14 j15 j16 j17 j18 j19 j20 j21 j22 j23 j24 j25 j26 j30 j31 j32 j33 j34 j35 j36 j37 j38 j39 j40 j41 j42 j43 j44 j45 => ih (i + 1) (by omega) [a ++ [(i : Int)], b] (by rw [grpN, ← hG, hq]; rfl) (by rw [cut_old (by omega)]; exact hl) (by simp only [lenS, List.length_append, List.length_cons, List.length_nil]; omega) j3 j4 j5 j6 j7 j8 j9 j11 j12 j13 j14 j15 j16 j17 j18 j19 j20 j21 j22 j23 j24 j25 j26 j30 j31 j32 j33 j34 j35 j36 j37 j38 j39 j40 j41 j42 j43 j44 j45) _ _ _ _ _ _ _ _ _ _ _ _ _ _ _ _ _ _ _ _ _ _ _ _ _ _ _ _ _ _ _ _ _ _ _ _ _ _ _
      · exact st_3_2_1 g qs a (by omega) b (by omega) i h1 hq hn x0 x1 r8 K Q (fun j3 j4 j5 j6 j7 j8 j9 j11 j12 j13 j14 j15 j16 j17 j18 j19 j20 j21 j22 j23 j24 j25 j26 j30 j31 j32 j33 j34 j35 j36 j37 j38 j39 j40 j41 j42 j43 j44 j45 => ih (i + 1) (by omega) [a, b ++ [(i : Int)]] (by rw [grpN, ← hG, hq]; rfl) (by rw [cut_old (by omega)]; exact hl) (by simp only [lenS, List.length_append, List.length_cons, List.length_nil]; omega) j3 j4 j5 j6 j7 j8 j9 j11 j12 j13 j14 j15 j16 j17 j18 j19 j20 j21 j22 j23 j24 j25 j26 j30 j31 j32 j33 j34 j35 j36 j37 j38 j39 j40 j41 j42 j43 j44 j45) _ _ _ _ _ _ _ _ _ _ _ _ _ _ _ _ _ _ _ _ _ _ _ _ _ _ _ _ _ _ _ _ _ _ _ _ _ _ _
      · exact st_3_2_2 g qs a (by omega) b (by omega) i h1 hq hn x0 x1 r8 K Q (fun j3 j4 j5 j6 j7 j8 j9 j11 j12 j13 j14 j15 j16 j17 j18 j19 j20 j21 j22 j23 j24 j25 j26 j30 j31 j32 j33 j34 j35 j36 j37 j38 j39 j40 j41 j42 j43 j44 j45 => ih (i + 1) (by omega) [a, b, [(i : Int)]] (by rw [grpN, ← hG, hq]; rfl) (by rw [cut_new (by omega)]; show 3 = _; omega) (by simp only [lenS, List.length_append, List.length_cons, List.length_nil]; omega) j3 j4 j5 j6 j7 j8 j9 j11 j12 j13 j14 j15 j16 j17 j18 j19 j20 j21 j22 j23 j24 j25 j26 j30 j31 j32 j33 j34 j35 j36 j37 j38 j39 j40 j41 j42 j43 j44 j45) _ _ _ _ _ _ _ _ _ _ _ _ _ _ _ _ _ _ _ _ _ _ _ _ _ _ _ _ _ _ _ _ _ _ _ _ _ _ _
    | [a, b, c], hG, hl, hs =>
      have hl2 : 3 = (cutN s ps qs i).length := hl
      simp only [lenS] at hs
      have hc : qs.getD i 0 = 0 ∨ qs.getD i 0 = 1 ∨ qs.getD i 0 = 2 ∨ qs.getD i 0 = 3 := by omega
      rcases hc with hq | hq | hq | hq
      · exact st_3_3_0 g qs a (by omega) b (by omega) c (by omega) i h1 hq hn x0 x1 r8 K Q (fun j3 j4 j5 j6 j7 j8 j9 j11 j12 j13 j14 j15 j16 j17 j18 j19 j20 j21 j22 j23 j24 j25 j26 j30 j31 j32 j33 j34 j35 j36 j37 j38 j39 j40 j41 j42 j43 j44 j45 => ih (i + 1) (by omega) [a ++ [(i : Int)], b, c] (by rw [grpN, ← hG, hq]; rfl) (by rw [cut_old (by omega)]; exact hl) (by simp only [lenS, List.length_append, List.length_cons, List.length_nil]; omega) j3 j4 j5 j6 j7 j8 j9 j11 j12 j13 j14 j15 j16 j17 j18 j19 j20 j21 j22 j23 j24 j25 j26 j30 j31 j32 j33 j34 j35 j36 j37 j38 j39 j40 j41 j42 j43 j44 j45) _ _ _ _ _ _ _ _ _ _ _ _ _ _ _ _ _ _ _ _ _ _ _ _ _ _ _ _ _ _ _ _ _ _ _ _ _ _ _
      · exact st_3_3_1 g qs a (by omega) b (by omega) c (by omega) i h1 hq hn x0 x1 r8 K Q (fun j3 j4 j5 j6 j7 j8 j9 j11 j12 j13 j14 j15 j16 j17 j18 j19 j20 j21 j22 j23 j24 j25 j26 j30 j31 j32 j33 j34 j35 j36 j37 j38 j39 j40 j41 j42 j43 j44 j45 => ih (i + 1) (by omega) [a, b ++ [(i : Int)], c] (by rw [grpN, ← hG, hq]; rfl) (by rw [cut_old (by omega)]; exact hl) (by simp only [lenS, List.length_append, List.length_cons, List.length_nil]; omega) j3 j4 j5 j6 j7 j8 j9 j11 j12 j13 j14 j15 j16 j17 j18 j19 j20 j21 j22 j23 j24 j25 j26 j30 j31 j32 j33 j34 j35 j36 j37 j38 j39 j40 j41 j42 j43 j44 j45) _ _ _ _ _ _ _ _ _ _ _ _ _ _ _ _ _ _ _ _ _ _ _ _ _ _ _ _ _ _ _ _ _ _ _ _ _ _ _
      · exact st_3_3_2 g qs a (by omega) b (by omega) c (by omega) i h1 hq hn x0 x1 r8 K Q (fun j3 j4 j5 j6 j7 j8 j9 j11 j12 j13 j14 j15 j16 j17 j18 j19 j20 j21 j22 j23 j24 j25 j26 j30 j31 j32 j33 j34 j35 j36 j37 j38 j39 j40 j41 j42 j43 j44 j45 => ih (i + 1) (by omega) [a, b, c ++ [(i : Int)]] (by rw [grpN, ← hG, hq]; rfl) (by rw [cut_old (by omega)]; exact hl) (by simp only [lenS, List.length_append, List.length_cons, List.length_nil]; omega) j3 j4 j5 j6 j7 j8 j9 j11 j12 j13 j14 j15 j16 j17 j18 j19 j20 j21 j22 j23 j24 j25 j26 j30 j31 j32 j33 j34 j35 j36 j37 j38 j39 j40 j41 j42 j43 j44 j45) _ _ _ _ _ _ _ _ _ _ _ _ _ _ _ _ _ _ _ _ _ _ _ _ _ _ _ _ _ _ _ _ _ _ _ _ _ _ _
      · have := cut_new (s := s) (ps := ps) (qs := qs) (i := i) (by omega)
        omega
    | a :: b :: c :: y :: t, hG, hl, hs =>
      simp only [List.length_cons] at hl; omega
theorem gr_loop4 (s : Int) (g : Bool) (ps qs : List Int) (hn : qs.length ≤ 100) (x0 x1 : AV) (r8 : Nat × Option Ob) (hg : goodN s ps qs qs.length) (hN : (cutN s ps qs qs.length).length = 4) (K : List Fr) (Q : Out → Cfg → Prop)
    (hK : ∀ Gs : List (List Int), Gs = grpN qs qs.length → Gs.length = 4 → ∀ j3 j4 j5 j6 j7 j8 j9 j11 j12 j13 j14 j15 j16 j17 j18 j19 j20 j21 j22 j23 j24 j25 j26 j30 j31 j32 j33 j34 j35 j36 j37 j38 j39 j40 j41 j42 j43 j44 j45 : AV, W Tryd.prog (RelU Tryd.prog xf) 0 K ⟨(x0 :: x1 :: (al g qs) :: j3 :: j4 :: j5 :: j6 :: j7 :: j8 :: j9 :: (.os 26 1 4 1 0 4) :: j11 :: j12 :: j13 :: j14 :: j15 :: j16 :: j17 :: j18 :: j19 :: j20 :: j21 :: j22 :: j23 :: j24 :: j25 :: j26 :: (al g qs) :: (ai qs.length) :: (ai qs.length) :: j30 :: j31 :: j32 :: j33 :: j34 :: j35 :: j36 :: j37 :: j38 :: j39 :: j40 :: j41 :: j42 :: j43 :: j44 :: j45 :: []), (8, r8) :: (26, (1, some ⟨25, 1, padG 4 42 Gs⟩)) :: rowG 42 Gs⟩ Q) :
    ∀ (k i : Nat), i + k = qs.length → ∀ Gs : List (List Int), Gs = grpN qs i → Gs.length = (cutN s ps qs i).length → lenS Gs ≤ i → ∀ j3 j4 j5 j6 j7 j8 j9 j11 j12 j13 j14 j15 j16 j17 j18 j19 j20 j21 j22 j23 j24 j25 j26 j30 j31 j32 j33 j34 j35 j36 j37 j38 j39 j40 j41 j42 j43 j44 j45 : AV, W Tryd.prog (RelU Tryd.prog xf) 0 (.code (.loop xf9_L0) :: .blk 0 :: .stop :: K) ⟨(x0 :: x1 :: (al g qs) :: j3 :: j4 :: j5 :: j6 :: j7 :: j8 :: j9 :: (.os 26 1 4 1 0 4) :: j11 :: j12 :: j13 :: j14 :: j15 :: j16 :: j17 :: j18 :: j19 :: j20 :: j21 :: j22 :: j23 :: j24 :: j25 :: j26 :: (al g qs) :: (ai qs.length) :: (ai i) :: j30 :: j31 :: j32 :: j33 :: j34 :: j35 :: j36 :: j37 :: j38 :: j39 :: j40 :: j41 :: j42 :: j43 :: j44 :: j45 :: []), (8, r8) :: (26, (1, some ⟨25, 1, padG 4 42 Gs⟩)) :: rowG 42 Gs⟩ Q := by
  intro k
  induction k with
  | zero =>
    intro i hi Gs hG hl hs j3 j4 j5 j6 j7 j8 j9 j11 j12 j13 j14 j15 j16 j17 j18 j19 j20 j21 j22 j23 j24 j25 j26 j30 j31 j32 j33 j34 j35 j36 j37 j38 j39 j40 j41 j42 j43 j44 j45
    have : i = qs.length := by omega
    subst this
    have h0 : decide (qs.length < qs.length) = false := by simp
    have hk := hK Gs hG (by omega)
    generalize (8, r8) :: (26, (1, some (Ob.mk 25 1 (padG 4 42 Gs)))) :: rowG 42 Gs = H at *
    refine W_loop (W_run 80 ?_)
    simp only [go_some, go_none, go_zero, nxt_op, nxt_guard, nxt_skip, nxt_label, nxt_region, nxt_drawn, nxt_seq, nxt_block, nxt_scope, nxt_exit, nxt_blk, nxt_lp, nxt_cond, nxt_loop, nxt_ret, nxt_stop, nxt_nil, Eng.start, frG, frF, isCall, stp, exec1, exec1K, dK, Nat.reduceDiv, keyA, wantedA, stepF, stF_mv, stF_bin, stF_len, stF_un, stF_pick, stF_load, stF_iadr, stF_box, stF_fadr, stF_store, stF_ext, stF_fld, stF_idx, stF_aadr, stF_app, stF_bldS, stF_slc, stF_slcA, stF_bld, stF_isnil, stF_mki, stF_mkf, stF_mkb, stF_nilc, stF_mks, mapF_eq, evalF_eq, evalA, setAF, setA, setF_eq, putF_eq, lookF_eq, List.getD_cons_zero, List.getD_cons_succ, List.set_cons_zero, List.set_cons_succ, List.replicate, List.length_cons, List.length_nil, Nat.zero_add, Nat.reduceSub, Nat.reduceAdd, List.cons_append, List.nil_append, Option.getD, drop, Nat.beq, List.length_map, binV, binI, unV, if_true, Eng.asInt, Eng.part, cellsOf, toNat_cast, cast_nonneg, true_and, and_true, if_pos, giveOp, gvK, List.getElem?_cons_zero, List.getElem?_cons_succ, Bool.not_true, Bool.not_false, ofVal, eq_self, and_self, true_implies, dfF, touch, regF, quietF, pairOK, noCs, Go.Value.oneCell', decide_true, decide_false, Nat.mul_one, asBound, fullOf, Option.isSome_none, Option.isSome_some, Nat.zero_le, Bool.false_eq_true, false_implies, Int.cast_ofNat_Int, Int.reduceLT, Int.reduceLE, Int.reduceToNat, Nat.reduceMul, Int.le_refl, Eng.look, putAt, Nat.reduceEqDiff, reduceCtorEq, Nat.reduceBEq, if_false, List.all_cons, List.all_nil, tf_beq, ft_beq, lvSub, lvOK, isNone, width, solid, splice, List.take_zero, List.drop_zero, List.drop_nil, List.take_nil, List.drop_succ_cons, List.take_succ_cons, List.append_nil, beq_self_eq_true, Bool.and_true, Bool.true_and, Bool.and_self, ge_iff_le, gt_iff_lt, Nat.le_refl, Nat.reduceLeDiff, Nat.reduceLT, xf9_L0, ai, al, lt_cast, h0]
    exact W_stop (hk _ _ _ _ _ _ _ _ _ _ _ _ _ _ _ _ _ _ _ _ _ _ _ _ _ _ _ _ _ _ _ _ _ _ _ _ _ _ _)
  | succ k ih =>
    intro i hi Gs hG hl hs j3 j4 j5 j6 j7 j8 j9 j11 j12 j13 j14 j15 j16 j17 j18 j19 j20 j21 j22 j23 j24 j25 j26 j30 j31 j32 j33 j34 j35 j36 j37 j38 j39 j40 j41 j42 j43 j44 j45
    have h1 : i < qs.length := by omega
    obtain ⟨p1, p2⟩ := hg i h1
    have hmo := cut_mono (s := s) (ps := ps) (qs := qs) (i := i + 1) k
    rw [show i + 1 + k = qs.length by omega, hN] at hmo
    have hmo2 := cut_len (s := s) (ps := ps) (qs := qs) (i := i)
    match Gs, hG, hl, hs with
    | [], hG, hl, hs =>
      have hl2 : 0 = (cutN s ps qs i).length := hl
      simp only [lenS] at hs
      have hc : qs.getD i 0 = 0 := by omega
      have hq := hc
      · exact st_4_0_0 g qs i h1 hq hn x0 x1 r8 K Q (fun j3 j4 j5 j6 j7 j8 j9 j11 j12 j13 j14 j15 j16 j17 j18 j19 j20 j21 j22 j23 j24 j25 j26 j30 j31 j32 j33 j34 j35 j36 j37 j38 j39 j40 j41 j42 j43 j44 j45 => ih (i + 1) (by omega) [[(i : Int)]] (by rw [grpN, ← hG, hq]; rfl) (by rw [cut_new (by omega)]; show 1 = _; omega) (by simp only [lenS, List.length_append, List.length_cons, List.length_nil]; omega) j3 j4 j5 j6 j7 j8 j9 j11 j12 j13 j14 j15 j16 j17 j18 j19 j20 j21 j22 j23 j24 j25 j26 j30 j31 j32 j33 j34 j35 j36 j37 j38 j39 j40 j41 j42 j43 j44 j45) _ _ _ _ _ _ _ _ _ _ _ _ _ _ _ _ _ _ _ _ _ _ _ _ _ _ _ _ _ _ _ _ _ _ _ _ _ _ _
    | [a], hG, hl, hs =>
      have hl2 : 1 = (cutN s ps qs i).length := hl
      simp only [lenS] at hs
      have hc : qs.getD i 0 = 0 ∨ qs.getD i 0 = 1 := by omega
      rcases hc with hq | hq
      · exact st_4_1_0 g qs a (by omega) i h1 hq hn x0 x1 r8 K Q (fun j3 j4 j5 j6 j7 j8 j9 j11 j12 j13 j14 j15 j16 j17 j18 j19 j20 j21 j22 j23 j24 j25 j26 j30 j31 j32 j33 j34 j35 j36 j37 j38 j39 j40 j41 j42 j43 j44 j45 => ih (i + 1) (by omega) [a ++ [(i : Int)]] (by rw [grpN, ← hG, hq]; rfl) (by rw [cut_old (by omega)]; exact hl) (by simp only [lenS, List.length_append, List.length_cons, List.length_nil]; omega) j3 j4 j5 j6 j7 j8 j9 j11 j12 j13 j14 j15 j16 j17 j18 j19 j20 j21 j22 j23 j24 j25 j26 j30 j31 j32 j33 j34 j35 j36 j37 j38 j39 j40 j41 j42 j43 j44 j45) _ _ _ _ _ _ _ _ _ _ _ _ _ _ _ _ _ _ _ _ _ _ _ _ _ _ _ _ _ _ _ _ _ _ _ _ _ _ _
      · exact st_4_1_1 g qs a (by omega) i h1 hq hn x0 x1 r8 K Q (fun j3 j4 j5 j6 j7 j8 j9 j11 j12 j13 j14 j15 j16 j17 j18 j19 j20 j21 j22 j23 j24 j25 j26 j30 j31 j32 j33 j34 j35 j36 j37 j38 j39 j40 j41 j42 j43 j44 j45 => ih (i + 1) (by omega) [a, [(i : Int)]] (by rw [grpN, ← hG, hq]; rfl) (by rw [cut_new (by omega)]; show 2 = _; omega) (by simp only [lenS, List.length_append, List.length_cons, List.length_nil]; omega) j3 j4 j5 j6 j7 j8 j9 j11 j12 j13 j14 j15 j16 j17 j18 j19 j20 j21 j22 j23 j24 j25 j26 j30 j31 j32 j33 j34 j35 j36 j37 j38 j39 j40 j41 j42 j43 j44 j45) _ _ _ _ _ _ _ _ _ _ _ _ _ _ _ _ _ _ _ _ _ _ _ _ _ _ _ _ _ _ _ _ _ _ _ _ _ _ _
    | [a, b], hG, hl, hs =>
      have hl2 : 2 = (cutN s ps qs i).length := hl
      simp only [lenS] at hs
      have hc : qs.getD i 0 = 0 ∨ qs.getD i 0 = 1 ∨ qs.getD i 0 = 2 := by omega
      rcases hc with hq | hq | hq
      · exact st_4_2_0 g qs a (by omega) b (by omega) i h1 hq hn x0 x1 r8 K Q (fun j3 j4 j5 j6 j7 j8 j9 j11 j12 j13 j14 j15 j16 j17 j18 j19 j20 j21 j22 j23 j24 j25 j26 j30 j31 j32 j33 j34 j35 j36 j37 j38 j39 j40 j41 j42 j43 j44 j45 => ih (i + 1) (by omega) [a ++ [(i : Int)], b] (by rw [grpN, ← hG, hq]; rfl) (by rw [cut_old (by omega)]; exact hl) (by simp only [lenS, List.length_append, List.length_cons, List.length_nil]; omega) j3 j4 j5 j6 j7 j8 j9 j11 j12 j13 j14 j15 j16 j17 j18 j19 j20 j21 j22 j23 j24 j25 j26 j30 j31 j32 j33 j34 j35 j36 j37 j38 j39 j40 j41 j42 j43 j44 j45) _ _ _ _ _ _ _ _ _ _ _ _ _ _ _ _ _ _ _ _ _ _ _ _ _ _ _ _ _ _ _ _ _ _ _ _ _ _ _
      · exact st_4_2_1 g qs a (by omega) b (by omega) i h1 hq hn x0 x1 r8 K Q (fun j3 j4 j5 j6 j7 j8 j9 j11 j12 j13 j14 j15 j16 j17 j18 j19 j20 j21 j22 j23 j24 j25 j26 j30 j31 j32 j33 j34 j35 j36 j37 j38 j39 j40 j41 j42 j43 j44 j45 => ih (i + 1) (by omega) [a, b ++ [(i : Int)]] (by rw [grpN, ← hG, hq]; rfl) (by rw [cut_old (by omega)]; exact hl) (by simp only [lenS, List.length_append, List.length_cons, List.length_nil]; omega) j3 j4 j5 j6 j7 j8 j9 j11 j12 j13 j14 j15 j16 j17 j18 j19 j20 j21 j22 j23 j24 j25 j26 j30 j31 j32 j33 j34 j35 j36 j37 j38 j39 j40 j41 j42 j43 j44 j45) _ _ _ _ _ _ _ _ _ _ _ _ _ _ _ _ _ _ _ _ _ _ _ _ _ _ _ _ _ _ _ _ _ _ _ _ _ _ _
      · exact st_4_2_2 g qs a (by omega) b (by omega) i h1 hq hn x0 x1 r8 K Q (fun j3 j4 j5 j6 j7 j8 j9 j11 j12 j13 j14 j15 j16 j17 j18 j19 j20 j21 j22 j23 j24 j25 j26 j30 j31 j32 j33 j34 j35 j36 j37 j38 j39 j40 j41 j42 j43 j44 j45 => ih (i + 1) (by omega) [a, b, [(i : Int)]] (by rw [grpN, ← hG, hq]; rfl) (by rw [cut_new (by omega)]; show 3 = _; omega) (by simp only [lenS, List.length_append, List.length_cons, List.length_nil]; omega) j3 j4 j5 j6 j7 j8 j9 j11 j12 j13 j14 j15 j16 j17 j18 j19 j20 j21 j22 j23 j24 j25 j26 j30 j31 j32 j33 j34 j35 j36 j37 j38 j39 j40 j41 j42 j43 j44 j45) _ _ _ _ _ _ _ _ _ _ _ _ _ _ _ _ _ _ _ _ _ _ _ _ _ _ _ _ _ _ _ _ _ _ _ _ _ _ _
    | [a, b, c], hG, hl, hs =>
      have hl2 : 3 = (cutN s ps qs i).length := hl
      simp only [lenS] at hs
      have hc : qs.getD i 0 = 0 ∨ qs.getD i 0 = 1 ∨ qs.getD i 0 = 2 ∨ qs.getD i 0 = 3 := by omega
      rcases hc with hq | hq | hq | hq
      · exact st_4_3_0 g qs a (by omega) b (by omega) c (by omega) i h1 hq hn x0 x1 r8 K Q (fun j3 j4 j5 j6 j7 j8 j9 j11 j12 j13 j14 j15 j16 j17 j18 j19 j20 j21 j22 j23 j24 j25 j26 j30 j31 j32 j33 j34 j35 j36 j37 j38 j39 j40 j41 j42 j43 j44 j45 => ih (i + 1) (by omega) [a ++ [(i : Int)], b, c] (by rw [grpN, ← hG, hq]; rfl) (by rw [cut_old (by omega)]; exact hl) (by simp only [lenS, List.length_append, List.length_cons, List.length_nil]; omega) j3 j4 j5 j6 j7 j8 j9 j11 j12 j13 j14 j15 j16 j17 j18 j19 j20 j21 j22 j23 j24 j25 j26 j30 j31 j32 j33 j34 j35 j36 j37 j38 j39 j40 j41 j42 j43 j44 j45) _ _ _ _ _ _ _ _ _ _ _ _ _ _ _ _ _ _ _ _ _ _ _ _ _ _ _ _ _ _ _ _ _ _ _ _ _ _ _
      · exact st_4_3_1 g qs a (by omega) b (by omega) c (by omega) i h1 hq hn x0 x1 r8 K Q (fun j3 j4 j5 j6 j7 j8 j9 j11 j12 j13 j14 j15 j16 j17 j18 j19 j20 j21 j22 j23 j24 j25 j26 j30 j31 j32 j33 j34 j35 j36 j37 j38 j39 j40 j41 j42 j43 j44 j45 => ih (i + 1) (by omega) [a, b ++ [(i : Int)], c] (by rw [grpN, ← hG, hq]; rfl) (by rw [cut_old (by omega)]; exact hl) (by simp only [lenS, List.length_append, List.length_cons, List.length_nil]; omega) j3 j4 j5 j6 j7 j8 j9 j11 j12 j13 j14 j15 j16 j17 j18 j19 j20 j21 j22 j23 j24 j25 j26 j30 j31 j32 j33 j34 j35 j36 j37 j38 j39 j40 j41 j42 j43 j44 j45) _ _ _ _ _ _ _ _ _ _ _ _ _ _ _ _ _ _ _ _ _ _ _ _ _ _ _ _ _ _ _ _ _ _ _ _ _ _ _
      · exact st_4_3_2 g qs a (by omega) b (by omega) c (by omega) i h1 hq hn x0 x1 r8 K Q (fun j3 j4 j5 j6 j7 j8 j9 j11 j12 j13 j14 j15 j16 j17 j18 j19 j20 j21 j22 j23 j24 j25 j26 j30 j31 j32 j33 j34 j35 j36 j37 j38 j39 j40 j41 j42 j43 j44 j45 => ih (i + 1) (by omega) [a, b, c ++ [(i : Int)]] (by rw [grpN, ← hG, hq]; rfl) (by rw [cut_old (by omega)]; exact hl) (by simp only [lenS, List.length_append, List.length_cons, List.length_nil]; omega) j3 j4 j5 j6 j7 j8 j9 j11 j12 j13 j14 j15 j16 j17 j18 j19 j20 j21 j22 j23 j24 j25 j26 j30 j31 j32 j33 j34 j35 j36 j37 j38 j39 j40 j41 j42 j43 j44 j45) _ _ _ _ _ _ _ _ _ _ _ _ _ _ _ _ _ _ _ _ _ _ _ _ _ _ _ _ _ _ _ _ _ _ _ _ _ _ _
      · exact st_4_3_3 g qs a (by omega) b (by omega) c (by omega) i h1 hq hn x0 x1 r8 K Q (fun j3 j4 j5 j6 j7 j8 j9 j11 j12 j13 j14 j15 j16 j17 j18 j19 j20 j21 j22 j23 j24 j25 j26 j30 j31 j32 j33 j34 j35 j36 j37 j38 j39 j40 j41 j42 j43 j44 j45 => ih (i + 1) (by omega) [a, b, c, [(i : Int)]] (by rw [grpN, ← hG, hq]; rfl) (by rw [cut_new (by omega)]; show 4 = _; omega) (by simp only [lenS, List.length_append, List.length_cons, List.length_nil]; omega) j3 j4 j5 j6 j7 j8 j9 j11 j12 j13 j14 j15 j16 j17 j18 j19 j20 j21 j22 j23 j24 j25 j26 j30 j31 j32 j33 j34 j35 j36 j37 j38 j39 j40 j41 j42 j43 j44 j45) _ _ _ _ _ _ _ _ _ _ _ _ _ _ _ _ _ _ _ _ _ _ _ _ _ _ _ _ _ _ _ _ _ _ _ _ _ _ _
    | [a, b, c, d], hG, hl, hs =>
      have hl2 : 4 = (cutN s ps qs i).length := hl
      simp only [lenS] at hs
      have hc : qs.getD i 0 = 0 ∨ qs.getD i 0 = 1 ∨ qs.getD i 0 = 2 ∨ qs.getD i 0 = 3 ∨ qs.getD i 0 = 4 := by omega
      rcases hc with hq | hq | hq | hq | hq
      · exact st_4_4_0 g qs a (by omega) b (by omega) c (by omega) d (by omega) i h1 hq hn x0 x1 r8 K Q (fun j3 j4 j5 j6 j7 j8 j9 j11 j12 j13 j14 j15 j16 j17 j18 j19 j20 j21 j22 j23 j24 j25 j26 j30 j31 j32 j33 j34 j35 j36 j37 j38 j39 j40 j41 j42 j43 j44 j45 => ih (i + 1) (by omega) [a ++ [(i : Int)], b, c, d] (by rw [grpN, ← hG, hq]; rfl) (by rw [cut_old (by omega)]; exact hl) (by simp only [lenS, List.length_append, List.length_cons, List.length_nil]; omega) j3 j4 j5 j6 j7 j8 j9 j11 j12 j13 j14 j15 j16 j17 j18 j19 j20 j21 j22 j23 j24 j25 j26 j30 j31 j32 j33 j34 j35 j36 j37 j38 j39 j40 j41 j42 j43 j44 j45) _ _ _ _ _ _ _ _ _ _ _ _ _ _ _ _ _ _ _ _ _ _ _ _ _ _ _ _ _ _ _ _ _ _ _ _ _ _ _
      · exact st_4_4_1 g qs a (by omega) b (by omega) c (by omega) d (by omega) i h1 hq hn x0 x1 r8 K Q (fun j3 j4 j5 j6 j7 j8 j9 j11 j12 j13 j14 j15 j16 j17 j18 j19 j20 j21 j22 j23 j24 j25 j26 j30 j31 j32 j33 j34 j35 j36 j37 j38 j39 j40 j41 j42 j43 j44 j45 => ih (i + 1) (by omega) [a, b ++ [(i : Int)], c, d] (by rw [grpN, ← hG, hq]; rfl) (by rw [cut_old (by omega)]; exact hl) (by simp only [lenS, List.length_append, List.length_cons, List.length_nil]; omega) j3 j4 j5 j6 j7 j8 j9 j11 j12 j13 j14 j15 j16 j17 j18 j19 j20 j21 j22 j23 j24 j25 j26 j30 j31 j32 j33 j34 j35 j36 j37 j38 j39 j40 j41 j42 j43 j44 j45) _ _ _ _ _ _ _ _ _ _ _ _ _ _ _ _ _ _ _ _ _ _ _ _ _ _ _ _ _ _ _ _ _ _ _ _ _ _ _
      · exact st_4_4_2 g qs a (by omega) b (by omega) c (by omega) d (by omega) i h1 hq hn x0 x1 r8 K Q (fun j3 j4 j5 j6 j7 j8 j9 j11 j12 j13 j14 j15 j16 j17 j18 j19 j20 j21 j22 j23 j24 j25 j26 j30 j31 j32 j33 j34 j35 j36 j37 j38 j39 j40 j41 j42 j43 j44 j45 => ih (i + 1) (by omega) [a, b, c ++ [(i : Int)], d] (by rw [grpN, ← hG, hq]; rfl) (by rw [cut_old (by omega)]; exact hl) (by simp only [lenS, List.length_append, List.length_cons, List.length_nil]; omega) j3 j4 j5 j6 j7 j8 j9 j11 j12 j13 j14 j15 j16 j17 j18 j19 j20 j21 j22 j23 j24 j25 j26 j30 j31 j32 j33 j34 j35 j36 j37 j38 j39 j40 j41 j42 j43 j44 j45) _ _ _ _ _ _ _ _ _ _ _ _ _ _ _ _ _ _ _ _ _ _ _ _ _ _ _ _ _ _ _ _ _ _ _ _ _ _ _
      · exact st_4_4_3 g qs a (by omega) b (by omega) c (by omega) d (by omega) i h1 hq hn x0 x1 r8 K Q (fun j3 j4 j5 j6 j7 j8 j9 j11 j12 j13 j14 j15 j16 j17 j18 j19 j20 j21 j22 j23 j24 j25 j26 j30 j31 j32 j33 j34 j35 j36 j37 j38 j39 j40 j41 j42 j43 j44 j45 => ih (i + 1) (by omega) [a, b, c, d ++ [(i : Int)]] (by rw [grpN, ← hG, hq]; rfl) (by rw [cut_old (by omega)]; exact hl) (by simp only [lenS, List.length_append, List.length_cons, List.length_nil]; omega) j3 j4 j5 j6 j7 j8 j9 j11 j12 j13 j14 j15 j16 j17 j18 j19 j20 j21 j22 j23 j24 j25 j26 j30 j31 j32 j33 j34 j35 j36 j37 j38 j39 j40 j41 j42 j43 j44 j45) _ _ _ _ _ _ _ _ _ _ _ _ _ _ _ _ _ _ _ _ _ _ _ _ _ _ _ _ _ _ _ _ _ _ _ _ _ _ _
      · have := cut_new (s := s) (ps := ps) (qs := qs) (i := i) (by omega)
        omega
    | a :: b :: c :: d :: y :: t, hG, hl, hs =>
      simp only [List.length_cons] at hl; omega
theorem reify_g1 (a : List Int) (r8 : Nat × Option Ob) : reify ((8, r8) :: (26, (1, some ⟨25, 1, padG 1 42 [a]⟩)) :: rowG 42 [a]) 20 (.tup [.os 26 1 1 1 0 1, ai 0]) = some (.tup [.sl 1 false [al false a], ai 0]) := by
  generalize hH : (8, r8) :: (26, (1, some (Ob.mk 25 1 (padG 1 42 [a])))) :: rowG 42 [a] = H
  have ra : elemR (reify H 18) (.os 42 1 a.length 1 0 a.length) = some (al false a) := by
    have e : Go.Proofs.Eng.look H 42 = (1, some ⟨3, 1, a.map ai⟩) := by subst hH; rfl
    exact reify_os (η := H) (α := Int) (f := ai) (l := a) (k := 42) (s := 1) (g := 1) (n := 17) (e := 3) (elem_ai _ 16) e
  have hm : [AV.os 42 1 a.length 1 0 a.length].mapM (elemR (reify H 18)) = some [al false a] := by
    rw [List.mapM_cons, ra]; rfl
  have h26 : reify H 19 (.os 26 1 1 1 0 1) = some (.sl 1 false [al false a]) := by
    have e : Go.Proofs.Eng.look H 26 = (1, some ⟨25, 1, [AV.os 42 1 a.length 1 0 a.length]⟩) := by subst hH; rfl
    rw [reify, e]
    simp only [List.length_cons, List.length_nil, Nat.zero_add, Nat.reduceAdd, and_self, Nat.le_refl, if_true, List.drop_zero, List.take_succ_cons, List.take_zero, hm, Option.map_some]
  show ([AV.os 26 1 1 1 0 1, ai 0].mapM (reify H 19)).map AV.tup = _
  rw [List.mapM_cons, h26]; rfl
theorem reify_g2 (a b : List Int) (r8 : Nat × Option Ob) : reify ((8, r8) :: (26, (1, some ⟨25, 1, padG 2 42 [a, b]⟩)) :: rowG 42 [a, b]) 20 (.tup [.os 26 1 2 1 0 2, ai 0]) = some (.tup [.sl 1 false [al false a, al false b], ai 0]) := by
  generalize hH : (8, r8) :: (26, (1, some (Ob.mk 25 1 (padG 2 42 [a, b])))) :: rowG 42 [a, b] = H
  have ra : elemR (reify H 18) (.os 42 1 a.length 1 0 a.length) = some (al false a) := by
    have e : Go.Proofs.Eng.look H 42 = (1, some ⟨3, 1, a.map ai⟩) := by subst hH; rfl
    exact reify_os (η := H) (α := Int) (f := ai) (l := a) (k := 42) (s := 1) (g := 1) (n := 17) (e := 3) (elem_ai _ 16) e
  have rb : elemR (reify H 18) (.os 100042 1 b.length 1 0 b.length) = some (al false b) := by
    have e : Go.Proofs.Eng.look H 100042 = (1, some ⟨3, 1, b.map ai⟩) := by subst hH; rfl
    exact reify_os (η := H) (α := Int) (f := ai) (l := b) (k := 100042) (s := 1) (g := 1) (n := 17) (e := 3) (elem_ai _ 16) e
  have hm : [AV.os 42 1 a.length 1 0 a.length, AV.os 100042 1 b.length 1 0 b.length].mapM (elemR (reify H 18)) = some [al false a, al false b] := by
    rw [List.mapM_cons, ra, List.mapM_cons, rb]; rfl
  have h26 : reify H 19 (.os 26 1 2 1 0 2) = some (.sl 1 false [al false a, al false b]) := by
    have e : Go.Proofs.Eng.look H 26 = (1, some ⟨25, 1, [AV.os 42 1 a.length 1 0 a.length, AV.os 100042 1 b.length 1 0 b.length]⟩) := by subst hH; rfl
    rw [reify, e]
    simp only [List.length_cons, List.length_nil, Nat.zero_add, Nat.reduceAdd, and_self, Nat.le_refl, if_true, List.drop_zero, List.take_succ_cons, List.take_zero, hm, Option.map_some]
  show ([AV.os 26 1 2 1 0 2, ai 0].mapM (reify H 19)).map AV.tup = _
  rw [List.mapM_cons, h26]; rfl
theorem reify_g3 (a b c : List Int) (r8 : Nat × Option Ob) : reify ((8, r8) :: (26, (1, some ⟨25, 1, padG 3 42 [a, b, c]⟩)) :: rowG 42 [a, b, c]) 20 (.tup [.os 26 1 3 1 0 3, ai 0]) = some (.tup [.sl 1 false [al false a, al false b, al false c], ai 0]) := by
  generalize hH : (8, r8) :: (26, (1, some (Ob.mk 25 1 (padG 3 42 [a, b, c])))) :: rowG 42 [a, b, c] = H
  have ra : elemR (reify H 18) (.os 42 1 a.length 1 0 a.length) = some (al false a) := by
    have e : Go.Proofs.Eng.look H 42 = (1, some ⟨3, 1, a.map ai⟩) := by subst hH; rfl
    exact reify_os (η := H) (α := Int) (f := ai) (l := a) (k := 42) (s := 1) (g := 1) (n := 17) (e := 3) (elem_ai _ 16) e
  have rb : elemR (reify H 18) (.os 100042 1 b.length 1 0 b.length) = some (al false b) := by
    have e : Go.Proofs.Eng.look H 100042 = (1, some ⟨3, 1, b.map ai⟩) := by subst hH; rfl
    exact reify_os (η := H) (α := Int) (f := ai) (l := b) (k := 100042) (s := 1) (g := 1) (n := 17) (e := 3) (elem_ai _ 16) e
  have rc : elemR (reify H 18) (.os 200042 1 c.length 1 0 c.length) = some (al false c) := by
    have e : Go.Proofs.Eng.look H 200042 = (1, some ⟨3, 1, c.map ai⟩) := by subst hH; rfl
    exact reify_os (η := H) (α := Int) (f := ai) (l := c) (k := 200042) (s := 1) (g := 1) (n := 17) (e := 3) (elem_ai _ 16) e
  have hm : [AV.os 42 1 a.length 1 0 a.length, AV.os 100042 1 b.length 1 0 b.length, AV.os 200042 1 c.length 1 0 c.length].mapM (elemR (reify H 18)) = some [al false a, al false b, al false c] := by
    rw [List.mapM_cons, ra, List.mapM_cons, rb, List.mapM_cons, rc]; rfl
  have h26 : reify H 19 (.os 26 1 3 1 0 3) = some (.sl 1 false [al false a, al false b, al false c]) := by
    have e : Go.Proofs.Eng.look H 26 = (1, some ⟨25, 1, [AV.os 42 1 a.length 1 0 a.length, AV.os 100042 1 b.length 1 0 b.length, AV.os 200042 1 c.length 1 0 c.length]⟩) := by subst hH; rfl
    rw [reify, e]
    simp only [List.length_cons, List.length_nil, Nat.zero_add, Nat.reduceAdd, and_self, Nat.le_refl, if_true, List.drop_zero, List.take_succ_cons, List.take_zero, hm, Option.map_some]
  show ([AV.os 26 1 3 1 0 3, ai 0].mapM (reify H 19)).map AV.tup = _
  rw [List.mapM_cons, h26]; rfl
theorem reify_g4 (a b c d : List Int) (r8 : Nat × Option Ob) : reify ((8, r8) :: (26, (1, some ⟨25, 1, padG 4 42 [a, b, c, d]⟩)) :: rowG 42 [a, b, c, d]) 20 (.tup [.os 26 1 4 1 0 4, ai 0]) = some (.tup [.sl 1 false [al false a, al false b, al false c, al false d], ai 0]) := by
  generalize hH : (8, r8) :: (26, (1, some (Ob.mk 25 1 (padG 4 42 [a, b, c, d])))) :: rowG 42 [a, b, c, d] = H
  have ra : elemR (reify H 18) (.os 42 1 a.length 1 0 a.length) = some (al false a) := by
    have e : Go.Proofs.Eng.look H 42 = (1, some ⟨3, 1, a.map ai⟩) := by subst hH; rfl
    exact reify_os (η := H) (α := Int) (f := ai) (l := a) (k := 42) (s := 1) (g := 1) (n := 17) (e := 3) (elem_ai _ 16) e
  have rb : elemR (reify H 18) (.os 100042 1 b.length 1 0 b.length) = some (al false b) := by
    have e : Go.Proofs.Eng.look H 100042 = (1, some ⟨3, 1, b.map ai⟩) := by subst hH; rfl
    exact reify_os (η := H) (α := Int) (f := ai) (l := b) (k := 100042) (s := 1) (g := 1) (n := 17) (e := 3) (elem_ai _ 16) e
  have rc : elemR (reify H 18) (.os 200042 1 c.length 1 0 c.length) = some (al false c) := by
    have e : Go.Proofs.Eng.look H 200042 = (1, some ⟨3, 1, c.map ai⟩) := by subst hH; rfl
    exact reify_os (η := H) (α := Int) (f := ai) (l := c) (k := 200042) (s := 1) (g := 1) (n := 17) (e := 3) (elem_ai _ 16) e
  have rd : elemR (reify H 18) (.os 300042 1 d.length 1 0 d.length) = some (al false d) := by
    have e : Go.Proofs.Eng.look H 300042 = (1, some ⟨3, 1, d.map ai⟩) := by subst hH; rfl
    exact reify_os (η := H) (α := Int) (f := ai) (l := d) (k := 300042) (s := 1) (g := 1) (n := 17) (e := 3) (elem_ai _ 16) e
  have hm : [AV.os 42 1 a.length 1 0 a.length, AV.os 100042 1 b.length 1 0 b.length, AV.os 200042 1 c.length 1 0 c.length, AV.os 300042 1 d.length 1 0 d.length].mapM (elemR (reify H 18)) = some [al false a, al false b, al false c, al false d] := by
    rw [List.mapM_cons, ra, List.mapM_cons, rb, List.mapM_cons, rc, List.mapM_cons, rd]; rfl
  have h26 : reify H 19 (.os 26 1 4 1 0 4) = some (.sl 1 false [al false a, al false b, al false c, al false d]) := by
    have e : Go.Proofs.Eng.look H 26 = (1, some ⟨25, 1, [AV.os 42 1 a.length 1 0 a.length, AV.os 100042 1 b.length 1 0 b.length, AV.os 200042 1 c.length 1 0 c.length, AV.os 300042 1 d.length 1 0 d.length]⟩) := by subst hH; rfl
    rw [reify, e]
    simp only [List.length_cons, List.length_nil, Nat.zero_add, Nat.reduceAdd, and_self, Nat.le_refl, if_true, List.drop_zero, List.take_succ_cons, List.take_zero, hm, Option.map_some]
  show ([AV.os 26 1 4 1 0 4, ai 0].mapM (reify H 19)).map AV.tup = _
  rw [List.mapM_cons, h26]; rfl
end Go.Proofs.YtliklcopmapfaaaDoor

