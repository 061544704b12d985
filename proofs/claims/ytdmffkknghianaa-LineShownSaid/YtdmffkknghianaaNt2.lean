/-
  LineShown.
-/
import Derived.Test.YtdmffkknghianaaNs
set_option linter.unusedSimpArgs false
set_option linter.unusedVariables false
namespace Go.Proofs.Ytdmffkknghianaa
open Go Go.Proofs.Eng
set_option maxRecDepth 100000
set_option maxHeartbeats 4000000
theorem shown_end45 (V : Int) (w : List Int) (hg : gX V w) (E : List Nat) (hE0 : eE w.length 0 E = 0) (hEl : E.length ≤ w.length) (z : Int) (bz : 0 ≤ z ∧ z ≤ 255) (x0 x1 x3 x12 : AV) (hw : Runs Try.prog xf 25 [] (ab true)) : ∀ j4 j5 j10 j13 j14 j15 j16 j17 j18 j19 j20 j21 j22 j23 j24 j25 j26 j27 j28 j29 j30 j31 j32 j33 j34 j35 j36 j37 j38 j39 j40 j41 j42 j43 j44 j45 j47 j48 j49 j50 j51 j52 j53 j54 j55 j56 j57 j58 j59 j60 j61 j62 j63 j64 j65 j66 j67 j68 j69 j70 j71 j72 j73 j74 j75 j76 j77 j78 j79 j80 j81 j82 j83 j84 j85 j86 j87 j88 j89 j90 j91 j92 j93 j94 j95 j96 j97 j98 j99 j100 j101 j102 j103 j104 j105 j106 j107 j108 j109 j110 j111 j112 j113 j114 j115 j116 j117 j118 j119 j120 j121 j122 j123 j124 j125 j126 j127 j128 j129 j130 j131 : AV, W Try.prog (RelU Try.prog xf) 0 [.code xf10_R0] ⟨(x0 :: x1 :: (u8 z) :: x3 :: j4 :: j5 :: (ab false) :: (.o 7 1 1 0 0) :: (ai w.length) :: (.os 45 1 E.length 1 0 E.length) :: j10 :: (ai (fE (pf w) V w.length E)) :: x12 :: j13 :: j14 :: j15 :: j16 :: j17 :: j18 :: j19 :: j20 :: j21 :: j22 :: j23 :: j24 :: j25 :: j26 :: j27 :: j28 :: j29 :: j30 :: j31 :: j32 :: j33 :: j34 :: j35 :: j36 :: j37 :: j38 :: j39 :: j40 :: j41 :: j42 :: j43 :: j44 :: j45 :: (.os 45 1 E.length 1 0 E.length) :: j47 :: j48 :: j49 :: j50 :: j51 :: j52 :: j53 :: j54 :: j55 :: j56 :: j57 :: j58 :: j59 :: j60 :: j61 :: j62 :: j63 :: j64 :: j65 :: j66 :: j67 :: j68 :: j69 :: j70 :: j71 :: j72 :: j73 :: j74 :: j75 :: j76 :: j77 :: j78 :: j79 :: j80 :: j81 :: j82 :: j83 :: j84 :: j85 :: j86 :: j87 :: j88 :: j89 :: j90 :: j91 :: j92 :: j93 :: j94 :: j95 :: j96 :: j97 :: j98 :: j99 :: j100 :: j101 :: j102 :: j103 :: j104 :: j105 :: j106 :: j107 :: j108 :: j109 :: j110 :: j111 :: j112 :: j113 :: j114 :: j115 :: j116 :: j117 :: j118 :: j119 :: j120 :: j121 :: j122 :: j123 :: j124 :: j125 :: j126 :: j127 :: j128 :: j129 :: j130 :: j131 :: []), [(7, (1, some ⟨27, 2, [tx false V w]⟩)), (45, (1, some ⟨3, 1, (nl E).map ai⟩))]⟩ fun o c => (o = .ret ∨ o = .normal) ∧ ∃ rs, xf10.results.mapM (resOf Try.prog c) = some rs ∧ reify c.η 20 (retOf rs) = some (ab true) := by
  intros
  have n1 := hg.n1
  have n10 := hg.n10
  have hnl := nl_len E
  have hEne : 1 ≤ E.length := by
    cases E with
    | nil => rw [eE, if_neg (by omega)] at hE0; omega
    | cons a t => simp
  obtain ⟨t1, t2⟩ := tmod_b (a := z) (n := 8) bz.1 (by omega)
  have z8 : ((8 : Int) = 0) = False := eq_false (by omega)
  have e55 : ((5 : Int) == 5) = true := rfl
  have e50 : ((5 : Int) == 0) = false := rfl
  have e22 : ((2 : Int) == 2) = true := rfl
  have e20 : ((2 : Int) == 0) = false := rfl
  have e77 : ((7 : Int) == 7) = true := rfl
  have e70 : ((7 : Int) == 0) = false := rfl
  have e00 : ((0 : Int) == 0) = true := rfl
  have eff : ((15 : Int) == 15) = true := rfl
  have ef0 : ((15 : Int) == 0) = false := rfl
  have wn : IntKind.i64.wrap ((w.length : Int) + 1) = ((w.length + 1 : Nat) : Int) := by rw [wrap_id (by omega) (by omega)]; simp
  have q1 : (E.length + 1) * 8 ≤ 100000000000000 := by omega
  have q2 : E.length + 1 ≤ 100000000000000 := by omega
  generalize hr : z.tmod 8 = r at *
  have tdn : ∀ x : AV, True := fun _ => trivial
  by_cases r0 : r = 0
  · have d0 : (r == 0) = true := by simp [r0]
    have hc5 : fE (pf w) V w.length (E.take (E.length - 1)) = 5 := fE_of (by omega) (eE_take E 0 (by omega) hE0)
    have wl : IntKind.i64.wrap ((E.length : Int) - 1) = ((E.length - 1 : Nat) : Int) := by rw [wrap_id (by omega) (by omega)]; omega
    have q3 : E.length - 1 ≤ E.length := by omega
    have htk : ((nl E).map ai).take (E.length - 1) = (nl (E.take (E.length - 1))).map ai := by rw [← nl_take, List.map_take]
    obtain ⟨Y, hY, hYn⟩ := leftR_ex (pf w) V w.length (E.take (E.length - 1))
    obtain ⟨y, hy⟩ := costR_ex (pf w) V w.length (E.take (E.length - 1))
    have hleft := left2_run hg false false (E := E.take (E.length - 1)) (by first | omega | (simp; omega))
    have hcost := cost2_run hg false false (E := E.take (E.length - 1)) (by first | omega | (simp; omega))
    have hgrow := grow_bad hg false false (E := E.take (E.length - 1)) (by first | omega | (simp; omega))
    have hfits := fits2_run hg false false (E := E.take (E.length - 1)) (by first | omega | (simp; omega))
    rw [hY] at hleft
    rw [hy] at hcost
    rw [hc5] at hleft hcost hgrow hfits
    refine W_giveC (t := 9) (giveT_row (k := 45) (g := 1) (e := 3) (s := 1) (xs := (nl E).map ai) (n := E.length) rfl rfl (by rw [List.length_map, hnl])) (W_run 160 ?_)
    simp (maxSteps := 2000000) only [SA, Nat.reduceDiv, Nat.reduceSub, Nat.reduceAdd, Int.reduceLT, Int.reduceLE, Int.reduceToNat, Nat.reduceMul, Nat.reduceEqDiff, reduceCtorEq, Nat.reduceBEq, Nat.reduceLeDiff, Nat.reduceLT, xf10_R0, ai, ab, al, tx, u8, z8, hr, d0, wl, q3, htk, hnl, toData_os, toData_v, toData_ptr, toData_o, toData_sl, toData_ag, Go.Proofs.Eng.putAt, Go.Proofs.Eng.fullOf, Bool.false_and, List.map_cons, List.map_nil, List.length_map]
    refine W_call (args := [tx false V w, al false (nl (E.take (E.length - 1)))]) rfl (noRefs_2 (noRef_tx _ _ _) (noRef_al _ _)) hleft (noRef_t2 hYn rfl) (W_run 160 ?_)
    simp (maxSteps := 2000000) only [SA, Nat.reduceDiv, Nat.reduceSub, Nat.reduceAdd, Int.reduceLT, Int.reduceLE, Int.reduceToNat, Nat.reduceMul, Nat.reduceEqDiff, reduceCtorEq, Nat.reduceBEq, Nat.reduceLeDiff, Nat.reduceLT, ai, ab, al, tx]
    refine W_call (args := [tx false V w, al false (nl (E.take (E.length - 1)))]) rfl (noRefs_2 (noRef_tx _ _ _) (noRef_al _ _)) hcost rfl (W_run 160 ?_)
    simp (maxSteps := 2000000) only [SA, Nat.reduceDiv, Nat.reduceSub, Nat.reduceAdd, Int.reduceLT, Int.reduceLE, Int.reduceToNat, Nat.reduceMul, Nat.reduceEqDiff, reduceCtorEq, Nat.reduceBEq, Nat.reduceLeDiff, Nat.reduceLT, ai, ab, al, tx]
    refine W_call (args := [tx false V w, al false (nl (E.take (E.length - 1))), ai (-1), ai 0]) rfl (noRefs_4 (noRef_tx _ _ _) (noRef_al _ _) rfl rfl) hgrow rfl (W_run 160 ?_)
    simp (maxSteps := 2000000) only [SA, Nat.reduceDiv, Nat.reduceSub, Nat.reduceAdd, Int.reduceLT, Int.reduceLE, Int.reduceToNat, Nat.reduceMul, Nat.reduceEqDiff, reduceCtorEq, Nat.reduceBEq, Nat.reduceLeDiff, Nat.reduceLT, ai, ab, al, tx, nilA, e55, e50]
    refine W_call (args := [tx false V w, al false (nl (E.take (E.length - 1)))]) rfl (noRefs_2 (noRef_tx _ _ _) (noRef_al _ _)) hfits rfl (W_run 160 ?_)
    simp (maxSteps := 2000000) only [SA, Nat.reduceDiv, Nat.reduceSub, Nat.reduceAdd, Int.reduceLT, Int.reduceLE, Int.reduceToNat, Nat.reduceMul, Nat.reduceEqDiff, reduceCtorEq, Nat.reduceBEq, Nat.reduceLeDiff, Nat.reduceLT, ai, ab, al, tx, e55, e50]
    refine W_call (args := []) rfl rfl hw rfl (W_run 160 ?_)
    simp (maxSteps := 2000000) only [SA, Nat.reduceDiv, Nat.reduceSub, Nat.reduceAdd, Int.reduceLT, Int.reduceLE, Int.reduceToNat, Nat.reduceMul, Nat.reduceEqDiff, reduceCtorEq, Nat.reduceBEq, Nat.reduceLeDiff, Nat.reduceLT, ai, ab, al, tx]
    exact W_ret1 (WX_nil ⟨.inl rfl, _, rfl, rfl⟩)
  · have d0 : (r == 0) = false := by rw [beq_eq_false_iff_ne]; exact r0
    by_cases r1 : r = 1
    · have d1 : (r == 1) = true := by simp [r1]
      have hc : fE (pf w) V w.length (E ++ [w.length + 1]) = 2 := fE_of (by omega) (by rw [eE_app E _ 0 hE0, eE, if_pos (.inr (by omega))])
      have em : (nl (E ++ [w.length + 1])).map ai = (nl E).map ai ++ [ai ((w.length + 1 : Nat) : Int)] := by unfold nl; simp
      obtain ⟨Y, hY, hYn⟩ := leftR_ex (pf w) V w.length (E ++ [w.length + 1])
      obtain ⟨y, hy⟩ := costR_ex (pf w) V w.length (E ++ [w.length + 1])
      have hleft := left2_run hg false false (E := E ++ [w.length + 1]) (by first | omega | (simp; omega))
      have hcost := cost2_run hg false false (E := E ++ [w.length + 1]) (by first | omega | (simp; omega))
      have hgrow := grow_bad hg false false (E := E ++ [w.length + 1]) (by first | omega | (simp; omega))
      have hfits := fits2_run hg false false (E := E ++ [w.length + 1]) (by first | omega | (simp; omega))
      rw [hY] at hleft
      rw [hy] at hcost
      rw [hc] at hleft hcost hgrow hfits
      refine W_run 160 ?_
      simp (maxSteps := 2000000) only [SA, Nat.reduceDiv, Nat.reduceSub, Nat.reduceAdd, Int.reduceLT, Int.reduceLE, Int.reduceToNat, Nat.reduceMul, Nat.reduceEqDiff, reduceCtorEq, Nat.reduceBEq, Nat.reduceLeDiff, Nat.reduceLT, xf10_R0, ai, ab, al, tx, u8, z8, hr, d0, d1, wn, q1, q2, hnl, Go.Proofs.Eng.elems, List.map_cons, List.map_nil, List.length_map]
      refine W_give (t := 9) (giveT_row (k := 45) (g := 1) (e := 3) (s := 1) (xs := (nl (E ++ [w.length + 1])).map ai) (n := E.length + 1) rfl (by rw [em]; rfl) (by rw [List.length_map, nl_len]; simp)) ?_
      simp (maxSteps := 2000000) only [SA, Nat.reduceDiv, Nat.reduceSub, Nat.reduceAdd, Int.reduceLT, Int.reduceLE, Int.reduceToNat, Nat.reduceMul, Nat.reduceEqDiff, reduceCtorEq, Nat.reduceBEq, Nat.reduceLeDiff, Nat.reduceLT, ai, ab, al, tx, toData_os, toData_v, toData_ptr, toData_o, toData_sl, toData_ag, Go.Proofs.Eng.putAt, List.map_cons, List.map_nil]
      refine W_call (args := [tx false V w, al false (nl (E ++ [w.length + 1]))]) rfl (noRefs_2 (noRef_tx _ _ _) (noRef_al _ _)) hleft (noRef_t2 hYn rfl) (W_run 160 ?_)
      simp (maxSteps := 2000000) only [SA, Nat.reduceDiv, Nat.reduceSub, Nat.reduceAdd, Int.reduceLT, Int.reduceLE, Int.reduceToNat, Nat.reduceMul, Nat.reduceEqDiff, reduceCtorEq, Nat.reduceBEq, Nat.reduceLeDiff, Nat.reduceLT, ai, ab, al, tx]
      refine W_call (args := [tx false V w, al false (nl (E ++ [w.length + 1]))]) rfl (noRefs_2 (noRef_tx _ _ _) (noRef_al _ _)) hcost rfl (W_run 160 ?_)
      simp (maxSteps := 2000000) only [SA, Nat.reduceDiv, Nat.reduceSub, Nat.reduceAdd, Int.reduceLT, Int.reduceLE, Int.reduceToNat, Nat.reduceMul, Nat.reduceEqDiff, reduceCtorEq, Nat.reduceBEq, Nat.reduceLeDiff, Nat.reduceLT, ai, ab, al, tx]
      refine W_call (args := [tx false V w, al false (nl (E ++ [w.length + 1])), ai (-1), ai 0]) rfl (noRefs_4 (noRef_tx _ _ _) (noRef_al _ _) rfl rfl) hgrow rfl (W_run 160 ?_)
      simp (maxSteps := 2000000) only [SA, Nat.reduceDiv, Nat.reduceSub, Nat.reduceAdd, Int.reduceLT, Int.reduceLE, Int.reduceToNat, Nat.reduceMul, Nat.reduceEqDiff, reduceCtorEq, Nat.reduceBEq, Nat.reduceLeDiff, Nat.reduceLT, ai, ab, al, tx, nilA, e22, e20]
      refine W_call (args := [tx false V w, al false (nl (E ++ [w.length + 1]))]) rfl (noRefs_2 (noRef_tx _ _ _) (noRef_al _ _)) hfits rfl (W_run 160 ?_)
      simp (maxSteps := 2000000) only [SA, Nat.reduceDiv, Nat.reduceSub, Nat.reduceAdd, Int.reduceLT, Int.reduceLE, Int.reduceToNat, Nat.reduceMul, Nat.reduceEqDiff, reduceCtorEq, Nat.reduceBEq, Nat.reduceLeDiff, Nat.reduceLT, ai, ab, al, tx, e22, e20]
      refine W_call (args := []) rfl rfl hw rfl (W_run 160 ?_)
      simp (maxSteps := 2000000) only [SA, Nat.reduceDiv, Nat.reduceSub, Nat.reduceAdd, Int.reduceLT, Int.reduceLE, Int.reduceToNat, Nat.reduceMul, Nat.reduceEqDiff, reduceCtorEq, Nat.reduceBEq, Nat.reduceLeDiff, Nat.reduceLT, ai, ab, al, tx]
      exact W_ret1 (WX_nil ⟨.inl rfl, _, rfl, rfl⟩)
    · have d1 : (r == 1) = false := by rw [beq_eq_false_iff_ne]; exact r1
      by_cases r2 : r = 2
      · have d2 : (r == 2) = true := by simp [r2]
        have hc : fE (pf w) V w.length (E ++ [w.length]) = 7 := fE_of (by omega) (by rw [eE_app E _ 0 hE0, eE, if_neg (by omega), if_pos (Nat.le_refl _)])
        have em : (nl (E ++ [w.length])).map ai = (nl E).map ai ++ [ai ((w.length : Nat) : Int)] := by unfold nl; simp
        obtain ⟨Y, hY, hYn⟩ := leftR_ex (pf w) V w.length (E ++ [w.length])
        obtain ⟨y, hy⟩ := costR_ex (pf w) V w.length (E ++ [w.length])
        have hleft := left2_run hg false false (E := E ++ [w.length]) (by first | omega | (simp; omega))
        have hcost := cost2_run hg false false (E := E ++ [w.length]) (by first | omega | (simp; omega))
        have hgrow := grow_bad hg false false (E := E ++ [w.length]) (by first | omega | (simp; omega))
        have hfits := fits2_run hg false false (E := E ++ [w.length]) (by first | omega | (simp; omega))
        rw [hY] at hleft
        rw [hy] at hcost
        rw [hc] at hleft hcost hgrow hfits
        refine W_run 160 ?_
        simp (maxSteps := 2000000) only [SA, Nat.reduceDiv, Nat.reduceSub, Nat.reduceAdd, Int.reduceLT, Int.reduceLE, Int.reduceToNat, Nat.reduceMul, Nat.reduceEqDiff, reduceCtorEq, Nat.reduceBEq, Nat.reduceLeDiff, Nat.reduceLT, xf10_R0, ai, ab, al, tx, u8, z8, hr, d0, d1, d2, q1, q2, hnl, Go.Proofs.Eng.elems, List.map_cons, List.map_nil, List.length_map]
        refine W_give (t := 9) (giveT_row (k := 45) (g := 1) (e := 3) (s := 1) (xs := (nl (E ++ [w.length])).map ai) (n := E.length + 1) rfl (by rw [em]; rfl) (by rw [List.length_map, nl_len]; simp)) ?_
        simp (maxSteps := 2000000) only [SA, Nat.reduceDiv, Nat.reduceSub, Nat.reduceAdd, Int.reduceLT, Int.reduceLE, Int.reduceToNat, Nat.reduceMul, Nat.reduceEqDiff, reduceCtorEq, Nat.reduceBEq, Nat.reduceLeDiff, Nat.reduceLT, ai, ab, al, tx, toData_os, toData_v, toData_ptr, toData_o, toData_sl, toData_ag, Go.Proofs.Eng.putAt, List.map_cons, List.map_nil]
        refine W_call (args := [tx false V w, al false (nl (E ++ [w.length]))]) rfl (noRefs_2 (noRef_tx _ _ _) (noRef_al _ _)) hleft (noRef_t2 hYn rfl) (W_run 160 ?_)
        simp (maxSteps := 2000000) only [SA, Nat.reduceDiv, Nat.reduceSub, Nat.reduceAdd, Int.reduceLT, Int.reduceLE, Int.reduceToNat, Nat.reduceMul, Nat.reduceEqDiff, reduceCtorEq, Nat.reduceBEq, Nat.reduceLeDiff, Nat.reduceLT, ai, ab, al, tx]
        refine W_call (args := [tx false V w, al false (nl (E ++ [w.length]))]) rfl (noRefs_2 (noRef_tx _ _ _) (noRef_al _ _)) hcost rfl (W_run 160 ?_)
        simp (maxSteps := 2000000) only [SA, Nat.reduceDiv, Nat.reduceSub, Nat.reduceAdd, Int.reduceLT, Int.reduceLE, Int.reduceToNat, Nat.reduceMul, Nat.reduceEqDiff, reduceCtorEq, Nat.reduceBEq, Nat.reduceLeDiff, Nat.reduceLT, ai, ab, al, tx]
        refine W_call (args := [tx false V w, al false (nl (E ++ [w.length])), ai (-1), ai 0]) rfl (noRefs_4 (noRef_tx _ _ _) (noRef_al _ _) rfl rfl) hgrow rfl (W_run 160 ?_)
        simp (maxSteps := 2000000) only [SA, Nat.reduceDiv, Nat.reduceSub, Nat.reduceAdd, Int.reduceLT, Int.reduceLE, Int.reduceToNat, Nat.reduceMul, Nat.reduceEqDiff, reduceCtorEq, Nat.reduceBEq, Nat.reduceLeDiff, Nat.reduceLT, ai, ab, al, tx, nilA, e77, e70]
        refine W_call (args := [tx false V w, al false (nl (E ++ [w.length]))]) rfl (noRefs_2 (noRef_tx _ _ _) (noRef_al _ _)) hfits rfl (W_run 160 ?_)
        simp (maxSteps := 2000000) only [SA, Nat.reduceDiv, Nat.reduceSub, Nat.reduceAdd, Int.reduceLT, Int.reduceLE, Int.reduceToNat, Nat.reduceMul, Nat.reduceEqDiff, reduceCtorEq, Nat.reduceBEq, Nat.reduceLeDiff, Nat.reduceLT, ai, ab, al, tx, e77, e70]
        refine W_call (args := []) rfl rfl hw rfl (W_run 160 ?_)
        simp (maxSteps := 2000000) only [SA, Nat.reduceDiv, Nat.reduceSub, Nat.reduceAdd, Int.reduceLT, Int.reduceLE, Int.reduceToNat, Nat.reduceMul, Nat.reduceEqDiff, reduceCtorEq, Nat.reduceBEq, Nat.reduceLeDiff, Nat.reduceLT, ai, ab, al, tx]
        exact W_ret1 (WX_nil ⟨.inl rfl, _, rfl, rfl⟩)
      · have d2 : (r == 2) = false := by rw [beq_eq_false_iff_ne]; exact r2
        by_cases r3 : r = 3
        · have d3 : (r == 3) = true := by simp [r3]
          have hc : fE (pf w) V w.length (0 :: E) = 2 := fE_of (by omega) (by rw [eE, if_pos (.inl (by omega))])
          have em : (nl (0 :: E)).map ai = ai 0 :: (nl E).map ai := by unfold nl; simp
          have hlr := list_run true [0]
          obtain ⟨Y, hY, hYn⟩ := leftR_ex (pf w) V w.length (0 :: E)
          obtain ⟨y, hy⟩ := costR_ex (pf w) V w.length (0 :: E)
          have hleft := left2_run hg false false (E := 0 :: E) (by first | omega | (simp; omega))
          have hcost := cost2_run hg false false (E := 0 :: E) (by first | omega | (simp; omega))
          have hgrow := grow_bad hg false false (E := 0 :: E) (by first | omega | (simp; omega))
          have hfits := fits2_run hg false false (E := 0 :: E) (by first | omega | (simp; omega))
          rw [hY] at hleft
          rw [hy] at hcost
          rw [hc] at hleft hcost hgrow hfits
          refine W_run 160 ?_
          simp (maxSteps := 2000000) only [SA, Nat.reduceDiv, Nat.reduceSub, Nat.reduceAdd, Int.reduceLT, Int.reduceLE, Int.reduceToNat, Nat.reduceMul, Nat.reduceEqDiff, reduceCtorEq, Nat.reduceBEq, Nat.reduceLeDiff, Nat.reduceLT, xf10_R0, ai, ab, al, tx, u8, z8, hr, d0, d1, d2, d3, hnl, List.map_cons, List.map_nil, List.length_map]
          refine W_call (args := [al true [0]]) rfl rfl hlr rfl (W_run 160 ?_)
          have hne2 : ((nl E).map ai ≠ []) = True := eq_true (by
            intro h
            have := congrArg List.length h
            rw [List.length_map, hnl, List.length_nil] at this
            omega)
          have htkn : ((nl E).map ai).take E.length = (nl E).map ai := List.take_of_length_le (by rw [List.length_map, hnl]; exact Nat.le_refl _)
          have q6 : (1 + E.length) * 8 ≤ 100000000000000 := by omega
          have q7 : 1 + E.length ≤ 100000000000000 := by omega
          simp (maxSteps := 2000000) only [SA, Nat.reduceDiv, Nat.reduceSub, Nat.reduceAdd, Int.reduceLT, Int.reduceLE, Int.reduceToNat, Nat.reduceMul, Nat.reduceEqDiff, reduceCtorEq, Nat.reduceBEq, Nat.reduceLeDiff, Nat.reduceLT, ai, ab, al, tx, hnl, hne2, htkn, q6, q7, Go.Proofs.Eng.elems, List.map_cons, List.map_nil, List.length_map, List.length_append]
          refine W_give (t := 9) (giveT_row (k := 86) (g := 1) (e := 3) (s := 1) (xs := (nl (0 :: E)).map ai) (n := 1 + E.length) rfl (by rw [em]; rfl) (by rw [List.length_map, nl_len]; simp; omega)) ?_
          simp (maxSteps := 2000000) only [SA, Nat.reduceDiv, Nat.reduceSub, Nat.reduceAdd, Int.reduceLT, Int.reduceLE, Int.reduceToNat, Nat.reduceMul, Nat.reduceEqDiff, reduceCtorEq, Nat.reduceBEq, Nat.reduceLeDiff, Nat.reduceLT, ai, ab, al, tx, toData_os, toData_v, toData_ptr, toData_o, toData_sl, toData_ag, Go.Proofs.Eng.putAt, List.map_cons, List.map_nil]
          refine W_call (args := [tx false V w, al false (nl (0 :: E))]) rfl (noRefs_2 (noRef_tx _ _ _) (noRef_al _ _)) hleft (noRef_t2 hYn rfl) (W_run 160 ?_)
          simp (maxSteps := 2000000) only [SA, Nat.reduceDiv, Nat.reduceSub, Nat.reduceAdd, Int.reduceLT, Int.reduceLE, Int.reduceToNat, Nat.reduceMul, Nat.reduceEqDiff, reduceCtorEq, Nat.reduceBEq, Nat.reduceLeDiff, Nat.reduceLT, ai, ab, al, tx]
          refine W_call (args := [tx false V w, al false (nl (0 :: E))]) rfl (noRefs_2 (noRef_tx _ _ _) (noRef_al _ _)) hcost rfl (W_run 160 ?_)
          simp (maxSteps := 2000000) only [SA, Nat.reduceDiv, Nat.reduceSub, Nat.reduceAdd, Int.reduceLT, Int.reduceLE, Int.reduceToNat, Nat.reduceMul, Nat.reduceEqDiff, reduceCtorEq, Nat.reduceBEq, Nat.reduceLeDiff, Nat.reduceLT, ai, ab, al, tx]
          refine W_call (args := [tx false V w, al false (nl (0 :: E)), ai (-1), ai 0]) rfl (noRefs_4 (noRef_tx _ _ _) (noRef_al _ _) rfl rfl) hgrow rfl (W_run 160 ?_)
          simp (maxSteps := 2000000) only [SA, Nat.reduceDiv, Nat.reduceSub, Nat.reduceAdd, Int.reduceLT, Int.reduceLE, Int.reduceToNat, Nat.reduceMul, Nat.reduceEqDiff, reduceCtorEq, Nat.reduceBEq, Nat.reduceLeDiff, Nat.reduceLT, ai, ab, al, tx, nilA, e22, e20]
          refine W_call (args := [tx false V w, al false (nl (0 :: E))]) rfl (noRefs_2 (noRef_tx _ _ _) (noRef_al _ _)) hfits rfl (W_run 160 ?_)
          simp (maxSteps := 2000000) only [SA, Nat.reduceDiv, Nat.reduceSub, Nat.reduceAdd, Int.reduceLT, Int.reduceLE, Int.reduceToNat, Nat.reduceMul, Nat.reduceEqDiff, reduceCtorEq, Nat.reduceBEq, Nat.reduceLeDiff, Nat.reduceLT, ai, ab, al, tx, e22, e20]
          refine W_call (args := []) rfl rfl hw rfl (W_run 160 ?_)
          simp (maxSteps := 2000000) only [SA, Nat.reduceDiv, Nat.reduceSub, Nat.reduceAdd, Int.reduceLT, Int.reduceLE, Int.reduceToNat, Nat.reduceMul, Nat.reduceEqDiff, reduceCtorEq, Nat.reduceBEq, Nat.reduceLeDiff, Nat.reduceLT, ai, ab, al, tx]
          exact W_ret1 (WX_nil ⟨.inl rfl, _, rfl, rfl⟩)
        · have d3 : (r == 3) = false := by rw [beq_eq_false_iff_ne]; exact r3
          have hcs : fE (pf w) V w.length E = 0 ∨ fE (pf w) V w.length E = 15 := by unfold fE; rw [if_pos hE0]; split <;> simp
          rcases hcs with hc | hc
          · rw [hc]
            obtain ⟨Y, hY, hYn⟩ := leftR_ex (pf w) V w.length (E)
            obtain ⟨y, hy⟩ := costR_ex (pf w) V w.length (E)
            have hleft := left2_run hg false false (E := E) (by first | omega | (simp; omega))
            have hcost := cost2_run hg false false (E := E) (by first | omega | (simp; omega))
            have hgrow := grow_bad hg false false (E := E) (by first | omega | (simp; omega))
            have hfits := fits2_run hg false false (E := E) (by first | omega | (simp; omega))
            rw [hY] at hleft
            rw [hy] at hcost
            rw [hc] at hleft hcost hgrow hfits
            refine W_run 160 ?_
            simp (maxSteps := 2000000) only [SA, Nat.reduceDiv, Nat.reduceSub, Nat.reduceAdd, Int.reduceLT, Int.reduceLE, Int.reduceToNat, Nat.reduceMul, Nat.reduceEqDiff, reduceCtorEq, Nat.reduceBEq, Nat.reduceLeDiff, Nat.reduceLT, xf10_R0, ai, ab, al, tx, u8, z8, hr, d0, d1, d2, d3, hnl, List.map_cons, List.map_nil, List.length_map]
            refine W_give (t := 9) (giveT_row (k := 45) (g := 1) (e := 3) (s := 1) (xs := (nl E).map ai) (n := E.length) rfl rfl (by rw [List.length_map, hnl])) ?_
            simp (maxSteps := 2000000) only [SA, Nat.reduceDiv, Nat.reduceSub, Nat.reduceAdd, Int.reduceLT, Int.reduceLE, Int.reduceToNat, Nat.reduceMul, Nat.reduceEqDiff, reduceCtorEq, Nat.reduceBEq, Nat.reduceLeDiff, Nat.reduceLT, ai, ab, al, tx, toData_os, toData_v, toData_ptr, toData_o, toData_sl, toData_ag, Go.Proofs.Eng.putAt, List.map_cons, List.map_nil]
            rw [if_pos rfl] at hgrow
            refine W_call (args := [tx false V w, al false (nl E)]) rfl (noRefs_2 (noRef_tx _ _ _) (noRef_al _ _)) hleft (noRef_t2 hYn rfl) (W_run 160 ?_)
            simp (maxSteps := 2000000) only [SA, Nat.reduceDiv, Nat.reduceSub, Nat.reduceAdd, Int.reduceLT, Int.reduceLE, Int.reduceToNat, Nat.reduceMul, Nat.reduceEqDiff, reduceCtorEq, Nat.reduceBEq, Nat.reduceLeDiff, Nat.reduceLT, ai, ab, al, tx]
            refine W_call (args := [tx false V w, al false (nl E)]) rfl (noRefs_2 (noRef_tx _ _ _) (noRef_al _ _)) hcost rfl (W_run 160 ?_)
            simp (maxSteps := 2000000) only [SA, Nat.reduceDiv, Nat.reduceSub, Nat.reduceAdd, Int.reduceLT, Int.reduceLE, Int.reduceToNat, Nat.reduceMul, Nat.reduceEqDiff, reduceCtorEq, Nat.reduceBEq, Nat.reduceLeDiff, Nat.reduceLT, ai, ab, al, tx]
            refine W_call (args := [tx false V w, al false (nl E), ai (-1), ai 0]) rfl (noRefs_4 (noRef_tx _ _ _) (noRef_al _ _) rfl rfl) hgrow rfl (W_run 160 ?_)
            simp (maxSteps := 2000000) only [SA, Nat.reduceDiv, Nat.reduceSub, Nat.reduceAdd, Int.reduceLT, Int.reduceLE, Int.reduceToNat, Nat.reduceMul, Nat.reduceEqDiff, reduceCtorEq, Nat.reduceBEq, Nat.reduceLeDiff, Nat.reduceLT, ai, ab, al, tx, nilA, e00, e22, e20]
            refine W_call (args := [tx false V w, al false (nl E)]) rfl (noRefs_2 (noRef_tx _ _ _) (noRef_al _ _)) hfits rfl (W_run 160 ?_)
            simp (maxSteps := 2000000) only [SA, Nat.reduceDiv, Nat.reduceSub, Nat.reduceAdd, Int.reduceLT, Int.reduceLE, Int.reduceToNat, Nat.reduceMul, Nat.reduceEqDiff, reduceCtorEq, Nat.reduceBEq, Nat.reduceLeDiff, Nat.reduceLT, ai, ab, al, tx, e00, e22, e20]
            refine W_call (args := []) rfl rfl hw rfl (W_run 160 ?_)
            simp (maxSteps := 2000000) only [SA, Nat.reduceDiv, Nat.reduceSub, Nat.reduceAdd, Int.reduceLT, Int.reduceLE, Int.reduceToNat, Nat.reduceMul, Nat.reduceEqDiff, reduceCtorEq, Nat.reduceBEq, Nat.reduceLeDiff, Nat.reduceLT, ai, ab, al, tx]
            exact W_ret1 (WX_nil ⟨.inl rfl, _, rfl, rfl⟩)
          · rw [hc]
            obtain ⟨Y, hY, hYn⟩ := leftR_ex (pf w) V w.length (E)
            obtain ⟨y, hy⟩ := costR_ex (pf w) V w.length (E)
            have hleft := left2_run hg false false (E := E) (by first | omega | (simp; omega))
            have hcost := cost2_run hg false false (E := E) (by first | omega | (simp; omega))
            have hgrow := grow_bad hg false false (E := E) (by first | omega | (simp; omega))
            have hfits := fits2_run hg false false (E := E) (by first | omega | (simp; omega))
            rw [hY] at hleft
            rw [hy] at hcost
            rw [hc] at hleft hcost hgrow hfits
            refine W_run 160 ?_
            simp (maxSteps := 2000000) only [SA, Nat.reduceDiv, Nat.reduceSub, Nat.reduceAdd, Int.reduceLT, Int.reduceLE, Int.reduceToNat, Nat.reduceMul, Nat.reduceEqDiff, reduceCtorEq, Nat.reduceBEq, Nat.reduceLeDiff, Nat.reduceLT, xf10_R0, ai, ab, al, tx, u8, z8, hr, d0, d1, d2, d3, hnl, List.map_cons, List.map_nil, List.length_map]
            refine W_give (t := 9) (giveT_row (k := 45) (g := 1) (e := 3) (s := 1) (xs := (nl E).map ai) (n := E.length) rfl rfl (by rw [List.length_map, hnl])) ?_
            simp (maxSteps := 2000000) only [SA, Nat.reduceDiv, Nat.reduceSub, Nat.reduceAdd, Int.reduceLT, Int.reduceLE, Int.reduceToNat, Nat.reduceMul, Nat.reduceEqDiff, reduceCtorEq, Nat.reduceBEq, Nat.reduceLeDiff, Nat.reduceLT, ai, ab, al, tx, toData_os, toData_v, toData_ptr, toData_o, toData_sl, toData_ag, Go.Proofs.Eng.putAt, List.map_cons, List.map_nil]
            rw [if_neg (by omega)] at hgrow
            refine W_call (args := [tx false V w, al false (nl E)]) rfl (noRefs_2 (noRef_tx _ _ _) (noRef_al _ _)) hleft (noRef_t2 hYn rfl) (W_run 160 ?_)
            simp (maxSteps := 2000000) only [SA, Nat.reduceDiv, Nat.reduceSub, Nat.reduceAdd, Int.reduceLT, Int.reduceLE, Int.reduceToNat, Nat.reduceMul, Nat.reduceEqDiff, reduceCtorEq, Nat.reduceBEq, Nat.reduceLeDiff, Nat.reduceLT, ai, ab, al, tx]
            refine W_call (args := [tx false V w, al false (nl E)]) rfl (noRefs_2 (noRef_tx _ _ _) (noRef_al _ _)) hcost rfl (W_run 160 ?_)
            simp (maxSteps := 2000000) only [SA, Nat.reduceDiv, Nat.reduceSub, Nat.reduceAdd, Int.reduceLT, Int.reduceLE, Int.reduceToNat, Nat.reduceMul, Nat.reduceEqDiff, reduceCtorEq, Nat.reduceBEq, Nat.reduceLeDiff, Nat.reduceLT, ai, ab, al, tx]
            refine W_call (args := [tx false V w, al false (nl E), ai (-1), ai 0]) rfl (noRefs_4 (noRef_tx _ _ _) (noRef_al _ _) rfl rfl) hgrow rfl (W_run 160 ?_)
            simp (maxSteps := 2000000) only [SA, Nat.reduceDiv, Nat.reduceSub, Nat.reduceAdd, Int.reduceLT, Int.reduceLE, Int.reduceToNat, Nat.reduceMul, Nat.reduceEqDiff, reduceCtorEq, Nat.reduceBEq, Nat.reduceLeDiff, Nat.reduceLT, ai, ab, al, tx, nilA, eff, ef0]
            refine W_call (args := [tx false V w, al false (nl E)]) rfl (noRefs_2 (noRef_tx _ _ _) (noRef_al _ _)) hfits rfl (W_run 160 ?_)
            simp (maxSteps := 2000000) only [SA, Nat.reduceDiv, Nat.reduceSub, Nat.reduceAdd, Int.reduceLT, Int.reduceLE, Int.reduceToNat, Nat.reduceMul, Nat.reduceEqDiff, reduceCtorEq, Nat.reduceBEq, Nat.reduceLeDiff, Nat.reduceLT, ai, ab, al, tx, eff, ef0]
            refine W_call (args := []) rfl rfl hw rfl (W_run 160 ?_)
            simp (maxSteps := 2000000) only [SA, Nat.reduceDiv, Nat.reduceSub, Nat.reduceAdd, Int.reduceLT, Int.reduceLE, Int.reduceToNat, Nat.reduceMul, Nat.reduceEqDiff, reduceCtorEq, Nat.reduceBEq, Nat.reduceLeDiff, Nat.reduceLT, ai, ab, al, tx]
            exact W_ret1 (WX_nil ⟨.inl rfl, _, rfl, rfl⟩)
end Go.Proofs.Ytdmffkknghianaa

