/-
  TableMore: 2 rows.
-/
import Derived.Test.YtelkpfionifjgaaTw
set_option linter.unusedSimpArgs false
set_option linter.unusedVariables false
namespace Go.Proofs.Ytelkpfionifjgaa
open Go Go.Proofs.Eng
set_option maxRecDepth 100000
set_option maxHeartbeats 4000000
theorem end_2_0 {R0 R1 : List Int} (hg : gT 2 [R0, R1]) (hW : Runs Try.prog xf 28 [] (.v (.bool true))) {z1 z2 z3 : Int} (b1 : 0 ≤ z1 ∧ z1 ≤ 255) (b2 : 0 ≤ z2 ∧ z2 ≤ 255) (b3 : 0 ≤ z3 ∧ z3 ≤ 255) (hr : z1.tmod 2 = 0) (c : Nat) (hc : z2.tmod 2 = (c : Int)) (hcn : c < 2) :
    ∀ j0 j4 j5 j6 j7 j8 j12 j13 j14 j15 j16 j17 j18 j19 j20 j21 j22 j23 j24 j25 j26 j27 j28 j29 j30 j31 j32 j33 j34 j35 j36 j37 j38 j39 j40 j41 j42 j43 j44 j45 j46 j47 j48 j49 j50 j51 j52 j53 j54 j55 j56 j57 j58 j59 j60 j61 j62 j63 j64 j65 j66 j67 j68 j69 j70 j71 j72 j73 j74 j75 j76 j77 j78 j79 j80 j81 j82 j83 j84 j85 j86 j87 j88 j89 j90 j91 j92 j93 j94 j95 j96 j97 j98 j99 j100 j101 j102 j103 j104 j105 j106 j107 j108 j109 j110 j111 j112 j113 j114 j115 j116 j117 : AV, W Try.prog (RelU Try.prog xf) 0 [.code xf9_R0] ⟨(j0 :: (u8 z1) :: (u8 z2) :: (u8 z3) :: j4 :: j5 :: j6 :: j7 :: j8 :: (aT [R0, R1]) :: (ai 2) :: (.os 1011 1 2 1 0 2) :: j12 :: j13 :: j14 :: j15 :: j16 :: j17 :: j18 :: j19 :: j20 :: j21 :: j22 :: j23 :: j24 :: j25 :: j26 :: j27 :: j28 :: j29 :: j30 :: j31 :: j32 :: j33 :: j34 :: j35 :: j36 :: j37 :: j38 :: j39 :: j40 :: j41 :: j42 :: j43 :: j44 :: j45 :: j46 :: j47 :: j48 :: j49 :: j50 :: j51 :: j52 :: j53 :: j54 :: j55 :: j56 :: j57 :: j58 :: j59 :: j60 :: j61 :: j62 :: j63 :: j64 :: j65 :: j66 :: j67 :: j68 :: j69 :: j70 :: j71 :: j72 :: j73 :: j74 :: j75 :: j76 :: j77 :: j78 :: j79 :: j80 :: j81 :: j82 :: j83 :: j84 :: j85 :: j86 :: j87 :: j88 :: j89 :: j90 :: j91 :: j92 :: j93 :: j94 :: j95 :: j96 :: j97 :: j98 :: j99 :: j100 :: j101 :: j102 :: j103 :: j104 :: j105 :: j106 :: j107 :: j108 :: j109 :: j110 :: j111 :: j112 :: j113 :: j114 :: j115 :: j116 :: j117 :: []), [(1009, (1, some ⟨3, 1, R0.map ai⟩)), (1011, (1, some ⟨37, 1, [.os 1009 1 2 1 0 2, .os 101009 1 2 1 0 2]⟩)), (101009, (1, some ⟨3, 1, R1.map ai⟩))]⟩ QM := by
  intro j0 j4 j5 j6 j7 j8 j12 j13 j14 j15 j16 j17 j18 j19 j20 j21 j22 j23 j24 j25 j26 j27 j28 j29 j30 j31 j32 j33 j34 j35 j36 j37 j38 j39 j40 j41 j42 j43 j44 j45 j46 j47 j48 j49 j50 j51 j52 j53 j54 j55 j56 j57 j58 j59 j60 j61 j62 j63 j64 j65 j66 j67 j68 j69 j70 j71 j72 j73 j74 j75 j76 j77 j78 j79 j80 j81 j82 j83 j84 j85 j86 j87 j88 j89 j90 j91 j92 j93 j94 j95 j96 j97 j98 j99 j100 j101 j102 j103 j104 j105 j106 j107 j108 j109 j110 j111 j112 j113 j114 j115 j116 j117
  have l0 : R0.length = 2 := hg.row R0 (by simp)
  have l1 : R1.length = 2 := hg.row R1 (by simp)
  have hb := hg.b (r := 0) (c := c) (by omega) hcn
  have hx0 : cel [R0, R1] 0 c = R0.getD c 0 := rfl
  have hget := get_al (l := R0) (i := c) (by omega)
  rw [← hx0] at hget
  have zn : ((2 : Int) = 0) = False := eq_false (by decide)
  have v1 : IntKind.i64.wrap z1 = z1 := wrap_id (by omega) (by omega)
  have v2 : IntKind.i64.wrap z2 = z2 := wrap_id (by omega) (by omega)
  have v3 : IntKind.i64.wrap z3 = z3 := wrap_id (by omega) (by omega)
  have hci : (c : Int) < 2 := by omega
  have hxd : ∃ x, x = cel [R0, R1] 0 c := ⟨_, rfl⟩
  obtain ⟨x, hx⟩ := hxd
  rw [← hx] at hget hb
  have v4 : IntKind.i64.wrap (10 - x) = 10 - x := wrap_id (by omega) (by omega)
  have zx : (10 - x = 0) = False := eq_false (by omega)
  have hq := tmod_b (a := z3) (n := 10 - x) b3.1 (by omega)
  obtain ⟨v, hv⟩ : ∃ v, v = x + z3.tmod (10 - x) := ⟨_, rfl⟩
  have v5 : IntKind.i64.wrap (x + z3.tmod (10 - x)) = v := by rw [wrap_id (by omega) (by omega), hv]
  have hset : (R0.map ai).set c (.v (.int .i64 v)) = (R0.set c v).map ai := by rw [List.map_set]; rfl
  have hg2 := gT_set hg (r := 0) (c := c) (by omega) hcn (v := v) (by omega)
  have hl2 := leT_set hg (r := 0) (c := c) (by omega) hcn (v := v) (by rw [← hx]; omega)
  have hT2 : List.set [R0, R1] 0 ((List.getD [R0, R1] 0 []).set c v) = [R0.set c v, R1] := rfl
  rw [hT2] at hg2 hl2
  have hc1 := count_run hg
  have hc2 := count_run hg2
  have hw1 := weight_run hg
  have hw2 := weight_run hg2
  have m1 := cnt_mono hg hg2 hl2
  have m2 := wgtT_mono hg hg2 hl2
  have d1 : decide (((cntP 2 [R0, R1] : Nat) : Int) ≤ ((cntP 2 [R0.set c v, R1] : Nat) : Int)) = true := decide_eq_true (by omega)
  have d2 : decide (wgtT 2 [R0, R1] ≤ wgtT 2 [R0.set c v, R1]) = true := decide_eq_true m2
  have s0 : (R0.set c v).length = 2 := by rw [List.length_set]; exact l0
  have hre : ∀ η : Heap, η = [(1009, (1, some ⟨3, 1, (R0.set c v).map ai⟩)), (1011, (1, some ⟨37, 1, [.os 1009 1 2 1 0 2, .os 101009 1 2 1 0 2]⟩)), (101009, (1, some ⟨3, 1, (R1).map ai⟩))] → [.os 1011 1 2 1 0 2].mapM (reify η 20) = some [aT [R0.set c v, R1]] := fun η hη => by
    subst hη
    have e : reify [(1009, (1, some ⟨3, 1, (R0.set c v).map ai⟩)), (1011, (1, some ⟨37, 1, [.os 1009 1 2 1 0 2, .os 101009 1 2 1 0 2]⟩)), (101009, (1, some ⟨3, 1, (R1).map ai⟩))] 20 (.os 1011 1 2 1 0 2) = ([.os 1009 1 2 1 0 2, .os 101009 1 2 1 0 2].mapM (elemR (reify [(1009, (1, some ⟨3, 1, (R0.set c v).map ai⟩)), (1011, (1, some ⟨37, 1, [.os 1009 1 2 1 0 2, .os 101009 1 2 1 0 2]⟩)), (101009, (1, some ⟨3, 1, (R1).map ai⟩))] 19))).map (AV.sl 1 false) := rfl
    rw [List.mapM_cons, List.mapM_nil, e, List.mapM_cons, reify_rw (R := R0.set c v) s0 rfl, List.mapM_cons, reify_rw (R := R1) l1 rfl, List.mapM_nil]; rfl
  generalize cntP 2 [R0, R1] = k1 at *
  generalize cntP 2 [R0.set c v, R1] = k2 at *
  generalize wgtT 2 [R0, R1] = u1 at *
  generalize wgtT 2 [R0.set c v, R1] = u2 at *
  have e00 : ((0 : Int) == 0) = true := rfl
  refine W_run 200 ?_
  simp (maxSteps := 2000000) only [SA, Nat.reduceDiv, Nat.reduceSub, Nat.reduceAdd, Int.reduceLT, Int.reduceLE, Int.reduceToNat, Nat.reduceMul, Nat.reduceEqDiff, reduceCtorEq, Nat.reduceBEq, Nat.reduceLeDiff, Nat.reduceLT, xf9_R0, ai, al, aT, u8, l0, l1, zn, zx, v1, v2, v3, v4, v5, hr, hc, hci, hget, hset, raw_conv, rawC, opA, argT, Option.elim, List.map_cons, List.map_nil]
  refine W_call (args := [aT [R0, R1]]) rfl (noRefs_T _) hc1 rfl (W_run 200 ?_)
  simp (maxSteps := 2000000) only [SA, Nat.reduceDiv, Nat.reduceSub, Nat.reduceAdd, Int.reduceLT, Int.reduceLE, Int.reduceToNat, Nat.reduceMul, Nat.reduceEqDiff, reduceCtorEq, Nat.reduceBEq, Nat.reduceLeDiff, Nat.reduceLT, ai]
  refine W_look (fuel := 20) (args := [.os 1011 1 2 1 0 2]) (args' := [aT [R0.set c v, R1]]) rfl (hre _ rfl) hc2 rfl rfl (W_run 200 ?_)
  simp (maxSteps := 2000000) only [SA, Nat.reduceDiv, Nat.reduceSub, Nat.reduceAdd, Int.reduceLT, Int.reduceLE, Int.reduceToNat, Nat.reduceMul, Nat.reduceEqDiff, reduceCtorEq, Nat.reduceBEq, Nat.reduceLeDiff, Nat.reduceLT, ai]
  refine W_call (args := [aT [R0, R1]]) rfl (noRefs_T _) hw1 rfl (W_run 200 ?_)
  simp (maxSteps := 2000000) only [SA, Nat.reduceDiv, Nat.reduceSub, Nat.reduceAdd, Int.reduceLT, Int.reduceLE, Int.reduceToNat, Nat.reduceMul, Nat.reduceEqDiff, reduceCtorEq, Nat.reduceBEq, Nat.reduceLeDiff, Nat.reduceLT, ai]
  refine W_look (fuel := 20) (args := [.os 1011 1 2 1 0 2]) (args' := [aT [R0.set c v, R1]]) rfl (hre _ rfl) hw2 rfl rfl (W_run 200 ?_)
  simp (maxSteps := 2000000) only [SA, Nat.reduceDiv, Nat.reduceSub, Nat.reduceAdd, Int.reduceLT, Int.reduceLE, Int.reduceToNat, Nat.reduceMul, Nat.reduceEqDiff, reduceCtorEq, Nat.reduceBEq, Nat.reduceLeDiff, Nat.reduceLT, ai, e00, d1, d2]
  refine W_call (args := []) rfl rfl hW rfl (W_run 200 ?_)
  simp (maxSteps := 2000000) only [SA, Nat.reduceDiv, Nat.reduceSub, Nat.reduceAdd, Int.reduceLT, Int.reduceLE, Int.reduceToNat, Nat.reduceMul, Nat.reduceEqDiff, reduceCtorEq, Nat.reduceBEq, Nat.reduceLeDiff, Nat.reduceLT, ai]
  exact W_ret1 (WX_nil ⟨.inl rfl, _, rfl, rfl⟩)
theorem end_2_1 {R0 R1 : List Int} (hg : gT 2 [R0, R1]) (hW : Runs Try.prog xf 28 [] (.v (.bool true))) {z1 z2 z3 : Int} (b1 : 0 ≤ z1 ∧ z1 ≤ 255) (b2 : 0 ≤ z2 ∧ z2 ≤ 255) (b3 : 0 ≤ z3 ∧ z3 ≤ 255) (hr : z1.tmod 2 = 1) (c : Nat) (hc : z2.tmod 2 = (c : Int)) (hcn : c < 2) :
    ∀ j0 j4 j5 j6 j7 j8 j12 j13 j14 j15 j16 j17 j18 j19 j20 j21 j22 j23 j24 j25 j26 j27 j28 j29 j30 j31 j32 j33 j34 j35 j36 j37 j38 j39 j40 j41 j42 j43 j44 j45 j46 j47 j48 j49 j50 j51 j52 j53 j54 j55 j56 j57 j58 j59 j60 j61 j62 j63 j64 j65 j66 j67 j68 j69 j70 j71 j72 j73 j74 j75 j76 j77 j78 j79 j80 j81 j82 j83 j84 j85 j86 j87 j88 j89 j90 j91 j92 j93 j94 j95 j96 j97 j98 j99 j100 j101 j102 j103 j104 j105 j106 j107 j108 j109 j110 j111 j112 j113 j114 j115 j116 j117 : AV, W Try.prog (RelU Try.prog xf) 0 [.code xf9_R0] ⟨(j0 :: (u8 z1) :: (u8 z2) :: (u8 z3) :: j4 :: j5 :: j6 :: j7 :: j8 :: (aT [R0, R1]) :: (ai 2) :: (.os 1011 1 2 1 0 2) :: j12 :: j13 :: j14 :: j15 :: j16 :: j17 :: j18 :: j19 :: j20 :: j21 :: j22 :: j23 :: j24 :: j25 :: j26 :: j27 :: j28 :: j29 :: j30 :: j31 :: j32 :: j33 :: j34 :: j35 :: j36 :: j37 :: j38 :: j39 :: j40 :: j41 :: j42 :: j43 :: j44 :: j45 :: j46 :: j47 :: j48 :: j49 :: j50 :: j51 :: j52 :: j53 :: j54 :: j55 :: j56 :: j57 :: j58 :: j59 :: j60 :: j61 :: j62 :: j63 :: j64 :: j65 :: j66 :: j67 :: j68 :: j69 :: j70 :: j71 :: j72 :: j73 :: j74 :: j75 :: j76 :: j77 :: j78 :: j79 :: j80 :: j81 :: j82 :: j83 :: j84 :: j85 :: j86 :: j87 :: j88 :: j89 :: j90 :: j91 :: j92 :: j93 :: j94 :: j95 :: j96 :: j97 :: j98 :: j99 :: j100 :: j101 :: j102 :: j103 :: j104 :: j105 :: j106 :: j107 :: j108 :: j109 :: j110 :: j111 :: j112 :: j113 :: j114 :: j115 :: j116 :: j117 :: []), [(1009, (1, some ⟨3, 1, R0.map ai⟩)), (1011, (1, some ⟨37, 1, [.os 1009 1 2 1 0 2, .os 101009 1 2 1 0 2]⟩)), (101009, (1, some ⟨3, 1, R1.map ai⟩))]⟩ QM := by
  intro j0 j4 j5 j6 j7 j8 j12 j13 j14 j15 j16 j17 j18 j19 j20 j21 j22 j23 j24 j25 j26 j27 j28 j29 j30 j31 j32 j33 j34 j35 j36 j37 j38 j39 j40 j41 j42 j43 j44 j45 j46 j47 j48 j49 j50 j51 j52 j53 j54 j55 j56 j57 j58 j59 j60 j61 j62 j63 j64 j65 j66 j67 j68 j69 j70 j71 j72 j73 j74 j75 j76 j77 j78 j79 j80 j81 j82 j83 j84 j85 j86 j87 j88 j89 j90 j91 j92 j93 j94 j95 j96 j97 j98 j99 j100 j101 j102 j103 j104 j105 j106 j107 j108 j109 j110 j111 j112 j113 j114 j115 j116 j117
  have l0 : R0.length = 2 := hg.row R0 (by simp)
  have l1 : R1.length = 2 := hg.row R1 (by simp)
  have hb := hg.b (r := 1) (c := c) (by omega) hcn
  have hx0 : cel [R0, R1] 1 c = R1.getD c 0 := rfl
  have hget := get_al (l := R1) (i := c) (by omega)
  rw [← hx0] at hget
  have zn : ((2 : Int) = 0) = False := eq_false (by decide)
  have v1 : IntKind.i64.wrap z1 = z1 := wrap_id (by omega) (by omega)
  have v2 : IntKind.i64.wrap z2 = z2 := wrap_id (by omega) (by omega)
  have v3 : IntKind.i64.wrap z3 = z3 := wrap_id (by omega) (by omega)
  have hci : (c : Int) < 2 := by omega
  have hxd : ∃ x, x = cel [R0, R1] 1 c := ⟨_, rfl⟩
  obtain ⟨x, hx⟩ := hxd
  rw [← hx] at hget hb
  have v4 : IntKind.i64.wrap (10 - x) = 10 - x := wrap_id (by omega) (by omega)
  have zx : (10 - x = 0) = False := eq_false (by omega)
  have hq := tmod_b (a := z3) (n := 10 - x) b3.1 (by omega)
  obtain ⟨v, hv⟩ : ∃ v, v = x + z3.tmod (10 - x) := ⟨_, rfl⟩
  have v5 : IntKind.i64.wrap (x + z3.tmod (10 - x)) = v := by rw [wrap_id (by omega) (by omega), hv]
  have hset : (R1.map ai).set c (.v (.int .i64 v)) = (R1.set c v).map ai := by rw [List.map_set]; rfl
  have hg2 := gT_set hg (r := 1) (c := c) (by omega) hcn (v := v) (by omega)
  have hl2 := leT_set hg (r := 1) (c := c) (by omega) hcn (v := v) (by rw [← hx]; omega)
  have hT2 : List.set [R0, R1] 1 ((List.getD [R0, R1] 1 []).set c v) = [R0, R1.set c v] := rfl
  rw [hT2] at hg2 hl2
  have hc1 := count_run hg
  have hc2 := count_run hg2
  have hw1 := weight_run hg
  have hw2 := weight_run hg2
  have m1 := cnt_mono hg hg2 hl2
  have m2 := wgtT_mono hg hg2 hl2
  have d1 : decide (((cntP 2 [R0, R1] : Nat) : Int) ≤ ((cntP 2 [R0, R1.set c v] : Nat) : Int)) = true := decide_eq_true (by omega)
  have d2 : decide (wgtT 2 [R0, R1] ≤ wgtT 2 [R0, R1.set c v]) = true := decide_eq_true m2
  have s1 : (R1.set c v).length = 2 := by rw [List.length_set]; exact l1
  have hre : ∀ η : Heap, η = [(1009, (1, some ⟨3, 1, (R0).map ai⟩)), (1011, (1, some ⟨37, 1, [.os 1009 1 2 1 0 2, .os 101009 1 2 1 0 2]⟩)), (101009, (1, some ⟨3, 1, (R1.set c v).map ai⟩))] → [.os 1011 1 2 1 0 2].mapM (reify η 20) = some [aT [R0, R1.set c v]] := fun η hη => by
    subst hη
    have e : reify [(1009, (1, some ⟨3, 1, (R0).map ai⟩)), (1011, (1, some ⟨37, 1, [.os 1009 1 2 1 0 2, .os 101009 1 2 1 0 2]⟩)), (101009, (1, some ⟨3, 1, (R1.set c v).map ai⟩))] 20 (.os 1011 1 2 1 0 2) = ([.os 1009 1 2 1 0 2, .os 101009 1 2 1 0 2].mapM (elemR (reify [(1009, (1, some ⟨3, 1, (R0).map ai⟩)), (1011, (1, some ⟨37, 1, [.os 1009 1 2 1 0 2, .os 101009 1 2 1 0 2]⟩)), (101009, (1, some ⟨3, 1, (R1.set c v).map ai⟩))] 19))).map (AV.sl 1 false) := rfl
    rw [List.mapM_cons, List.mapM_nil, e, List.mapM_cons, reify_rw (R := R0) l0 rfl, List.mapM_cons, reify_rw (R := R1.set c v) s1 rfl, List.mapM_nil]; rfl
  generalize cntP 2 [R0, R1] = k1 at *
  generalize cntP 2 [R0, R1.set c v] = k2 at *
  generalize wgtT 2 [R0, R1] = u1 at *
  generalize wgtT 2 [R0, R1.set c v] = u2 at *
  have e00 : ((0 : Int) == 0) = true := rfl
  refine W_run 200 ?_
  simp (maxSteps := 2000000) only [SA, Nat.reduceDiv, Nat.reduceSub, Nat.reduceAdd, Int.reduceLT, Int.reduceLE, Int.reduceToNat, Nat.reduceMul, Nat.reduceEqDiff, reduceCtorEq, Nat.reduceBEq, Nat.reduceLeDiff, Nat.reduceLT, xf9_R0, ai, al, aT, u8, l0, l1, zn, zx, v1, v2, v3, v4, v5, hr, hc, hci, hget, hset, raw_conv, rawC, opA, argT, Option.elim, List.map_cons, List.map_nil]
  refine W_call (args := [aT [R0, R1]]) rfl (noRefs_T _) hc1 rfl (W_run 200 ?_)
  simp (maxSteps := 2000000) only [SA, Nat.reduceDiv, Nat.reduceSub, Nat.reduceAdd, Int.reduceLT, Int.reduceLE, Int.reduceToNat, Nat.reduceMul, Nat.reduceEqDiff, reduceCtorEq, Nat.reduceBEq, Nat.reduceLeDiff, Nat.reduceLT, ai]
  refine W_look (fuel := 20) (args := [.os 1011 1 2 1 0 2]) (args' := [aT [R0, R1.set c v]]) rfl (hre _ rfl) hc2 rfl rfl (W_run 200 ?_)
  simp (maxSteps := 2000000) only [SA, Nat.reduceDiv, Nat.reduceSub, Nat.reduceAdd, Int.reduceLT, Int.reduceLE, Int.reduceToNat, Nat.reduceMul, Nat.reduceEqDiff, reduceCtorEq, Nat.reduceBEq, Nat.reduceLeDiff, Nat.reduceLT, ai]
  refine W_call (args := [aT [R0, R1]]) rfl (noRefs_T _) hw1 rfl (W_run 200 ?_)
  simp (maxSteps := 2000000) only [SA, Nat.reduceDiv, Nat.reduceSub, Nat.reduceAdd, Int.reduceLT, Int.reduceLE, Int.reduceToNat, Nat.reduceMul, Nat.reduceEqDiff, reduceCtorEq, Nat.reduceBEq, Nat.reduceLeDiff, Nat.reduceLT, ai]
  refine W_look (fuel := 20) (args := [.os 1011 1 2 1 0 2]) (args' := [aT [R0, R1.set c v]]) rfl (hre _ rfl) hw2 rfl rfl (W_run 200 ?_)
  simp (maxSteps := 2000000) only [SA, Nat.reduceDiv, Nat.reduceSub, Nat.reduceAdd, Int.reduceLT, Int.reduceLE, Int.reduceToNat, Nat.reduceMul, Nat.reduceEqDiff, reduceCtorEq, Nat.reduceBEq, Nat.reduceLeDiff, Nat.reduceLT, ai, e00, d1, d2]
  refine W_call (args := []) rfl rfl hW rfl (W_run 200 ?_)
  simp (maxSteps := 2000000) only [SA, Nat.reduceDiv, Nat.reduceSub, Nat.reduceAdd, Int.reduceLT, Int.reduceLE, Int.reduceToNat, Nat.reduceMul, Nat.reduceEqDiff, reduceCtorEq, Nat.reduceBEq, Nat.reduceLeDiff, Nat.reduceLT, ai]
  exact W_ret1 (WX_nil ⟨.inl rfl, _, rfl, rfl⟩)
theorem cpy_2 {R0 R1 : List Int} (hg : gT 2 [R0, R1]) (z1 z2 z3 : Int) (K : List Fr) (Q : Out → Cfg → Prop)
    (hK : ∀ j0 j4 j5 j6 j7 j8 j12 j13 j14 j15 j16 j17 j18 j19 j20 j21 j22 j23 j24 j25 j26 j27 j28 j31 j32 j33 j34 j35 j36 j37 j38 j39 j40 j41 j42 j43 j44 j45 j46 j47 j48 j49 j50 j51 j52 j53 j54 j55 j56 j57 j58 j59 j60 j61 j62 j63 j64 j65 j66 j67 j68 j69 j70 j71 j72 j73 j74 j75 j76 j77 j78 j79 j80 j81 j82 j83 j84 j85 j86 j87 j88 j89 j90 j91 j92 j93 j94 j95 j96 j97 j98 j99 j100 j101 j102 j103 j104 j105 j106 j107 j108 j109 j110 j111 j112 j113 j114 j115 j116 j117 : AV, W Try.prog (RelU Try.prog xf) 0 K ⟨(j0 :: (u8 z1) :: (u8 z2) :: (u8 z3) :: j4 :: j5 :: j6 :: j7 :: j8 :: (aT [R0, R1]) :: (ai 2) :: (.os 1011 1 2 1 0 2) :: j12 :: j13 :: j14 :: j15 :: j16 :: j17 :: j18 :: j19 :: j20 :: j21 :: j22 :: j23 :: j24 :: j25 :: j26 :: j27 :: j28 :: (ai 2) :: (ai 2) :: j31 :: j32 :: j33 :: j34 :: j35 :: j36 :: j37 :: j38 :: j39 :: j40 :: j41 :: j42 :: j43 :: j44 :: j45 :: j46 :: j47 :: j48 :: j49 :: j50 :: j51 :: j52 :: j53 :: j54 :: j55 :: j56 :: j57 :: j58 :: j59 :: j60 :: j61 :: j62 :: j63 :: j64 :: j65 :: j66 :: j67 :: j68 :: j69 :: j70 :: j71 :: j72 :: j73 :: j74 :: j75 :: j76 :: j77 :: j78 :: j79 :: j80 :: j81 :: j82 :: j83 :: j84 :: j85 :: j86 :: j87 :: j88 :: j89 :: j90 :: j91 :: j92 :: j93 :: j94 :: j95 :: j96 :: j97 :: j98 :: j99 :: j100 :: j101 :: j102 :: j103 :: j104 :: j105 :: j106 :: j107 :: j108 :: j109 :: j110 :: j111 :: j112 :: j113 :: j114 :: j115 :: j116 :: j117 :: []), [(1009, (1, some ⟨3, 1, R0.map ai⟩)), (1011, (1, some ⟨37, 1, [.os 1009 1 2 1 0 2, .os 101009 1 2 1 0 2]⟩)), (101009, (1, some ⟨3, 1, R1.map ai⟩))]⟩ Q) :
    ∀ j0 j4 j5 j6 j7 j8 j12 j13 j14 j15 j16 j17 j18 j19 j20 j21 j22 j23 j24 j25 j26 j27 j28 j31 j32 j33 j34 j35 j36 j37 j38 j39 j40 j41 j42 j43 j44 j45 j46 j47 j48 j49 j50 j51 j52 j53 j54 j55 j56 j57 j58 j59 j60 j61 j62 j63 j64 j65 j66 j67 j68 j69 j70 j71 j72 j73 j74 j75 j76 j77 j78 j79 j80 j81 j82 j83 j84 j85 j86 j87 j88 j89 j90 j91 j92 j93 j94 j95 j96 j97 j98 j99 j100 j101 j102 j103 j104 j105 j106 j107 j108 j109 j110 j111 j112 j113 j114 j115 j116 j117 : AV, W Try.prog (RelU Try.prog xf) 0 (.code (.loop xf9_L0) :: .blk 0 :: .stop :: K) ⟨(j0 :: (u8 z1) :: (u8 z2) :: (u8 z3) :: j4 :: j5 :: j6 :: j7 :: j8 :: (aT [R0, R1]) :: (ai 2) :: (.os 1011 1 2 1 0 2) :: j12 :: j13 :: j14 :: j15 :: j16 :: j17 :: j18 :: j19 :: j20 :: j21 :: j22 :: j23 :: j24 :: j25 :: j26 :: j27 :: j28 :: (ai 2) :: (ai 0) :: j31 :: j32 :: j33 :: j34 :: j35 :: j36 :: j37 :: j38 :: j39 :: j40 :: j41 :: j42 :: j43 :: j44 :: j45 :: j46 :: j47 :: j48 :: j49 :: j50 :: j51 :: j52 :: j53 :: j54 :: j55 :: j56 :: j57 :: j58 :: j59 :: j60 :: j61 :: j62 :: j63 :: j64 :: j65 :: j66 :: j67 :: j68 :: j69 :: j70 :: j71 :: j72 :: j73 :: j74 :: j75 :: j76 :: j77 :: j78 :: j79 :: j80 :: j81 :: j82 :: j83 :: j84 :: j85 :: j86 :: j87 :: j88 :: j89 :: j90 :: j91 :: j92 :: j93 :: j94 :: j95 :: j96 :: j97 :: j98 :: j99 :: j100 :: j101 :: j102 :: j103 :: j104 :: j105 :: j106 :: j107 :: j108 :: j109 :: j110 :: j111 :: j112 :: j113 :: j114 :: j115 :: j116 :: j117 :: []), [(1009, (1, some ⟨3, 1, [.v (.int .i64 0), .v (.int .i64 0)]⟩)), (1011, (1, some ⟨37, 1, [.os 1009 1 2 1 0 2, .os 101009 1 2 1 0 2]⟩)), (101009, (1, some ⟨3, 1, [.v (.int .i64 0), .v (.int .i64 0)]⟩))]⟩ Q := by
  intro j0 j4 j5 j6 j7 j8 j12 j13 j14 j15 j16 j17 j18 j19 j20 j21 j22 j23 j24 j25 j26 j27 j28 j31 j32 j33 j34 j35 j36 j37 j38 j39 j40 j41 j42 j43 j44 j45 j46 j47 j48 j49 j50 j51 j52 j53 j54 j55 j56 j57 j58 j59 j60 j61 j62 j63 j64 j65 j66 j67 j68 j69 j70 j71 j72 j73 j74 j75 j76 j77 j78 j79 j80 j81 j82 j83 j84 j85 j86 j87 j88 j89 j90 j91 j92 j93 j94 j95 j96 j97 j98 j99 j100 j101 j102 j103 j104 j105 j106 j107 j108 j109 j110 j111 j112 j113 j114 j115 j116 j117
  have l0 : R0.length = 2 := hg.row R0 (by simp)
  have l1 : R1.length = 2 := hg.row R1 (by simp)
  have w0 : IntKind.i64.wrap (0 + 1) = 1 := rfl
  have w1 : IntKind.i64.wrap (1 + 1) = 2 := rfl
  have w2 : IntKind.i64.wrap (2 + 1) = 3 := rfl
  have w3 : IntKind.i64.wrap (3 + 1) = 4 := rfl
  have n0 : (R0.map ai ≠ []) = True := eq_true (by intro q; have := congrArg List.length q; rw [List.length_map, l0] at this; cases this)
  have k0 : List.take 2 (R0.map ai) = R0.map ai := List.take_of_length_le (by rw [List.length_map, l0]; exact Nat.le_refl _)
  have o0 := map_all R0
  have n1 : (R1.map ai ≠ []) = True := eq_true (by intro q; have := congrArg List.length q; rw [List.length_map, l1] at this; cases this)
  have k1 : List.take 2 (R1.map ai) = R1.map ai := List.take_of_length_le (by rw [List.length_map, l1]; exact Nat.le_refl _)
  have o1 := map_all R1
  have mn : min 2 2 = 2 := Nat.min_self 2
  refine W_loop (W_run 160 ?_)
  simp (maxSteps := 2000000) only [SA, Nat.reduceDiv, Nat.reduceSub, Nat.reduceAdd, Int.reduceLT, Int.reduceLE, Int.reduceToNat, Nat.reduceMul, Nat.reduceEqDiff, reduceCtorEq, Nat.reduceBEq, Nat.reduceLeDiff, Nat.reduceLT, xf9_L0, ai, al, aT, stF_cpy, Go.Proofs.Eng.elems, l0, n0, k0, o0, w0, l1, n1, k1, o1, w1, mn, List.map_cons, List.map_nil, ne_eq, not_true_eq_false, not_false_eq_true]
  refine W_loop (W_run 160 ?_)
  simp (maxSteps := 2000000) only [SA, Nat.reduceDiv, Nat.reduceSub, Nat.reduceAdd, Int.reduceLT, Int.reduceLE, Int.reduceToNat, Nat.reduceMul, Nat.reduceEqDiff, reduceCtorEq, Nat.reduceBEq, Nat.reduceLeDiff, Nat.reduceLT, xf9_L0, ai, al, aT, stF_cpy, Go.Proofs.Eng.elems, l0, n0, k0, o0, w0, l1, n1, k1, o1, w1, mn, List.map_cons, List.map_nil, ne_eq, not_true_eq_false, not_false_eq_true]
  refine W_loop (W_run 160 ?_)
  simp (maxSteps := 2000000) only [SA, Nat.reduceDiv, Nat.reduceSub, Nat.reduceAdd, Int.reduceLT, Int.reduceLE, Int.reduceToNat, Nat.reduceMul, Nat.reduceEqDiff, reduceCtorEq, Nat.reduceBEq, Nat.reduceLeDiff, Nat.reduceLT, xf9_L0, ai, al, aT, List.map_cons, List.map_nil]
  exact W_stop (hK _ _ _ _ _ _ _ _ _ _ _ _ _ _ _ _ _ _ _ _ _ _ _ _ _ _ _ _ _ _ _ _ _ _ _ _ _ _ _ _ _ _ _ _ _ _ _ _ _ _ _ _ _ _ _ _ _ _ _ _ _ _ _ _ _ _ _ _ _ _ _ _ _ _ _ _ _ _ _ _ _ _ _ _ _ _ _ _ _ _ _ _ _ _ _ _ _ _ _ _ _ _ _ _ _ _ _ _ _ _)
theorem more_2 {R0 R1 : List Int} (hg : gT 2 [R0, R1]) {a b e z1 z2 z3 : Int} {D H : List Int} (hD : D.length = 16) (hH : H.length = 8) (hfree : Runs Try.prog xf 29 [ldg a b e D H] (aT [R0, R1])) (b1 : 0 ≤ z1 ∧ z1 ≤ 255) (b2 : 0 ≤ z2 ∧ z2 ≤ 255) (b3 : 0 ≤ z3 ∧ z3 ≤ 255) (hW : Runs Try.prog xf 28 [] (.v (.bool true))) :
    Runs Try.prog xf 9 [ldg a b e D H, u8 z1, u8 z2, u8 z3] (.v (.bool true)) := by
  have hl27 : (D.map u8 ++ H.map u8).length = 24 := by simp [hD, hH]
  have ht27 : List.take 24 (D.map u8 ++ H.map u8) = D.map u8 ++ H.map u8 := List.take_of_length_le (by rw [hl27]; omega)
  have hnr := noRef_ldg a b e D H
  obtain ⟨r1, r2⟩ := tmod_b (a := z1) (n := 2) b1.1 (by omega)
  obtain ⟨c1, c2⟩ := tmod_b (a := z2) (n := 2) b2.1 (by omega)
  obtain ⟨c, hc⟩ : ∃ c : Nat, z2.tmod 2 = (c : Int) := ⟨(z2.tmod 2).toNat, by omega⟩
  have hfin : ∀ j0 j4 j5 j6 j7 j8 j12 j13 j14 j15 j16 j17 j18 j19 j20 j21 j22 j23 j24 j25 j26 j27 j28 j29 j30 j31 j32 j33 j34 j35 j36 j37 j38 j39 j40 j41 j42 j43 j44 j45 j46 j47 j48 j49 j50 j51 j52 j53 j54 j55 j56 j57 j58 j59 j60 j61 j62 j63 j64 j65 j66 j67 j68 j69 j70 j71 j72 j73 j74 j75 j76 j77 j78 j79 j80 j81 j82 j83 j84 j85 j86 j87 j88 j89 j90 j91 j92 j93 j94 j95 j96 j97 j98 j99 j100 j101 j102 j103 j104 j105 j106 j107 j108 j109 j110 j111 j112 j113 j114 j115 j116 j117 : AV, W Try.prog (RelU Try.prog xf) 0 [.code xf9_R0] ⟨(j0 :: (u8 z1) :: (u8 z2) :: (u8 z3) :: j4 :: j5 :: j6 :: j7 :: j8 :: (aT [R0, R1]) :: (ai 2) :: (.os 1011 1 2 1 0 2) :: j12 :: j13 :: j14 :: j15 :: j16 :: j17 :: j18 :: j19 :: j20 :: j21 :: j22 :: j23 :: j24 :: j25 :: j26 :: j27 :: j28 :: j29 :: j30 :: j31 :: j32 :: j33 :: j34 :: j35 :: j36 :: j37 :: j38 :: j39 :: j40 :: j41 :: j42 :: j43 :: j44 :: j45 :: j46 :: j47 :: j48 :: j49 :: j50 :: j51 :: j52 :: j53 :: j54 :: j55 :: j56 :: j57 :: j58 :: j59 :: j60 :: j61 :: j62 :: j63 :: j64 :: j65 :: j66 :: j67 :: j68 :: j69 :: j70 :: j71 :: j72 :: j73 :: j74 :: j75 :: j76 :: j77 :: j78 :: j79 :: j80 :: j81 :: j82 :: j83 :: j84 :: j85 :: j86 :: j87 :: j88 :: j89 :: j90 :: j91 :: j92 :: j93 :: j94 :: j95 :: j96 :: j97 :: j98 :: j99 :: j100 :: j101 :: j102 :: j103 :: j104 :: j105 :: j106 :: j107 :: j108 :: j109 :: j110 :: j111 :: j112 :: j113 :: j114 :: j115 :: j116 :: j117 :: []), [(1009, (1, some ⟨3, 1, R0.map ai⟩)), (1011, (1, some ⟨37, 1, [.os 1009 1 2 1 0 2, .os 101009 1 2 1 0 2]⟩)), (101009, (1, some ⟨3, 1, R1.map ai⟩))]⟩ QM := by
    rcases (by omega : z1.tmod 2 = 0 ∨ z1.tmod 2 = 1) with hr | hr
    · exact end_2_0 hg hW b1 b2 b3 hr c hc (by omega)
    · exact end_2_1 hg hW b1 b2 b3 hr c hc (by omega)
  refine Runs.ofW (fn := xf9) 20 (by kernel_rfl) (W_run 120 ?_)
  simp (maxSteps := 2000000) only [SA, Nat.reduceDiv, Nat.reduceSub, Nat.reduceAdd, Int.reduceLT, Int.reduceLE, Int.reduceToNat, Nat.reduceMul, Nat.reduceEqDiff, reduceCtorEq, Nat.reduceBEq, Nat.reduceLeDiff, Nat.reduceLT, xf9, ai, nilA, ldg, u8, hl27, ht27, List.length_append, hD, hH]
  refine W_call (args := [ldg a b e D H]) rfl (noRefs_1 hnr) hfree (noRef_T _) (W_run 120 ?_)
  simp (maxSteps := 2000000) only [SA, Nat.reduceDiv, Nat.reduceSub, Nat.reduceAdd, Int.reduceLT, Int.reduceLE, Int.reduceToNat, Nat.reduceMul, Nat.reduceEqDiff, reduceCtorEq, Nat.reduceBEq, Nat.reduceLeDiff, Nat.reduceLT, ai, nilA, aT, u8, List.map_cons, List.map_nil]
  refine W_callR (kb' := 1000) (args := [ai 2]) rfl emp_2 rfl (W_run 120 ?_)
  simp (maxSteps := 2000000) only [SA, Nat.reduceDiv, Nat.reduceSub, Nat.reduceAdd, Int.reduceLT, Int.reduceLE, Int.reduceToNat, Nat.reduceMul, Nat.reduceEqDiff, reduceCtorEq, Nat.reduceBEq, Nat.reduceLeDiff, Nat.reduceLT, ai, nilA, aT, u8]
  exact W_alone (cpy_2 hg z1 z2 z3 _ _ (fun j0 j4 j5 j6 j7 j8 j12 j13 j14 j15 j16 j17 j18 j19 j20 j21 j22 j23 j24 j25 j26 j27 j28 j31 j32 j33 j34 j35 j36 j37 j38 j39 j40 j41 j42 j43 j44 j45 j46 j47 j48 j49 j50 j51 j52 j53 j54 j55 j56 j57 j58 j59 j60 j61 j62 j63 j64 j65 j66 j67 j68 j69 j70 j71 j72 j73 j74 j75 j76 j77 j78 j79 j80 j81 j82 j83 j84 j85 j86 j87 j88 j89 j90 j91 j92 j93 j94 j95 j96 j97 j98 j99 j100 j101 j102 j103 j104 j105 j106 j107 j108 j109 j110 j111 j112 j113 j114 j115 j116 j117 => hfin _ _ _ _ _ _ _ _ _ _ _ _ _ _ _ _ _ _ _ _ _ _ _ _ _ _ _ _ _ _ _ _ _ _ _ _ _ _ _ _ _ _ _ _ _ _ _ _ _ _ _ _ _ _ _ _ _ _ _ _ _ _ _ _ _ _ _ _ _ _ _ _ _ _ _ _ _ _ _ _ _ _ _ _ _ _ _ _ _ _ _ _ _ _ _ _ _ _ _ _ _ _ _ _ _ _ _ _ _ _ _ _) _ _ _ _ _ _ _ _ _ _ _ _ _ _ _ _ _ _ _ _ _ _ _ _ _ _ _ _ _ _ _ _ _ _ _ _ _ _ _ _ _ _ _ _ _ _ _ _ _ _ _ _ _ _ _ _ _ _ _ _ _ _ _ _ _ _ _ _ _ _ _ _ _ _ _ _ _ _ _ _ _ _ _ _ _ _ _ _ _ _ _ _ _ _ _ _ _ _ _ _ _ _ _ _ _ _ _ _ _ _)
end Go.Proofs.Ytelkpfionifjgaa

