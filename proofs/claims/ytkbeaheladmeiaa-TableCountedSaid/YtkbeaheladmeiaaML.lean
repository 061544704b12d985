/-
  TableCounted's own search: 4 rows.
-/
import Derived.Test.YtkbeaheladmeiaaMH
set_option linter.unusedSimpArgs false
set_option linter.unusedVariables false
namespace Go.Proofs.Ytkbeaheladmeiaa
open Go Go.Proofs.Eng
set_option maxRecDepth 100000
set_option maxHeartbeats 4000000
theorem call_put4 : callable Try.prog 40 = true := by kernel_rfl
theorem reT_4 {M : List (List Int)} (hl : M.length = 4) (hr : ∀ R, R ∈ M → R.length = 4) {η : Heap} {e e' : Nat} (h : Go.Proofs.Eng.look η 1011 = (1, some ⟨e, 1, [.os 1009 1 4 1 0 4, .os 101009 1 4 1 0 4, .os 201009 1 4 1 0 4, .os 301009 1 4 1 0 4]⟩))
    (h0 : Go.Proofs.Eng.look η 1009 = (1, some ⟨e', 1, (M.getD 0 []).map ai⟩)) (h1 : Go.Proofs.Eng.look η 101009 = (1, some ⟨e', 1, (M.getD 1 []).map ai⟩)) (h2 : Go.Proofs.Eng.look η 201009 = (1, some ⟨e', 1, (M.getD 2 []).map ai⟩)) (h3 : Go.Proofs.Eng.look η 301009 = (1, some ⟨e', 1, (M.getD 3 []).map ai⟩)) : reify η 20 (.os 1011 1 4 1 0 4) = some (aT M) := by
  have hML : M = [M.getD 0 [], M.getD 1 [], M.getD 2 [], M.getD 3 []] := by
    match M, hl with
    | [R0, R1, R2, R3], _ => rfl
  have hrl : ∀ r, r < 4 → (M.getD r []).length = 4 := fun r hlt => hr _ (getD_mem (by rw [hl]; exact hlt))
  have e1 : reify η 20 (.os 1011 1 4 1 0 4) = ([.os 1009 1 4 1 0 4, .os 101009 1 4 1 0 4, .os 201009 1 4 1 0 4, .os 301009 1 4 1 0 4].mapM (elemR (reify η 19))).map (AV.sl 1 false) := reify_osX (n := 19) rfl h
  rw [e1, List.mapM_cons, reify_rw (R := M.getD 0 []) (hrl 0 (by omega)) h0, List.mapM_cons, reify_rw (R := M.getD 1 []) (hrl 1 (by omega)) h1, List.mapM_cons, reify_rw (R := M.getD 2 []) (hrl 2 (by omega)) h2, List.mapM_cons, reify_rw (R := M.getD 3 []) (hrl 3 (by omega)) h3, List.mapM_nil]
  conv => rhs; rw [hML]
  rfl
theorem dec_4 (Ps : List (List Int)) {M : List (List Int)} (hs : shT 4 1000 M) {p : List Int} (hp : okP 4 p) (i : Nat) (s : Nat) (c : Int) (j : Nat) (K : List Fr) (Q : Out → Cfg → Prop)
    (hK : ∀ j5 j6 j7 j10 j11 j12 j13 j14 j15 j16 j17 j18 j19 j20 j21 j22 j23 j24 j25 j26 j27 j28 j29 j30 j31 j32 j33 j34 j35 j36 j37 j38 j42 j43 j44 j45 j46 j47 j48 j49 j50 j51 j52 j53 j54 j55 j56 j57 j58 j59 j60 j61 j62 j63 j64 j65 j66 j67 j68 j69 j70 j71 j72 j73 j74 j75 j76 j77 j78 j79 j80 j81 j82 j83 j84 : AV, W Try.prog (RelU Try.prog xf) 1000 K ⟨((ai i) :: (ai s) :: (.o 6 1 1 0 0) :: (.o 9 1 1 0 0) :: (.o 7 1 1 0 0) :: j5 :: j6 :: j7 :: (ai c) :: (ai j) :: j10 :: j11 :: j12 :: j13 :: j14 :: j15 :: j16 :: j17 :: j18 :: j19 :: j20 :: j21 :: j22 :: j23 :: j24 :: j25 :: j26 :: j27 :: j28 :: j29 :: j30 :: j31 :: j32 :: j33 :: j34 :: j35 :: j36 :: j37 :: j38 :: (al false p) :: (ai 4) :: (ai 4) :: j42 :: j43 :: j44 :: j45 :: j46 :: j47 :: j48 :: j49 :: j50 :: j51 :: j52 :: j53 :: j54 :: j55 :: j56 :: j57 :: j58 :: j59 :: j60 :: j61 :: j62 :: j63 :: j64 :: j65 :: j66 :: j67 :: j68 :: j69 :: j70 :: j71 :: j72 :: j73 :: j74 :: j75 :: j76 :: j77 :: j78 :: j79 :: j80 :: j81 :: j82 :: j83 :: j84 :: []), [(6, (1, some ⟨26, 1, [aT Ps]⟩)), (7, (1, some ⟨26, 1, [.os 1011 1 4 1 0 4]⟩)), (9, (1, some ⟨66, 1, [.fn 40 [.o 6 1 1 0 0, .o 9 1 1 0 0, .o 7 1 1 0 0]]⟩)), (1009, (1, some ⟨3, 1, (addR M p (-1) 0).map ai⟩)), (1011, (1, some ⟨37, 1, [.os 1009 1 4 1 0 4, .os 101009 1 4 1 0 4, .os 201009 1 4 1 0 4, .os 301009 1 4 1 0 4]⟩)), (101009, (1, some ⟨3, 1, (addR M p (-1) 1).map ai⟩)), (201009, (1, some ⟨3, 1, (addR M p (-1) 2).map ai⟩)), (301009, (1, some ⟨3, 1, (addR M p (-1) 3).map ai⟩))]⟩ Q) :
    ∀ j5 j6 j7 j10 j11 j12 j13 j14 j15 j16 j17 j18 j19 j20 j21 j22 j23 j24 j25 j26 j27 j28 j29 j30 j31 j32 j33 j34 j35 j36 j37 j38 j42 j43 j44 j45 j46 j47 j48 j49 j50 j51 j52 j53 j54 j55 j56 j57 j58 j59 j60 j61 j62 j63 j64 j65 j66 j67 j68 j69 j70 j71 j72 j73 j74 j75 j76 j77 j78 j79 j80 j81 j82 j83 j84 : AV, W Try.prog (RelU Try.prog xf) 1000 (.code (.loop xf40_L0) :: .blk 2 :: .stop :: K) ⟨((ai i) :: (ai s) :: (.o 6 1 1 0 0) :: (.o 9 1 1 0 0) :: (.o 7 1 1 0 0) :: j5 :: j6 :: j7 :: (ai c) :: (ai j) :: j10 :: j11 :: j12 :: j13 :: j14 :: j15 :: j16 :: j17 :: j18 :: j19 :: j20 :: j21 :: j22 :: j23 :: j24 :: j25 :: j26 :: j27 :: j28 :: j29 :: j30 :: j31 :: j32 :: j33 :: j34 :: j35 :: j36 :: j37 :: j38 :: (al false p) :: (ai 4) :: (ai 0) :: j42 :: j43 :: j44 :: j45 :: j46 :: j47 :: j48 :: j49 :: j50 :: j51 :: j52 :: j53 :: j54 :: j55 :: j56 :: j57 :: j58 :: j59 :: j60 :: j61 :: j62 :: j63 :: j64 :: j65 :: j66 :: j67 :: j68 :: j69 :: j70 :: j71 :: j72 :: j73 :: j74 :: j75 :: j76 :: j77 :: j78 :: j79 :: j80 :: j81 :: j82 :: j83 :: j84 :: []), [(6, (1, some ⟨26, 1, [aT Ps]⟩)), (7, (1, some ⟨26, 1, [.os 1011 1 4 1 0 4]⟩)), (9, (1, some ⟨66, 1, [.fn 40 [.o 6 1 1 0 0, .o 9 1 1 0 0, .o 7 1 1 0 0]]⟩)), (1009, (1, some ⟨3, 1, (M.getD 0 []).map ai⟩)), (1011, (1, some ⟨37, 1, [.os 1009 1 4 1 0 4, .os 101009 1 4 1 0 4, .os 201009 1 4 1 0 4, .os 301009 1 4 1 0 4]⟩)), (101009, (1, some ⟨3, 1, (M.getD 1 []).map ai⟩)), (201009, (1, some ⟨3, 1, (M.getD 2 []).map ai⟩)), (301009, (1, some ⟨3, 1, (M.getD 3 []).map ai⟩))]⟩ Q := by
  intro j5 j6 j7 j10 j11 j12 j13 j14 j15 j16 j17 j18 j19 j20 j21 j22 j23 j24 j25 j26 j27 j28 j29 j30 j31 j32 j33 j34 j35 j36 j37 j38 j42 j43 j44 j45 j46 j47 j48 j49 j50 j51 j52 j53 j54 j55 j56 j57 j58 j59 j60 j61 j62 j63 j64 j65 j66 j67 j68 j69 j70 j71 j72 j73 j74 j75 j76 j77 j78 j79 j80 j81 j82 j83 j84
  have hpl := hp.1
  have hc0 := hp.2.1 _ (getD_mem (d := 0) (l := p) (i := 0) (by omega))
  have l0 : (M.getD 0 []).length = 4 := hs.rowlen (by omega)
  have gp0 := get_al (l := p) (i := 0) (by omega)
  have gw0 : ((M.getD 0 []).map ai)[(p.getD 0 0).toNat]? = some (ai (cel M 0 (p.getD 0 0).toNat)) := get_al (by omega)
  have hcb0 := hs.b (r := 0) (c := (p.getD 0 0).toNat) (by omega) (by omega)
  have ws0 : IntKind.i64.wrap (cel M 0 (p.getD 0 0).toNat - 1) = cel M 0 (p.getD 0 0).toNat + (-1) := by rw [wrap_id (by omega) (by omega)]; omega
  have st0 : ((M.getD 0 []).map ai).set (p.getD 0 0).toNat (.v (.int .i64 (cel M 0 (p.getD 0 0).toNat + (-1)))) = (addR M p (-1) 0).map ai := by unfold addR; rw [List.map_set]; rfl
  have w0 : IntKind.i64.wrap (0 + 1) = 1 := rfl
  have hc1 := hp.2.1 _ (getD_mem (d := 0) (l := p) (i := 1) (by omega))
  have l1 : (M.getD 1 []).length = 4 := hs.rowlen (by omega)
  have gp1 := get_al (l := p) (i := 1) (by omega)
  have gw1 : ((M.getD 1 []).map ai)[(p.getD 1 0).toNat]? = some (ai (cel M 1 (p.getD 1 0).toNat)) := get_al (by omega)
  have hcb1 := hs.b (r := 1) (c := (p.getD 1 0).toNat) (by omega) (by omega)
  have ws1 : IntKind.i64.wrap (cel M 1 (p.getD 1 0).toNat - 1) = cel M 1 (p.getD 1 0).toNat + (-1) := by rw [wrap_id (by omega) (by omega)]; omega
  have st1 : ((M.getD 1 []).map ai).set (p.getD 1 0).toNat (.v (.int .i64 (cel M 1 (p.getD 1 0).toNat + (-1)))) = (addR M p (-1) 1).map ai := by unfold addR; rw [List.map_set]; rfl
  have w1 : IntKind.i64.wrap (1 + 1) = 2 := rfl
  have hc2 := hp.2.1 _ (getD_mem (d := 0) (l := p) (i := 2) (by omega))
  have l2 : (M.getD 2 []).length = 4 := hs.rowlen (by omega)
  have gp2 := get_al (l := p) (i := 2) (by omega)
  have gw2 : ((M.getD 2 []).map ai)[(p.getD 2 0).toNat]? = some (ai (cel M 2 (p.getD 2 0).toNat)) := get_al (by omega)
  have hcb2 := hs.b (r := 2) (c := (p.getD 2 0).toNat) (by omega) (by omega)
  have ws2 : IntKind.i64.wrap (cel M 2 (p.getD 2 0).toNat - 1) = cel M 2 (p.getD 2 0).toNat + (-1) := by rw [wrap_id (by omega) (by omega)]; omega
  have st2 : ((M.getD 2 []).map ai).set (p.getD 2 0).toNat (.v (.int .i64 (cel M 2 (p.getD 2 0).toNat + (-1)))) = (addR M p (-1) 2).map ai := by unfold addR; rw [List.map_set]; rfl
  have w2 : IntKind.i64.wrap (2 + 1) = 3 := rfl
  have hc3 := hp.2.1 _ (getD_mem (d := 0) (l := p) (i := 3) (by omega))
  have l3 : (M.getD 3 []).length = 4 := hs.rowlen (by omega)
  have gp3 := get_al (l := p) (i := 3) (by omega)
  have gw3 : ((M.getD 3 []).map ai)[(p.getD 3 0).toNat]? = some (ai (cel M 3 (p.getD 3 0).toNat)) := get_al (by omega)
  have hcb3 := hs.b (r := 3) (c := (p.getD 3 0).toNat) (by omega) (by omega)
  have ws3 : IntKind.i64.wrap (cel M 3 (p.getD 3 0).toNat - 1) = cel M 3 (p.getD 3 0).toNat + (-1) := by rw [wrap_id (by omega) (by omega)]; omega
  have st3 : ((M.getD 3 []).map ai).set (p.getD 3 0).toNat (.v (.int .i64 (cel M 3 (p.getD 3 0).toNat + (-1)))) = (addR M p (-1) 3).map ai := by unfold addR; rw [List.map_set]; rfl
  have w3 : IntKind.i64.wrap (3 + 1) = 4 := rfl
  generalize addR M p (-1) 0 = A0 at *
  generalize cel M 0 (p.getD 0 0).toNat = y0 at *
  generalize p.getD 0 0 = d0 at *
  have z0 := hc0.1
  have u0 : d0 < 4 := by have := hc0.2; omega
  generalize addR M p (-1) 1 = A1 at *
  generalize cel M 1 (p.getD 1 0).toNat = y1 at *
  generalize p.getD 1 0 = d1 at *
  have z1 := hc1.1
  have u1 : d1 < 4 := by have := hc1.2; omega
  generalize addR M p (-1) 2 = A2 at *
  generalize cel M 2 (p.getD 2 0).toNat = y2 at *
  generalize p.getD 2 0 = d2 at *
  have z2 := hc2.1
  have u2 : d2 < 4 := by have := hc2.2; omega
  generalize addR M p (-1) 3 = A3 at *
  generalize cel M 3 (p.getD 3 0).toNat = y3 at *
  generalize p.getD 3 0 = d3 at *
  have z3 := hc3.1
  have u3 : d3 < 4 := by have := hc3.2; omega
  generalize M.getD 0 [] = W0 at *
  generalize M.getD 1 [] = W1 at *
  generalize M.getD 2 [] = W2 at *
  generalize M.getD 3 [] = W3 at *
  refine W_loop (W_run 200 ?_)
  simp (maxSteps := 2000000) only [SA, Nat.reduceDiv, Nat.reduceSub, Nat.reduceAdd, Int.reduceLT, Int.reduceLE, Int.reduceToNat, Nat.reduceMul, Nat.reduceEqDiff, reduceCtorEq, Nat.reduceBEq, Nat.reduceLeDiff, Nat.reduceLT, xf40_L0, ai, al, hpl, gp0, gw0, z0, u0, l0, ws0, st0, w0]
  refine W_loop (W_run 200 ?_)
  simp (maxSteps := 2000000) only [SA, Nat.reduceDiv, Nat.reduceSub, Nat.reduceAdd, Int.reduceLT, Int.reduceLE, Int.reduceToNat, Nat.reduceMul, Nat.reduceEqDiff, reduceCtorEq, Nat.reduceBEq, Nat.reduceLeDiff, Nat.reduceLT, xf40_L0, ai, al, hpl, gp1, gw1, z1, u1, l1, ws1, st1, w1]
  refine W_loop (W_run 200 ?_)
  simp (maxSteps := 2000000) only [SA, Nat.reduceDiv, Nat.reduceSub, Nat.reduceAdd, Int.reduceLT, Int.reduceLE, Int.reduceToNat, Nat.reduceMul, Nat.reduceEqDiff, reduceCtorEq, Nat.reduceBEq, Nat.reduceLeDiff, Nat.reduceLT, xf40_L0, ai, al, hpl, gp2, gw2, z2, u2, l2, ws2, st2, w2]
  refine W_loop (W_run 200 ?_)
  simp (maxSteps := 2000000) only [SA, Nat.reduceDiv, Nat.reduceSub, Nat.reduceAdd, Int.reduceLT, Int.reduceLE, Int.reduceToNat, Nat.reduceMul, Nat.reduceEqDiff, reduceCtorEq, Nat.reduceBEq, Nat.reduceLeDiff, Nat.reduceLT, xf40_L0, ai, al, hpl, gp3, gw3, z3, u3, l3, ws3, st3, w3]
  refine W_loop (W_run 200 ?_)
  simp (maxSteps := 2000000) only [SA, Nat.reduceDiv, Nat.reduceSub, Nat.reduceAdd, Int.reduceLT, Int.reduceLE, Int.reduceToNat, Nat.reduceMul, Nat.reduceEqDiff, reduceCtorEq, Nat.reduceBEq, Nat.reduceLeDiff, Nat.reduceLT, xf40_L0, ai, al]
  exact W_stop (hK _ _ _ _ _ _ _ _ _ _ _ _ _ _ _ _ _ _ _ _ _ _ _ _ _ _ _ _ _ _ _ _ _ _ _ _ _ _ _ _ _ _ _ _ _ _ _ _ _ _ _ _ _ _ _ _ _ _ _ _ _ _ _ _ _ _ _ _ _ _ _ _ _ _ _)
theorem inc_4 (Ps : List (List Int)) {M : List (List Int)} (hs : shT 4 1000 M) {p : List Int} (hp : okP 4 p) (c : Int) (j : Nat) (hj : j ≤ 100) (K : List Fr) (Q : Out → Cfg → Prop)
    (hK : ∀ j0 j1 j5 j6 j7 j10 j11 j12 j13 j14 j15 j16 j17 j18 j19 j20 j21 j22 j23 j24 j25 j26 j27 j28 j29 j30 j31 j32 j33 j34 j35 j36 j37 j38 j39 j40 j41 j42 j43 j44 j45 j46 j47 j48 j49 j50 j51 j52 j53 j54 j55 j56 j57 j58 j59 j60 j61 j62 j63 j64 j65 j69 j70 j71 j72 j73 j74 j75 j76 j77 j78 j79 j80 j81 j82 j83 j84 : AV, W Try.prog (RelU Try.prog xf) 1000 K ⟨(j0 :: j1 :: (.o 6 1 1 0 0) :: (.o 9 1 1 0 0) :: (.o 7 1 1 0 0) :: j5 :: j6 :: j7 :: (ai c) :: (ai j) :: j10 :: j11 :: j12 :: j13 :: j14 :: j15 :: j16 :: j17 :: j18 :: j19 :: j20 :: j21 :: j22 :: j23 :: j24 :: j25 :: j26 :: j27 :: j28 :: j29 :: j30 :: j31 :: j32 :: j33 :: j34 :: j35 :: j36 :: j37 :: j38 :: j39 :: j40 :: j41 :: j42 :: j43 :: j44 :: j45 :: j46 :: j47 :: j48 :: j49 :: j50 :: j51 :: j52 :: j53 :: j54 :: j55 :: j56 :: j57 :: j58 :: j59 :: j60 :: j61 :: j62 :: j63 :: j64 :: j65 :: (al false p) :: (ai 4) :: (ai 4) :: j69 :: j70 :: j71 :: j72 :: j73 :: j74 :: j75 :: j76 :: j77 :: j78 :: j79 :: j80 :: j81 :: j82 :: j83 :: j84 :: []), [(6, (1, some ⟨26, 1, [aT Ps]⟩)), (7, (1, some ⟨26, 1, [.os 1011 1 4 1 0 4]⟩)), (9, (1, some ⟨66, 1, [.fn 40 [.o 6 1 1 0 0, .o 9 1 1 0 0, .o 7 1 1 0 0]]⟩)), (1009, (1, some ⟨3, 1, (addR M p (j : Int) 0).map ai⟩)), (1011, (1, some ⟨37, 1, [.os 1009 1 4 1 0 4, .os 101009 1 4 1 0 4, .os 201009 1 4 1 0 4, .os 301009 1 4 1 0 4]⟩)), (101009, (1, some ⟨3, 1, (addR M p (j : Int) 1).map ai⟩)), (201009, (1, some ⟨3, 1, (addR M p (j : Int) 2).map ai⟩)), (301009, (1, some ⟨3, 1, (addR M p (j : Int) 3).map ai⟩))]⟩ Q) :
    ∀ j0 j1 j5 j6 j7 j10 j11 j12 j13 j14 j15 j16 j17 j18 j19 j20 j21 j22 j23 j24 j25 j26 j27 j28 j29 j30 j31 j32 j33 j34 j35 j36 j37 j38 j39 j40 j41 j42 j43 j44 j45 j46 j47 j48 j49 j50 j51 j52 j53 j54 j55 j56 j57 j58 j59 j60 j61 j62 j63 j64 j65 j69 j70 j71 j72 j73 j74 j75 j76 j77 j78 j79 j80 j81 j82 j83 j84 : AV, W Try.prog (RelU Try.prog xf) 1000 (.code (.loop xf40_L2) :: .blk 4 :: .stop :: K) ⟨(j0 :: j1 :: (.o 6 1 1 0 0) :: (.o 9 1 1 0 0) :: (.o 7 1 1 0 0) :: j5 :: j6 :: j7 :: (ai c) :: (ai j) :: j10 :: j11 :: j12 :: j13 :: j14 :: j15 :: j16 :: j17 :: j18 :: j19 :: j20 :: j21 :: j22 :: j23 :: j24 :: j25 :: j26 :: j27 :: j28 :: j29 :: j30 :: j31 :: j32 :: j33 :: j34 :: j35 :: j36 :: j37 :: j38 :: j39 :: j40 :: j41 :: j42 :: j43 :: j44 :: j45 :: j46 :: j47 :: j48 :: j49 :: j50 :: j51 :: j52 :: j53 :: j54 :: j55 :: j56 :: j57 :: j58 :: j59 :: j60 :: j61 :: j62 :: j63 :: j64 :: j65 :: (al false p) :: (ai 4) :: (ai 0) :: j69 :: j70 :: j71 :: j72 :: j73 :: j74 :: j75 :: j76 :: j77 :: j78 :: j79 :: j80 :: j81 :: j82 :: j83 :: j84 :: []), [(6, (1, some ⟨26, 1, [aT Ps]⟩)), (7, (1, some ⟨26, 1, [.os 1011 1 4 1 0 4]⟩)), (9, (1, some ⟨66, 1, [.fn 40 [.o 6 1 1 0 0, .o 9 1 1 0 0, .o 7 1 1 0 0]]⟩)), (1009, (1, some ⟨3, 1, (M.getD 0 []).map ai⟩)), (1011, (1, some ⟨37, 1, [.os 1009 1 4 1 0 4, .os 101009 1 4 1 0 4, .os 201009 1 4 1 0 4, .os 301009 1 4 1 0 4]⟩)), (101009, (1, some ⟨3, 1, (M.getD 1 []).map ai⟩)), (201009, (1, some ⟨3, 1, (M.getD 2 []).map ai⟩)), (301009, (1, some ⟨3, 1, (M.getD 3 []).map ai⟩))]⟩ Q := by
  intro j0 j1 j5 j6 j7 j10 j11 j12 j13 j14 j15 j16 j17 j18 j19 j20 j21 j22 j23 j24 j25 j26 j27 j28 j29 j30 j31 j32 j33 j34 j35 j36 j37 j38 j39 j40 j41 j42 j43 j44 j45 j46 j47 j48 j49 j50 j51 j52 j53 j54 j55 j56 j57 j58 j59 j60 j61 j62 j63 j64 j65 j69 j70 j71 j72 j73 j74 j75 j76 j77 j78 j79 j80 j81 j82 j83 j84
  have hpl := hp.1
  have hc0 := hp.2.1 _ (getD_mem (d := 0) (l := p) (i := 0) (by omega))
  have l0 : (M.getD 0 []).length = 4 := hs.rowlen (by omega)
  have gp0 := get_al (l := p) (i := 0) (by omega)
  have gw0 : ((M.getD 0 []).map ai)[(p.getD 0 0).toNat]? = some (ai (cel M 0 (p.getD 0 0).toNat)) := get_al (by omega)
  have hcb0 := hs.b (r := 0) (c := (p.getD 0 0).toNat) (by omega) (by omega)
  have ws0 : IntKind.i64.wrap (cel M 0 (p.getD 0 0).toNat + (j : Int)) = cel M 0 (p.getD 0 0).toNat + (j : Int) := by rw [wrap_id (by omega) (by omega)]
  have st0 : ((M.getD 0 []).map ai).set (p.getD 0 0).toNat (.v (.int .i64 (cel M 0 (p.getD 0 0).toNat + (j : Int)))) = (addR M p (j : Int) 0).map ai := by unfold addR; rw [List.map_set]; rfl
  have w0 : IntKind.i64.wrap (0 + 1) = 1 := rfl
  have hc1 := hp.2.1 _ (getD_mem (d := 0) (l := p) (i := 1) (by omega))
  have l1 : (M.getD 1 []).length = 4 := hs.rowlen (by omega)
  have gp1 := get_al (l := p) (i := 1) (by omega)
  have gw1 : ((M.getD 1 []).map ai)[(p.getD 1 0).toNat]? = some (ai (cel M 1 (p.getD 1 0).toNat)) := get_al (by omega)
  have hcb1 := hs.b (r := 1) (c := (p.getD 1 0).toNat) (by omega) (by omega)
  have ws1 : IntKind.i64.wrap (cel M 1 (p.getD 1 0).toNat + (j : Int)) = cel M 1 (p.getD 1 0).toNat + (j : Int) := by rw [wrap_id (by omega) (by omega)]
  have st1 : ((M.getD 1 []).map ai).set (p.getD 1 0).toNat (.v (.int .i64 (cel M 1 (p.getD 1 0).toNat + (j : Int)))) = (addR M p (j : Int) 1).map ai := by unfold addR; rw [List.map_set]; rfl
  have w1 : IntKind.i64.wrap (1 + 1) = 2 := rfl
  have hc2 := hp.2.1 _ (getD_mem (d := 0) (l := p) (i := 2) (by omega))
  have l2 : (M.getD 2 []).length = 4 := hs.rowlen (by omega)
  have gp2 := get_al (l := p) (i := 2) (by omega)
  have gw2 : ((M.getD 2 []).map ai)[(p.getD 2 0).toNat]? = some (ai (cel M 2 (p.getD 2 0).toNat)) := get_al (by omega)
  have hcb2 := hs.b (r := 2) (c := (p.getD 2 0).toNat) (by omega) (by omega)
  have ws2 : IntKind.i64.wrap (cel M 2 (p.getD 2 0).toNat + (j : Int)) = cel M 2 (p.getD 2 0).toNat + (j : Int) := by rw [wrap_id (by omega) (by omega)]
  have st2 : ((M.getD 2 []).map ai).set (p.getD 2 0).toNat (.v (.int .i64 (cel M 2 (p.getD 2 0).toNat + (j : Int)))) = (addR M p (j : Int) 2).map ai := by unfold addR; rw [List.map_set]; rfl
  have w2 : IntKind.i64.wrap (2 + 1) = 3 := rfl
  have hc3 := hp.2.1 _ (getD_mem (d := 0) (l := p) (i := 3) (by omega))
  have l3 : (M.getD 3 []).length = 4 := hs.rowlen (by omega)
  have gp3 := get_al (l := p) (i := 3) (by omega)
  have gw3 : ((M.getD 3 []).map ai)[(p.getD 3 0).toNat]? = some (ai (cel M 3 (p.getD 3 0).toNat)) := get_al (by omega)
  have hcb3 := hs.b (r := 3) (c := (p.getD 3 0).toNat) (by omega) (by omega)
  have ws3 : IntKind.i64.wrap (cel M 3 (p.getD 3 0).toNat + (j : Int)) = cel M 3 (p.getD 3 0).toNat + (j : Int) := by rw [wrap_id (by omega) (by omega)]
  have st3 : ((M.getD 3 []).map ai).set (p.getD 3 0).toNat (.v (.int .i64 (cel M 3 (p.getD 3 0).toNat + (j : Int)))) = (addR M p (j : Int) 3).map ai := by unfold addR; rw [List.map_set]; rfl
  have w3 : IntKind.i64.wrap (3 + 1) = 4 := rfl
  generalize addR M p (j : Int) 0 = A0 at *
  generalize cel M 0 (p.getD 0 0).toNat = y0 at *
  generalize p.getD 0 0 = d0 at *
  have z0 := hc0.1
  have u0 : d0 < 4 := by have := hc0.2; omega
  generalize addR M p (j : Int) 1 = A1 at *
  generalize cel M 1 (p.getD 1 0).toNat = y1 at *
  generalize p.getD 1 0 = d1 at *
  have z1 := hc1.1
  have u1 : d1 < 4 := by have := hc1.2; omega
  generalize addR M p (j : Int) 2 = A2 at *
  generalize cel M 2 (p.getD 2 0).toNat = y2 at *
  generalize p.getD 2 0 = d2 at *
  have z2 := hc2.1
  have u2 : d2 < 4 := by have := hc2.2; omega
  generalize addR M p (j : Int) 3 = A3 at *
  generalize cel M 3 (p.getD 3 0).toNat = y3 at *
  generalize p.getD 3 0 = d3 at *
  have z3 := hc3.1
  have u3 : d3 < 4 := by have := hc3.2; omega
  generalize M.getD 0 [] = W0 at *
  generalize M.getD 1 [] = W1 at *
  generalize M.getD 2 [] = W2 at *
  generalize M.getD 3 [] = W3 at *
  refine W_loop (W_run 200 ?_)
  simp (maxSteps := 2000000) only [SA, Nat.reduceDiv, Nat.reduceSub, Nat.reduceAdd, Int.reduceLT, Int.reduceLE, Int.reduceToNat, Nat.reduceMul, Nat.reduceEqDiff, reduceCtorEq, Nat.reduceBEq, Nat.reduceLeDiff, Nat.reduceLT, xf40_L2, ai, al, hpl, gp0, gw0, z0, u0, l0, ws0, st0, w0]
  refine W_loop (W_run 200 ?_)
  simp (maxSteps := 2000000) only [SA, Nat.reduceDiv, Nat.reduceSub, Nat.reduceAdd, Int.reduceLT, Int.reduceLE, Int.reduceToNat, Nat.reduceMul, Nat.reduceEqDiff, reduceCtorEq, Nat.reduceBEq, Nat.reduceLeDiff, Nat.reduceLT, xf40_L2, ai, al, hpl, gp1, gw1, z1, u1, l1, ws1, st1, w1]
  refine W_loop (W_run 200 ?_)
  simp (maxSteps := 2000000) only [SA, Nat.reduceDiv, Nat.reduceSub, Nat.reduceAdd, Int.reduceLT, Int.reduceLE, Int.reduceToNat, Nat.reduceMul, Nat.reduceEqDiff, reduceCtorEq, Nat.reduceBEq, Nat.reduceLeDiff, Nat.reduceLT, xf40_L2, ai, al, hpl, gp2, gw2, z2, u2, l2, ws2, st2, w2]
  refine W_loop (W_run 200 ?_)
  simp (maxSteps := 2000000) only [SA, Nat.reduceDiv, Nat.reduceSub, Nat.reduceAdd, Int.reduceLT, Int.reduceLE, Int.reduceToNat, Nat.reduceMul, Nat.reduceEqDiff, reduceCtorEq, Nat.reduceBEq, Nat.reduceLeDiff, Nat.reduceLT, xf40_L2, ai, al, hpl, gp3, gw3, z3, u3, l3, ws3, st3, w3]
  refine W_loop (W_run 200 ?_)
  simp (maxSteps := 2000000) only [SA, Nat.reduceDiv, Nat.reduceSub, Nat.reduceAdd, Int.reduceLT, Int.reduceLE, Int.reduceToNat, Nat.reduceMul, Nat.reduceEqDiff, reduceCtorEq, Nat.reduceBEq, Nat.reduceLeDiff, Nat.reduceLT, xf40_L2, ai, al]
  exact W_stop (hK _ _ _ _ _ _ _ _ _ _ _ _ _ _ _ _ _ _ _ _ _ _ _ _ _ _ _ _ _ _ _ _ _ _ _ _ _ _ _ _ _ _ _ _ _ _ _ _ _ _ _ _ _ _ _ _ _ _ _ _ _ _ _ _ _ _ _ _ _ _ _ _ _ _ _ _ _)
theorem ploop_4 (Ps : List (List Int)) (hPs : Ps.length ≤ 24) {i : Nat} (hi : i < Ps.length) {T : List (List Int)} (hg : gT 4 T) {p : List Int} (hp : okP 4 p) (hpi : Ps.getD i [] = p) (P : List (List Int)) (hP : ∀ q, q ∈ P → okP 4 q) (hPl : P.length ≤ 24) (s m : Nat) (hs5 : s ≤ 5) (hs : sumI (T.getD 0 []) = s) (hm : mnF (nums T p) = m)
    (IH : ∀ (M : List (List Int)) (s' : Nat), gT 4 M → s' ≤ 5 → sumI (M.getD 0 []) = s' → RunsR Try.prog xf 1000 40 ([ai (i + 1 : Nat), ai s'] ++ [.o 6 1 1 0 0, .o 9 1 1 0 0, .o 7 1 1 0 0]) [(6, (1, some ⟨26, 1, [aT Ps]⟩)), (7, (1, some ⟨26, 1, [.os 1011 1 4 1 0 4]⟩)), (9, (1, some ⟨66, 1, [.fn 40 [.o 6 1 1 0 0, .o 9 1 1 0 0, .o 7 1 1 0 0]]⟩)), (1009, (1, some ⟨3, 1, (M.getD 0 []).map ai⟩)), (1011, (1, some ⟨37, 1, [.os 1009 1 4 1 0 4, .os 101009 1 4 1 0 4, .os 201009 1 4 1 0 4, .os 301009 1 4 1 0 4]⟩)), (101009, (1, some ⟨3, 1, (M.getD 1 []).map ai⟩)), (201009, (1, some ⟨3, 1, (M.getD 2 []).map ai⟩)), (301009, (1, some ⟨3, 1, (M.getD 3 []).map ai⟩))] (ai (csL P M)) [(6, (1, some ⟨26, 1, [aT Ps]⟩)), (7, (1, some ⟨26, 1, [.os 1011 1 4 1 0 4]⟩)), (9, (1, some ⟨66, 1, [.fn 40 [.o 6 1 1 0 0, .o 9 1 1 0 0, .o 7 1 1 0 0]]⟩)), (1009, (1, some ⟨3, 1, (M.getD 0 []).map ai⟩)), (1011, (1, some ⟨37, 1, [.os 1009 1 4 1 0 4, .os 101009 1 4 1 0 4, .os 201009 1 4 1 0 4, .os 301009 1 4 1 0 4]⟩)), (101009, (1, some ⟨3, 1, (M.getD 1 []).map ai⟩)), (201009, (1, some ⟨3, 1, (M.getD 2 []).map ai⟩)), (301009, (1, some ⟨3, 1, (M.getD 3 []).map ai⟩))]) (K : List Fr) (Q : Out → Cfg → Prop)
    (hK : ∀ (c : Int) (j : Nat) (M : List (List Int)), c = csK P T p (m + 1) → j = m → M = addT T p (-(m : Int)) → ∀ j5 j6 j7 j10 j11 j12 j13 j14 j15 j16 j17 j18 j19 j20 j21 j22 j23 j24 j25 j26 j27 j28 j29 j30 j31 j32 j33 j34 j35 j36 j37 j38 j39 j40 j41 j42 j43 j44 j45 j46 j47 j48 j49 j50 j51 j52 j53 j54 j55 j56 j57 j58 j59 j60 j61 j62 j63 j64 j65 j66 j67 j68 j69 j70 j71 j72 j73 j74 j75 j76 j77 j78 j79 j80 j81 j82 j83 j84 : AV, W Try.prog (RelU Try.prog xf) 1000 K ⟨((ai i) :: (ai s) :: (.o 6 1 1 0 0) :: (.o 9 1 1 0 0) :: (.o 7 1 1 0 0) :: j5 :: j6 :: j7 :: (ai c) :: (ai j) :: j10 :: j11 :: j12 :: j13 :: j14 :: j15 :: j16 :: j17 :: j18 :: j19 :: j20 :: j21 :: j22 :: j23 :: j24 :: j25 :: j26 :: j27 :: j28 :: j29 :: j30 :: j31 :: j32 :: j33 :: j34 :: j35 :: j36 :: j37 :: j38 :: j39 :: j40 :: j41 :: j42 :: j43 :: j44 :: j45 :: j46 :: j47 :: j48 :: j49 :: j50 :: j51 :: j52 :: j53 :: j54 :: j55 :: j56 :: j57 :: j58 :: j59 :: j60 :: j61 :: j62 :: j63 :: j64 :: j65 :: j66 :: j67 :: j68 :: j69 :: j70 :: j71 :: j72 :: j73 :: j74 :: j75 :: j76 :: j77 :: j78 :: j79 :: j80 :: j81 :: j82 :: j83 :: j84 :: []), [(6, (1, some ⟨26, 1, [aT Ps]⟩)), (7, (1, some ⟨26, 1, [.os 1011 1 4 1 0 4]⟩)), (9, (1, some ⟨66, 1, [.fn 40 [.o 6 1 1 0 0, .o 9 1 1 0 0, .o 7 1 1 0 0]]⟩)), (1009, (1, some ⟨3, 1, (M.getD 0 []).map ai⟩)), (1011, (1, some ⟨37, 1, [.os 1009 1 4 1 0 4, .os 101009 1 4 1 0 4, .os 201009 1 4 1 0 4, .os 301009 1 4 1 0 4]⟩)), (101009, (1, some ⟨3, 1, (M.getD 1 []).map ai⟩)), (201009, (1, some ⟨3, 1, (M.getD 2 []).map ai⟩)), (301009, (1, some ⟨3, 1, (M.getD 3 []).map ai⟩))]⟩ Q) :
    ∀ (k j : Nat), j + k = m → j < s → ∀ c, c = csK P T p j → ∀ (M : List (List Int)), M = addT T p (-(j : Int)) → ∀ j5 j6 j7 j10 j11 j12 j13 j14 j15 j16 j17 j18 j19 j20 j21 j22 j23 j24 j25 j26 j27 j28 j29 j30 j31 j32 j33 j34 j35 j36 j37 j38 j39 j40 j41 j42 j43 j44 j45 j46 j47 j48 j49 j50 j51 j52 j53 j54 j55 j56 j57 j58 j59 j60 j61 j62 j63 j64 j65 j66 j67 j68 j69 j70 j71 j72 j73 j74 j75 j76 j77 j78 j79 j80 j81 j82 j83 j84 : AV, W Try.prog (RelU Try.prog xf) 1000 (.code (.loop xf40_L1) :: .blk 0 :: .stop :: K) ⟨((ai i) :: (ai s) :: (.o 6 1 1 0 0) :: (.o 9 1 1 0 0) :: (.o 7 1 1 0 0) :: j5 :: j6 :: j7 :: (ai c) :: (ai j) :: j10 :: j11 :: j12 :: j13 :: j14 :: j15 :: j16 :: j17 :: j18 :: j19 :: j20 :: j21 :: j22 :: j23 :: j24 :: j25 :: j26 :: j27 :: j28 :: j29 :: j30 :: j31 :: j32 :: j33 :: j34 :: j35 :: j36 :: j37 :: j38 :: j39 :: j40 :: j41 :: j42 :: j43 :: j44 :: j45 :: j46 :: j47 :: j48 :: j49 :: j50 :: j51 :: j52 :: j53 :: j54 :: j55 :: j56 :: j57 :: j58 :: j59 :: j60 :: j61 :: j62 :: j63 :: j64 :: j65 :: j66 :: j67 :: j68 :: j69 :: j70 :: j71 :: j72 :: j73 :: j74 :: j75 :: j76 :: j77 :: j78 :: j79 :: j80 :: j81 :: j82 :: j83 :: j84 :: []), [(6, (1, some ⟨26, 1, [aT Ps]⟩)), (7, (1, some ⟨26, 1, [.os 1011 1 4 1 0 4]⟩)), (9, (1, some ⟨66, 1, [.fn 40 [.o 6 1 1 0 0, .o 9 1 1 0 0, .o 7 1 1 0 0]]⟩)), (1009, (1, some ⟨3, 1, (M.getD 0 []).map ai⟩)), (1011, (1, some ⟨37, 1, [.os 1009 1 4 1 0 4, .os 101009 1 4 1 0 4, .os 201009 1 4 1 0 4, .os 301009 1 4 1 0 4]⟩)), (101009, (1, some ⟨3, 1, (M.getD 1 []).map ai⟩)), (201009, (1, some ⟨3, 1, (M.getD 2 []).map ai⟩)), (301009, (1, some ⟨3, 1, (M.getD 3 []).map ai⟩))]⟩ Q := by
  have hms := mn_row hg hp
  have hsT : shT 4 1000 T := ⟨hg.len, hg.row, fun r hr x hx => by have := hg.cel r hr x hx; omega⟩
  have hb : ∀ k, k ≤ m + 1 → 0 ≤ csK P T p k ∧ csK P T p k ≤ 4000000000 := fun k hk => by
    rcases Nat.eq_zero_or_pos k with q | q
    · subst q; unfold csK; simp [sumI]
    · obtain ⟨j, rfl⟩ : ∃ j, k = j + 1 := ⟨k - 1, by omega⟩
      have := geo (P.length + 1) (by omega) (fun (t : Nat) => csL P (addT T p (-(t : Int)))) s j (by omega) fun t ht => by
        have hrow := row_sub hg hp (-(t : Int))
        exact csL_b P _ (s - t) (gT_sub hg hp (by omega) (by omega)) hP (by rw [hrow, hs]; omega)
      have h2 : (P.length + 1 + 1) ^ s ≤ 26 ^ 5 := Nat.le_trans (Nat.pow_le_pow_left (by omega) s) (Nat.pow_le_pow_right (by omega) hs5)
      have h3 : (26 : Nat) ^ 5 = 11881376 := by decide
      unfold csK
      omega
  have hcol : ∀ r, r < p.length → (p.getD r 0).toNat < (T.getD r []).length := fun r hr => by
    have h1 := hp.2.1 _ (getD_mem (d := 0) hr)
    have h2 := hp.1
    rw [hg.rowlen (by omega)]; omega
  intro k
  induction k with
  | zero =>
    intro j hj hjs c hc M hM j5 j6 j7 j10 j11 j12 j13 j14 j15 j16 j17 j18 j19 j20 j21 j22 j23 j24 j25 j26 j27 j28 j29 j30 j31 j32 j33 j34 j35 j36 j37 j38 j39 j40 j41 j42 j43 j44 j45 j46 j47 j48 j49 j50 j51 j52 j53 j54 j55 j56 j57 j58 j59 j60 j61 j62 j63 j64 j65 j66 j67 j68 j69 j70 j71 j72 j73 j74 j75 j76 j77 j78 j79 j80 j81 j82 j83 j84
    have hjm : j = m := by omega
    subst hjm
    have hgM : gT 4 M := by rw [hM]; exact gT_sub hg hp (by omega) (by omega)
    have hrow : sumI (M.getD 0 []) = ((s - j : Nat) : Int) := by rw [hM, row_sub hg hp, hs]; omega
    have hrun := IH M (s - j) hgM (by omega) hrow
    have hK := hK (c + csL P M) j M (by rw [csK_succ, hc, hM]) rfl hM
    have hbi := hb j (by omega)
    have hbj := hb (j + 1) (by omega)
    rw [csK_succ, ← hc, ← hM] at hbj
    rw [← hc] at hbi
    have hw0 : wgt M p = 0 := by
      obtain ⟨r, hr, hw⟩ := mn_wit hg hp
      have hc1 := cel_add hsT hp (z := -(j : Int)) hr (c := (p.getD r 0).toNat) (by have := hcol r (by rw [hp.1]; exact hr); rw [hg.rowlen hr] at this; exact this)
      rw [← hM, hw, hm] at hc1
      have e : decide ((p.getD r 0).toNat = (p.getD r 0).toNat) = true := decide_eq_true rfl
      rw [if_pos e] at hc1
      have h0 : cel M r (p.getD r 0).toNat = 0 := by omega
      have hb := wgt_b hgM hp.2.1 (by have := hp.1; omega)
      have hno : ¬ 0 < wgt M p := fun q => by
        have q := decide_eq_true q
        rw [wgt_pos hgM hp] at q
        unfold posF at q
        have q := (List.all_eq_true.1 q) r (List.mem_range.2 hr)
        rw [h0] at q
        simp at q
      omega
    have hwr := wgt_run hgM false hp.2.1 (by have := hp.1; omega)
    rw [hw0] at hwr
    have e0 : ((0 : Int) == 0) = true := rfl
    have hre : ∀ η : Heap, Go.Proofs.Eng.look η 1011 = Go.Proofs.Eng.look [(6, (1, some ⟨26, 1, [aT Ps]⟩)), (7, (1, some ⟨26, 1, [.os 1011 1 4 1 0 4]⟩)), (9, (1, some ⟨66, 1, [.fn 40 [.o 6 1 1 0 0, .o 9 1 1 0 0, .o 7 1 1 0 0]]⟩)), (1009, (1, some ⟨3, 1, (M.getD 0 []).map ai⟩)), (1011, (1, some ⟨37, 1, [.os 1009 1 4 1 0 4, .os 101009 1 4 1 0 4, .os 201009 1 4 1 0 4, .os 301009 1 4 1 0 4]⟩)), (101009, (1, some ⟨3, 1, (M.getD 1 []).map ai⟩)), (201009, (1, some ⟨3, 1, (M.getD 2 []).map ai⟩)), (301009, (1, some ⟨3, 1, (M.getD 3 []).map ai⟩))] 1011 → Go.Proofs.Eng.look η 1009 = Go.Proofs.Eng.look [(6, (1, some ⟨26, 1, [aT Ps]⟩)), (7, (1, some ⟨26, 1, [.os 1011 1 4 1 0 4]⟩)), (9, (1, some ⟨66, 1, [.fn 40 [.o 6 1 1 0 0, .o 9 1 1 0 0, .o 7 1 1 0 0]]⟩)), (1009, (1, some ⟨3, 1, (M.getD 0 []).map ai⟩)), (1011, (1, some ⟨37, 1, [.os 1009 1 4 1 0 4, .os 101009 1 4 1 0 4, .os 201009 1 4 1 0 4, .os 301009 1 4 1 0 4]⟩)), (101009, (1, some ⟨3, 1, (M.getD 1 []).map ai⟩)), (201009, (1, some ⟨3, 1, (M.getD 2 []).map ai⟩)), (301009, (1, some ⟨3, 1, (M.getD 3 []).map ai⟩))] 1009 → Go.Proofs.Eng.look η 101009 = Go.Proofs.Eng.look [(6, (1, some ⟨26, 1, [aT Ps]⟩)), (7, (1, some ⟨26, 1, [.os 1011 1 4 1 0 4]⟩)), (9, (1, some ⟨66, 1, [.fn 40 [.o 6 1 1 0 0, .o 9 1 1 0 0, .o 7 1 1 0 0]]⟩)), (1009, (1, some ⟨3, 1, (M.getD 0 []).map ai⟩)), (1011, (1, some ⟨37, 1, [.os 1009 1 4 1 0 4, .os 101009 1 4 1 0 4, .os 201009 1 4 1 0 4, .os 301009 1 4 1 0 4]⟩)), (101009, (1, some ⟨3, 1, (M.getD 1 []).map ai⟩)), (201009, (1, some ⟨3, 1, (M.getD 2 []).map ai⟩)), (301009, (1, some ⟨3, 1, (M.getD 3 []).map ai⟩))] 101009 → Go.Proofs.Eng.look η 201009 = Go.Proofs.Eng.look [(6, (1, some ⟨26, 1, [aT Ps]⟩)), (7, (1, some ⟨26, 1, [.os 1011 1 4 1 0 4]⟩)), (9, (1, some ⟨66, 1, [.fn 40 [.o 6 1 1 0 0, .o 9 1 1 0 0, .o 7 1 1 0 0]]⟩)), (1009, (1, some ⟨3, 1, (M.getD 0 []).map ai⟩)), (1011, (1, some ⟨37, 1, [.os 1009 1 4 1 0 4, .os 101009 1 4 1 0 4, .os 201009 1 4 1 0 4, .os 301009 1 4 1 0 4]⟩)), (101009, (1, some ⟨3, 1, (M.getD 1 []).map ai⟩)), (201009, (1, some ⟨3, 1, (M.getD 2 []).map ai⟩)), (301009, (1, some ⟨3, 1, (M.getD 3 []).map ai⟩))] 201009 → Go.Proofs.Eng.look η 301009 = Go.Proofs.Eng.look [(6, (1, some ⟨26, 1, [aT Ps]⟩)), (7, (1, some ⟨26, 1, [.os 1011 1 4 1 0 4]⟩)), (9, (1, some ⟨66, 1, [.fn 40 [.o 6 1 1 0 0, .o 9 1 1 0 0, .o 7 1 1 0 0]]⟩)), (1009, (1, some ⟨3, 1, (M.getD 0 []).map ai⟩)), (1011, (1, some ⟨37, 1, [.os 1009 1 4 1 0 4, .os 101009 1 4 1 0 4, .os 201009 1 4 1 0 4, .os 301009 1 4 1 0 4]⟩)), (101009, (1, some ⟨3, 1, (M.getD 1 []).map ai⟩)), (201009, (1, some ⟨3, 1, (M.getD 2 []).map ai⟩)), (301009, (1, some ⟨3, 1, (M.getD 3 []).map ai⟩))] 301009 → [.os 1011 1 4 1 0 4, al false p].mapM (reify η 20) = some [aT M, al false p] := fun η a0 a1 a2 a3 a4 => by
      rw [List.mapM_cons, reT_4 hgM.len hgM.row (a0.trans rfl) (a1.trans rfl) (a2.trans rfl) (a3.trans rfl) (a4.trans rfl), List.mapM_cons, reify_isL (.inl ⟨false, rfl⟩ : isL (al false p) p) η 17]; rfl
    have wi : IntKind.i64.wrap ((i : Int) + 1) = ((i + 1 : Nat) : Int) := by rw [wrap_id (by omega) (by omega)]; simp
    have wsj : IntKind.i64.wrap ((s : Int) - (j : Int)) = ((s - j : Nat) : Int) := by rw [wrap_id (by omega) (by omega)]; omega
    have hgi := get_T (T := Ps) hi
    rw [hpi] at hgi
    have hii : (i : Int) < (Ps.length : Int) := by omega
    generalize csL P M = z at *
    have wc : IntKind.i64.wrap (c + z) = c + z := wrap_id (by omega) (by omega)
    generalize M.getD 0 [] = W0 at *
    generalize M.getD 1 [] = W1 at *
    generalize M.getD 2 [] = W2 at *
    generalize M.getD 3 [] = W3 at *
    refine W_loop (W_run 160 ?_)
    simp (maxSteps := 2000000) only [SA, Nat.reduceDiv, Nat.reduceSub, Nat.reduceAdd, Int.reduceLT, Int.reduceLE, Int.reduceToNat, Nat.reduceMul, Nat.reduceEqDiff, reduceCtorEq, Nat.reduceBEq, Nat.reduceLeDiff, Nat.reduceLT, xf40_L1, ai, aT, wi, wsj]
    refine W_callvR rfl call_put4 rfl hrun rfl (W_run 160 ?_)
    simp (maxSteps := 2000000) only [SA, Nat.reduceDiv, Nat.reduceSub, Nat.reduceAdd, Int.reduceLT, Int.reduceLE, Int.reduceToNat, Nat.reduceMul, Nat.reduceEqDiff, reduceCtorEq, Nat.reduceBEq, Nat.reduceLeDiff, Nat.reduceLT, ai, al, aT, wc, hgi, hii]
    refine W_look (fuel := 20) (args := [.os 1011 1 4 1 0 4, al false p]) (args' := [aT M, al false p]) rfl (hre _ rfl rfl rfl rfl rfl) hwr rfl rfl (W_run 160 ?_)
    simp (maxSteps := 2000000) only [SA, Nat.reduceDiv, Nat.reduceSub, Nat.reduceAdd, Int.reduceLT, Int.reduceLE, Int.reduceToNat, Nat.reduceMul, Nat.reduceEqDiff, reduceCtorEq, Nat.reduceBEq, Nat.reduceLeDiff, Nat.reduceLT, ai, e0]
    exact W_stop (hK _ _ _ _ _ _ _ _ _ _ _ _ _ _ _ _ _ _ _ _ _ _ _ _ _ _ _ _ _ _ _ _ _ _ _ _ _ _ _ _ _ _ _ _ _ _ _ _ _ _ _ _ _ _ _ _ _ _ _ _ _ _ _ _ _ _ _ _ _ _ _ _ _ _ _ _ _ _)
  | succ k ih =>
    intro j hj hjs c hc M hM j5 j6 j7 j10 j11 j12 j13 j14 j15 j16 j17 j18 j19 j20 j21 j22 j23 j24 j25 j26 j27 j28 j29 j30 j31 j32 j33 j34 j35 j36 j37 j38 j39 j40 j41 j42 j43 j44 j45 j46 j47 j48 j49 j50 j51 j52 j53 j54 j55 j56 j57 j58 j59 j60 j61 j62 j63 j64 j65 j66 j67 j68 j69 j70 j71 j72 j73 j74 j75 j76 j77 j78 j79 j80 j81 j82 j83 j84
    have hgM : gT 4 M := by rw [hM]; exact gT_sub hg hp (by omega) (by omega)
    have hsM : shT 4 1000 M := ⟨hgM.len, hgM.row, fun r hr x hx => by have := hgM.cel r hr x hx; omega⟩
    have hrow : sumI (M.getD 0 []) = ((s - j : Nat) : Int) := by rw [hM, row_sub hg hp, hs]; omega
    have hrun := IH M (s - j) hgM (by omega) hrow
    have hM2 : addT M p (-1) = addT T p (-((j + 1 : Nat) : Int)) := by rw [hM, addT_add _ _ hcol]; congr 1; omega
    have hbi := hb j (by omega)
    have hbj := hb (j + 1) (by omega)
    have hbk := hb (j + 1 + 1) (by omega)
    have hc2 : c + csL P M = csK P T p (j + 1) := by rw [csK_succ, hc, hM]
    rw [← hc2] at hbj
    rw [csK_succ, ← hc2] at hbk
    rw [← hc] at hbi
    have next := ih (j + 1) (by omega)
    have hwp : wgt M p ≠ 0 := by
      have hb := wgt_b hgM hp.2.1 (by have := hp.1; omega)
      have q : 0 < wgt M p := of_decide_eq_true (by
        rw [wgt_pos hgM hp]
        unfold posF
        rw [List.all_eq_true]
        intro r hr
        have hr := List.mem_range.1 hr
        have hc1 := cel_add hsT hp (z := -(j : Int)) hr (c := (p.getD r 0).toNat) (by have := hcol r (by rw [hp.1]; exact hr); rw [hg.rowlen hr] at this; exact this)
        have e : decide ((p.getD r 0).toNat = (p.getD r 0).toNat) = true := decide_eq_true rfl
        rw [← hM, if_pos e] at hc1
        have h2 : mnF (nums T p) ≤ cel T r (p.getD r 0).toNat := mnF_le (List.mem_map.2 ⟨r, List.mem_range.2 (by rw [hp.1]; exact hr), rfl⟩)
        have : 0 < cel M r (p.getD r 0).toNat := by omega
        rw [decide_eq_true this]; exact Bool.or_true _)
      omega
    have hwr := wgt_run hgM false hp.2.1 (by have := hp.1; omega)
    have hdec := dec_4 Ps hsM hp i s (c + csL P M) j
    generalize wgt M p = ww at *
    have e0 : (ww == 0) = false := by rw [beq_eq_false_iff_ne]; exact hwp
    have hre : ∀ η : Heap, Go.Proofs.Eng.look η 1011 = Go.Proofs.Eng.look [(6, (1, some ⟨26, 1, [aT Ps]⟩)), (7, (1, some ⟨26, 1, [.os 1011 1 4 1 0 4]⟩)), (9, (1, some ⟨66, 1, [.fn 40 [.o 6 1 1 0 0, .o 9 1 1 0 0, .o 7 1 1 0 0]]⟩)), (1009, (1, some ⟨3, 1, (M.getD 0 []).map ai⟩)), (1011, (1, some ⟨37, 1, [.os 1009 1 4 1 0 4, .os 101009 1 4 1 0 4, .os 201009 1 4 1 0 4, .os 301009 1 4 1 0 4]⟩)), (101009, (1, some ⟨3, 1, (M.getD 1 []).map ai⟩)), (201009, (1, some ⟨3, 1, (M.getD 2 []).map ai⟩)), (301009, (1, some ⟨3, 1, (M.getD 3 []).map ai⟩))] 1011 → Go.Proofs.Eng.look η 1009 = Go.Proofs.Eng.look [(6, (1, some ⟨26, 1, [aT Ps]⟩)), (7, (1, some ⟨26, 1, [.os 1011 1 4 1 0 4]⟩)), (9, (1, some ⟨66, 1, [.fn 40 [.o 6 1 1 0 0, .o 9 1 1 0 0, .o 7 1 1 0 0]]⟩)), (1009, (1, some ⟨3, 1, (M.getD 0 []).map ai⟩)), (1011, (1, some ⟨37, 1, [.os 1009 1 4 1 0 4, .os 101009 1 4 1 0 4, .os 201009 1 4 1 0 4, .os 301009 1 4 1 0 4]⟩)), (101009, (1, some ⟨3, 1, (M.getD 1 []).map ai⟩)), (201009, (1, some ⟨3, 1, (M.getD 2 []).map ai⟩)), (301009, (1, some ⟨3, 1, (M.getD 3 []).map ai⟩))] 1009 → Go.Proofs.Eng.look η 101009 = Go.Proofs.Eng.look [(6, (1, some ⟨26, 1, [aT Ps]⟩)), (7, (1, some ⟨26, 1, [.os 1011 1 4 1 0 4]⟩)), (9, (1, some ⟨66, 1, [.fn 40 [.o 6 1 1 0 0, .o 9 1 1 0 0, .o 7 1 1 0 0]]⟩)), (1009, (1, some ⟨3, 1, (M.getD 0 []).map ai⟩)), (1011, (1, some ⟨37, 1, [.os 1009 1 4 1 0 4, .os 101009 1 4 1 0 4, .os 201009 1 4 1 0 4, .os 301009 1 4 1 0 4]⟩)), (101009, (1, some ⟨3, 1, (M.getD 1 []).map ai⟩)), (201009, (1, some ⟨3, 1, (M.getD 2 []).map ai⟩)), (301009, (1, some ⟨3, 1, (M.getD 3 []).map ai⟩))] 101009 → Go.Proofs.Eng.look η 201009 = Go.Proofs.Eng.look [(6, (1, some ⟨26, 1, [aT Ps]⟩)), (7, (1, some ⟨26, 1, [.os 1011 1 4 1 0 4]⟩)), (9, (1, some ⟨66, 1, [.fn 40 [.o 6 1 1 0 0, .o 9 1 1 0 0, .o 7 1 1 0 0]]⟩)), (1009, (1, some ⟨3, 1, (M.getD 0 []).map ai⟩)), (1011, (1, some ⟨37, 1, [.os 1009 1 4 1 0 4, .os 101009 1 4 1 0 4, .os 201009 1 4 1 0 4, .os 301009 1 4 1 0 4]⟩)), (101009, (1, some ⟨3, 1, (M.getD 1 []).map ai⟩)), (201009, (1, some ⟨3, 1, (M.getD 2 []).map ai⟩)), (301009, (1, some ⟨3, 1, (M.getD 3 []).map ai⟩))] 201009 → Go.Proofs.Eng.look η 301009 = Go.Proofs.Eng.look [(6, (1, some ⟨26, 1, [aT Ps]⟩)), (7, (1, some ⟨26, 1, [.os 1011 1 4 1 0 4]⟩)), (9, (1, some ⟨66, 1, [.fn 40 [.o 6 1 1 0 0, .o 9 1 1 0 0, .o 7 1 1 0 0]]⟩)), (1009, (1, some ⟨3, 1, (M.getD 0 []).map ai⟩)), (1011, (1, some ⟨37, 1, [.os 1009 1 4 1 0 4, .os 101009 1 4 1 0 4, .os 201009 1 4 1 0 4, .os 301009 1 4 1 0 4]⟩)), (101009, (1, some ⟨3, 1, (M.getD 1 []).map ai⟩)), (201009, (1, some ⟨3, 1, (M.getD 2 []).map ai⟩)), (301009, (1, some ⟨3, 1, (M.getD 3 []).map ai⟩))] 301009 → [.os 1011 1 4 1 0 4, al false p].mapM (reify η 20) = some [aT M, al false p] := fun η a0 a1 a2 a3 a4 => by
      rw [List.mapM_cons, reT_4 hgM.len hgM.row (a0.trans rfl) (a1.trans rfl) (a2.trans rfl) (a3.trans rfl) (a4.trans rfl), List.mapM_cons, reify_isL (.inl ⟨false, rfl⟩ : isL (al false p) p) η 17]; rfl
    have wi : IntKind.i64.wrap ((i : Int) + 1) = ((i + 1 : Nat) : Int) := by rw [wrap_id (by omega) (by omega)]; simp
    have wsj : IntKind.i64.wrap ((s : Int) - (j : Int)) = ((s - j : Nat) : Int) := by rw [wrap_id (by omega) (by omega)]; omega
    have wj : IntKind.i64.wrap ((j : Int) + 1) = ((j + 1 : Nat) : Int) := by rw [wrap_id (by omega) (by omega)]; simp
    have hgi := get_T (T := Ps) hi
    rw [hpi] at hgi
    have hii : (i : Int) < (Ps.length : Int) := by omega
    have hpl := hp.1
    have ag0 : (addT M p (-1)).getD 0 [] = addR M p (-1) 0 := add_get (by omega)
    have ag1 : (addT M p (-1)).getD 1 [] = addR M p (-1) 1 := add_get (by omega)
    have ag2 : (addT M p (-1)).getD 2 [] = addR M p (-1) 2 := add_get (by omega)
    have ag3 : (addT M p (-1)).getD 3 [] = addR M p (-1) 3 := add_get (by omega)
    have next2 := next
    have hrow2 : sumI ((addT M p (-1)).getD 0 []) = ((s - (j + 1) : Nat) : Int) := by rw [hM2, row_sub hg hp, hs]; omega
    have fin : j + 1 = s → (c + csL P M) + 1 = csK P T p (m + 1) ∧ j + 1 = m := fun hjs2 => by
      have e1 : j + 1 = m := by omega
      refine ⟨?_, e1⟩
      rw [← e1, csK_succ, hc2, ← hM2, csL_0]
      rw [hrow2]; omega
    have hb1 : j + 1 = s → c + csL P M + 1 ≤ 4000000000 := fun q => by
      have := fin q
      have := hb (m + 1) (Nat.le_refl _)
      omega
    have nextA := fun (hne : j + 1 < s) => next hne (c + csL P M) hc2 (addT M p (-1)) hM2
    have hKA := fun (hje : j + 1 = s) => hK (c + csL P M + 1) (j + 1) (addT M p (-1)) (fin hje).1 (fin hje).2 (by rw [hM2, (fin hje).2])
    rw [ag0, ag1, ag2, ag3] at nextA hKA
    clear next next2 ih hK fin
    generalize csL P M = z at *
    have wc : IntKind.i64.wrap (c + z) = c + z := wrap_id (by omega) (by omega)
    clear hM2 hrow2 ag0 ag1 ag2 ag3
    generalize addR M p (-1) 0 = A0 at *
    generalize addR M p (-1) 1 = A1 at *
    generalize addR M p (-1) 2 = A2 at *
    generalize addR M p (-1) 3 = A3 at *
    generalize M.getD 0 [] = W0 at *
    generalize M.getD 1 [] = W1 at *
    generalize M.getD 2 [] = W2 at *
    generalize M.getD 3 [] = W3 at *
    refine W_loop (W_run 160 ?_)
    simp (maxSteps := 2000000) only [SA, Nat.reduceDiv, Nat.reduceSub, Nat.reduceAdd, Int.reduceLT, Int.reduceLE, Int.reduceToNat, Nat.reduceMul, Nat.reduceEqDiff, reduceCtorEq, Nat.reduceBEq, Nat.reduceLeDiff, Nat.reduceLT, xf40_L1, ai, aT, wi, wsj]
    refine W_callvR rfl call_put4 rfl hrun rfl (W_run 160 ?_)
    simp (maxSteps := 2000000) only [SA, Nat.reduceDiv, Nat.reduceSub, Nat.reduceAdd, Int.reduceLT, Int.reduceLE, Int.reduceToNat, Nat.reduceMul, Nat.reduceEqDiff, reduceCtorEq, Nat.reduceBEq, Nat.reduceLeDiff, Nat.reduceLT, ai, al, aT, wc, hgi, hii]
    refine W_look (fuel := 20) (args := [.os 1011 1 4 1 0 4, al false p]) (args' := [aT M, al false p]) rfl (hre _ rfl rfl rfl rfl rfl) hwr rfl rfl (W_run 160 ?_)
    simp (maxSteps := 2000000) only [SA, Nat.reduceDiv, Nat.reduceSub, Nat.reduceAdd, Int.reduceLT, Int.reduceLE, Int.reduceToNat, Nat.reduceMul, Nat.reduceEqDiff, reduceCtorEq, Nat.reduceBEq, Nat.reduceLeDiff, Nat.reduceLT, ai, al, aT, e0, hgi, hii, hpl]
    refine W_alone (hdec _ _ (fun j5 j6 j7 j10 j11 j12 j13 j14 j15 j16 j17 j18 j19 j20 j21 j22 j23 j24 j25 j26 j27 j28 j29 j30 j31 j32 j33 j34 j35 j36 j37 j38 j42 j43 j44 j45 j46 j47 j48 j49 j50 j51 j52 j53 j54 j55 j56 j57 j58 j59 j60 j61 j62 j63 j64 j65 j66 j67 j68 j69 j70 j71 j72 j73 j74 j75 j76 j77 j78 j79 j80 j81 j82 j83 j84 => W_run 80 ?_) _ _ _ _ _ _ _ _ _ _ _ _ _ _ _ _ _ _ _ _ _ _ _ _ _ _ _ _ _ _ _ _ _ _ _ _ _ _ _ _ _ _ _ _ _ _ _ _ _ _ _ _ _ _ _ _ _ _ _ _ _ _ _ _ _ _ _ _ _ _ _ _ _ _ _)
    by_cases hje : j + 1 = s
    · have ej : ((((j + 1 : Nat)) : Int) == (s : Int)) = true := by rw [beq_iff_eq]; omega
      have wc1 : IntKind.i64.wrap (c + z + 1) = c + z + 1 := by have := hb1 hje; exact wrap_id (by omega) (by omega)
      simp (maxSteps := 2000000) only [SA, Nat.reduceDiv, Nat.reduceSub, Nat.reduceAdd, Int.reduceLT, Int.reduceLE, Int.reduceToNat, Nat.reduceMul, Nat.reduceEqDiff, reduceCtorEq, Nat.reduceBEq, Nat.reduceLeDiff, Nat.reduceLT, xf40_R0, ai, wj, ej, wc1]
      exact W_stop (hKA hje _ _ _ _ _ _ _ _ _ _ _ _ _ _ _ _ _ _ _ _ _ _ _ _ _ _ _ _ _ _ _ _ _ _ _ _ _ _ _ _ _ _ _ _ _ _ _ _ _ _ _ _ _ _ _ _ _ _ _ _ _ _ _ _ _ _ _ _ _ _ _ _ _ _ _ _ _ _)
    · have ej : ((((j + 1 : Nat)) : Int) == (s : Int)) = false := by rw [beq_eq_false_iff_ne]; omega
      simp (maxSteps := 2000000) only [SA, Nat.reduceDiv, Nat.reduceSub, Nat.reduceAdd, Int.reduceLT, Int.reduceLE, Int.reduceToNat, Nat.reduceMul, Nat.reduceEqDiff, reduceCtorEq, Nat.reduceBEq, Nat.reduceLeDiff, Nat.reduceLT, xf40_R0, ai, wj, ej]
      exact nextA (by omega) _ _ _ _ _ _ _ _ _ _ _ _ _ _ _ _ _ _ _ _ _ _ _ _ _ _ _ _ _ _ _ _ _ _ _ _ _ _ _ _ _ _ _ _ _ _ _ _ _ _ _ _ _ _ _ _ _ _ _ _ _ _ _ _ _ _ _ _ _ _ _ _ _ _ _ _ _ _
theorem put_4 (Ps : List (List Int)) (hPs : ∀ q, q ∈ Ps → okP 4 q) (hl : Ps.length ≤ 24) : ∀ (P : List (List Int)) (i : Nat), i + P.length = Ps.length → Ps.drop i = P → ∀ (T : List (List Int)) (s : Nat), gT 4 T → s ≤ 5 → sumI (T.getD 0 []) = s →
    RunsR Try.prog xf 1000 40 ([ai i, ai s] ++ [.o 6 1 1 0 0, .o 9 1 1 0 0, .o 7 1 1 0 0]) [(6, (1, some ⟨26, 1, [aT Ps]⟩)), (7, (1, some ⟨26, 1, [.os 1011 1 4 1 0 4]⟩)), (9, (1, some ⟨66, 1, [.fn 40 [.o 6 1 1 0 0, .o 9 1 1 0 0, .o 7 1 1 0 0]]⟩)), (1009, (1, some ⟨3, 1, (T.getD 0 []).map ai⟩)), (1011, (1, some ⟨37, 1, [.os 1009 1 4 1 0 4, .os 101009 1 4 1 0 4, .os 201009 1 4 1 0 4, .os 301009 1 4 1 0 4]⟩)), (101009, (1, some ⟨3, 1, (T.getD 1 []).map ai⟩)), (201009, (1, some ⟨3, 1, (T.getD 2 []).map ai⟩)), (301009, (1, some ⟨3, 1, (T.getD 3 []).map ai⟩))] (ai (csL P T)) [(6, (1, some ⟨26, 1, [aT Ps]⟩)), (7, (1, some ⟨26, 1, [.os 1011 1 4 1 0 4]⟩)), (9, (1, some ⟨66, 1, [.fn 40 [.o 6 1 1 0 0, .o 9 1 1 0 0, .o 7 1 1 0 0]]⟩)), (1009, (1, some ⟨3, 1, (T.getD 0 []).map ai⟩)), (1011, (1, some ⟨37, 1, [.os 1009 1 4 1 0 4, .os 101009 1 4 1 0 4, .os 201009 1 4 1 0 4, .os 301009 1 4 1 0 4]⟩)), (101009, (1, some ⟨3, 1, (T.getD 1 []).map ai⟩)), (201009, (1, some ⟨3, 1, (T.getD 2 []).map ai⟩)), (301009, (1, some ⟨3, 1, (T.getD 3 []).map ai⟩))] := by
  have e00 : ((0 : Int) == 0) = true := rfl
  intro P
  induction P with
  | nil =>
    intro i hi hd T s hg hs5 hs
    have hcs : csL [] T = if sumI (T.getD 0 []) = 0 then 1 else 0 := by rw [csL]
    rw [hcs, hs]
    have hi2 : i = Ps.length := by simpa using hi
    have ei : ((i : Int) == (Ps.length : Int)) = true := by rw [beq_iff_eq]; omega
    generalize T.getD 0 [] = W0 at *
    generalize T.getD 1 [] = W1 at *
    generalize T.getD 2 [] = W2 at *
    generalize T.getD 3 [] = W3 at *
    refine RunsR.ofW (fn := xf40) (by kernel_rfl) (W_run 120 ?_)
    by_cases hz : (s : Int) = 0
    · have es : ((s : Int) == 0) = true := by rw [beq_iff_eq]; exact hz
      rw [if_pos hz]
      simp (maxSteps := 2000000) only [SA, Nat.reduceDiv, Nat.reduceSub, Nat.reduceAdd, Int.reduceLT, Int.reduceLE, Int.reduceToNat, Nat.reduceMul, Nat.reduceEqDiff, reduceCtorEq, Nat.reduceBEq, Nat.reduceLeDiff, Nat.reduceLT, xf40, ai, aT, es]
      exact W_ret1 (WX_pop (WX_nil ⟨.inl rfl, _, rfl, rfl, rfl⟩))
    · have es : ((s : Int) == 0) = false := by rw [beq_eq_false_iff_ne]; exact hz
      rw [if_neg hz]
      simp (maxSteps := 2000000) only [SA, Nat.reduceDiv, Nat.reduceSub, Nat.reduceAdd, Int.reduceLT, Int.reduceLE, Int.reduceToNat, Nat.reduceMul, Nat.reduceEqDiff, reduceCtorEq, Nat.reduceBEq, Nat.reduceLeDiff, Nat.reduceLT, xf40, ai, aT, es, ei]
      exact W_ret1 (WX_pop (WX_nil ⟨.inl rfl, _, rfl, rfl, rfl⟩))
  | cons p P ih =>
    intro i hi hd T s hg hs5 hs
    simp only [List.length_cons] at hi
    have hil : i < Ps.length := by omega
    have hd2 : Ps.drop (i + 1) = P := by
      have := drop_at (d := []) hil
      rw [hd] at this
      injection this with _ h2
      exact h2.symm
    have hpi : Ps.getD i [] = p := by
      have := drop_at (d := []) hil
      rw [hd] at this
      injection this with h1 _
      exact h1.symm
    have hp := hPs p (by rw [← hpi]; exact getD_mem hil)
    have hP : ∀ q, q ∈ P → okP 4 q := fun q hq => hPs q (by rw [← hd2] at hq; exact List.mem_of_mem_drop hq)
    have IH := fun (M : List (List Int)) (s' : Nat) h1 h2 h3 => ih (i + 1) (by omega) hd2 M s' h1 h2 h3
    by_cases hz : (s : Int) = 0
    · rw [csL_0 _ (by rw [hs]; exact hz)]
      have es : ((s : Int) == 0) = true := by rw [beq_iff_eq]; exact hz
      generalize T.getD 0 [] = W0 at *
      generalize T.getD 1 [] = W1 at *
      generalize T.getD 2 [] = W2 at *
      generalize T.getD 3 [] = W3 at *
      refine RunsR.ofW (fn := xf40) (by kernel_rfl) (W_run 120 ?_)
      simp (maxSteps := 2000000) only [SA, Nat.reduceDiv, Nat.reduceSub, Nat.reduceAdd, Int.reduceLT, Int.reduceLE, Int.reduceToNat, Nat.reduceMul, Nat.reduceEqDiff, reduceCtorEq, Nat.reduceBEq, Nat.reduceLeDiff, Nat.reduceLT, xf40, ai, aT, es]
      exact W_ret1 (WX_pop (WX_nil ⟨.inl rfl, _, rfl, rfl, rfl⟩))
    · have es : ((s : Int) == 0) = false := by rw [beq_eq_false_iff_ne]; exact hz
      have ei : ((i : Int) == (Ps.length : Int)) = false := by rw [beq_eq_false_iff_ne]; omega
      have hms := mn_row hg hp
      obtain ⟨m, hm⟩ : ∃ m : Nat, mnF (nums T p) = m := ⟨(mnF (nums T p)).toNat, by omega⟩
      have hcs : csL (p :: P) T = csK P T p (m + 1) := by rw [csL, if_neg (by rw [hs]; exact hz), hm]; rfl
      have hlp := ploop_4 Ps hl hil hg hp hpi P hP (by omega) s m hs5 hs hm IH
      rw [hcs]
      have hT0 : T = addT T p (-((0 : Nat) : Int)) := by
        have e : (-((0 : Nat) : Int)) = 0 := rfl
        rw [e, addT_0 (by rw [hp.1, hg.len])]
      have hcol : ∀ r, r < p.length → (p.getD r 0).toNat < (T.getD r []).length := fun r hr => by
        have h1 := hp.2.1 _ (getD_mem (d := 0) hr)
        have h2 := hp.1
        rw [hg.rowlen (by omega)]; omega
      have hpl := hp.1
      have hii : (i : Int) < (Ps.length : Int) := by omega
      have hgi := get_T (T := Ps) hil
      rw [hpi] at hgi
      have c0 : (0 : Int) = csK P T p 0 := rfl
      have hinc : ∀ (c : Int) (j : Nat) (M : List (List Int)), j = m → M = addT T p (-(m : Int)) → shT 4 1000 M ∧ j ≤ 100 ∧ (addR M p (j : Int) 0 = T.getD 0 [] ∧ addR M p (j : Int) 1 = T.getD 1 [] ∧ addR M p (j : Int) 2 = T.getD 2 [] ∧ addR M p (j : Int) 3 = T.getD 3 []) := fun c j M hj hM => by
        have hgM : gT 4 M := by rw [hM]; exact gT_sub hg hp (by omega) (by omega)
        have hb : addT M p (j : Int) = T := by
          rw [hM, hj, addT_add _ _ hcol, Int.add_left_neg, addT_0 (by rw [hp.1, hg.len])]
        refine ⟨⟨hgM.len, hgM.row, fun r hr x hx => by have := hgM.cel r hr x hx; omega⟩, by omega, ?_, ?_, ?_, ?_⟩
        all_goals (rw [← add_get (by omega), hb])
      refine RunsR.ofW (fn := xf40) (by kernel_rfl) (W_run 120 ?_)
      simp (maxSteps := 2000000) only [SA, Nat.reduceDiv, Nat.reduceSub, Nat.reduceAdd, Int.reduceLT, Int.reduceLE, Int.reduceToNat, Nat.reduceMul, Nat.reduceEqDiff, reduceCtorEq, Nat.reduceBEq, Nat.reduceLeDiff, Nat.reduceLT, xf40, ai, aT, es, ei]
      refine W_alone (hlp _ _ (fun c j M hc hj hM j5 j6 j7 j10 j11 j12 j13 j14 j15 j16 j17 j18 j19 j20 j21 j22 j23 j24 j25 j26 j27 j28 j29 j30 j31 j32 j33 j34 j35 j36 j37 j38 j39 j40 j41 j42 j43 j44 j45 j46 j47 j48 j49 j50 j51 j52 j53 j54 j55 j56 j57 j58 j59 j60 j61 j62 j63 j64 j65 j66 j67 j68 j69 j70 j71 j72 j73 j74 j75 j76 j77 j78 j79 j80 j81 j82 j83 j84 => ?_) m 0 (by omega) (by omega) 0 c0 T hT0 _ _ _ _ _ _ _ _ _ _ _ _ _ _ _ _ _ _ _ _ _ _ _ _ _ _ _ _ _ _ _ _ _ _ _ _ _ _ _ _ _ _ _ _ _ _ _ _ _ _ _ _ _ _ _ _ _ _ _ _ _ _ _ _ _ _ _ _ _ _ _ _ _ _ _ _ _ _)
      · obtain ⟨i1, i2, i3, i4, i5, i6⟩ := hinc c j M hj hM
        have hi := inc_4 Ps i1 hp c j i2
        rw [i3, i4, i5, i6] at hi
        generalize M.getD 0 [] = W0 at *
        generalize M.getD 1 [] = W1 at *
        generalize M.getD 2 [] = W2 at *
        generalize M.getD 3 [] = W3 at *
        generalize T.getD 0 [] = V0 at *
        generalize T.getD 1 [] = V1 at *
        generalize T.getD 2 [] = V2 at *
        generalize T.getD 3 [] = V3 at *
        refine W_run 80 ?_
        simp (maxSteps := 2000000) only [SA, Nat.reduceDiv, Nat.reduceSub, Nat.reduceAdd, Int.reduceLT, Int.reduceLE, Int.reduceToNat, Nat.reduceMul, Nat.reduceEqDiff, reduceCtorEq, Nat.reduceBEq, Nat.reduceLeDiff, Nat.reduceLT, xf40_R2, ai, al, aT, hgi, hii, hpl]
        refine W_alone (hi _ _ (fun j0 j1 j5 j6 j7 j10 j11 j12 j13 j14 j15 j16 j17 j18 j19 j20 j21 j22 j23 j24 j25 j26 j27 j28 j29 j30 j31 j32 j33 j34 j35 j36 j37 j38 j39 j40 j41 j42 j43 j44 j45 j46 j47 j48 j49 j50 j51 j52 j53 j54 j55 j56 j57 j58 j59 j60 j61 j62 j63 j64 j65 j69 j70 j71 j72 j73 j74 j75 j76 j77 j78 j79 j80 j81 j82 j83 j84 => W_run 80 ?_) _ _ _ _ _ _ _ _ _ _ _ _ _ _ _ _ _ _ _ _ _ _ _ _ _ _ _ _ _ _ _ _ _ _ _ _ _ _ _ _ _ _ _ _ _ _ _ _ _ _ _ _ _ _ _ _ _ _ _ _ _ _ _ _ _ _ _ _ _ _ _ _ _ _ _ _ _)
        simp (maxSteps := 2000000) only [SA, Nat.reduceDiv, Nat.reduceSub, Nat.reduceAdd, Int.reduceLT, Int.reduceLE, Int.reduceToNat, Nat.reduceMul, Nat.reduceEqDiff, reduceCtorEq, Nat.reduceBEq, Nat.reduceLeDiff, Nat.reduceLT, xf40_R1, ai]
        rw [← hc]
        exact W_ret1 (WX_nil ⟨.inl rfl, _, rfl, rfl, rfl⟩)
end Go.Proofs.Ytkbeaheladmeiaa

set_option linter.unusedSimpArgs false
set_option linter.unusedVariables false
namespace Go.Proofs.Ytkbeaheladmeiaa
open Go Go.Proofs.Eng
set_option maxRecDepth 100000
set_option maxHeartbeats 4000000
theorem emp6_4 (q6 : Nat × Option Ob) : RunsR Try.prog xf 1000 19 [ai 4] [(6, q6)] (.os 1011 1 4 1 0 4) [(6, q6), (1009, (1, some ⟨3, 1, [.v (.int .i64 0), .v (.int .i64 0), .v (.int .i64 0), .v (.int .i64 0)]⟩)), (1011, (1, some ⟨37, 1, [.os 1009 1 4 1 0 4, .os 101009 1 4 1 0 4, .os 201009 1 4 1 0 4, .os 301009 1 4 1 0 4]⟩)), (101009, (1, some ⟨3, 1, [.v (.int .i64 0), .v (.int .i64 0), .v (.int .i64 0), .v (.int .i64 0)]⟩)), (201009, (1, some ⟨3, 1, [.v (.int .i64 0), .v (.int .i64 0), .v (.int .i64 0), .v (.int .i64 0)]⟩)), (301009, (1, some ⟨3, 1, [.v (.int .i64 0), .v (.int .i64 0), .v (.int .i64 0), .v (.int .i64 0)]⟩))] := by
  have w0 : IntKind.i64.wrap (0 + 1) = 1 := rfl
  have w1 : IntKind.i64.wrap (1 + 1) = 2 := rfl
  have w2 : IntKind.i64.wrap (2 + 1) = 3 := rfl
  have w3 : IntKind.i64.wrap (3 + 1) = 4 := rfl
  refine RunsR.ofW (fn := xf19) (by kernel_rfl) (W_run 80 ?_)
  simp (maxSteps := 2000000) only [SA, Nat.reduceDiv, Nat.reduceSub, Nat.reduceAdd, Int.reduceLT, Int.reduceLE, Int.reduceToNat, Nat.reduceMul, Nat.reduceEqDiff, reduceCtorEq, Nat.reduceBEq, Nat.reduceLeDiff, Nat.reduceLT, xf19, ai, nilA]
  refine W_loop (W_run 120 ?_)
  simp (maxSteps := 2000000) only [SA, Nat.reduceDiv, Nat.reduceSub, Nat.reduceAdd, Int.reduceLT, Int.reduceLE, Int.reduceToNat, Nat.reduceMul, Nat.reduceEqDiff, reduceCtorEq, Nat.reduceBEq, Nat.reduceLeDiff, Nat.reduceLT, xf19_L0, ai, nilA, w0, w1, w2, w3, fk64, fk63, fk62, fk61, fk60, Int.reduceMul, Go.Proofs.Eng.elems, List.map_cons, List.map_nil]
  refine W_loop (W_run 120 ?_)
  simp (maxSteps := 2000000) only [SA, Nat.reduceDiv, Nat.reduceSub, Nat.reduceAdd, Int.reduceLT, Int.reduceLE, Int.reduceToNat, Nat.reduceMul, Nat.reduceEqDiff, reduceCtorEq, Nat.reduceBEq, Nat.reduceLeDiff, Nat.reduceLT, xf19_L0, ai, nilA, w0, w1, w2, w3, fk64, fk63, fk62, fk61, fk60, Int.reduceMul, Go.Proofs.Eng.elems, List.map_cons, List.map_nil]
  refine W_loop (W_run 120 ?_)
  simp (maxSteps := 2000000) only [SA, Nat.reduceDiv, Nat.reduceSub, Nat.reduceAdd, Int.reduceLT, Int.reduceLE, Int.reduceToNat, Nat.reduceMul, Nat.reduceEqDiff, reduceCtorEq, Nat.reduceBEq, Nat.reduceLeDiff, Nat.reduceLT, xf19_L0, ai, nilA, w0, w1, w2, w3, fk64, fk63, fk62, fk61, fk60, Int.reduceMul, Go.Proofs.Eng.elems, List.map_cons, List.map_nil]
  refine W_loop (W_run 120 ?_)
  simp (maxSteps := 2000000) only [SA, Nat.reduceDiv, Nat.reduceSub, Nat.reduceAdd, Int.reduceLT, Int.reduceLE, Int.reduceToNat, Nat.reduceMul, Nat.reduceEqDiff, reduceCtorEq, Nat.reduceBEq, Nat.reduceLeDiff, Nat.reduceLT, xf19_L0, ai, nilA, w0, w1, w2, w3, fk64, fk63, fk62, fk61, fk60, Int.reduceMul, Go.Proofs.Eng.elems, List.map_cons, List.map_nil]
  refine W_loop (W_run 120 ?_)
  simp (maxSteps := 2000000) only [SA, Nat.reduceDiv, Nat.reduceSub, Nat.reduceAdd, Int.reduceLT, Int.reduceLE, Int.reduceToNat, Nat.reduceMul, Nat.reduceEqDiff, reduceCtorEq, Nat.reduceBEq, Nat.reduceLeDiff, Nat.reduceLT, xf19_L0, xf19_R0, ai, nilA]
  exact W_ret1 (WX_nil ⟨.inl rfl, _, rfl, rfl, rfl⟩)
theorem emp9_4 (q6 q7 q9 r0 r1 r2 r3 q11 : Nat × Option Ob) : RunsR Try.prog xf 2000 19 [ai 4] [(6, q6), (7, q7), (9, q9), (1009, r0), (1011, q11), (101009, r1), (201009, r2), (301009, r3)] (.os 2011 1 4 1 0 4) [(6, q6), (7, q7), (9, q9), (1009, r0), (1011, q11), (2009, (1, some ⟨3, 1, [.v (.int .i64 0), .v (.int .i64 0), .v (.int .i64 0), .v (.int .i64 0)]⟩)), (2011, (1, some ⟨37, 1, [.os 2009 1 4 1 0 4, .os 102009 1 4 1 0 4, .os 202009 1 4 1 0 4, .os 302009 1 4 1 0 4]⟩)), (101009, r1), (102009, (1, some ⟨3, 1, [.v (.int .i64 0), .v (.int .i64 0), .v (.int .i64 0), .v (.int .i64 0)]⟩)), (201009, r2), (202009, (1, some ⟨3, 1, [.v (.int .i64 0), .v (.int .i64 0), .v (.int .i64 0), .v (.int .i64 0)]⟩)), (301009, r3), (302009, (1, some ⟨3, 1, [.v (.int .i64 0), .v (.int .i64 0), .v (.int .i64 0), .v (.int .i64 0)]⟩))] := by
  have w0 : IntKind.i64.wrap (0 + 1) = 1 := rfl
  have w1 : IntKind.i64.wrap (1 + 1) = 2 := rfl
  have w2 : IntKind.i64.wrap (2 + 1) = 3 := rfl
  have w3 : IntKind.i64.wrap (3 + 1) = 4 := rfl
  refine RunsR.ofW (fn := xf19) (by kernel_rfl) (W_run 80 ?_)
  simp (maxSteps := 2000000) only [SA, Nat.reduceDiv, Nat.reduceSub, Nat.reduceAdd, Int.reduceLT, Int.reduceLE, Int.reduceToNat, Nat.reduceMul, Nat.reduceEqDiff, reduceCtorEq, Nat.reduceBEq, Nat.reduceLeDiff, Nat.reduceLT, xf19, ai, nilA]
  refine W_loop (W_run 120 ?_)
  simp (maxSteps := 2000000) only [SA, Nat.reduceDiv, Nat.reduceSub, Nat.reduceAdd, Int.reduceLT, Int.reduceLE, Int.reduceToNat, Nat.reduceMul, Nat.reduceEqDiff, reduceCtorEq, Nat.reduceBEq, Nat.reduceLeDiff, Nat.reduceLT, xf19_L0, ai, nilA, w0, w1, w2, w3, fk64, fk63, fk62, fk61, fk60, Int.reduceMul, Go.Proofs.Eng.elems, List.map_cons, List.map_nil]
  refine W_loop (W_run 120 ?_)
  simp (maxSteps := 2000000) only [SA, Nat.reduceDiv, Nat.reduceSub, Nat.reduceAdd, Int.reduceLT, Int.reduceLE, Int.reduceToNat, Nat.reduceMul, Nat.reduceEqDiff, reduceCtorEq, Nat.reduceBEq, Nat.reduceLeDiff, Nat.reduceLT, xf19_L0, ai, nilA, w0, w1, w2, w3, fk64, fk63, fk62, fk61, fk60, Int.reduceMul, Go.Proofs.Eng.elems, List.map_cons, List.map_nil]
  refine W_loop (W_run 120 ?_)
  simp (maxSteps := 2000000) only [SA, Nat.reduceDiv, Nat.reduceSub, Nat.reduceAdd, Int.reduceLT, Int.reduceLE, Int.reduceToNat, Nat.reduceMul, Nat.reduceEqDiff, reduceCtorEq, Nat.reduceBEq, Nat.reduceLeDiff, Nat.reduceLT, xf19_L0, ai, nilA, w0, w1, w2, w3, fk64, fk63, fk62, fk61, fk60, Int.reduceMul, Go.Proofs.Eng.elems, List.map_cons, List.map_nil]
  refine W_loop (W_run 120 ?_)
  simp (maxSteps := 2000000) only [SA, Nat.reduceDiv, Nat.reduceSub, Nat.reduceAdd, Int.reduceLT, Int.reduceLE, Int.reduceToNat, Nat.reduceMul, Nat.reduceEqDiff, reduceCtorEq, Nat.reduceBEq, Nat.reduceLeDiff, Nat.reduceLT, xf19_L0, ai, nilA, w0, w1, w2, w3, fk64, fk63, fk62, fk61, fk60, Int.reduceMul, Go.Proofs.Eng.elems, List.map_cons, List.map_nil]
  refine W_loop (W_run 120 ?_)
  simp (maxSteps := 2000000) only [SA, Nat.reduceDiv, Nat.reduceSub, Nat.reduceAdd, Int.reduceLT, Int.reduceLE, Int.reduceToNat, Nat.reduceMul, Nat.reduceEqDiff, reduceCtorEq, Nat.reduceBEq, Nat.reduceLeDiff, Nat.reduceLT, xf19_L0, xf19_R0, ai, nilA]
  exact W_ret1 (WX_nil ⟨.inl rfl, _, rfl, rfl, rfl⟩)
theorem cpyC_4 (Ps : List (List Int)) {M : List (List Int)} (hg : gT 4 M) (s : Nat) (K : List Fr) (Q : Out → Cfg → Prop)
    (hK : ∀ j0 j1 j2 j8 j9 j10 j11 j12 j13 j14 j15 j16 j17 j18 j19 j20 j21 j22 j23 j24 j25 j26 j27 j30 j31 j32 j33 j34 j35 j36 j37 j38 j39 j40 j41 j42 j43 j44 j45 j46 j47 j48 j49 j50 j51 j52 j53 j54 j55 j56 j57 j58 j59 j60 j61 j62 j63 j64 j65 j66 j67 j68 j69 j70 j71 j72 j73 j74 j75 j76 j77 j78 j79 j80 j81 j82 j83 j84 j85 j86 j87 j88 j89 j90 j91 j92 j93 j94 j95 j96 j97 j98 j99 j100 j101 j102 : AV, W Try.prog (RelU Try.prog xf) 0 K ⟨(j0 :: j1 :: j2 :: (aT M) :: (ai s) :: (ai 4) :: (.o 6 1 1 0 0) :: (.o 7 1 1 0 0) :: j8 :: j9 :: j10 :: j11 :: j12 :: j13 :: j14 :: j15 :: j16 :: j17 :: j18 :: j19 :: j20 :: j21 :: j22 :: j23 :: j24 :: j25 :: j26 :: j27 :: (ai 4) :: (ai 4) :: j30 :: j31 :: j32 :: j33 :: j34 :: j35 :: j36 :: j37 :: j38 :: j39 :: j40 :: j41 :: j42 :: j43 :: j44 :: j45 :: j46 :: j47 :: j48 :: j49 :: j50 :: j51 :: j52 :: j53 :: j54 :: j55 :: j56 :: j57 :: j58 :: j59 :: j60 :: j61 :: j62 :: j63 :: j64 :: j65 :: j66 :: j67 :: j68 :: j69 :: j70 :: j71 :: j72 :: j73 :: j74 :: j75 :: j76 :: j77 :: j78 :: j79 :: j80 :: j81 :: j82 :: j83 :: j84 :: j85 :: j86 :: j87 :: j88 :: j89 :: j90 :: j91 :: j92 :: j93 :: j94 :: j95 :: j96 :: j97 :: j98 :: j99 :: j100 :: j101 :: j102 :: []), [(6, (1, some ⟨26, 1, [aT Ps]⟩)), (7, (1, some ⟨26, 1, [.os 1011 1 4 1 0 4]⟩)), (1009, (1, some ⟨3, 1, (M.getD 0 []).map ai⟩)), (1011, (1, some ⟨37, 1, [.os 1009 1 4 1 0 4, .os 101009 1 4 1 0 4, .os 201009 1 4 1 0 4, .os 301009 1 4 1 0 4]⟩)), (101009, (1, some ⟨3, 1, (M.getD 1 []).map ai⟩)), (201009, (1, some ⟨3, 1, (M.getD 2 []).map ai⟩)), (301009, (1, some ⟨3, 1, (M.getD 3 []).map ai⟩))]⟩ Q) :
    ∀ j0 j1 j2 j8 j9 j10 j11 j12 j13 j14 j15 j16 j17 j18 j19 j20 j21 j22 j23 j24 j25 j26 j27 j30 j31 j32 j33 j34 j35 j36 j37 j38 j39 j40 j41 j42 j43 j44 j45 j46 j47 j48 j49 j50 j51 j52 j53 j54 j55 j56 j57 j58 j59 j60 j61 j62 j63 j64 j65 j66 j67 j68 j69 j70 j71 j72 j73 j74 j75 j76 j77 j78 j79 j80 j81 j82 j83 j84 j85 j86 j87 j88 j89 j90 j91 j92 j93 j94 j95 j96 j97 j98 j99 j100 j101 j102 : AV, W Try.prog (RelU Try.prog xf) 0 (.code (.loop xf7_L0) :: .blk 0 :: .stop :: K) ⟨(j0 :: j1 :: j2 :: (aT M) :: (ai s) :: (ai 4) :: (.o 6 1 1 0 0) :: (.o 7 1 1 0 0) :: j8 :: j9 :: j10 :: j11 :: j12 :: j13 :: j14 :: j15 :: j16 :: j17 :: j18 :: j19 :: j20 :: j21 :: j22 :: j23 :: j24 :: j25 :: j26 :: j27 :: (ai 4) :: (ai 0) :: j30 :: j31 :: j32 :: j33 :: j34 :: j35 :: j36 :: j37 :: j38 :: j39 :: j40 :: j41 :: j42 :: j43 :: j44 :: j45 :: j46 :: j47 :: j48 :: j49 :: j50 :: j51 :: j52 :: j53 :: j54 :: j55 :: j56 :: j57 :: j58 :: j59 :: j60 :: j61 :: j62 :: j63 :: j64 :: j65 :: j66 :: j67 :: j68 :: j69 :: j70 :: j71 :: j72 :: j73 :: j74 :: j75 :: j76 :: j77 :: j78 :: j79 :: j80 :: j81 :: j82 :: j83 :: j84 :: j85 :: j86 :: j87 :: j88 :: j89 :: j90 :: j91 :: j92 :: j93 :: j94 :: j95 :: j96 :: j97 :: j98 :: j99 :: j100 :: j101 :: j102 :: []), [(6, (1, some ⟨26, 1, [aT Ps]⟩)), (7, (1, some ⟨26, 1, [.os 1011 1 4 1 0 4]⟩)), (1009, (1, some ⟨3, 1, [.v (.int .i64 0), .v (.int .i64 0), .v (.int .i64 0), .v (.int .i64 0)]⟩)), (1011, (1, some ⟨37, 1, [.os 1009 1 4 1 0 4, .os 101009 1 4 1 0 4, .os 201009 1 4 1 0 4, .os 301009 1 4 1 0 4]⟩)), (101009, (1, some ⟨3, 1, [.v (.int .i64 0), .v (.int .i64 0), .v (.int .i64 0), .v (.int .i64 0)]⟩)), (201009, (1, some ⟨3, 1, [.v (.int .i64 0), .v (.int .i64 0), .v (.int .i64 0), .v (.int .i64 0)]⟩)), (301009, (1, some ⟨3, 1, [.v (.int .i64 0), .v (.int .i64 0), .v (.int .i64 0), .v (.int .i64 0)]⟩))]⟩ Q := by
  intro j0 j1 j2 j8 j9 j10 j11 j12 j13 j14 j15 j16 j17 j18 j19 j20 j21 j22 j23 j24 j25 j26 j27 j30 j31 j32 j33 j34 j35 j36 j37 j38 j39 j40 j41 j42 j43 j44 j45 j46 j47 j48 j49 j50 j51 j52 j53 j54 j55 j56 j57 j58 j59 j60 j61 j62 j63 j64 j65 j66 j67 j68 j69 j70 j71 j72 j73 j74 j75 j76 j77 j78 j79 j80 j81 j82 j83 j84 j85 j86 j87 j88 j89 j90 j91 j92 j93 j94 j95 j96 j97 j98 j99 j100 j101 j102
  have l0 : (M.getD 0 []).length = 4 := hg.rowlen (by omega)
  have gt0 := get_T (T := M) (i := 0) (by rw [hg.len]; omega)
  have l1 : (M.getD 1 []).length = 4 := hg.rowlen (by omega)
  have gt1 := get_T (T := M) (i := 1) (by rw [hg.len]; omega)
  have l2 : (M.getD 2 []).length = 4 := hg.rowlen (by omega)
  have gt2 := get_T (T := M) (i := 2) (by rw [hg.len]; omega)
  have l3 : (M.getD 3 []).length = 4 := hg.rowlen (by omega)
  have gt3 := get_T (T := M) (i := 3) (by rw [hg.len]; omega)
  have w0 : IntKind.i64.wrap (0 + 1) = 1 := rfl
  have w1 : IntKind.i64.wrap (1 + 1) = 2 := rfl
  have w2 : IntKind.i64.wrap (2 + 1) = 3 := rfl
  have w3 : IntKind.i64.wrap (3 + 1) = 4 := rfl
  have hMl := hg.len
  generalize M.getD 0 [] = R0 at *
  generalize M.getD 1 [] = R1 at *
  generalize M.getD 2 [] = R2 at *
  generalize M.getD 3 [] = R3 at *
  have n0 : (R0.map ai ≠ []) = True := eq_true (by intro q; have := congrArg List.length q; rw [List.length_map, l0] at this; cases this)
  have k0 : List.take 4 (R0.map ai) = R0.map ai := List.take_of_length_le (by rw [List.length_map, l0]; exact Nat.le_refl _)
  have o0 := map_all R0
  have n1 : (R1.map ai ≠ []) = True := eq_true (by intro q; have := congrArg List.length q; rw [List.length_map, l1] at this; cases this)
  have k1 : List.take 4 (R1.map ai) = R1.map ai := List.take_of_length_le (by rw [List.length_map, l1]; exact Nat.le_refl _)
  have o1 := map_all R1
  have n2 : (R2.map ai ≠ []) = True := eq_true (by intro q; have := congrArg List.length q; rw [List.length_map, l2] at this; cases this)
  have k2 : List.take 4 (R2.map ai) = R2.map ai := List.take_of_length_le (by rw [List.length_map, l2]; exact Nat.le_refl _)
  have o2 := map_all R2
  have n3 : (R3.map ai ≠ []) = True := eq_true (by intro q; have := congrArg List.length q; rw [List.length_map, l3] at this; cases this)
  have k3 : List.take 4 (R3.map ai) = R3.map ai := List.take_of_length_le (by rw [List.length_map, l3]; exact Nat.le_refl _)
  have o3 := map_all R3
  have mn : min 4 4 = 4 := Nat.min_self 4
  refine W_loop (W_run 160 ?_)
  simp (maxSteps := 2000000) only [SA, Nat.reduceDiv, Nat.reduceSub, Nat.reduceAdd, Int.reduceLT, Int.reduceLE, Int.reduceToNat, Nat.reduceMul, Nat.reduceEqDiff, reduceCtorEq, Nat.reduceBEq, Nat.reduceLeDiff, Nat.reduceLT, xf7_L0, ai, al, aT, hMl, stF_cpy, Go.Proofs.Eng.elems, l0, n0, k0, o0, w0, gt0, l1, n1, k1, o1, w1, gt1, l2, n2, k2, o2, w2, gt2, l3, n3, k3, o3, w3, gt3, mn, List.map_cons, List.map_nil, ne_eq, not_true_eq_false, not_false_eq_true]
  refine W_loop (W_run 160 ?_)
  simp (maxSteps := 2000000) only [SA, Nat.reduceDiv, Nat.reduceSub, Nat.reduceAdd, Int.reduceLT, Int.reduceLE, Int.reduceToNat, Nat.reduceMul, Nat.reduceEqDiff, reduceCtorEq, Nat.reduceBEq, Nat.reduceLeDiff, Nat.reduceLT, xf7_L0, ai, al, aT, hMl, stF_cpy, Go.Proofs.Eng.elems, l0, n0, k0, o0, w0, gt0, l1, n1, k1, o1, w1, gt1, l2, n2, k2, o2, w2, gt2, l3, n3, k3, o3, w3, gt3, mn, List.map_cons, List.map_nil, ne_eq, not_true_eq_false, not_false_eq_true]
  refine W_loop (W_run 160 ?_)
  simp (maxSteps := 2000000) only [SA, Nat.reduceDiv, Nat.reduceSub, Nat.reduceAdd, Int.reduceLT, Int.reduceLE, Int.reduceToNat, Nat.reduceMul, Nat.reduceEqDiff, reduceCtorEq, Nat.reduceBEq, Nat.reduceLeDiff, Nat.reduceLT, xf7_L0, ai, al, aT, hMl, stF_cpy, Go.Proofs.Eng.elems, l0, n0, k0, o0, w0, gt0, l1, n1, k1, o1, w1, gt1, l2, n2, k2, o2, w2, gt2, l3, n3, k3, o3, w3, gt3, mn, List.map_cons, List.map_nil, ne_eq, not_true_eq_false, not_false_eq_true]
  refine W_loop (W_run 160 ?_)
  simp (maxSteps := 2000000) only [SA, Nat.reduceDiv, Nat.reduceSub, Nat.reduceAdd, Int.reduceLT, Int.reduceLE, Int.reduceToNat, Nat.reduceMul, Nat.reduceEqDiff, reduceCtorEq, Nat.reduceBEq, Nat.reduceLeDiff, Nat.reduceLT, xf7_L0, ai, al, aT, hMl, stF_cpy, Go.Proofs.Eng.elems, l0, n0, k0, o0, w0, gt0, l1, n1, k1, o1, w1, gt1, l2, n2, k2, o2, w2, gt2, l3, n3, k3, o3, w3, gt3, mn, List.map_cons, List.map_nil, ne_eq, not_true_eq_false, not_false_eq_true]
  refine W_loop (W_run 160 ?_)
  simp (maxSteps := 2000000) only [SA, Nat.reduceDiv, Nat.reduceSub, Nat.reduceAdd, Int.reduceLT, Int.reduceLE, Int.reduceToNat, Nat.reduceMul, Nat.reduceEqDiff, reduceCtorEq, Nat.reduceBEq, Nat.reduceLeDiff, Nat.reduceLT, xf7_L0, ai, al, aT, List.map_cons, List.map_nil]
  exact W_stop (hK _ _ _ _ _ _ _ _ _ _ _ _ _ _ _ _ _ _ _ _ _ _ _ _ _ _ _ _ _ _ _ _ _ _ _ _ _ _ _ _ _ _ _ _ _ _ _ _ _ _ _ _ _ _ _ _ _ _ _ _ _ _ _ _ _ _ _ _ _ _ _ _ _ _ _ _ _ _ _ _ _ _ _ _ _ _ _ _ _ _ _ _ _ _ _ _)
theorem onesL_4 (q6 q7 q9 r0 r1 r2 r3 q11 : Nat × Option Ob) (K : List Fr) (Q : Out → Cfg → Prop)
    (hK : ∀ j0 j1 j2 j3 j4 j6 j7 j8 j9 j10 j11 j12 j14 j15 j16 j17 j18 j19 j20 j21 j22 j23 j24 j25 j26 j27 j28 j29 j30 j31 j32 j33 j34 j35 j36 j37 j38 j39 j40 j41 j42 j43 j44 j45 j46 j47 j48 j49 j50 j51 j52 j53 j54 j55 j56 j57 j58 j59 j60 j61 j62 j63 j64 j65 j66 j67 j70 j71 j72 j73 j74 j75 j76 j77 j78 j79 j80 j81 j82 j83 j84 j85 j86 j87 j88 j89 j90 j91 j92 j93 j94 j95 j96 j97 j98 j99 j100 j101 j102 : AV, W Try.prog (RelU Try.prog xf) 0 K ⟨(j0 :: j1 :: j2 :: j3 :: j4 :: (ai 4) :: j6 :: j7 :: j8 :: j9 :: j10 :: j11 :: j12 :: (.os 2011 1 4 1 0 4) :: j14 :: j15 :: j16 :: j17 :: j18 :: j19 :: j20 :: j21 :: j22 :: j23 :: j24 :: j25 :: j26 :: j27 :: j28 :: j29 :: j30 :: j31 :: j32 :: j33 :: j34 :: j35 :: j36 :: j37 :: j38 :: j39 :: j40 :: j41 :: j42 :: j43 :: j44 :: j45 :: j46 :: j47 :: j48 :: j49 :: j50 :: j51 :: j52 :: j53 :: j54 :: j55 :: j56 :: j57 :: j58 :: j59 :: j60 :: j61 :: j62 :: j63 :: j64 :: j65 :: j66 :: j67 :: (ai 4) :: (ai 4) :: j70 :: j71 :: j72 :: j73 :: j74 :: j75 :: j76 :: j77 :: j78 :: j79 :: j80 :: j81 :: j82 :: j83 :: j84 :: j85 :: j86 :: j87 :: j88 :: j89 :: j90 :: j91 :: j92 :: j93 :: j94 :: j95 :: j96 :: j97 :: j98 :: j99 :: j100 :: j101 :: j102 :: []), [(6, q6), (7, q7), (9, q9), (1009, r0), (1011, q11), (2009, (1, some ⟨3, 1, [.v (.int .i64 1), .v (.int .i64 1), .v (.int .i64 1), .v (.int .i64 1)]⟩)), (2011, (1, some ⟨37, 1, [.os 2009 1 4 1 0 4, .os 102009 1 4 1 0 4, .os 202009 1 4 1 0 4, .os 302009 1 4 1 0 4]⟩)), (101009, r1), (102009, (1, some ⟨3, 1, [.v (.int .i64 1), .v (.int .i64 1), .v (.int .i64 1), .v (.int .i64 1)]⟩)), (201009, r2), (202009, (1, some ⟨3, 1, [.v (.int .i64 1), .v (.int .i64 1), .v (.int .i64 1), .v (.int .i64 1)]⟩)), (301009, r3), (302009, (1, some ⟨3, 1, [.v (.int .i64 1), .v (.int .i64 1), .v (.int .i64 1), .v (.int .i64 1)]⟩))]⟩ Q) :
    ∀ j0 j1 j2 j3 j4 j6 j7 j8 j9 j10 j11 j12 j14 j15 j16 j17 j18 j19 j20 j21 j22 j23 j24 j25 j26 j27 j28 j29 j30 j31 j32 j33 j34 j35 j36 j37 j38 j39 j40 j41 j42 j43 j44 j45 j46 j47 j48 j49 j50 j51 j52 j53 j54 j55 j56 j57 j58 j59 j60 j61 j62 j63 j64 j65 j66 j67 j70 j71 j72 j73 j74 j75 j76 j77 j78 j79 j80 j81 j82 j83 j84 j85 j86 j87 j88 j89 j90 j91 j92 j93 j94 j95 j96 j97 j98 j99 j100 j101 j102 : AV, W Try.prog (RelU Try.prog xf) 0 (.code (.loop xf7_L2) :: .blk 2 :: .stop :: K) ⟨(j0 :: j1 :: j2 :: j3 :: j4 :: (ai 4) :: j6 :: j7 :: j8 :: j9 :: j10 :: j11 :: j12 :: (.os 2011 1 4 1 0 4) :: j14 :: j15 :: j16 :: j17 :: j18 :: j19 :: j20 :: j21 :: j22 :: j23 :: j24 :: j25 :: j26 :: j27 :: j28 :: j29 :: j30 :: j31 :: j32 :: j33 :: j34 :: j35 :: j36 :: j37 :: j38 :: j39 :: j40 :: j41 :: j42 :: j43 :: j44 :: j45 :: j46 :: j47 :: j48 :: j49 :: j50 :: j51 :: j52 :: j53 :: j54 :: j55 :: j56 :: j57 :: j58 :: j59 :: j60 :: j61 :: j62 :: j63 :: j64 :: j65 :: j66 :: j67 :: (ai 4) :: (ai 0) :: j70 :: j71 :: j72 :: j73 :: j74 :: j75 :: j76 :: j77 :: j78 :: j79 :: j80 :: j81 :: j82 :: j83 :: j84 :: j85 :: j86 :: j87 :: j88 :: j89 :: j90 :: j91 :: j92 :: j93 :: j94 :: j95 :: j96 :: j97 :: j98 :: j99 :: j100 :: j101 :: j102 :: []), [(6, q6), (7, q7), (9, q9), (1009, r0), (1011, q11), (2009, (1, some ⟨3, 1, [.v (.int .i64 0), .v (.int .i64 0), .v (.int .i64 0), .v (.int .i64 0)]⟩)), (2011, (1, some ⟨37, 1, [.os 2009 1 4 1 0 4, .os 102009 1 4 1 0 4, .os 202009 1 4 1 0 4, .os 302009 1 4 1 0 4]⟩)), (101009, r1), (102009, (1, some ⟨3, 1, [.v (.int .i64 0), .v (.int .i64 0), .v (.int .i64 0), .v (.int .i64 0)]⟩)), (201009, r2), (202009, (1, some ⟨3, 1, [.v (.int .i64 0), .v (.int .i64 0), .v (.int .i64 0), .v (.int .i64 0)]⟩)), (301009, r3), (302009, (1, some ⟨3, 1, [.v (.int .i64 0), .v (.int .i64 0), .v (.int .i64 0), .v (.int .i64 0)]⟩))]⟩ Q := by
  intro j0 j1 j2 j3 j4 j6 j7 j8 j9 j10 j11 j12 j14 j15 j16 j17 j18 j19 j20 j21 j22 j23 j24 j25 j26 j27 j28 j29 j30 j31 j32 j33 j34 j35 j36 j37 j38 j39 j40 j41 j42 j43 j44 j45 j46 j47 j48 j49 j50 j51 j52 j53 j54 j55 j56 j57 j58 j59 j60 j61 j62 j63 j64 j65 j66 j67 j70 j71 j72 j73 j74 j75 j76 j77 j78 j79 j80 j81 j82 j83 j84 j85 j86 j87 j88 j89 j90 j91 j92 j93 j94 j95 j96 j97 j98 j99 j100 j101 j102
  have w0 : IntKind.i64.wrap (0 + 1) = 1 := rfl
  have w1 : IntKind.i64.wrap (1 + 1) = 2 := rfl
  have w2 : IntKind.i64.wrap (2 + 1) = 3 := rfl
  have w3 : IntKind.i64.wrap (3 + 1) = 4 := rfl
  refine W_loop (W_run 160 ?_)
  simp (maxSteps := 2000000) only [SA, Nat.reduceDiv, Nat.reduceSub, Nat.reduceAdd, Int.reduceLT, Int.reduceLE, Int.reduceToNat, Nat.reduceMul, Nat.reduceEqDiff, reduceCtorEq, Nat.reduceBEq, Nat.reduceLeDiff, Nat.reduceLT, xf7_L2, ai, w0, w1, w2, w3]
  refine W_loop (W_run 160 ?_)
  simp (maxSteps := 2000000) only [SA, Nat.reduceDiv, Nat.reduceSub, Nat.reduceAdd, Int.reduceLT, Int.reduceLE, Int.reduceToNat, Nat.reduceMul, Nat.reduceEqDiff, reduceCtorEq, Nat.reduceBEq, Nat.reduceLeDiff, Nat.reduceLT, xf7_L1, xf7_R0, ai, w0, w1, w2, w3]
  refine W_loop (W_run 160 ?_)
  simp (maxSteps := 2000000) only [SA, Nat.reduceDiv, Nat.reduceSub, Nat.reduceAdd, Int.reduceLT, Int.reduceLE, Int.reduceToNat, Nat.reduceMul, Nat.reduceEqDiff, reduceCtorEq, Nat.reduceBEq, Nat.reduceLeDiff, Nat.reduceLT, xf7_L1, xf7_R0, ai, w0, w1, w2, w3]
  refine W_loop (W_run 160 ?_)
  simp (maxSteps := 2000000) only [SA, Nat.reduceDiv, Nat.reduceSub, Nat.reduceAdd, Int.reduceLT, Int.reduceLE, Int.reduceToNat, Nat.reduceMul, Nat.reduceEqDiff, reduceCtorEq, Nat.reduceBEq, Nat.reduceLeDiff, Nat.reduceLT, xf7_L1, xf7_R0, ai, w0, w1, w2, w3]
  refine W_loop (W_run 160 ?_)
  simp (maxSteps := 2000000) only [SA, Nat.reduceDiv, Nat.reduceSub, Nat.reduceAdd, Int.reduceLT, Int.reduceLE, Int.reduceToNat, Nat.reduceMul, Nat.reduceEqDiff, reduceCtorEq, Nat.reduceBEq, Nat.reduceLeDiff, Nat.reduceLT, xf7_L1, xf7_R0, ai, w0, w1, w2, w3]
  refine W_loop (W_run 160 ?_)
  simp (maxSteps := 2000000) only [SA, Nat.reduceDiv, Nat.reduceSub, Nat.reduceAdd, Int.reduceLT, Int.reduceLE, Int.reduceToNat, Nat.reduceMul, Nat.reduceEqDiff, reduceCtorEq, Nat.reduceBEq, Nat.reduceLeDiff, Nat.reduceLT, xf7_L1, xf7_R0, ai, w0, w1, w2, w3]
  refine W_loop (W_run 160 ?_)
  simp (maxSteps := 2000000) only [SA, Nat.reduceDiv, Nat.reduceSub, Nat.reduceAdd, Int.reduceLT, Int.reduceLE, Int.reduceToNat, Nat.reduceMul, Nat.reduceEqDiff, reduceCtorEq, Nat.reduceBEq, Nat.reduceLeDiff, Nat.reduceLT, xf7_L2, ai, w0, w1, w2, w3]
  refine W_loop (W_run 160 ?_)
  simp (maxSteps := 2000000) only [SA, Nat.reduceDiv, Nat.reduceSub, Nat.reduceAdd, Int.reduceLT, Int.reduceLE, Int.reduceToNat, Nat.reduceMul, Nat.reduceEqDiff, reduceCtorEq, Nat.reduceBEq, Nat.reduceLeDiff, Nat.reduceLT, xf7_L1, xf7_R0, ai, w0, w1, w2, w3]
  refine W_loop (W_run 160 ?_)
  simp (maxSteps := 2000000) only [SA, Nat.reduceDiv, Nat.reduceSub, Nat.reduceAdd, Int.reduceLT, Int.reduceLE, Int.reduceToNat, Nat.reduceMul, Nat.reduceEqDiff, reduceCtorEq, Nat.reduceBEq, Nat.reduceLeDiff, Nat.reduceLT, xf7_L1, xf7_R0, ai, w0, w1, w2, w3]
  refine W_loop (W_run 160 ?_)
  simp (maxSteps := 2000000) only [SA, Nat.reduceDiv, Nat.reduceSub, Nat.reduceAdd, Int.reduceLT, Int.reduceLE, Int.reduceToNat, Nat.reduceMul, Nat.reduceEqDiff, reduceCtorEq, Nat.reduceBEq, Nat.reduceLeDiff, Nat.reduceLT, xf7_L1, xf7_R0, ai, w0, w1, w2, w3]
  refine W_loop (W_run 160 ?_)
  simp (maxSteps := 2000000) only [SA, Nat.reduceDiv, Nat.reduceSub, Nat.reduceAdd, Int.reduceLT, Int.reduceLE, Int.reduceToNat, Nat.reduceMul, Nat.reduceEqDiff, reduceCtorEq, Nat.reduceBEq, Nat.reduceLeDiff, Nat.reduceLT, xf7_L1, xf7_R0, ai, w0, w1, w2, w3]
  refine W_loop (W_run 160 ?_)
  simp (maxSteps := 2000000) only [SA, Nat.reduceDiv, Nat.reduceSub, Nat.reduceAdd, Int.reduceLT, Int.reduceLE, Int.reduceToNat, Nat.reduceMul, Nat.reduceEqDiff, reduceCtorEq, Nat.reduceBEq, Nat.reduceLeDiff, Nat.reduceLT, xf7_L1, xf7_R0, ai, w0, w1, w2, w3]
  refine W_loop (W_run 160 ?_)
  simp (maxSteps := 2000000) only [SA, Nat.reduceDiv, Nat.reduceSub, Nat.reduceAdd, Int.reduceLT, Int.reduceLE, Int.reduceToNat, Nat.reduceMul, Nat.reduceEqDiff, reduceCtorEq, Nat.reduceBEq, Nat.reduceLeDiff, Nat.reduceLT, xf7_L2, ai, w0, w1, w2, w3]
  refine W_loop (W_run 160 ?_)
  simp (maxSteps := 2000000) only [SA, Nat.reduceDiv, Nat.reduceSub, Nat.reduceAdd, Int.reduceLT, Int.reduceLE, Int.reduceToNat, Nat.reduceMul, Nat.reduceEqDiff, reduceCtorEq, Nat.reduceBEq, Nat.reduceLeDiff, Nat.reduceLT, xf7_L1, xf7_R0, ai, w0, w1, w2, w3]
  refine W_loop (W_run 160 ?_)
  simp (maxSteps := 2000000) only [SA, Nat.reduceDiv, Nat.reduceSub, Nat.reduceAdd, Int.reduceLT, Int.reduceLE, Int.reduceToNat, Nat.reduceMul, Nat.reduceEqDiff, reduceCtorEq, Nat.reduceBEq, Nat.reduceLeDiff, Nat.reduceLT, xf7_L1, xf7_R0, ai, w0, w1, w2, w3]
  refine W_loop (W_run 160 ?_)
  simp (maxSteps := 2000000) only [SA, Nat.reduceDiv, Nat.reduceSub, Nat.reduceAdd, Int.reduceLT, Int.reduceLE, Int.reduceToNat, Nat.reduceMul, Nat.reduceEqDiff, reduceCtorEq, Nat.reduceBEq, Nat.reduceLeDiff, Nat.reduceLT, xf7_L1, xf7_R0, ai, w0, w1, w2, w3]
  refine W_loop (W_run 160 ?_)
  simp (maxSteps := 2000000) only [SA, Nat.reduceDiv, Nat.reduceSub, Nat.reduceAdd, Int.reduceLT, Int.reduceLE, Int.reduceToNat, Nat.reduceMul, Nat.reduceEqDiff, reduceCtorEq, Nat.reduceBEq, Nat.reduceLeDiff, Nat.reduceLT, xf7_L1, xf7_R0, ai, w0, w1, w2, w3]
  refine W_loop (W_run 160 ?_)
  simp (maxSteps := 2000000) only [SA, Nat.reduceDiv, Nat.reduceSub, Nat.reduceAdd, Int.reduceLT, Int.reduceLE, Int.reduceToNat, Nat.reduceMul, Nat.reduceEqDiff, reduceCtorEq, Nat.reduceBEq, Nat.reduceLeDiff, Nat.reduceLT, xf7_L1, xf7_R0, ai, w0, w1, w2, w3]
  refine W_loop (W_run 160 ?_)
  simp (maxSteps := 2000000) only [SA, Nat.reduceDiv, Nat.reduceSub, Nat.reduceAdd, Int.reduceLT, Int.reduceLE, Int.reduceToNat, Nat.reduceMul, Nat.reduceEqDiff, reduceCtorEq, Nat.reduceBEq, Nat.reduceLeDiff, Nat.reduceLT, xf7_L2, ai, w0, w1, w2, w3]
  refine W_loop (W_run 160 ?_)
  simp (maxSteps := 2000000) only [SA, Nat.reduceDiv, Nat.reduceSub, Nat.reduceAdd, Int.reduceLT, Int.reduceLE, Int.reduceToNat, Nat.reduceMul, Nat.reduceEqDiff, reduceCtorEq, Nat.reduceBEq, Nat.reduceLeDiff, Nat.reduceLT, xf7_L1, xf7_R0, ai, w0, w1, w2, w3]
  refine W_loop (W_run 160 ?_)
  simp (maxSteps := 2000000) only [SA, Nat.reduceDiv, Nat.reduceSub, Nat.reduceAdd, Int.reduceLT, Int.reduceLE, Int.reduceToNat, Nat.reduceMul, Nat.reduceEqDiff, reduceCtorEq, Nat.reduceBEq, Nat.reduceLeDiff, Nat.reduceLT, xf7_L1, xf7_R0, ai, w0, w1, w2, w3]
  refine W_loop (W_run 160 ?_)
  simp (maxSteps := 2000000) only [SA, Nat.reduceDiv, Nat.reduceSub, Nat.reduceAdd, Int.reduceLT, Int.reduceLE, Int.reduceToNat, Nat.reduceMul, Nat.reduceEqDiff, reduceCtorEq, Nat.reduceBEq, Nat.reduceLeDiff, Nat.reduceLT, xf7_L1, xf7_R0, ai, w0, w1, w2, w3]
  refine W_loop (W_run 160 ?_)
  simp (maxSteps := 2000000) only [SA, Nat.reduceDiv, Nat.reduceSub, Nat.reduceAdd, Int.reduceLT, Int.reduceLE, Int.reduceToNat, Nat.reduceMul, Nat.reduceEqDiff, reduceCtorEq, Nat.reduceBEq, Nat.reduceLeDiff, Nat.reduceLT, xf7_L1, xf7_R0, ai, w0, w1, w2, w3]
  refine W_loop (W_run 160 ?_)
  simp (maxSteps := 2000000) only [SA, Nat.reduceDiv, Nat.reduceSub, Nat.reduceAdd, Int.reduceLT, Int.reduceLE, Int.reduceToNat, Nat.reduceMul, Nat.reduceEqDiff, reduceCtorEq, Nat.reduceBEq, Nat.reduceLeDiff, Nat.reduceLT, xf7_L1, xf7_R0, ai, w0, w1, w2, w3]
  refine W_loop (W_run 160 ?_)
  simp (maxSteps := 2000000) only [SA, Nat.reduceDiv, Nat.reduceSub, Nat.reduceAdd, Int.reduceLT, Int.reduceLE, Int.reduceToNat, Nat.reduceMul, Nat.reduceEqDiff, reduceCtorEq, Nat.reduceBEq, Nat.reduceLeDiff, Nat.reduceLT, xf7_L2, ai, w0, w1, w2, w3]
  exact W_stop (hK _ _ _ _ _ _ _ _ _ _ _ _ _ _ _ _ _ _ _ _ _ _ _ _ _ _ _ _ _ _ _ _ _ _ _ _ _ _ _ _ _ _ _ _ _ _ _ _ _ _ _ _ _ _ _ _ _ _ _ _ _ _ _ _ _ _ _ _ _ _ _ _ _ _ _ _ _ _ _ _ _ _ _ _ _ _ _ _ _ _ _ _ _ _ _ _ _ _ _)
theorem reO_4 {η : Heap} {e e' : Nat} (h : Go.Proofs.Eng.look η 2011 = (1, some ⟨e, 1, [.os 2009 1 4 1 0 4, .os 102009 1 4 1 0 4, .os 202009 1 4 1 0 4, .os 302009 1 4 1 0 4]⟩))
    (h0 : Go.Proofs.Eng.look η 2009 = (1, some ⟨e', 1, [.v (.int .i64 1), .v (.int .i64 1), .v (.int .i64 1), .v (.int .i64 1)]⟩)) (h1 : Go.Proofs.Eng.look η 102009 = (1, some ⟨e', 1, [.v (.int .i64 1), .v (.int .i64 1), .v (.int .i64 1), .v (.int .i64 1)]⟩)) (h2 : Go.Proofs.Eng.look η 202009 = (1, some ⟨e', 1, [.v (.int .i64 1), .v (.int .i64 1), .v (.int .i64 1), .v (.int .i64 1)]⟩)) (h3 : Go.Proofs.Eng.look η 302009 = (1, some ⟨e', 1, [.v (.int .i64 1), .v (.int .i64 1), .v (.int .i64 1), .v (.int .i64 1)]⟩)) : [.os 2011 1 4 1 0 4].mapM (reify η 20) = some [aT (onesT 4)] := by
  have e1 : reify η 20 (.os 2011 1 4 1 0 4) = ([.os 2009 1 4 1 0 4, .os 102009 1 4 1 0 4, .os 202009 1 4 1 0 4, .os 302009 1 4 1 0 4].mapM (elemR (reify η 19))).map (AV.sl 1 false) := reify_osX (n := 19) rfl h
  rw [List.mapM_cons, e1, List.mapM_cons, reify_rw (m := 4) (R := List.replicate 4 1) rfl h0, List.mapM_cons, reify_rw (m := 4) (R := List.replicate 4 1) rfl h1, List.mapM_cons, reify_rw (m := 4) (R := List.replicate 4 1) rfl h2, List.mapM_cons, reify_rw (m := 4) (R := List.replicate 4 1) rfl h3, List.mapM_nil]
  rfl
def QC4 (o : Out) (c : Cfg) : Prop := (o = .ret ∨ o = .normal) ∧ ∃ rs, xf7.results.mapM (resOf Try.prog c) = some rs ∧ reify c.η 20 (retOf rs) = some (.v (.bool true))
theorem finC_4 {S : List (List Int × Int)} {M : List (List Int)} (hE : EI 4 S M) (hS5 : S.length ≤ 5) (Ps : List (List Int)) (hPs : Ps = plL 4) (hW : Runs Try.prog xf 28 [] (.v (.bool true))) :
    ∀ j0 j1 j2 j8 j9 j10 j11 j12 j13 j14 j15 j16 j17 j18 j19 j20 j21 j22 j23 j24 j25 j26 j27 j28 j29 j30 j31 j32 j33 j34 j35 j36 j37 j38 j39 j40 j41 j42 j43 j44 j45 j46 j47 j48 j49 j50 j51 j52 j53 j54 j55 j56 j57 j58 j59 j60 j61 j62 j63 j64 j65 j66 j67 j68 j69 j70 j71 j72 j73 j74 j75 j76 j77 j78 j79 j80 j81 j82 j83 j84 j85 j86 j87 j88 j89 j90 j91 j92 j93 j94 j95 j96 j97 j98 j99 j100 j101 j102 : AV, W Try.prog (RelU Try.prog xf) 0 [.code xf7_R2] ⟨(j0 :: j1 :: j2 :: (aT M) :: (ai S.length) :: (ai 4) :: (.o 6 1 1 0 0) :: (.o 7 1 1 0 0) :: j8 :: j9 :: j10 :: j11 :: j12 :: j13 :: j14 :: j15 :: j16 :: j17 :: j18 :: j19 :: j20 :: j21 :: j22 :: j23 :: j24 :: j25 :: j26 :: j27 :: j28 :: j29 :: j30 :: j31 :: j32 :: j33 :: j34 :: j35 :: j36 :: j37 :: j38 :: j39 :: j40 :: j41 :: j42 :: j43 :: j44 :: j45 :: j46 :: j47 :: j48 :: j49 :: j50 :: j51 :: j52 :: j53 :: j54 :: j55 :: j56 :: j57 :: j58 :: j59 :: j60 :: j61 :: j62 :: j63 :: j64 :: j65 :: j66 :: j67 :: j68 :: j69 :: j70 :: j71 :: j72 :: j73 :: j74 :: j75 :: j76 :: j77 :: j78 :: j79 :: j80 :: j81 :: j82 :: j83 :: j84 :: j85 :: j86 :: j87 :: j88 :: j89 :: j90 :: j91 :: j92 :: j93 :: j94 :: j95 :: j96 :: j97 :: j98 :: j99 :: j100 :: j101 :: j102 :: []), [(6, (1, some ⟨26, 1, [aT Ps]⟩)), (7, (1, some ⟨26, 1, [.os 1011 1 4 1 0 4]⟩)), (1009, (1, some ⟨3, 1, (M.getD 0 []).map ai⟩)), (1011, (1, some ⟨37, 1, [.os 1009 1 4 1 0 4, .os 101009 1 4 1 0 4, .os 201009 1 4 1 0 4, .os 301009 1 4 1 0 4]⟩)), (101009, (1, some ⟨3, 1, (M.getD 1 []).map ai⟩)), (201009, (1, some ⟨3, 1, (M.getD 2 []).map ai⟩)), (301009, (1, some ⟨3, 1, (M.getD 3 []).map ai⟩))]⟩ QC4 := by
  intro j0 j1 j2 j8 j9 j10 j11 j12 j13 j14 j15 j16 j17 j18 j19 j20 j21 j22 j23 j24 j25 j26 j27 j28 j29 j30 j31 j32 j33 j34 j35 j36 j37 j38 j39 j40 j41 j42 j43 j44 j45 j46 j47 j48 j49 j50 j51 j52 j53 j54 j55 j56 j57 j58 j59 j60 j61 j62 j63 j64 j65 j66 j67 j68 j69 j70 j71 j72 j73 j74 j75 j76 j77 j78 j79 j80 j81 j82 j83 j84 j85 j86 j87 j88 j89 j90 j91 j92 j93 j94 j95 j96 j97 j98 j99 j100 j101 j102
  obtain ⟨v1, v2, v3⟩ := splV_ei (by omega) (by omega) hE hS5
  have hg := ei_gT (by omega) (by omega) hE (by omega)
  have hsp := splits_run hg
  have hso := splits_run (ones_gT (n := 4) (by omega) (by omega))
  rw [v1] at hsp
  rw [splV_ones (by omega) (by omega)] at hso
  have hok : ∀ q, q ∈ Ps → okP 4 q := by rw [hPs]; exact plL_len (by omega) (by omega)
  have hl24 : Ps.length ≤ 24 := by rw [hPs]; decide
  have hput := put_4 Ps hok hl24 Ps 0 (by omega) rfl M S.length hg hS5 v3
  rw [← hPs] at hsp v2
  have hMl := hg.len
  have n00 : ((0 : Int) != 0) = false := rfl
  have e00 : ((0 : Int) == 0) = true := rfl
  generalize csL Ps M = z at *
  have zz : (z != z) = false := by simp
  have ow : oneW 4 = 24 := rfl
  rw [ow] at hso
  have eo : ((24 : Int) == 24) = true := rfl
  have wn : IntKind.i64.wrap (4 - 1) = 3 := rfl
  have b11 : ((1 : Int) != 1) = false := rfl
  clear v1 hE hok
  generalize M.getD 0 [] = R0 at *
  generalize M.getD 1 [] = R1 at *
  generalize M.getD 2 [] = R2 at *
  generalize M.getD 3 [] = R3 at *
  have rest : ∀ j0 j1 j2 j8 j9 j10 j11 j12 j13 j14 j15 j16 j17 j18 j19 j20 j21 j22 j23 j24 j25 j26 j27 j28 j29 j30 j31 j32 j33 j34 j35 j36 j37 j38 j39 j40 j41 j42 j43 j44 j45 j46 j47 j48 j49 j50 j51 j52 j53 j54 j55 j56 j57 j58 j59 j60 j61 j62 j63 j64 j65 j66 j67 j68 j69 j70 j71 j72 j73 j74 j75 j76 j77 j78 j79 j80 j81 j82 j83 j84 j85 j86 j87 j88 j89 j90 j91 j92 j93 j94 j95 j96 j97 j98 j99 j100 j101 j102 : AV, W Try.prog (RelU Try.prog xf) 0 [.op none ⟨some 67, .call true 19 [.t 66], none⟩] ⟨(j0 :: j1 :: j2 :: (aT M) :: (ai S.length) :: (ai 4) :: (.o 6 1 1 0 0) :: (.o 7 1 1 0 0) :: j8 :: j9 :: j10 :: j11 :: j12 :: j13 :: j14 :: j15 :: j16 :: j17 :: j18 :: j19 :: j20 :: j21 :: j22 :: j23 :: j24 :: j25 :: j26 :: j27 :: j28 :: j29 :: j30 :: j31 :: j32 :: j33 :: j34 :: j35 :: j36 :: j37 :: j38 :: j39 :: j40 :: j41 :: j42 :: j43 :: j44 :: j45 :: j46 :: j47 :: j48 :: j49 :: j50 :: j51 :: j52 :: j53 :: j54 :: j55 :: j56 :: j57 :: j58 :: j59 :: j60 :: j61 :: j62 :: j63 :: j64 :: j65 :: j66 :: j67 :: j68 :: j69 :: j70 :: j71 :: j72 :: j73 :: j74 :: j75 :: j76 :: j77 :: j78 :: j79 :: j80 :: j81 :: j82 :: j83 :: j84 :: j85 :: j86 :: j87 :: j88 :: j89 :: j90 :: j91 :: j92 :: j93 :: j94 :: j95 :: j96 :: j97 :: j98 :: j99 :: j100 :: j101 :: j102 :: []), []⟩ QC4 → True := fun j0 j1 j2 j8 j9 j10 j11 j12 j13 j14 j15 j16 j17 j18 j19 j20 j21 j22 j23 j24 j25 j26 j27 j28 j29 j30 j31 j32 j33 j34 j35 j36 j37 j38 j39 j40 j41 j42 j43 j44 j45 j46 j47 j48 j49 j50 j51 j52 j53 j54 j55 j56 j57 j58 j59 j60 j61 j62 j63 j64 j65 j66 j67 j68 j69 j70 j71 j72 j73 j74 j75 j76 j77 j78 j79 j80 j81 j82 j83 j84 j85 j86 j87 j88 j89 j90 j91 j92 j93 j94 j95 j96 j97 j98 j99 j100 j101 j102 _ => trivial
  clear rest
  refine W_run 200 ?_
  simp (maxSteps := 2000000) only [SA, Nat.reduceDiv, Nat.reduceSub, Nat.reduceAdd, Int.reduceLT, Int.reduceLE, Int.reduceToNat, Nat.reduceMul, Nat.reduceEqDiff, reduceCtorEq, Nat.reduceBEq, Nat.reduceLeDiff, Nat.reduceLT, xf7_R2, ai, nilA, aT]
  refine W_callvR rfl call_put4 rfl hput rfl (W_run 160 ?_)
  simp (maxSteps := 2000000) only [SA, Nat.reduceDiv, Nat.reduceSub, Nat.reduceAdd, Int.reduceLT, Int.reduceLE, Int.reduceToNat, Nat.reduceMul, Nat.reduceEqDiff, reduceCtorEq, Nat.reduceBEq, Nat.reduceLeDiff, Nat.reduceLT, ai, aT]
  refine W_call (args := [aT M]) rfl (noRefs_T _) hsp rfl (W_run 160 ?_)
  by_cases h2 : S.length < 2
  · have z1 := v2 h2
    subst z1
    have d2 : decide ((S.length : Int) < 2) = true := decide_eq_true (by omega)
    simp (maxSteps := 2000000) only [SA, Nat.reduceDiv, Nat.reduceSub, Nat.reduceAdd, Int.reduceLT, Int.reduceLE, Int.reduceToNat, Nat.reduceMul, Nat.reduceEqDiff, reduceCtorEq, Nat.reduceBEq, Nat.reduceLeDiff, Nat.reduceLT, ai, aT, n00, zz, d2, b11]
    refine W_callR (kb' := 2000) (args := [ai 4]) rfl (emp9_4 _ _ _ _ _ _ _ _) rfl (W_run 120 ?_)
    simp (maxSteps := 2000000) only [SA, Nat.reduceDiv, Nat.reduceSub, Nat.reduceAdd, Int.reduceLT, Int.reduceLE, Int.reduceToNat, Nat.reduceMul, Nat.reduceEqDiff, reduceCtorEq, Nat.reduceBEq, Nat.reduceLeDiff, Nat.reduceLT, ai]
    refine W_alone (onesL_4 _ _ _ _ _ _ _ _ _ _ (fun j0 j1 j2 j3 j4 j6 j7 j8 j9 j10 j11 j12 j14 j15 j16 j17 j18 j19 j20 j21 j22 j23 j24 j25 j26 j27 j28 j29 j30 j31 j32 j33 j34 j35 j36 j37 j38 j39 j40 j41 j42 j43 j44 j45 j46 j47 j48 j49 j50 j51 j52 j53 j54 j55 j56 j57 j58 j59 j60 j61 j62 j63 j64 j65 j66 j67 j70 j71 j72 j73 j74 j75 j76 j77 j78 j79 j80 j81 j82 j83 j84 j85 j86 j87 j88 j89 j90 j91 j92 j93 j94 j95 j96 j97 j98 j99 j100 j101 j102 => W_run 120 ?_) _ _ _ _ _ _ _ _ _ _ _ _ _ _ _ _ _ _ _ _ _ _ _ _ _ _ _ _ _ _ _ _ _ _ _ _ _ _ _ _ _ _ _ _ _ _ _ _ _ _ _ _ _ _ _ _ _ _ _ _ _ _ _ _ _ _ _ _ _ _ _ _ _ _ _ _ _ _ _ _ _ _ _ _ _ _ _ _ _ _ _ _ _ _ _ _ _ _ _)
    simp (maxSteps := 2000000) only [SA, Nat.reduceDiv, Nat.reduceSub, Nat.reduceAdd, Int.reduceLT, Int.reduceLE, Int.reduceToNat, Nat.reduceMul, Nat.reduceEqDiff, reduceCtorEq, Nat.reduceBEq, Nat.reduceLeDiff, Nat.reduceLT, xf7_R1, ai]
    refine W_look (fuel := 20) (args := [.os 2011 1 4 1 0 4]) (args' := [aT (onesT 4)]) rfl (reO_4 rfl rfl rfl rfl rfl) hso rfl rfl (W_run 200 ?_)
    simp (maxSteps := 2000000) only [SA, Nat.reduceDiv, Nat.reduceSub, Nat.reduceAdd, Int.reduceLT, Int.reduceLE, Int.reduceToNat, Nat.reduceMul, Nat.reduceEqDiff, reduceCtorEq, Nat.reduceBEq, Nat.reduceLeDiff, Nat.reduceLT, ai, n00, e00, eo, wn]
    refine W_call (args := []) rfl rfl hW rfl (W_run 200 ?_)
    simp (maxSteps := 2000000) only [SA, Nat.reduceDiv, Nat.reduceSub, Nat.reduceAdd, Int.reduceLT, Int.reduceLE, Int.reduceToNat, Nat.reduceMul, Nat.reduceEqDiff, reduceCtorEq, Nat.reduceBEq, Nat.reduceLeDiff, Nat.reduceLT, ai]
    exact W_ret1 (WX_nil ⟨.inl rfl, _, rfl, rfl⟩)
  · have d2 : decide ((S.length : Int) < 2) = false := decide_eq_false (by omega)
    simp (maxSteps := 2000000) only [SA, Nat.reduceDiv, Nat.reduceSub, Nat.reduceAdd, Int.reduceLT, Int.reduceLE, Int.reduceToNat, Nat.reduceMul, Nat.reduceEqDiff, reduceCtorEq, Nat.reduceBEq, Nat.reduceLeDiff, Nat.reduceLT, ai, aT, n00, zz, d2]
    refine W_callR (kb' := 2000) (args := [ai 4]) rfl (emp9_4 _ _ _ _ _ _ _ _) rfl (W_run 120 ?_)
    simp (maxSteps := 2000000) only [SA, Nat.reduceDiv, Nat.reduceSub, Nat.reduceAdd, Int.reduceLT, Int.reduceLE, Int.reduceToNat, Nat.reduceMul, Nat.reduceEqDiff, reduceCtorEq, Nat.reduceBEq, Nat.reduceLeDiff, Nat.reduceLT, ai]
    refine W_alone (onesL_4 _ _ _ _ _ _ _ _ _ _ (fun j0 j1 j2 j3 j4 j6 j7 j8 j9 j10 j11 j12 j14 j15 j16 j17 j18 j19 j20 j21 j22 j23 j24 j25 j26 j27 j28 j29 j30 j31 j32 j33 j34 j35 j36 j37 j38 j39 j40 j41 j42 j43 j44 j45 j46 j47 j48 j49 j50 j51 j52 j53 j54 j55 j56 j57 j58 j59 j60 j61 j62 j63 j64 j65 j66 j67 j70 j71 j72 j73 j74 j75 j76 j77 j78 j79 j80 j81 j82 j83 j84 j85 j86 j87 j88 j89 j90 j91 j92 j93 j94 j95 j96 j97 j98 j99 j100 j101 j102 => W_run 120 ?_) _ _ _ _ _ _ _ _ _ _ _ _ _ _ _ _ _ _ _ _ _ _ _ _ _ _ _ _ _ _ _ _ _ _ _ _ _ _ _ _ _ _ _ _ _ _ _ _ _ _ _ _ _ _ _ _ _ _ _ _ _ _ _ _ _ _ _ _ _ _ _ _ _ _ _ _ _ _ _ _ _ _ _ _ _ _ _ _ _ _ _ _ _ _ _ _ _ _ _)
    simp (maxSteps := 2000000) only [SA, Nat.reduceDiv, Nat.reduceSub, Nat.reduceAdd, Int.reduceLT, Int.reduceLE, Int.reduceToNat, Nat.reduceMul, Nat.reduceEqDiff, reduceCtorEq, Nat.reduceBEq, Nat.reduceLeDiff, Nat.reduceLT, xf7_R1, ai]
    refine W_look (fuel := 20) (args := [.os 2011 1 4 1 0 4]) (args' := [aT (onesT 4)]) rfl (reO_4 rfl rfl rfl rfl rfl) hso rfl rfl (W_run 200 ?_)
    simp (maxSteps := 2000000) only [SA, Nat.reduceDiv, Nat.reduceSub, Nat.reduceAdd, Int.reduceLT, Int.reduceLE, Int.reduceToNat, Nat.reduceMul, Nat.reduceEqDiff, reduceCtorEq, Nat.reduceBEq, Nat.reduceLeDiff, Nat.reduceLT, ai, n00, e00, eo, wn]
    refine W_call (args := []) rfl rfl hW rfl (W_run 200 ?_)
    simp (maxSteps := 2000000) only [SA, Nat.reduceDiv, Nat.reduceSub, Nat.reduceAdd, Int.reduceLT, Int.reduceLE, Int.reduceToNat, Nat.reduceMul, Nat.reduceEqDiff, reduceCtorEq, Nat.reduceBEq, Nat.reduceLeDiff, Nat.reduceLT, ai]
    exact W_ret1 (WX_nil ⟨.inl rfl, _, rfl, rfl⟩)
theorem counted_4 {a b e : Int} {D H : List Int} (hn : sz a = 4) (ha : 0 ≤ a ∧ a ≤ 255) (hb : 0 ≤ b ∧ b ≤ 255) (hD : D.length = 16) (hH : H.length = 8) (bH : ∀ x, x ∈ H → 0 ≤ x ∧ x ≤ 255) (hW : Runs Try.prog xf 28 [] (.v (.bool true))) :
    Runs Try.prog xf 7 [ldg a b e D H] (.v (.bool true)) := by
  have hl27 : (D.map u8 ++ H.map u8).length = 24 := by simp [hD, hH]
  have ht27 : List.take 24 (D.map u8 ++ H.map u8) = D.map u8 ++ H.map u8 := List.take_of_length_le (by rw [hl27]; omega)
  have hnr := noRef_ldg a b e D H
  obtain ⟨S, M, hSl, hE, hev⟩ := even_4 (b := b) (e := e) hn ha hb hD hH bH (most := 5) (by omega)
  obtain ⟨c1, c2⟩ := tmod_b (a := b) (n := (5 : Int) + 1) hb.1 (by omega)
  have hS5 : S.length ≤ 5 := by rw [hSl]; have : (b.tmod ((5 : Nat) + 1)) = b.tmod (5 + 1) := rfl; omega
  have hg := ei_gT (by omega) (by omega) hE (by omega)
  have hMl := hg.len
  have hpl := pl_4
  have hplT := noRef_T (plL 4)
  have hfin := finC_4 hE hS5 (plL 4) rfl hW
  have hcp := cpyC_4 (plL 4) hg S.length
  have nrt : noRef (.tup [aT M, ai S.length]) = true := by show (noRef (aT M) && (noRef (ai S.length) && true)) = true; rw [noRef_T]; rfl
  generalize plL 4 = Ps at *
  refine Runs.ofW (fn := xf7) 20 (by kernel_rfl) (W_run 120 ?_)
  simp (maxSteps := 2000000) only [SA, Nat.reduceDiv, Nat.reduceSub, Nat.reduceAdd, Int.reduceLT, Int.reduceLE, Int.reduceToNat, Nat.reduceMul, Nat.reduceEqDiff, reduceCtorEq, Nat.reduceBEq, Nat.reduceLeDiff, Nat.reduceLT, xf7, ai, nilA, ldg, u8, hl27, ht27, List.length_append, hD, hH]
  refine W_call (args := [ldg a b e D H, ai (5 : Nat)]) rfl (noRefs_2 hnr rfl) hev nrt (W_run 120 ?_)
  simp (maxSteps := 2000000) only [SA, Nat.reduceDiv, Nat.reduceSub, Nat.reduceAdd, Int.reduceLT, Int.reduceLE, Int.reduceToNat, Nat.reduceMul, Nat.reduceEqDiff, reduceCtorEq, Nat.reduceBEq, Nat.reduceLeDiff, Nat.reduceLT, ai, nilA, aT, hMl]
  refine W_call (args := [ai 4]) rfl rfl hpl hplT (W_run 120 ?_)
  simp (maxSteps := 2000000) only [SA, Nat.reduceDiv, Nat.reduceSub, Nat.reduceAdd, Int.reduceLT, Int.reduceLE, Int.reduceToNat, Nat.reduceMul, Nat.reduceEqDiff, reduceCtorEq, Nat.reduceBEq, Nat.reduceLeDiff, Nat.reduceLT, ai, nilA, aT]
  refine W_callR (kb' := 1000) (args := [ai 4]) rfl (emp6_4 _) rfl (W_run 120 ?_)
  simp (maxSteps := 2000000) only [SA, Nat.reduceDiv, Nat.reduceSub, Nat.reduceAdd, Int.reduceLT, Int.reduceLE, Int.reduceToNat, Nat.reduceMul, Nat.reduceEqDiff, reduceCtorEq, Nat.reduceBEq, Nat.reduceLeDiff, Nat.reduceLT, ai, nilA, aT]
  exact W_alone (hcp _ _ (fun j0 j1 j2 j8 j9 j10 j11 j12 j13 j14 j15 j16 j17 j18 j19 j20 j21 j22 j23 j24 j25 j26 j27 j30 j31 j32 j33 j34 j35 j36 j37 j38 j39 j40 j41 j42 j43 j44 j45 j46 j47 j48 j49 j50 j51 j52 j53 j54 j55 j56 j57 j58 j59 j60 j61 j62 j63 j64 j65 j66 j67 j68 j69 j70 j71 j72 j73 j74 j75 j76 j77 j78 j79 j80 j81 j82 j83 j84 j85 j86 j87 j88 j89 j90 j91 j92 j93 j94 j95 j96 j97 j98 j99 j100 j101 j102 => hfin _ _ _ _ _ _ _ _ _ _ _ _ _ _ _ _ _ _ _ _ _ _ _ _ _ _ _ _ _ _ _ _ _ _ _ _ _ _ _ _ _ _ _ _ _ _ _ _ _ _ _ _ _ _ _ _ _ _ _ _ _ _ _ _ _ _ _ _ _ _ _ _ _ _ _ _ _ _ _ _ _ _ _ _ _ _ _ _ _ _ _ _ _ _ _ _ _ _) _ _ _ _ _ _ _ _ _ _ _ _ _ _ _ _ _ _ _ _ _ _ _ _ _ _ _ _ _ _ _ _ _ _ _ _ _ _ _ _ _ _ _ _ _ _ _ _ _ _ _ _ _ _ _ _ _ _ _ _ _ _ _ _ _ _ _ _ _ _ _ _ _ _ _ _ _ _ _ _ _ _ _ _ _ _ _ _ _ _ _ _ _ _ _ _)
end Go.Proofs.Ytkbeaheladmeiaa

