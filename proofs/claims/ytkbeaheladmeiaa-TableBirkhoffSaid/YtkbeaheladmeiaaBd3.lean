/-
  TableBirkhoff: 3 rows.
-/
import Derived.Test.YtkbeaheladmeiaaNI
set_option linter.unusedSimpArgs false
set_option linter.unusedVariables false
namespace Go.Proofs.Ytkbeaheladmeiaa
open Go Go.Proofs.Eng
set_option maxRecDepth 100000
set_option maxHeartbeats 4000000
theorem empB_3 (q3 q11 q12 : Nat × Option Ob) : RunsR Try.prog xf 1000 19 [ai 3] [(3, q3), (11, q11), (12, q12)] (.os 1011 1 3 1 0 3) [(3, q3), (11, q11), (12, q12), (1009, (1, some ⟨3, 1, [.v (.int .i64 0), .v (.int .i64 0), .v (.int .i64 0)]⟩)), (1011, (1, some ⟨37, 1, [.os 1009 1 3 1 0 3, .os 101009 1 3 1 0 3, .os 201009 1 3 1 0 3]⟩)), (101009, (1, some ⟨3, 1, [.v (.int .i64 0), .v (.int .i64 0), .v (.int .i64 0)]⟩)), (201009, (1, some ⟨3, 1, [.v (.int .i64 0), .v (.int .i64 0), .v (.int .i64 0)]⟩))] := by
  have w0 : IntKind.i64.wrap (0 + 1) = 1 := rfl
  have w1 : IntKind.i64.wrap (1 + 1) = 2 := rfl
  have w2 : IntKind.i64.wrap (2 + 1) = 3 := rfl
  refine RunsR.ofW (fn := xf19) (by kernel_rfl) (W_run 80 ?_)
  simp (maxSteps := 2000000) only [SA, Nat.reduceDiv, Nat.reduceSub, Nat.reduceAdd, Int.reduceLT, Int.reduceLE, Int.reduceToNat, Nat.reduceMul, Nat.reduceEqDiff, reduceCtorEq, Nat.reduceBEq, Nat.reduceLeDiff, Nat.reduceLT, xf19, ai, nilA]
  refine W_loop (W_run 120 ?_)
  simp (maxSteps := 2000000) only [SA, Nat.reduceDiv, Nat.reduceSub, Nat.reduceAdd, Int.reduceLT, Int.reduceLE, Int.reduceToNat, Nat.reduceMul, Nat.reduceEqDiff, reduceCtorEq, Nat.reduceBEq, Nat.reduceLeDiff, Nat.reduceLT, xf19_L0, ai, nilA, w0, w1, w2, fk64, fk63, fk62, fk61, fk60, Int.reduceMul, Go.Proofs.Eng.elems, List.map_cons, List.map_nil]
  refine W_loop (W_run 120 ?_)
  simp (maxSteps := 2000000) only [SA, Nat.reduceDiv, Nat.reduceSub, Nat.reduceAdd, Int.reduceLT, Int.reduceLE, Int.reduceToNat, Nat.reduceMul, Nat.reduceEqDiff, reduceCtorEq, Nat.reduceBEq, Nat.reduceLeDiff, Nat.reduceLT, xf19_L0, ai, nilA, w0, w1, w2, fk64, fk63, fk62, fk61, fk60, Int.reduceMul, Go.Proofs.Eng.elems, List.map_cons, List.map_nil]
  refine W_loop (W_run 120 ?_)
  simp (maxSteps := 2000000) only [SA, Nat.reduceDiv, Nat.reduceSub, Nat.reduceAdd, Int.reduceLT, Int.reduceLE, Int.reduceToNat, Nat.reduceMul, Nat.reduceEqDiff, reduceCtorEq, Nat.reduceBEq, Nat.reduceLeDiff, Nat.reduceLT, xf19_L0, ai, nilA, w0, w1, w2, fk64, fk63, fk62, fk61, fk60, Int.reduceMul, Go.Proofs.Eng.elems, List.map_cons, List.map_nil]
  refine W_loop (W_run 120 ?_)
  simp (maxSteps := 2000000) only [SA, Nat.reduceDiv, Nat.reduceSub, Nat.reduceAdd, Int.reduceLT, Int.reduceLE, Int.reduceToNat, Nat.reduceMul, Nat.reduceEqDiff, reduceCtorEq, Nat.reduceBEq, Nat.reduceLeDiff, Nat.reduceLT, xf19_L0, xf19_R0, ai, nilA]
  exact W_ret1 (WX_nil ⟨.inl rfl, _, rfl, rfl, rfl⟩)
theorem cpyB_3 (Ps : List (List Int)) (SS : List (List Int × Int)) {M : List (List Int)} (hg : gT 3 M) (s : Int) (q11 q12 : Nat × Option Ob) (K : List Fr) (Q : Out → Cfg → Prop)
    (hK : ∀ j0 j1 j2 j6 j7 j9 j11 j12 j13 j15 j16 j17 j18 j19 j20 j21 j22 j23 j24 j25 j26 j27 j28 j29 j30 j31 j32 j33 j34 j35 j36 j37 j38 j39 j40 j41 j42 j43 j44 j45 j46 j47 j48 j49 j50 j51 j52 j53 j54 j55 j56 j57 j58 j59 j60 j61 j62 j63 j64 j65 j66 j67 j68 j69 j70 j71 j72 j73 j74 j75 j76 j77 j78 j79 j80 j81 j82 j83 j84 j85 j86 j87 j88 j89 j90 j91 j94 j95 j96 j97 j98 j99 j100 j101 j102 j103 j104 j105 j106 j107 j108 j109 j110 j111 j112 j113 j114 j115 j116 j117 j118 j119 j120 j121 j122 j123 j124 j125 j126 j127 j128 j129 j130 j131 j132 j133 j134 j135 j136 j137 j138 j139 j140 j141 j142 j143 j144 j145 j146 j147 j148 j149 j150 j151 j152 j153 j154 j155 j156 j157 j158 j159 j160 j161 j162 j163 j164 j165 j166 j167 j168 j169 j170 j171 j172 j173 j174 j175 j176 j177 j178 j179 j180 j181 j182 j183 j184 j185 j186 j187 j188 j189 j190 j191 j192 j193 j194 j195 j196 j197 j198 j199 j200 j201 j202 j203 j204 j205 j206 j207 j208 j209 j210 j211 j212 j213 j214 j215 j216 j217 j218 j219 j220 j221 : AV, W Try.prog (RelU Try.prog xf) 0 K ⟨(j0 :: j1 :: j2 :: (.o 3 1 1 0 0) :: (ai s) :: (ai 3) :: j6 :: j7 :: (aSh false SS) :: j9 :: (aT Ps) :: j11 :: j12 :: j13 :: (.o 14 1 1 0 0) :: j15 :: j16 :: j17 :: j18 :: j19 :: j20 :: j21 :: j22 :: j23 :: j24 :: j25 :: j26 :: j27 :: j28 :: j29 :: j30 :: j31 :: j32 :: j33 :: j34 :: j35 :: j36 :: j37 :: j38 :: j39 :: j40 :: j41 :: j42 :: j43 :: j44 :: j45 :: j46 :: j47 :: j48 :: j49 :: j50 :: j51 :: j52 :: j53 :: j54 :: j55 :: j56 :: j57 :: j58 :: j59 :: j60 :: j61 :: j62 :: j63 :: j64 :: j65 :: j66 :: j67 :: j68 :: j69 :: j70 :: j71 :: j72 :: j73 :: j74 :: j75 :: j76 :: j77 :: j78 :: j79 :: j80 :: j81 :: j82 :: j83 :: j84 :: j85 :: j86 :: j87 :: j88 :: j89 :: j90 :: j91 :: (ai 3) :: (ai 3) :: j94 :: j95 :: j96 :: j97 :: j98 :: j99 :: j100 :: j101 :: j102 :: j103 :: j104 :: j105 :: j106 :: j107 :: j108 :: j109 :: j110 :: j111 :: j112 :: j113 :: j114 :: j115 :: j116 :: j117 :: j118 :: j119 :: j120 :: j121 :: j122 :: j123 :: j124 :: j125 :: j126 :: j127 :: j128 :: j129 :: j130 :: j131 :: j132 :: j133 :: j134 :: j135 :: j136 :: j137 :: j138 :: j139 :: j140 :: j141 :: j142 :: j143 :: j144 :: j145 :: j146 :: j147 :: j148 :: j149 :: j150 :: j151 :: j152 :: j153 :: j154 :: j155 :: j156 :: j157 :: j158 :: j159 :: j160 :: j161 :: j162 :: j163 :: j164 :: j165 :: j166 :: j167 :: j168 :: j169 :: j170 :: j171 :: j172 :: j173 :: j174 :: j175 :: j176 :: j177 :: j178 :: j179 :: j180 :: j181 :: j182 :: j183 :: j184 :: j185 :: j186 :: j187 :: j188 :: j189 :: j190 :: j191 :: j192 :: j193 :: j194 :: j195 :: j196 :: j197 :: j198 :: j199 :: j200 :: j201 :: j202 :: j203 :: j204 :: j205 :: j206 :: j207 :: j208 :: j209 :: j210 :: j211 :: j212 :: j213 :: j214 :: j215 :: j216 :: j217 :: j218 :: j219 :: j220 :: j221 :: []), [(3, bx M), (11, q11), (12, q12), (14, (1, some ⟨26, 1, [.os 1011 1 3 1 0 3]⟩)), (1009, (1, some ⟨3, 1, (M.getD 0 []).map ai⟩)), (1011, (1, some ⟨37, 1, [.os 1009 1 3 1 0 3, .os 101009 1 3 1 0 3, .os 201009 1 3 1 0 3]⟩)), (101009, (1, some ⟨3, 1, (M.getD 1 []).map ai⟩)), (201009, (1, some ⟨3, 1, (M.getD 2 []).map ai⟩))]⟩ Q) :
    ∀ j0 j1 j2 j6 j7 j9 j11 j12 j13 j15 j16 j17 j18 j19 j20 j21 j22 j23 j24 j25 j26 j27 j28 j29 j30 j31 j32 j33 j34 j35 j36 j37 j38 j39 j40 j41 j42 j43 j44 j45 j46 j47 j48 j49 j50 j51 j52 j53 j54 j55 j56 j57 j58 j59 j60 j61 j62 j63 j64 j65 j66 j67 j68 j69 j70 j71 j72 j73 j74 j75 j76 j77 j78 j79 j80 j81 j82 j83 j84 j85 j86 j87 j88 j89 j90 j91 j94 j95 j96 j97 j98 j99 j100 j101 j102 j103 j104 j105 j106 j107 j108 j109 j110 j111 j112 j113 j114 j115 j116 j117 j118 j119 j120 j121 j122 j123 j124 j125 j126 j127 j128 j129 j130 j131 j132 j133 j134 j135 j136 j137 j138 j139 j140 j141 j142 j143 j144 j145 j146 j147 j148 j149 j150 j151 j152 j153 j154 j155 j156 j157 j158 j159 j160 j161 j162 j163 j164 j165 j166 j167 j168 j169 j170 j171 j172 j173 j174 j175 j176 j177 j178 j179 j180 j181 j182 j183 j184 j185 j186 j187 j188 j189 j190 j191 j192 j193 j194 j195 j196 j197 j198 j199 j200 j201 j202 j203 j204 j205 j206 j207 j208 j209 j210 j211 j212 j213 j214 j215 j216 j217 j218 j219 j220 j221 : AV, W Try.prog (RelU Try.prog xf) 0 (.code (.loop xf3_L2) :: .blk 4 :: .stop :: K) ⟨(j0 :: j1 :: j2 :: (.o 3 1 1 0 0) :: (ai s) :: (ai 3) :: j6 :: j7 :: (aSh false SS) :: j9 :: (aT Ps) :: j11 :: j12 :: j13 :: (.o 14 1 1 0 0) :: j15 :: j16 :: j17 :: j18 :: j19 :: j20 :: j21 :: j22 :: j23 :: j24 :: j25 :: j26 :: j27 :: j28 :: j29 :: j30 :: j31 :: j32 :: j33 :: j34 :: j35 :: j36 :: j37 :: j38 :: j39 :: j40 :: j41 :: j42 :: j43 :: j44 :: j45 :: j46 :: j47 :: j48 :: j49 :: j50 :: j51 :: j52 :: j53 :: j54 :: j55 :: j56 :: j57 :: j58 :: j59 :: j60 :: j61 :: j62 :: j63 :: j64 :: j65 :: j66 :: j67 :: j68 :: j69 :: j70 :: j71 :: j72 :: j73 :: j74 :: j75 :: j76 :: j77 :: j78 :: j79 :: j80 :: j81 :: j82 :: j83 :: j84 :: j85 :: j86 :: j87 :: j88 :: j89 :: j90 :: j91 :: (ai 3) :: (ai 0) :: j94 :: j95 :: j96 :: j97 :: j98 :: j99 :: j100 :: j101 :: j102 :: j103 :: j104 :: j105 :: j106 :: j107 :: j108 :: j109 :: j110 :: j111 :: j112 :: j113 :: j114 :: j115 :: j116 :: j117 :: j118 :: j119 :: j120 :: j121 :: j122 :: j123 :: j124 :: j125 :: j126 :: j127 :: j128 :: j129 :: j130 :: j131 :: j132 :: j133 :: j134 :: j135 :: j136 :: j137 :: j138 :: j139 :: j140 :: j141 :: j142 :: j143 :: j144 :: j145 :: j146 :: j147 :: j148 :: j149 :: j150 :: j151 :: j152 :: j153 :: j154 :: j155 :: j156 :: j157 :: j158 :: j159 :: j160 :: j161 :: j162 :: j163 :: j164 :: j165 :: j166 :: j167 :: j168 :: j169 :: j170 :: j171 :: j172 :: j173 :: j174 :: j175 :: j176 :: j177 :: j178 :: j179 :: j180 :: j181 :: j182 :: j183 :: j184 :: j185 :: j186 :: j187 :: j188 :: j189 :: j190 :: j191 :: j192 :: j193 :: j194 :: j195 :: j196 :: j197 :: j198 :: j199 :: j200 :: j201 :: j202 :: j203 :: j204 :: j205 :: j206 :: j207 :: j208 :: j209 :: j210 :: j211 :: j212 :: j213 :: j214 :: j215 :: j216 :: j217 :: j218 :: j219 :: j220 :: j221 :: []), [(3, bx M), (11, q11), (12, q12), (14, (1, some ⟨26, 1, [.os 1011 1 3 1 0 3]⟩)), (1009, (1, some ⟨3, 1, [.v (.int .i64 0), .v (.int .i64 0), .v (.int .i64 0)]⟩)), (1011, (1, some ⟨37, 1, [.os 1009 1 3 1 0 3, .os 101009 1 3 1 0 3, .os 201009 1 3 1 0 3]⟩)), (101009, (1, some ⟨3, 1, [.v (.int .i64 0), .v (.int .i64 0), .v (.int .i64 0)]⟩)), (201009, (1, some ⟨3, 1, [.v (.int .i64 0), .v (.int .i64 0), .v (.int .i64 0)]⟩))]⟩ Q := by
  intros
  have l0 : (M.getD 0 []).length = 3 := hg.rowlen (by omega)
  have gt0 := get_T (T := M) (i := 0) (by rw [hg.len]; omega)
  have l1 : (M.getD 1 []).length = 3 := hg.rowlen (by omega)
  have gt1 := get_T (T := M) (i := 1) (by rw [hg.len]; omega)
  have l2 : (M.getD 2 []).length = 3 := hg.rowlen (by omega)
  have gt2 := get_T (T := M) (i := 2) (by rw [hg.len]; omega)
  have w0 : IntKind.i64.wrap (0 + 1) = 1 := rfl
  have w1 : IntKind.i64.wrap (1 + 1) = 2 := rfl
  have w2 : IntKind.i64.wrap (2 + 1) = 3 := rfl
  have hMl := hg.len
  have hbx : bx M = (1, some ⟨26, 1, [.sl 1 false (M.map (al false))]⟩) := rfl
  generalize aSh false SS = ss at *
  rw [hbx] at hK ⊢
  generalize M.getD 0 [] = R0 at *
  generalize M.getD 1 [] = R1 at *
  generalize M.getD 2 [] = R2 at *
  have n0 : (R0.map ai ≠ []) = True := eq_true (by intro q; have := congrArg List.length q; rw [List.length_map, l0] at this; cases this)
  have k0 : List.take 3 (R0.map ai) = R0.map ai := List.take_of_length_le (by rw [List.length_map, l0]; exact Nat.le_refl _)
  have o0 := map_all R0
  have n1 : (R1.map ai ≠ []) = True := eq_true (by intro q; have := congrArg List.length q; rw [List.length_map, l1] at this; cases this)
  have k1 : List.take 3 (R1.map ai) = R1.map ai := List.take_of_length_le (by rw [List.length_map, l1]; exact Nat.le_refl _)
  have o1 := map_all R1
  have n2 : (R2.map ai ≠ []) = True := eq_true (by intro q; have := congrArg List.length q; rw [List.length_map, l2] at this; cases this)
  have k2 : List.take 3 (R2.map ai) = R2.map ai := List.take_of_length_le (by rw [List.length_map, l2]; exact Nat.le_refl _)
  have o2 := map_all R2
  have mn : min 3 3 = 3 := Nat.min_self 3
  refine W_loop (W_run 160 ?_)
  simp (maxSteps := 2000000) only [SA, Nat.reduceDiv, Nat.reduceSub, Nat.reduceAdd, Int.reduceLT, Int.reduceLE, Int.reduceToNat, Nat.reduceMul, Nat.reduceEqDiff, reduceCtorEq, Nat.reduceBEq, Nat.reduceLeDiff, Nat.reduceLT, xf3_L2, ai, al, aT, hMl, stF_cpy, Go.Proofs.Eng.elems, l0, n0, k0, o0, w0, gt0, l1, n1, k1, o1, w1, gt1, l2, n2, k2, o2, w2, gt2, mn, List.map_cons, List.map_nil, ne_eq, not_true_eq_false, not_false_eq_true]
  refine W_loop (W_run 160 ?_)
  simp (maxSteps := 2000000) only [SA, Nat.reduceDiv, Nat.reduceSub, Nat.reduceAdd, Int.reduceLT, Int.reduceLE, Int.reduceToNat, Nat.reduceMul, Nat.reduceEqDiff, reduceCtorEq, Nat.reduceBEq, Nat.reduceLeDiff, Nat.reduceLT, xf3_L2, ai, al, aT, hMl, stF_cpy, Go.Proofs.Eng.elems, l0, n0, k0, o0, w0, gt0, l1, n1, k1, o1, w1, gt1, l2, n2, k2, o2, w2, gt2, mn, List.map_cons, List.map_nil, ne_eq, not_true_eq_false, not_false_eq_true]
  refine W_loop (W_run 160 ?_)
  simp (maxSteps := 2000000) only [SA, Nat.reduceDiv, Nat.reduceSub, Nat.reduceAdd, Int.reduceLT, Int.reduceLE, Int.reduceToNat, Nat.reduceMul, Nat.reduceEqDiff, reduceCtorEq, Nat.reduceBEq, Nat.reduceLeDiff, Nat.reduceLT, xf3_L2, ai, al, aT, hMl, stF_cpy, Go.Proofs.Eng.elems, l0, n0, k0, o0, w0, gt0, l1, n1, k1, o1, w1, gt1, l2, n2, k2, o2, w2, gt2, mn, List.map_cons, List.map_nil, ne_eq, not_true_eq_false, not_false_eq_true]
  refine W_loop (W_run 160 ?_)
  simp (maxSteps := 2000000) only [SA, Nat.reduceDiv, Nat.reduceSub, Nat.reduceAdd, Int.reduceLT, Int.reduceLE, Int.reduceToNat, Nat.reduceMul, Nat.reduceEqDiff, reduceCtorEq, Nat.reduceBEq, Nat.reduceLeDiff, Nat.reduceLT, xf3_L2, ai, al, aT, List.map_cons, List.map_nil]
  exact W_stop (hK _ _ _ _ _ _ _ _ _ _ _ _ _ _ _ _ _ _ _ _ _ _ _ _ _ _ _ _ _ _ _ _ _ _ _ _ _ _ _ _ _ _ _ _ _ _ _ _ _ _ _ _ _ _ _ _ _ _ _ _ _ _ _ _ _ _ _ _ _ _ _ _ _ _ _ _ _ _ _ _ _ _ _ _ _ _ _ _ _ _ _ _ _ _ _ _ _ _ _ _ _ _ _ _ _ _ _ _ _ _ _ _ _ _ _ _ _ _ _ _ _ _ _ _ _ _ _ _ _ _ _ _ _ _ _ _ _ _ _ _ _ _ _ _ _ _ _ _ _ _ _ _ _ _ _ _ _ _ _ _ _ _ _ _ _ _ _ _ _ _ _ _ _ _ _ _ _ _ _ _ _ _ _ _ _ _ _ _ _ _ _ _ _ _ _ _ _ _ _ _ _ _ _ _ _ _ _ _ _ _ _ _ _ _)
theorem reB_3 {M : List (List Int)} (hl : M.length = 3) (hr : ∀ R, R ∈ M → R.length = 3) {η : Heap} {e e' f : Nat} (h : Eng.look η 1011 = (1, some ⟨e, 1, [.os 1009 1 3 1 0 3, .os 101009 1 3 1 0 3, .os 201009 1 3 1 0 3]⟩))
    (h0 : Eng.look η 1009 = (1, some ⟨e', 1, (M.getD 0 []).map ai⟩)) (h1 : Eng.look η 101009 = (1, some ⟨e', 1, (M.getD 1 []).map ai⟩)) (h2 : Eng.look η 201009 = (1, some ⟨e', 1, (M.getD 2 []).map ai⟩)) : reify η (f + 3) (.os 1011 1 3 1 0 3) = some (aT M) := by
  have hML : M = [M.getD 0 [], M.getD 1 [], M.getD 2 []] := by
    match M, hl with
    | [R0, R1, R2], _ => rfl
  have hrl : ∀ r, r < 3 → (M.getD r []).length = 3 := fun r hlt => hr _ (getD_mem (by rw [hl]; exact hlt))
  have e1 : reify η (f + 3) (.os 1011 1 3 1 0 3) = ([.os 1009 1 3 1 0 3, .os 101009 1 3 1 0 3, .os 201009 1 3 1 0 3].mapM (elemR (reify η (f + 2)))).map (AV.sl 1 false) := reify_osX (n := f + 2) rfl h
  rw [e1, List.mapM_cons, rerow (R := M.getD 0 []) (hrl 0 (by omega)) h0, List.mapM_cons, rerow (R := M.getD 1 []) (hrl 1 (by omega)) h1, List.mapM_cons, rerow (R := M.getD 2 []) (hrl 2 (by omega)) h2, List.mapM_nil]
  conv => rhs; rw [hML]
  rfl
theorem minB_3 (Ps : List (List Int)) (ss : AV) {M : List (List Int)} (hs : shT 3 1000 M) {p : List Int} (hp : okP 3 p) (m s tt : Int) (i len g18 : Nat) (q3 q11 q12 : Nat × Option Ob) (K : List Fr) (Q : Out → Cfg → Prop)
    (hK : ∀ j0 j1 j2 j6 j7 j9 j11 j12 j13 j15 j19 j21 j22 j23 j24 j25 j26 j27 j28 j29 j30 j31 j32 j33 j34 j35 j36 j37 j38 j39 j40 j41 j42 j43 j44 j45 j46 j47 j48 j49 j50 j51 j52 j53 j54 j55 j56 j57 j58 j59 j60 j61 j62 j63 j64 j65 j66 j67 j68 j69 j70 j71 j72 j73 j74 j75 j76 j77 j78 j79 j80 j81 j82 j83 j84 j85 j86 j87 j88 j89 j90 j91 j92 j93 j94 j95 j96 j97 j98 j99 j100 j101 j102 j103 j104 j105 j109 j110 j111 j112 j113 j114 j115 j116 j117 j118 j119 j120 j121 j122 j123 j124 j125 j126 j127 j128 j132 j133 j134 j135 j136 j137 j138 j139 j140 j141 j142 j143 j144 j145 j146 j147 j148 j149 j150 j151 j152 j153 j154 j155 j156 j157 j158 j159 j160 j161 j162 j163 j164 j165 j166 j167 j168 j169 j170 j171 j172 j173 j174 j175 j176 j177 j178 j179 j180 j181 j182 j183 j184 j185 j186 j187 j188 j189 j190 j191 j192 j193 j194 j195 j196 j197 j198 j199 j200 j201 j202 j203 j204 j205 j206 j207 j208 j209 j210 j211 j212 j213 j214 j215 j216 j217 j218 j219 j220 j221 : AV, W Try.prog (RelU Try.prog xf) 0 K ⟨(j0 :: j1 :: j2 :: (.o 3 1 1 0 0) :: (ai s) :: (ai 3) :: j6 :: j7 :: ss :: j9 :: (aT Ps) :: j11 :: j12 :: j13 :: (.o 14 1 1 0 0) :: j15 :: (ai tt) :: (ai i) :: (.o 18 g18 1 0 0) :: j19 :: (ai (lst 9 M p 3)) :: j21 :: j22 :: j23 :: j24 :: j25 :: j26 :: j27 :: j28 :: j29 :: j30 :: j31 :: j32 :: j33 :: j34 :: j35 :: j36 :: j37 :: j38 :: j39 :: j40 :: j41 :: j42 :: j43 :: j44 :: j45 :: j46 :: j47 :: j48 :: j49 :: j50 :: j51 :: j52 :: j53 :: j54 :: j55 :: j56 :: j57 :: j58 :: j59 :: j60 :: j61 :: j62 :: j63 :: j64 :: j65 :: j66 :: j67 :: j68 :: j69 :: j70 :: j71 :: j72 :: j73 :: j74 :: j75 :: j76 :: j77 :: j78 :: j79 :: j80 :: j81 :: j82 :: j83 :: j84 :: j85 :: j86 :: j87 :: j88 :: j89 :: j90 :: j91 :: j92 :: j93 :: j94 :: j95 :: j96 :: j97 :: j98 :: j99 :: j100 :: j101 :: j102 :: j103 :: j104 :: j105 :: ss :: (ai len) :: (ai i) :: j109 :: j110 :: j111 :: j112 :: j113 :: j114 :: j115 :: j116 :: j117 :: j118 :: j119 :: j120 :: j121 :: j122 :: j123 :: j124 :: j125 :: j126 :: j127 :: j128 :: (al false p) :: (ai 3) :: (ai 3) :: j132 :: j133 :: j134 :: j135 :: j136 :: j137 :: j138 :: j139 :: j140 :: j141 :: j142 :: j143 :: j144 :: j145 :: j146 :: j147 :: j148 :: j149 :: j150 :: j151 :: j152 :: j153 :: j154 :: j155 :: j156 :: j157 :: j158 :: j159 :: j160 :: j161 :: j162 :: j163 :: j164 :: j165 :: j166 :: j167 :: j168 :: j169 :: j170 :: j171 :: j172 :: j173 :: j174 :: j175 :: j176 :: j177 :: j178 :: j179 :: j180 :: j181 :: j182 :: j183 :: j184 :: j185 :: j186 :: j187 :: j188 :: j189 :: j190 :: j191 :: j192 :: j193 :: j194 :: j195 :: j196 :: j197 :: j198 :: j199 :: j200 :: j201 :: j202 :: j203 :: j204 :: j205 :: j206 :: j207 :: j208 :: j209 :: j210 :: j211 :: j212 :: j213 :: j214 :: j215 :: j216 :: j217 :: j218 :: j219 :: j220 :: j221 :: []), [(3, q3), (11, q11), (12, q12), (14, (1, some ⟨26, 1, [.os 1011 1 3 1 0 3]⟩)), (18, (g18, some ⟨41, 2, [.ag [al false p, ai m]]⟩)), (1009, (1, some ⟨3, 1, (M.getD 0 []).map ai⟩)), (1011, (1, some ⟨37, 1, [.os 1009 1 3 1 0 3, .os 101009 1 3 1 0 3, .os 201009 1 3 1 0 3]⟩)), (101009, (1, some ⟨3, 1, (M.getD 1 []).map ai⟩)), (201009, (1, some ⟨3, 1, (M.getD 2 []).map ai⟩))]⟩ Q) :
    ∀ j0 j1 j2 j6 j7 j9 j11 j12 j13 j15 j19 j21 j22 j23 j24 j25 j26 j27 j28 j29 j30 j31 j32 j33 j34 j35 j36 j37 j38 j39 j40 j41 j42 j43 j44 j45 j46 j47 j48 j49 j50 j51 j52 j53 j54 j55 j56 j57 j58 j59 j60 j61 j62 j63 j64 j65 j66 j67 j68 j69 j70 j71 j72 j73 j74 j75 j76 j77 j78 j79 j80 j81 j82 j83 j84 j85 j86 j87 j88 j89 j90 j91 j92 j93 j94 j95 j96 j97 j98 j99 j100 j101 j102 j103 j104 j105 j109 j110 j111 j112 j113 j114 j115 j116 j117 j118 j119 j120 j121 j122 j123 j124 j125 j126 j127 j128 j132 j133 j134 j135 j136 j137 j138 j139 j140 j141 j142 j143 j144 j145 j146 j147 j148 j149 j150 j151 j152 j153 j154 j155 j156 j157 j158 j159 j160 j161 j162 j163 j164 j165 j166 j167 j168 j169 j170 j171 j172 j173 j174 j175 j176 j177 j178 j179 j180 j181 j182 j183 j184 j185 j186 j187 j188 j189 j190 j191 j192 j193 j194 j195 j196 j197 j198 j199 j200 j201 j202 j203 j204 j205 j206 j207 j208 j209 j210 j211 j212 j213 j214 j215 j216 j217 j218 j219 j220 j221 : AV, W Try.prog (RelU Try.prog xf) 0 (.code (.loop xf3_L3) :: .blk 8 :: .stop :: K) ⟨(j0 :: j1 :: j2 :: (.o 3 1 1 0 0) :: (ai s) :: (ai 3) :: j6 :: j7 :: ss :: j9 :: (aT Ps) :: j11 :: j12 :: j13 :: (.o 14 1 1 0 0) :: j15 :: (ai tt) :: (ai i) :: (.o 18 g18 1 0 0) :: j19 :: (ai 9) :: j21 :: j22 :: j23 :: j24 :: j25 :: j26 :: j27 :: j28 :: j29 :: j30 :: j31 :: j32 :: j33 :: j34 :: j35 :: j36 :: j37 :: j38 :: j39 :: j40 :: j41 :: j42 :: j43 :: j44 :: j45 :: j46 :: j47 :: j48 :: j49 :: j50 :: j51 :: j52 :: j53 :: j54 :: j55 :: j56 :: j57 :: j58 :: j59 :: j60 :: j61 :: j62 :: j63 :: j64 :: j65 :: j66 :: j67 :: j68 :: j69 :: j70 :: j71 :: j72 :: j73 :: j74 :: j75 :: j76 :: j77 :: j78 :: j79 :: j80 :: j81 :: j82 :: j83 :: j84 :: j85 :: j86 :: j87 :: j88 :: j89 :: j90 :: j91 :: j92 :: j93 :: j94 :: j95 :: j96 :: j97 :: j98 :: j99 :: j100 :: j101 :: j102 :: j103 :: j104 :: j105 :: ss :: (ai len) :: (ai i) :: j109 :: j110 :: j111 :: j112 :: j113 :: j114 :: j115 :: j116 :: j117 :: j118 :: j119 :: j120 :: j121 :: j122 :: j123 :: j124 :: j125 :: j126 :: j127 :: j128 :: (al false p) :: (ai 3) :: (ai 0) :: j132 :: j133 :: j134 :: j135 :: j136 :: j137 :: j138 :: j139 :: j140 :: j141 :: j142 :: j143 :: j144 :: j145 :: j146 :: j147 :: j148 :: j149 :: j150 :: j151 :: j152 :: j153 :: j154 :: j155 :: j156 :: j157 :: j158 :: j159 :: j160 :: j161 :: j162 :: j163 :: j164 :: j165 :: j166 :: j167 :: j168 :: j169 :: j170 :: j171 :: j172 :: j173 :: j174 :: j175 :: j176 :: j177 :: j178 :: j179 :: j180 :: j181 :: j182 :: j183 :: j184 :: j185 :: j186 :: j187 :: j188 :: j189 :: j190 :: j191 :: j192 :: j193 :: j194 :: j195 :: j196 :: j197 :: j198 :: j199 :: j200 :: j201 :: j202 :: j203 :: j204 :: j205 :: j206 :: j207 :: j208 :: j209 :: j210 :: j211 :: j212 :: j213 :: j214 :: j215 :: j216 :: j217 :: j218 :: j219 :: j220 :: j221 :: []), [(3, q3), (11, q11), (12, q12), (14, (1, some ⟨26, 1, [.os 1011 1 3 1 0 3]⟩)), (18, (g18, some ⟨41, 2, [.ag [al false p, ai m]]⟩)), (1009, (1, some ⟨3, 1, (M.getD 0 []).map ai⟩)), (1011, (1, some ⟨37, 1, [.os 1009 1 3 1 0 3, .os 101009 1 3 1 0 3, .os 201009 1 3 1 0 3]⟩)), (101009, (1, some ⟨3, 1, (M.getD 1 []).map ai⟩)), (201009, (1, some ⟨3, 1, (M.getD 2 []).map ai⟩))]⟩ Q := by
  intros
  have hpl := hp.1
  have hc0 := hp.2.1 _ (getD_mem (d := 0) (l := p) (i := 0) (by omega))
  have l0 : (M.getD 0 []).length = 3 := hs.rowlen (by omega)
  have gp0 := get_al (l := p) (i := 0) (by omega)
  have gw0 : ((M.getD 0 []).map ai)[(p.getD 0 0).toNat]? = some (ai (cel M 0 (p.getD 0 0).toNat)) := get_al (by omega)
  have hcb0 := hs.b (r := 0) (c := (p.getD 0 0).toNat) (by omega) (by omega)
  have w0 : IntKind.i64.wrap (0 + 1) = 1 := rfl
  have hc1 := hp.2.1 _ (getD_mem (d := 0) (l := p) (i := 1) (by omega))
  have l1 : (M.getD 1 []).length = 3 := hs.rowlen (by omega)
  have gp1 := get_al (l := p) (i := 1) (by omega)
  have gw1 : ((M.getD 1 []).map ai)[(p.getD 1 0).toNat]? = some (ai (cel M 1 (p.getD 1 0).toNat)) := get_al (by omega)
  have hcb1 := hs.b (r := 1) (c := (p.getD 1 0).toNat) (by omega) (by omega)
  have w1 : IntKind.i64.wrap (1 + 1) = 2 := rfl
  have hc2 := hp.2.1 _ (getD_mem (d := 0) (l := p) (i := 2) (by omega))
  have l2 : (M.getD 2 []).length = 3 := hs.rowlen (by omega)
  have gp2 := get_al (l := p) (i := 2) (by omega)
  have gw2 : ((M.getD 2 []).map ai)[(p.getD 2 0).toNat]? = some (ai (cel M 2 (p.getD 2 0).toNat)) := get_al (by omega)
  have hcb2 := hs.b (r := 2) (c := (p.getD 2 0).toNat) (by omega) (by omega)
  have w2 : IntKind.i64.wrap (2 + 1) = 3 := rfl
  have hm : lst 9 M p 3 = (mn2 (mn2 (mn2 9 (cel M 0 (p.getD 0 0).toNat)) (cel M 1 (p.getD 1 0).toNat)) (cel M 2 (p.getD 2 0).toNat)) := rfl
  rw [hm] at hK
  clear hm
  generalize cel M 0 (p.getD 0 0).toNat = y0 at *
  generalize p.getD 0 0 = d0 at *
  have z0 := hc0.1
  have u0 : d0 < 3 := by have := hc0.2; omega
  generalize cel M 1 (p.getD 1 0).toNat = y1 at *
  generalize p.getD 1 0 = d1 at *
  have z1 := hc1.1
  have u1 : d1 < 3 := by have := hc1.2; omega
  generalize cel M 2 (p.getD 2 0).toNat = y2 at *
  generalize p.getD 2 0 = d2 at *
  have z2 := hc2.1
  have u2 : d2 < 3 := by have := hc2.2; omega
  generalize M.getD 0 [] = W0 at *
  generalize M.getD 1 [] = W1 at *
  generalize M.getD 2 [] = W2 at *
  refine W_loop (W_run 200 ?_)
  simp (maxSteps := 2000000) only [SA, Nat.reduceDiv, Nat.reduceSub, Nat.reduceAdd, Int.reduceLT, Int.reduceLE, Int.reduceToNat, Nat.reduceMul, Nat.reduceEqDiff, reduceCtorEq, Nat.reduceBEq, Nat.reduceLeDiff, Nat.reduceLT, xf3_L3, ai, al, hpl, gp0, gw0, z0, u0, l0, w0, raw_min, rawK, opA, argT, Option.elim]
  refine W_loop (W_run 200 ?_)
  simp (maxSteps := 2000000) only [SA, Nat.reduceDiv, Nat.reduceSub, Nat.reduceAdd, Int.reduceLT, Int.reduceLE, Int.reduceToNat, Nat.reduceMul, Nat.reduceEqDiff, reduceCtorEq, Nat.reduceBEq, Nat.reduceLeDiff, Nat.reduceLT, xf3_L3, ai, al, hpl, gp1, gw1, z1, u1, l1, w1, raw_min, rawK, opA, argT, Option.elim]
  refine W_loop (W_run 200 ?_)
  simp (maxSteps := 2000000) only [SA, Nat.reduceDiv, Nat.reduceSub, Nat.reduceAdd, Int.reduceLT, Int.reduceLE, Int.reduceToNat, Nat.reduceMul, Nat.reduceEqDiff, reduceCtorEq, Nat.reduceBEq, Nat.reduceLeDiff, Nat.reduceLT, xf3_L3, ai, al, hpl, gp2, gw2, z2, u2, l2, w2, raw_min, rawK, opA, argT, Option.elim]
  refine W_loop (W_run 200 ?_)
  simp (maxSteps := 2000000) only [SA, Nat.reduceDiv, Nat.reduceSub, Nat.reduceAdd, Int.reduceLT, Int.reduceLE, Int.reduceToNat, Nat.reduceMul, Nat.reduceEqDiff, reduceCtorEq, Nat.reduceBEq, Nat.reduceLeDiff, Nat.reduceLT, xf3_L3, ai, al]
  exact W_stop (hK _ _ _ _ _ _ _ _ _ _ _ _ _ _ _ _ _ _ _ _ _ _ _ _ _ _ _ _ _ _ _ _ _ _ _ _ _ _ _ _ _ _ _ _ _ _ _ _ _ _ _ _ _ _ _ _ _ _ _ _ _ _ _ _ _ _ _ _ _ _ _ _ _ _ _ _ _ _ _ _ _ _ _ _ _ _ _ _ _ _ _ _ _ _ _ _ _ _ _ _ _ _ _ _ _ _ _ _ _ _ _ _ _ _ _ _ _ _ _ _ _ _ _ _ _ _ _ _ _ _ _ _ _ _ _ _ _ _ _ _ _ _ _ _ _ _ _ _ _ _ _ _ _ _ _ _ _ _ _ _ _ _ _ _ _ _ _ _ _ _ _ _ _ _ _ _ _ _ _ _ _ _ _ _ _ _ _ _ _ _ _ _ _ _ _ _ _ _ _ _ _ _ _ _ _ _)
theorem decB_3 (Ps : List (List Int)) (ss : AV) {M : List (List Int)} (hs : shT 3 1000 M) {p : List Int} (hp : okP 3 p) (m s tt : Int) (hm : 0 ≤ m ∧ m ≤ 1000) (i len g18 : Nat) (q3 q11 q12 : Nat × Option Ob) (K : List Fr) (Q : Out → Cfg → Prop)
    (hK : ∀ j0 j1 j2 j6 j7 j9 j11 j12 j13 j15 j19 j20 j21 j22 j23 j24 j25 j26 j27 j28 j29 j30 j31 j32 j33 j34 j35 j36 j37 j38 j39 j40 j41 j42 j43 j44 j45 j46 j47 j48 j49 j50 j51 j52 j53 j54 j55 j56 j57 j58 j59 j60 j61 j62 j63 j64 j65 j66 j67 j68 j69 j70 j71 j72 j73 j74 j75 j76 j77 j78 j79 j80 j81 j82 j83 j84 j85 j86 j87 j88 j89 j90 j91 j92 j93 j94 j95 j96 j97 j98 j99 j100 j101 j102 j103 j104 j105 j109 j110 j111 j112 j113 j114 j115 j116 j117 j118 j119 j120 j121 j122 j123 j124 j125 j126 j127 j128 j129 j130 j131 j132 j133 j134 j135 j136 j137 j138 j139 j140 j141 j142 j143 j144 j145 j146 j147 j148 j149 j150 j151 j152 j153 j154 j155 j156 j157 j161 j162 j163 j164 j165 j166 j167 j168 j169 j170 j171 j172 j173 j174 j175 j176 j177 j178 j179 j180 j181 j182 j183 j184 j185 j186 j187 j188 j189 j190 j191 j192 j193 j194 j195 j196 j197 j198 j199 j200 j201 j202 j203 j204 j205 j206 j207 j208 j209 j210 j211 j212 j213 j214 j215 j216 j217 j218 j219 j220 j221 : AV, W Try.prog (RelU Try.prog xf) 0 K ⟨(j0 :: j1 :: j2 :: (.o 3 1 1 0 0) :: (ai s) :: (ai 3) :: j6 :: j7 :: ss :: j9 :: (aT Ps) :: j11 :: j12 :: j13 :: (.o 14 1 1 0 0) :: j15 :: (ai tt) :: (ai i) :: (.o 18 g18 1 0 0) :: j19 :: j20 :: j21 :: j22 :: j23 :: j24 :: j25 :: j26 :: j27 :: j28 :: j29 :: j30 :: j31 :: j32 :: j33 :: j34 :: j35 :: j36 :: j37 :: j38 :: j39 :: j40 :: j41 :: j42 :: j43 :: j44 :: j45 :: j46 :: j47 :: j48 :: j49 :: j50 :: j51 :: j52 :: j53 :: j54 :: j55 :: j56 :: j57 :: j58 :: j59 :: j60 :: j61 :: j62 :: j63 :: j64 :: j65 :: j66 :: j67 :: j68 :: j69 :: j70 :: j71 :: j72 :: j73 :: j74 :: j75 :: j76 :: j77 :: j78 :: j79 :: j80 :: j81 :: j82 :: j83 :: j84 :: j85 :: j86 :: j87 :: j88 :: j89 :: j90 :: j91 :: j92 :: j93 :: j94 :: j95 :: j96 :: j97 :: j98 :: j99 :: j100 :: j101 :: j102 :: j103 :: j104 :: j105 :: ss :: (ai len) :: (ai i) :: j109 :: j110 :: j111 :: j112 :: j113 :: j114 :: j115 :: j116 :: j117 :: j118 :: j119 :: j120 :: j121 :: j122 :: j123 :: j124 :: j125 :: j126 :: j127 :: j128 :: j129 :: j130 :: j131 :: j132 :: j133 :: j134 :: j135 :: j136 :: j137 :: j138 :: j139 :: j140 :: j141 :: j142 :: j143 :: j144 :: j145 :: j146 :: j147 :: j148 :: j149 :: j150 :: j151 :: j152 :: j153 :: j154 :: j155 :: j156 :: j157 :: (al false p) :: (ai 3) :: (ai 3) :: j161 :: j162 :: j163 :: j164 :: j165 :: j166 :: j167 :: j168 :: j169 :: j170 :: j171 :: j172 :: j173 :: j174 :: j175 :: j176 :: j177 :: j178 :: j179 :: j180 :: j181 :: j182 :: j183 :: j184 :: j185 :: j186 :: j187 :: j188 :: j189 :: j190 :: j191 :: j192 :: j193 :: j194 :: j195 :: j196 :: j197 :: j198 :: j199 :: j200 :: j201 :: j202 :: j203 :: j204 :: j205 :: j206 :: j207 :: j208 :: j209 :: j210 :: j211 :: j212 :: j213 :: j214 :: j215 :: j216 :: j217 :: j218 :: j219 :: j220 :: j221 :: []), [(3, q3), (11, q11), (12, q12), (14, (1, some ⟨26, 1, [.os 1011 1 3 1 0 3]⟩)), (18, (g18, some ⟨41, 2, [.ag [al false p, ai m]]⟩)), (1009, (1, some ⟨3, 1, (addR M p (-m) 0).map ai⟩)), (1011, (1, some ⟨37, 1, [.os 1009 1 3 1 0 3, .os 101009 1 3 1 0 3, .os 201009 1 3 1 0 3]⟩)), (101009, (1, some ⟨3, 1, (addR M p (-m) 1).map ai⟩)), (201009, (1, some ⟨3, 1, (addR M p (-m) 2).map ai⟩))]⟩ Q) :
    ∀ j0 j1 j2 j6 j7 j9 j11 j12 j13 j15 j19 j20 j21 j22 j23 j24 j25 j26 j27 j28 j29 j30 j31 j32 j33 j34 j35 j36 j37 j38 j39 j40 j41 j42 j43 j44 j45 j46 j47 j48 j49 j50 j51 j52 j53 j54 j55 j56 j57 j58 j59 j60 j61 j62 j63 j64 j65 j66 j67 j68 j69 j70 j71 j72 j73 j74 j75 j76 j77 j78 j79 j80 j81 j82 j83 j84 j85 j86 j87 j88 j89 j90 j91 j92 j93 j94 j95 j96 j97 j98 j99 j100 j101 j102 j103 j104 j105 j109 j110 j111 j112 j113 j114 j115 j116 j117 j118 j119 j120 j121 j122 j123 j124 j125 j126 j127 j128 j129 j130 j131 j132 j133 j134 j135 j136 j137 j138 j139 j140 j141 j142 j143 j144 j145 j146 j147 j148 j149 j150 j151 j152 j153 j154 j155 j156 j157 j161 j162 j163 j164 j165 j166 j167 j168 j169 j170 j171 j172 j173 j174 j175 j176 j177 j178 j179 j180 j181 j182 j183 j184 j185 j186 j187 j188 j189 j190 j191 j192 j193 j194 j195 j196 j197 j198 j199 j200 j201 j202 j203 j204 j205 j206 j207 j208 j209 j210 j211 j212 j213 j214 j215 j216 j217 j218 j219 j220 j221 : AV, W Try.prog (RelU Try.prog xf) 0 (.code (.loop xf3_L4) :: .blk 10 :: .stop :: K) ⟨(j0 :: j1 :: j2 :: (.o 3 1 1 0 0) :: (ai s) :: (ai 3) :: j6 :: j7 :: ss :: j9 :: (aT Ps) :: j11 :: j12 :: j13 :: (.o 14 1 1 0 0) :: j15 :: (ai tt) :: (ai i) :: (.o 18 g18 1 0 0) :: j19 :: j20 :: j21 :: j22 :: j23 :: j24 :: j25 :: j26 :: j27 :: j28 :: j29 :: j30 :: j31 :: j32 :: j33 :: j34 :: j35 :: j36 :: j37 :: j38 :: j39 :: j40 :: j41 :: j42 :: j43 :: j44 :: j45 :: j46 :: j47 :: j48 :: j49 :: j50 :: j51 :: j52 :: j53 :: j54 :: j55 :: j56 :: j57 :: j58 :: j59 :: j60 :: j61 :: j62 :: j63 :: j64 :: j65 :: j66 :: j67 :: j68 :: j69 :: j70 :: j71 :: j72 :: j73 :: j74 :: j75 :: j76 :: j77 :: j78 :: j79 :: j80 :: j81 :: j82 :: j83 :: j84 :: j85 :: j86 :: j87 :: j88 :: j89 :: j90 :: j91 :: j92 :: j93 :: j94 :: j95 :: j96 :: j97 :: j98 :: j99 :: j100 :: j101 :: j102 :: j103 :: j104 :: j105 :: ss :: (ai len) :: (ai i) :: j109 :: j110 :: j111 :: j112 :: j113 :: j114 :: j115 :: j116 :: j117 :: j118 :: j119 :: j120 :: j121 :: j122 :: j123 :: j124 :: j125 :: j126 :: j127 :: j128 :: j129 :: j130 :: j131 :: j132 :: j133 :: j134 :: j135 :: j136 :: j137 :: j138 :: j139 :: j140 :: j141 :: j142 :: j143 :: j144 :: j145 :: j146 :: j147 :: j148 :: j149 :: j150 :: j151 :: j152 :: j153 :: j154 :: j155 :: j156 :: j157 :: (al false p) :: (ai 3) :: (ai 0) :: j161 :: j162 :: j163 :: j164 :: j165 :: j166 :: j167 :: j168 :: j169 :: j170 :: j171 :: j172 :: j173 :: j174 :: j175 :: j176 :: j177 :: j178 :: j179 :: j180 :: j181 :: j182 :: j183 :: j184 :: j185 :: j186 :: j187 :: j188 :: j189 :: j190 :: j191 :: j192 :: j193 :: j194 :: j195 :: j196 :: j197 :: j198 :: j199 :: j200 :: j201 :: j202 :: j203 :: j204 :: j205 :: j206 :: j207 :: j208 :: j209 :: j210 :: j211 :: j212 :: j213 :: j214 :: j215 :: j216 :: j217 :: j218 :: j219 :: j220 :: j221 :: []), [(3, q3), (11, q11), (12, q12), (14, (1, some ⟨26, 1, [.os 1011 1 3 1 0 3]⟩)), (18, (g18, some ⟨41, 2, [.ag [al false p, ai m]]⟩)), (1009, (1, some ⟨3, 1, (M.getD 0 []).map ai⟩)), (1011, (1, some ⟨37, 1, [.os 1009 1 3 1 0 3, .os 101009 1 3 1 0 3, .os 201009 1 3 1 0 3]⟩)), (101009, (1, some ⟨3, 1, (M.getD 1 []).map ai⟩)), (201009, (1, some ⟨3, 1, (M.getD 2 []).map ai⟩))]⟩ Q := by
  intros
  have hpl := hp.1
  have hc0 := hp.2.1 _ (getD_mem (d := 0) (l := p) (i := 0) (by omega))
  have l0 : (M.getD 0 []).length = 3 := hs.rowlen (by omega)
  have gp0 := get_al (l := p) (i := 0) (by omega)
  have gw0 : ((M.getD 0 []).map ai)[(p.getD 0 0).toNat]? = some (ai (cel M 0 (p.getD 0 0).toNat)) := get_al (by omega)
  have hcb0 := hs.b (r := 0) (c := (p.getD 0 0).toNat) (by omega) (by omega)
  have w0 : IntKind.i64.wrap (0 + 1) = 1 := rfl
  have hc1 := hp.2.1 _ (getD_mem (d := 0) (l := p) (i := 1) (by omega))
  have l1 : (M.getD 1 []).length = 3 := hs.rowlen (by omega)
  have gp1 := get_al (l := p) (i := 1) (by omega)
  have gw1 : ((M.getD 1 []).map ai)[(p.getD 1 0).toNat]? = some (ai (cel M 1 (p.getD 1 0).toNat)) := get_al (by omega)
  have hcb1 := hs.b (r := 1) (c := (p.getD 1 0).toNat) (by omega) (by omega)
  have w1 : IntKind.i64.wrap (1 + 1) = 2 := rfl
  have hc2 := hp.2.1 _ (getD_mem (d := 0) (l := p) (i := 2) (by omega))
  have l2 : (M.getD 2 []).length = 3 := hs.rowlen (by omega)
  have gp2 := get_al (l := p) (i := 2) (by omega)
  have gw2 : ((M.getD 2 []).map ai)[(p.getD 2 0).toNat]? = some (ai (cel M 2 (p.getD 2 0).toNat)) := get_al (by omega)
  have hcb2 := hs.b (r := 2) (c := (p.getD 2 0).toNat) (by omega) (by omega)
  have w2 : IntKind.i64.wrap (2 + 1) = 3 := rfl
  have ws0 : IntKind.i64.wrap (cel M 0 (p.getD 0 0).toNat - m) = cel M 0 (p.getD 0 0).toNat + (-m) := by rw [wrap_id (by omega) (by omega)]; omega
  have st0 : ((M.getD 0 []).map ai).set (p.getD 0 0).toNat (.v (.int .i64 (cel M 0 (p.getD 0 0).toNat + (-m)))) = (addR M p (-m) 0).map ai := by unfold addR; rw [List.map_set]; rfl
  have ws1 : IntKind.i64.wrap (cel M 1 (p.getD 1 0).toNat - m) = cel M 1 (p.getD 1 0).toNat + (-m) := by rw [wrap_id (by omega) (by omega)]; omega
  have st1 : ((M.getD 1 []).map ai).set (p.getD 1 0).toNat (.v (.int .i64 (cel M 1 (p.getD 1 0).toNat + (-m)))) = (addR M p (-m) 1).map ai := by unfold addR; rw [List.map_set]; rfl
  have ws2 : IntKind.i64.wrap (cel M 2 (p.getD 2 0).toNat - m) = cel M 2 (p.getD 2 0).toNat + (-m) := by rw [wrap_id (by omega) (by omega)]; omega
  have st2 : ((M.getD 2 []).map ai).set (p.getD 2 0).toNat (.v (.int .i64 (cel M 2 (p.getD 2 0).toNat + (-m)))) = (addR M p (-m) 2).map ai := by unfold addR; rw [List.map_set]; rfl
  generalize addR M p (-m) 0 = A0 at *
  generalize addR M p (-m) 1 = A1 at *
  generalize addR M p (-m) 2 = A2 at *
  generalize cel M 0 (p.getD 0 0).toNat = y0 at *
  generalize p.getD 0 0 = d0 at *
  have z0 := hc0.1
  have u0 : d0 < 3 := by have := hc0.2; omega
  generalize cel M 1 (p.getD 1 0).toNat = y1 at *
  generalize p.getD 1 0 = d1 at *
  have z1 := hc1.1
  have u1 : d1 < 3 := by have := hc1.2; omega
  generalize cel M 2 (p.getD 2 0).toNat = y2 at *
  generalize p.getD 2 0 = d2 at *
  have z2 := hc2.1
  have u2 : d2 < 3 := by have := hc2.2; omega
  generalize M.getD 0 [] = W0 at *
  generalize M.getD 1 [] = W1 at *
  generalize M.getD 2 [] = W2 at *
  refine W_loop (W_run 200 ?_)
  simp (maxSteps := 2000000) only [SA, Nat.reduceDiv, Nat.reduceSub, Nat.reduceAdd, Int.reduceLT, Int.reduceLE, Int.reduceToNat, Nat.reduceMul, Nat.reduceEqDiff, reduceCtorEq, Nat.reduceBEq, Nat.reduceLeDiff, Nat.reduceLT, xf3_L4, ai, al, hpl, gp0, gw0, z0, u0, l0, ws0, st0, w0]
  refine W_loop (W_run 200 ?_)
  simp (maxSteps := 2000000) only [SA, Nat.reduceDiv, Nat.reduceSub, Nat.reduceAdd, Int.reduceLT, Int.reduceLE, Int.reduceToNat, Nat.reduceMul, Nat.reduceEqDiff, reduceCtorEq, Nat.reduceBEq, Nat.reduceLeDiff, Nat.reduceLT, xf3_L4, ai, al, hpl, gp1, gw1, z1, u1, l1, ws1, st1, w1]
  refine W_loop (W_run 200 ?_)
  simp (maxSteps := 2000000) only [SA, Nat.reduceDiv, Nat.reduceSub, Nat.reduceAdd, Int.reduceLT, Int.reduceLE, Int.reduceToNat, Nat.reduceMul, Nat.reduceEqDiff, reduceCtorEq, Nat.reduceBEq, Nat.reduceLeDiff, Nat.reduceLT, xf3_L4, ai, al, hpl, gp2, gw2, z2, u2, l2, ws2, st2, w2]
  refine W_loop (W_run 200 ?_)
  simp (maxSteps := 2000000) only [SA, Nat.reduceDiv, Nat.reduceSub, Nat.reduceAdd, Int.reduceLT, Int.reduceLE, Int.reduceToNat, Nat.reduceMul, Nat.reduceEqDiff, reduceCtorEq, Nat.reduceBEq, Nat.reduceLeDiff, Nat.reduceLT, xf3_L4, ai, al]
  exact W_stop (hK _ _ _ _ _ _ _ _ _ _ _ _ _ _ _ _ _ _ _ _ _ _ _ _ _ _ _ _ _ _ _ _ _ _ _ _ _ _ _ _ _ _ _ _ _ _ _ _ _ _ _ _ _ _ _ _ _ _ _ _ _ _ _ _ _ _ _ _ _ _ _ _ _ _ _ _ _ _ _ _ _ _ _ _ _ _ _ _ _ _ _ _ _ _ _ _ _ _ _ _ _ _ _ _ _ _ _ _ _ _ _ _ _ _ _ _ _ _ _ _ _ _ _ _ _ _ _ _ _ _ _ _ _ _ _ _ _ _ _ _ _ _ _ _ _ _ _ _ _ _ _ _ _ _ _ _ _ _ _ _ _ _ _ _ _ _ _ _ _ _ _ _ _ _ _ _ _ _ _ _ _ _ _ _ _ _ _ _ _ _ _ _ _ _ _ _ _ _ _ _ _ _ _ _ _ _ _)
theorem shB_3 (Ps : List (List Int)) (hPs : Ps = plL 3) (SS : List (List Int × Int)) (hSS : SS.length ≤ 8) (hok : ∀ x, x ∈ SS → x.1 ∈ plL 3) (hnd : SS.Pairwise fun a b => a.1 ≠ b.1) (s : Int) (q3 q11 q12 : Nat × Option Ob) (K : List Fr) (Q : Out → Cfg → Prop)
    (hK : ∀ (M : List (List Int)) (tt : Int) (i : Nat) (q18 : Nat × Option Ob), gT 3 M → M = zerT 3 → tt = s → i = SS.length → ∀ j0 j1 j2 j6 j7 j9 j11 j12 j13 j15 j17 j18 j19 j20 j21 j22 j23 j24 j25 j26 j27 j28 j29 j30 j31 j32 j33 j34 j35 j36 j37 j38 j39 j40 j41 j42 j43 j44 j45 j46 j47 j48 j49 j50 j51 j52 j53 j54 j55 j56 j57 j58 j59 j60 j61 j62 j63 j64 j65 j66 j67 j68 j69 j70 j71 j72 j73 j74 j75 j76 j77 j78 j79 j80 j81 j82 j83 j84 j85 j86 j87 j88 j89 j90 j91 j92 j93 j94 j95 j96 j97 j98 j99 j100 j101 j102 j103 j104 j105 j109 j110 j111 j112 j113 j114 j115 j116 j117 j118 j119 j120 j121 j122 j123 j124 j125 j126 j127 j128 j129 j130 j131 j132 j133 j134 j135 j136 j137 j138 j139 j140 j141 j142 j143 j144 j145 j146 j147 j148 j149 j150 j151 j152 j153 j154 j155 j156 j157 j158 j159 j160 j161 j162 j163 j164 j165 j166 j167 j168 j169 j170 j171 j172 j173 j174 j175 j176 j177 j178 j179 j180 j181 j182 j183 j184 j185 j186 j187 j188 j189 j190 j191 j192 j193 j194 j195 j196 j197 j198 j199 j200 j201 j202 j203 j204 j205 j206 j207 j208 j209 j210 j211 j212 j213 j214 j215 j216 j217 j218 j219 j220 j221 : AV, W Try.prog (RelU Try.prog xf) 0 K ⟨(j0 :: j1 :: j2 :: (.o 3 1 1 0 0) :: (ai s) :: (ai 3) :: j6 :: j7 :: (aSh false SS) :: j9 :: (aT Ps) :: j11 :: j12 :: j13 :: (.o 14 1 1 0 0) :: j15 :: (ai tt) :: j17 :: j18 :: j19 :: j20 :: j21 :: j22 :: j23 :: j24 :: j25 :: j26 :: j27 :: j28 :: j29 :: j30 :: j31 :: j32 :: j33 :: j34 :: j35 :: j36 :: j37 :: j38 :: j39 :: j40 :: j41 :: j42 :: j43 :: j44 :: j45 :: j46 :: j47 :: j48 :: j49 :: j50 :: j51 :: j52 :: j53 :: j54 :: j55 :: j56 :: j57 :: j58 :: j59 :: j60 :: j61 :: j62 :: j63 :: j64 :: j65 :: j66 :: j67 :: j68 :: j69 :: j70 :: j71 :: j72 :: j73 :: j74 :: j75 :: j76 :: j77 :: j78 :: j79 :: j80 :: j81 :: j82 :: j83 :: j84 :: j85 :: j86 :: j87 :: j88 :: j89 :: j90 :: j91 :: j92 :: j93 :: j94 :: j95 :: j96 :: j97 :: j98 :: j99 :: j100 :: j101 :: j102 :: j103 :: j104 :: j105 :: (aSh false SS) :: (ai SS.length) :: (ai i) :: j109 :: j110 :: j111 :: j112 :: j113 :: j114 :: j115 :: j116 :: j117 :: j118 :: j119 :: j120 :: j121 :: j122 :: j123 :: j124 :: j125 :: j126 :: j127 :: j128 :: j129 :: j130 :: j131 :: j132 :: j133 :: j134 :: j135 :: j136 :: j137 :: j138 :: j139 :: j140 :: j141 :: j142 :: j143 :: j144 :: j145 :: j146 :: j147 :: j148 :: j149 :: j150 :: j151 :: j152 :: j153 :: j154 :: j155 :: j156 :: j157 :: j158 :: j159 :: j160 :: j161 :: j162 :: j163 :: j164 :: j165 :: j166 :: j167 :: j168 :: j169 :: j170 :: j171 :: j172 :: j173 :: j174 :: j175 :: j176 :: j177 :: j178 :: j179 :: j180 :: j181 :: j182 :: j183 :: j184 :: j185 :: j186 :: j187 :: j188 :: j189 :: j190 :: j191 :: j192 :: j193 :: j194 :: j195 :: j196 :: j197 :: j198 :: j199 :: j200 :: j201 :: j202 :: j203 :: j204 :: j205 :: j206 :: j207 :: j208 :: j209 :: j210 :: j211 :: j212 :: j213 :: j214 :: j215 :: j216 :: j217 :: j218 :: j219 :: j220 :: j221 :: []), [(3, q3), (11, q11), (12, q12), (14, (1, some ⟨26, 1, [.os 1011 1 3 1 0 3]⟩)), (18, q18), (1009, (1, some ⟨3, 1, (M.getD 0 []).map ai⟩)), (1011, (1, some ⟨37, 1, [.os 1009 1 3 1 0 3, .os 101009 1 3 1 0 3, .os 201009 1 3 1 0 3]⟩)), (101009, (1, some ⟨3, 1, (M.getD 1 []).map ai⟩)), (201009, (1, some ⟨3, 1, (M.getD 2 []).map ai⟩))]⟩ Q) :
    ∀ (f : Nat) (M : List (List Int)) (r tt : Int) (A : List (List Int × Int)) (i : Nat), gT 3 M → EvT 3 M r → r ≤ f → tt + r = s → 0 ≤ tt → s ≤ 8 → A ++ splL 3 f M = SS → i = A.length → ∀ (g18 : Nat) (o18 : Option Ob), ∀ j0 j1 j2 j6 j7 j9 j11 j12 j13 j15 j17 j18 j19 j20 j21 j22 j23 j24 j25 j26 j27 j28 j29 j30 j31 j32 j33 j34 j35 j36 j37 j38 j39 j40 j41 j42 j43 j44 j45 j46 j47 j48 j49 j50 j51 j52 j53 j54 j55 j56 j57 j58 j59 j60 j61 j62 j63 j64 j65 j66 j67 j68 j69 j70 j71 j72 j73 j74 j75 j76 j77 j78 j79 j80 j81 j82 j83 j84 j85 j86 j87 j88 j89 j90 j91 j92 j93 j94 j95 j96 j97 j98 j99 j100 j101 j102 j103 j104 j105 j109 j110 j111 j112 j113 j114 j115 j116 j117 j118 j119 j120 j121 j122 j123 j124 j125 j126 j127 j128 j129 j130 j131 j132 j133 j134 j135 j136 j137 j138 j139 j140 j141 j142 j143 j144 j145 j146 j147 j148 j149 j150 j151 j152 j153 j154 j155 j156 j157 j158 j159 j160 j161 j162 j163 j164 j165 j166 j167 j168 j169 j170 j171 j172 j173 j174 j175 j176 j177 j178 j179 j180 j181 j182 j183 j184 j185 j186 j187 j188 j189 j190 j191 j192 j193 j194 j195 j196 j197 j198 j199 j200 j201 j202 j203 j204 j205 j206 j207 j208 j209 j210 j211 j212 j213 j214 j215 j216 j217 j218 j219 j220 j221 : AV, W Try.prog (RelU Try.prog xf) 0 (.code (.loop xf3_L5) :: .blk 6 :: .stop :: K) ⟨(j0 :: j1 :: j2 :: (.o 3 1 1 0 0) :: (ai s) :: (ai 3) :: j6 :: j7 :: (aSh false SS) :: j9 :: (aT Ps) :: j11 :: j12 :: j13 :: (.o 14 1 1 0 0) :: j15 :: (ai tt) :: j17 :: j18 :: j19 :: j20 :: j21 :: j22 :: j23 :: j24 :: j25 :: j26 :: j27 :: j28 :: j29 :: j30 :: j31 :: j32 :: j33 :: j34 :: j35 :: j36 :: j37 :: j38 :: j39 :: j40 :: j41 :: j42 :: j43 :: j44 :: j45 :: j46 :: j47 :: j48 :: j49 :: j50 :: j51 :: j52 :: j53 :: j54 :: j55 :: j56 :: j57 :: j58 :: j59 :: j60 :: j61 :: j62 :: j63 :: j64 :: j65 :: j66 :: j67 :: j68 :: j69 :: j70 :: j71 :: j72 :: j73 :: j74 :: j75 :: j76 :: j77 :: j78 :: j79 :: j80 :: j81 :: j82 :: j83 :: j84 :: j85 :: j86 :: j87 :: j88 :: j89 :: j90 :: j91 :: j92 :: j93 :: j94 :: j95 :: j96 :: j97 :: j98 :: j99 :: j100 :: j101 :: j102 :: j103 :: j104 :: j105 :: (aSh false SS) :: (ai SS.length) :: (ai i) :: j109 :: j110 :: j111 :: j112 :: j113 :: j114 :: j115 :: j116 :: j117 :: j118 :: j119 :: j120 :: j121 :: j122 :: j123 :: j124 :: j125 :: j126 :: j127 :: j128 :: j129 :: j130 :: j131 :: j132 :: j133 :: j134 :: j135 :: j136 :: j137 :: j138 :: j139 :: j140 :: j141 :: j142 :: j143 :: j144 :: j145 :: j146 :: j147 :: j148 :: j149 :: j150 :: j151 :: j152 :: j153 :: j154 :: j155 :: j156 :: j157 :: j158 :: j159 :: j160 :: j161 :: j162 :: j163 :: j164 :: j165 :: j166 :: j167 :: j168 :: j169 :: j170 :: j171 :: j172 :: j173 :: j174 :: j175 :: j176 :: j177 :: j178 :: j179 :: j180 :: j181 :: j182 :: j183 :: j184 :: j185 :: j186 :: j187 :: j188 :: j189 :: j190 :: j191 :: j192 :: j193 :: j194 :: j195 :: j196 :: j197 :: j198 :: j199 :: j200 :: j201 :: j202 :: j203 :: j204 :: j205 :: j206 :: j207 :: j208 :: j209 :: j210 :: j211 :: j212 :: j213 :: j214 :: j215 :: j216 :: j217 :: j218 :: j219 :: j220 :: j221 :: []), [(3, q3), (11, q11), (12, q12), (14, (1, some ⟨26, 1, [.os 1011 1 3 1 0 3]⟩)), (18, (g18, o18)), (1009, (1, some ⟨3, 1, (M.getD 0 []).map ai⟩)), (1011, (1, some ⟨37, 1, [.os 1009 1 3 1 0 3, .os 101009 1 3 1 0 3, .os 201009 1 3 1 0 3]⟩)), (101009, (1, some ⟨3, 1, (M.getD 1 []).map ai⟩)), (201009, (1, some ⟨3, 1, (M.getD 2 []).map ai⟩))]⟩ Q := by
  have fin : ∀ (M : List (List Int)) (r tt : Int) (f : Nat) (A : List (List Int × Int)) (i : Nat), withP 3 M = [] → gT 3 M → EvT 3 M r → tt + r = s → A ++ splL 3 f M = SS → i = A.length → ∀ (g18 : Nat) (o18 : Option Ob), ∀ j0 j1 j2 j6 j7 j9 j11 j12 j13 j15 j17 j18 j19 j20 j21 j22 j23 j24 j25 j26 j27 j28 j29 j30 j31 j32 j33 j34 j35 j36 j37 j38 j39 j40 j41 j42 j43 j44 j45 j46 j47 j48 j49 j50 j51 j52 j53 j54 j55 j56 j57 j58 j59 j60 j61 j62 j63 j64 j65 j66 j67 j68 j69 j70 j71 j72 j73 j74 j75 j76 j77 j78 j79 j80 j81 j82 j83 j84 j85 j86 j87 j88 j89 j90 j91 j92 j93 j94 j95 j96 j97 j98 j99 j100 j101 j102 j103 j104 j105 j109 j110 j111 j112 j113 j114 j115 j116 j117 j118 j119 j120 j121 j122 j123 j124 j125 j126 j127 j128 j129 j130 j131 j132 j133 j134 j135 j136 j137 j138 j139 j140 j141 j142 j143 j144 j145 j146 j147 j148 j149 j150 j151 j152 j153 j154 j155 j156 j157 j158 j159 j160 j161 j162 j163 j164 j165 j166 j167 j168 j169 j170 j171 j172 j173 j174 j175 j176 j177 j178 j179 j180 j181 j182 j183 j184 j185 j186 j187 j188 j189 j190 j191 j192 j193 j194 j195 j196 j197 j198 j199 j200 j201 j202 j203 j204 j205 j206 j207 j208 j209 j210 j211 j212 j213 j214 j215 j216 j217 j218 j219 j220 j221 : AV, W Try.prog (RelU Try.prog xf) 0 (.code (.loop xf3_L5) :: .blk 6 :: .stop :: K) ⟨(j0 :: j1 :: j2 :: (.o 3 1 1 0 0) :: (ai s) :: (ai 3) :: j6 :: j7 :: (aSh false SS) :: j9 :: (aT Ps) :: j11 :: j12 :: j13 :: (.o 14 1 1 0 0) :: j15 :: (ai tt) :: j17 :: j18 :: j19 :: j20 :: j21 :: j22 :: j23 :: j24 :: j25 :: j26 :: j27 :: j28 :: j29 :: j30 :: j31 :: j32 :: j33 :: j34 :: j35 :: j36 :: j37 :: j38 :: j39 :: j40 :: j41 :: j42 :: j43 :: j44 :: j45 :: j46 :: j47 :: j48 :: j49 :: j50 :: j51 :: j52 :: j53 :: j54 :: j55 :: j56 :: j57 :: j58 :: j59 :: j60 :: j61 :: j62 :: j63 :: j64 :: j65 :: j66 :: j67 :: j68 :: j69 :: j70 :: j71 :: j72 :: j73 :: j74 :: j75 :: j76 :: j77 :: j78 :: j79 :: j80 :: j81 :: j82 :: j83 :: j84 :: j85 :: j86 :: j87 :: j88 :: j89 :: j90 :: j91 :: j92 :: j93 :: j94 :: j95 :: j96 :: j97 :: j98 :: j99 :: j100 :: j101 :: j102 :: j103 :: j104 :: j105 :: (aSh false SS) :: (ai SS.length) :: (ai i) :: j109 :: j110 :: j111 :: j112 :: j113 :: j114 :: j115 :: j116 :: j117 :: j118 :: j119 :: j120 :: j121 :: j122 :: j123 :: j124 :: j125 :: j126 :: j127 :: j128 :: j129 :: j130 :: j131 :: j132 :: j133 :: j134 :: j135 :: j136 :: j137 :: j138 :: j139 :: j140 :: j141 :: j142 :: j143 :: j144 :: j145 :: j146 :: j147 :: j148 :: j149 :: j150 :: j151 :: j152 :: j153 :: j154 :: j155 :: j156 :: j157 :: j158 :: j159 :: j160 :: j161 :: j162 :: j163 :: j164 :: j165 :: j166 :: j167 :: j168 :: j169 :: j170 :: j171 :: j172 :: j173 :: j174 :: j175 :: j176 :: j177 :: j178 :: j179 :: j180 :: j181 :: j182 :: j183 :: j184 :: j185 :: j186 :: j187 :: j188 :: j189 :: j190 :: j191 :: j192 :: j193 :: j194 :: j195 :: j196 :: j197 :: j198 :: j199 :: j200 :: j201 :: j202 :: j203 :: j204 :: j205 :: j206 :: j207 :: j208 :: j209 :: j210 :: j211 :: j212 :: j213 :: j214 :: j215 :: j216 :: j217 :: j218 :: j219 :: j220 :: j221 :: []), [(3, q3), (11, q11), (12, q12), (14, (1, some ⟨26, 1, [.os 1011 1 3 1 0 3]⟩)), (18, (g18, o18)), (1009, (1, some ⟨3, 1, (M.getD 0 []).map ai⟩)), (1011, (1, some ⟨37, 1, [.os 1009 1 3 1 0 3, .os 101009 1 3 1 0 3, .os 201009 1 3 1 0 3]⟩)), (101009, (1, some ⟨3, 1, (M.getD 1 []).map ai⟩)), (201009, (1, some ⟨3, 1, (M.getD 2 []).map ai⟩))]⟩ Q := by
    intro M r tt f A i hw hg he ht hA hi g18 o18
    intros
    have hr := spl_end hg he hw
    subst hr
    have hM := ev_zero hg he
    rw [splL_nil hw, List.append_nil] at hA
    subst hA
    have h0 : decide (i < A.length) = false := decide_eq_false (by omega)
    have hK := hK M tt i (g18, o18) hg hM (by omega) hi
    generalize aSh false A = ss at *
    generalize A.length = len at *
    generalize M.getD 0 [] = W0 at *
    generalize M.getD 1 [] = W1 at *
    generalize M.getD 2 [] = W2 at *
    refine W_loop (W_run 80 ?_)
    simp (maxSteps := 2000000) only [SA, Nat.reduceDiv, Nat.reduceSub, Nat.reduceAdd, Int.reduceLT, Int.reduceLE, Int.reduceToNat, Nat.reduceMul, Nat.reduceEqDiff, reduceCtorEq, Nat.reduceBEq, Nat.reduceLeDiff, Nat.reduceLT, xf3_L5, ai, lt_cast, h0]
    exact W_stop (hK _ _ _ _ _ _ _ _ _ _ _ _ _ _ _ _ _ _ _ _ _ _ _ _ _ _ _ _ _ _ _ _ _ _ _ _ _ _ _ _ _ _ _ _ _ _ _ _ _ _ _ _ _ _ _ _ _ _ _ _ _ _ _ _ _ _ _ _ _ _ _ _ _ _ _ _ _ _ _ _ _ _ _ _ _ _ _ _ _ _ _ _ _ _ _ _ _ _ _ _ _ _ _ _ _ _ _ _ _ _ _ _ _ _ _ _ _ _ _ _ _ _ _ _ _ _ _ _ _ _ _ _ _ _ _ _ _ _ _ _ _ _ _ _ _ _ _ _ _ _ _ _ _ _ _ _ _ _ _ _ _ _ _ _ _ _ _ _ _ _ _ _ _ _ _ _ _ _ _ _ _ _ _ _ _ _ _ _ _ _ _ _ _ _ _ _ _ _ _ _ _ _ _ _ _ _ _ _ _ _ _ _)
  intro f
  induction f with
  | zero =>
    intro M r tt A i hg he hf ht ht0 hs8 hA hi g18 o18
    intros
    have hw : withP 3 M = [] := by
      cases hw : withP 3 M with
      | nil => rfl
      | cons p t => have h := spl_step hg he hw; have h1 := h.m1; have h2 := h.mle; omega
    exact fin M r tt 0 A i hw hg he ht hA hi g18 o18 _ _ _ _ _ _ _ _ _ _ _ _ _ _ _ _ _ _ _ _ _ _ _ _ _ _ _ _ _ _ _ _ _ _ _ _ _ _ _ _ _ _ _ _ _ _ _ _ _ _ _ _ _ _ _ _ _ _ _ _ _ _ _ _ _ _ _ _ _ _ _ _ _ _ _ _ _ _ _ _ _ _ _ _ _ _ _ _ _ _ _ _ _ _ _ _ _ _ _ _ _ _ _ _ _ _ _ _ _ _ _ _ _ _ _ _ _ _ _ _ _ _ _ _ _ _ _ _ _ _ _ _ _ _ _ _ _ _ _ _ _ _ _ _ _ _ _ _ _ _ _ _ _ _ _ _ _ _ _ _ _ _ _ _ _ _ _ _ _ _ _ _ _ _ _ _ _ _ _ _ _ _ _ _ _ _ _ _ _ _ _ _ _ _ _ _ _ _ _ _ _ _ _ _ _ _ _ _ _ _ _ _
  | succ f ih =>
    intro M r tt A i hg he hf ht ht0 hs8 hA hi g18 o18
    intros
    cases hw : withP 3 M with
    | nil => exact fin M r tt (f + 1) A i hw hg he ht hA hi g18 o18 _ _ _ _ _ _ _ _ _ _ _ _ _ _ _ _ _ _ _ _ _ _ _ _ _ _ _ _ _ _ _ _ _ _ _ _ _ _ _ _ _ _ _ _ _ _ _ _ _ _ _ _ _ _ _ _ _ _ _ _ _ _ _ _ _ _ _ _ _ _ _ _ _ _ _ _ _ _ _ _ _ _ _ _ _ _ _ _ _ _ _ _ _ _ _ _ _ _ _ _ _ _ _ _ _ _ _ _ _ _ _ _ _ _ _ _ _ _ _ _ _ _ _ _ _ _ _ _ _ _ _ _ _ _ _ _ _ _ _ _ _ _ _ _ _ _ _ _ _ _ _ _ _ _ _ _ _ _ _ _ _ _ _ _ _ _ _ _ _ _ _ _ _ _ _ _ _ _ _ _ _ _ _ _ _ _ _ _ _ _ _ _ _ _ _ _ _ _ _ _ _ _ _ _ _ _ _ _ _ _ _ _
    | cons p t =>
      have h := spl_step hg he hw
      rw [splL_cons hw] at hA
      have hp := h.ok
      have hpl := hp.1
      have hm1 := h.m1
      have hm9 := h.m9
      have hmr := h.mle
      have hlst := lst_min hg hp
      have hsM : shT 3 1000 M := ⟨hg.len, hg.row, fun r hr x hx => by have := hg.cel r hr x hx; omega⟩
      have hiS : i < SS.length := by rw [← hA, List.length_append, hi]; simp only [List.length_cons]; omega
      have hget : (SS.map shV)[i]? = some (shV (p, mnF (nums M p))) := by
        rw [get_sv hiS]
        congr 2
        rw [← hA, hi, List.getD_eq_getElem?_getD, List.getElem?_append_right (Nat.le_refl _), Nat.sub_self]; rfl
      have htk : (SS.map shV).take i = A.map shV := by
        rw [← List.map_take, ← hA, hi, List.take_left']
        rfl
      have hAok : ∀ a, a ∈ A → a.1.length = 3 := fun a ha => (plL_len (by omega) (by omega) _ (hok a (by rw [← hA]; exact List.mem_append.2 (.inl ha)))).1
      have hAnd : (A.any fun a => decide (a.1 = p)) = false := by
        rw [List.any_eq_false]
        intro a ha
        rw [← hA] at hnd
        have := (List.pairwise_append.1 hnd).2.2 a ha _ List.mem_cons_self
        simpa using this
      have hPok : ∀ q, q ∈ Ps → okP 3 q := by rw [hPs]; exact plL_len (by omega) (by omega)
      have hP24 : Ps.length ≤ 24 := by rw [hPs]; decide
      have hflt : Ps.filter (fun q => decide (0 < wgt M q)) = p :: t := by rw [hPs, ← withP_eq hg]; exact hw
      obtain ⟨j, j1, j2, j3⟩ := fxI_first (fun q => decide (0 < wgt M q)) [] Ps 0 hflt
      rw [Nat.zero_add] at j1
      have hix := ixT_run 21 [.ptr (aT M)] (noRefs_1 (noRef_T M)) call_21 (fun q => decide (0 < wgt M q)) Ps (by omega) fun q hq => c21_run hg (hPok q hq)
      rw [j1] at hix
      have hgj := get_T j2
      rw [j3] at hgj
      have hjl : (j : Int) < (Ps.length : Int) := by omega
      have dj : decide ((j : Int) < 0) = false := decide_eq_false (by omega)
      have hsame := same_al false false p (by omega)
      have hmin := minB_3 Ps (aSh false SS) hsM hp (mnF (nums M p)) s tt i SS.length (g18 + 1) q3 q11 q12
      have hdec := decB_3 Ps (aSh false SS) hsM hp (mnF (nums M p)) s tt (by omega) i SS.length (g18 + 1) q3 q11 q12
      rw [hlst] at hmin
      have next := ih (addT M p (-(mnF (nums M p)))) (r - mnF (nums M p)) (tt + mnF (nums M p)) (A ++ [(p, mnF (nums M p))]) (i + 1) h.g2 h.e2 (by omega) (by omega) (by omega) hs8 (by rw [List.append_assoc]; exact hA) (by rw [List.length_append, hi]; rfl) (g18 + 1) (some ⟨41, 2, [.ag [al false p, ai (mnF (nums M p))]]⟩)
      have ag0 : (addT M p (-(mnF (nums M p)))).getD 0 [] = addR M p (-(mnF (nums M p))) 0 := add_get (by omega)
      have ag1 : (addT M p (-(mnF (nums M p)))).getD 1 [] = addR M p (-(mnF (nums M p))) 1 := add_get (by omega)
      have ag2 : (addT M p (-(mnF (nums M p)))).getD 2 [] = addR M p (-(mnF (nums M p))) 2 := add_get (by omega)
      rw [ag0, ag1, ag2] at next
      clear ag0 ag1 ag2 ih fin hK
      have hcn := fun fl => cnS_run 24 [.ptr (shV (p, mnF (nums M p)))] (noRefs_1 (noRef_shV _)) call_24 (fun a => decide (a.1 = p)) fl A (by rw [← hA, List.length_append] at hSS; omega) fun a ha => c24_run a (p, mnF (nums M p)) (by rw [hAok a ha]; exact hpl.symm) (by rw [hAok a ha]; omega)
      rw [hAnd] at hcn
      have hre : ∀ η : Heap, Eng.look η 14 = Eng.look [(3, q3), (11, q11), (12, q12), (14, (1, some ⟨26, 1, [.os 1011 1 3 1 0 3]⟩)), (18, (0, none)), (1009, (1, some ⟨3, 1, (M.getD 0 []).map ai⟩)), (1011, (1, some ⟨37, 1, [.os 1009 1 3 1 0 3, .os 101009 1 3 1 0 3, .os 201009 1 3 1 0 3]⟩)), (101009, (1, some ⟨3, 1, (M.getD 1 []).map ai⟩)), (201009, (1, some ⟨3, 1, (M.getD 2 []).map ai⟩))] 14 → Eng.look η 1011 = Eng.look [(3, q3), (11, q11), (12, q12), (14, (1, some ⟨26, 1, [.os 1011 1 3 1 0 3]⟩)), (18, (0, none)), (1009, (1, some ⟨3, 1, (M.getD 0 []).map ai⟩)), (1011, (1, some ⟨37, 1, [.os 1009 1 3 1 0 3, .os 101009 1 3 1 0 3, .os 201009 1 3 1 0 3]⟩)), (101009, (1, some ⟨3, 1, (M.getD 1 []).map ai⟩)), (201009, (1, some ⟨3, 1, (M.getD 2 []).map ai⟩))] 1011 → Eng.look η 1009 = Eng.look [(3, q3), (11, q11), (12, q12), (14, (1, some ⟨26, 1, [.os 1011 1 3 1 0 3]⟩)), (18, (0, none)), (1009, (1, some ⟨3, 1, (M.getD 0 []).map ai⟩)), (1011, (1, some ⟨37, 1, [.os 1009 1 3 1 0 3, .os 101009 1 3 1 0 3, .os 201009 1 3 1 0 3]⟩)), (101009, (1, some ⟨3, 1, (M.getD 1 []).map ai⟩)), (201009, (1, some ⟨3, 1, (M.getD 2 []).map ai⟩))] 1009 → Eng.look η 101009 = Eng.look [(3, q3), (11, q11), (12, q12), (14, (1, some ⟨26, 1, [.os 1011 1 3 1 0 3]⟩)), (18, (0, none)), (1009, (1, some ⟨3, 1, (M.getD 0 []).map ai⟩)), (1011, (1, some ⟨37, 1, [.os 1009 1 3 1 0 3, .os 101009 1 3 1 0 3, .os 201009 1 3 1 0 3]⟩)), (101009, (1, some ⟨3, 1, (M.getD 1 []).map ai⟩)), (201009, (1, some ⟨3, 1, (M.getD 2 []).map ai⟩))] 101009 → Eng.look η 201009 = Eng.look [(3, q3), (11, q11), (12, q12), (14, (1, some ⟨26, 1, [.os 1011 1 3 1 0 3]⟩)), (18, (0, none)), (1009, (1, some ⟨3, 1, (M.getD 0 []).map ai⟩)), (1011, (1, some ⟨37, 1, [.os 1009 1 3 1 0 3, .os 101009 1 3 1 0 3, .os 201009 1 3 1 0 3]⟩)), (101009, (1, some ⟨3, 1, (M.getD 1 []).map ai⟩)), (201009, (1, some ⟨3, 1, (M.getD 2 []).map ai⟩))] 201009 → [aT Ps, .fn 21 [.o 14 1 1 0 0]].mapM (reify η 20) = some [aT Ps, .fn 21 [.ptr (aT M)]] := fun η b0 a0 a1 a2 a3 =>
        reify_21 (b0.trans rfl) (reB_3 (f := 15) hg.len hg.row (a0.trans rfl) (a1.trans rfl) (a2.trans rfl) (a3.trans rfl))
      generalize mnF (nums M p) = m at *
      have hre4 := fun fl η h18 => reify_24 (A := A) (fl := fl) (x := (p, m)) (η := η) (f := 24) (g := g18 + 1) h18
      have h0 : decide (i < SS.length) = true := decide_eq_true hiS
      have hiS2 : i ≤ SS.length := by omega
      have wi : IntKind.i64.wrap ((i : Int) + 1) = ((i + 1 : Nat) : Int) := by rw [wrap_id (by omega) (by omega)]; simp
      have wt : IntKind.i64.wrap (tt + m) = tt + m := wrap_id (by omega) (by omega)
      have mm : (m != m) = false := by simp
      have eS : shV (p, m) = .ag [al false p, ai m] := rfl
      rw [eS] at hget
      generalize M.getD 0 [] = W0 at *
      generalize M.getD 1 [] = W1 at *
      generalize M.getD 2 [] = W2 at *
      have hss : aSh false SS = .sl 2 false (SS.map shV) := rfl
      have hsl : (SS.map shV).length = SS.length := List.length_map ..
      refine W_loop (W_run 160 ?_)
      simp (maxSteps := 2000000) only [SA, Nat.reduceDiv, Nat.reduceSub, Nat.reduceAdd, Int.reduceLT, Int.reduceLE, Int.reduceToNat, Nat.reduceMul, Nat.reduceEqDiff, reduceCtorEq, Nat.reduceBEq, Nat.reduceLeDiff, Nat.reduceLT, xf3_L5, ai, al, aT, aSh, lt_cast, h0, hget, hsl]
      refine W_look (fuel := 20) (args := [aT Ps, .fn 21 [.o 14 1 1 0 0]]) (args' := [aT Ps, .fn 21 [.ptr (aT M)]]) rfl (hre _ rfl rfl rfl rfl rfl) hix rfl rfl (W_run 160 ?_)
      simp (maxSteps := 2000000) only [SA, Nat.reduceDiv, Nat.reduceSub, Nat.reduceAdd, Int.reduceLT, Int.reduceLE, Int.reduceToNat, Nat.reduceMul, Nat.reduceEqDiff, reduceCtorEq, Nat.reduceBEq, Nat.reduceLeDiff, Nat.reduceLT, ai, al, aT, dj, hjl, hgj, hpl]
      refine W_call (args := [al false p, al false p]) rfl (noRefs_2 (noRef_al _ _) (noRef_al _ _)) hsame rfl (W_run 160 ?_)
      simp (maxSteps := 2000000) only [SA, Nat.reduceDiv, Nat.reduceSub, Nat.reduceAdd, Int.reduceLT, Int.reduceLE, Int.reduceToNat, Nat.reduceMul, Nat.reduceEqDiff, reduceCtorEq, Nat.reduceBEq, Nat.reduceLeDiff, Nat.reduceLT, ai, al, ab, hpl]
      refine W_alone (hmin _ _ (fun j0 j1 j2 j6 j7 j9 j11 j12 j13 j15 j19 j21 j22 j23 j24 j25 j26 j27 j28 j29 j30 j31 j32 j33 j34 j35 j36 j37 j38 j39 j40 j41 j42 j43 j44 j45 j46 j47 j48 j49 j50 j51 j52 j53 j54 j55 j56 j57 j58 j59 j60 j61 j62 j63 j64 j65 j66 j67 j68 j69 j70 j71 j72 j73 j74 j75 j76 j77 j78 j79 j80 j81 j82 j83 j84 j85 j86 j87 j88 j89 j90 j91 j92 j93 j94 j95 j96 j97 j98 j99 j100 j101 j102 j103 j104 j105 j109 j110 j111 j112 j113 j114 j115 j116 j117 j118 j119 j120 j121 j122 j123 j124 j125 j126 j127 j128 j132 j133 j134 j135 j136 j137 j138 j139 j140 j141 j142 j143 j144 j145 j146 j147 j148 j149 j150 j151 j152 j153 j154 j155 j156 j157 j158 j159 j160 j161 j162 j163 j164 j165 j166 j167 j168 j169 j170 j171 j172 j173 j174 j175 j176 j177 j178 j179 j180 j181 j182 j183 j184 j185 j186 j187 j188 j189 j190 j191 j192 j193 j194 j195 j196 j197 j198 j199 j200 j201 j202 j203 j204 j205 j206 j207 j208 j209 j210 j211 j212 j213 j214 j215 j216 j217 j218 j219 j220 j221 => W_run 160 ?_) _ _ _ _ _ _ _ _ _ _ _ _ _ _ _ _ _ _ _ _ _ _ _ _ _ _ _ _ _ _ _ _ _ _ _ _ _ _ _ _ _ _ _ _ _ _ _ _ _ _ _ _ _ _ _ _ _ _ _ _ _ _ _ _ _ _ _ _ _ _ _ _ _ _ _ _ _ _ _ _ _ _ _ _ _ _ _ _ _ _ _ _ _ _ _ _ _ _ _ _ _ _ _ _ _ _ _ _ _ _ _ _ _ _ _ _ _ _ _ _ _ _ _ _ _ _ _ _ _ _ _ _ _ _ _ _ _ _ _ _ _ _ _ _ _ _ _ _ _ _ _ _ _ _ _ _ _ _ _ _ _ _ _ _ _ _ _ _ _ _ _ _ _ _ _ _ _ _ _ _ _ _ _ _ _ _ _ _ _ _ _ _ _ _ _ _ _ _ _ _ _ _ _ _ _ _)
      simp (maxSteps := 2000000) only [SA, Nat.reduceDiv, Nat.reduceSub, Nat.reduceAdd, Int.reduceLT, Int.reduceLE, Int.reduceToNat, Nat.reduceMul, Nat.reduceEqDiff, reduceCtorEq, Nat.reduceBEq, Nat.reduceLeDiff, Nat.reduceLT, xf3_R2, ai, al, aSh, mm, htk, hsl, hiS2, Go.Proofs.Eng.fullOf]
      refine W_look (fuel := 20) (args := [aSh false A, .fn 24 [.o 18 (g18 + 1) 1 0 0]]) (args' := [aSh false A, .fn 24 [.ptr (shV (p, m))]]) rfl (hre4 false _ rfl) (hcn false) rfl rfl (W_run 160 ?_)
      simp (maxSteps := 2000000) only [SA, Nat.reduceDiv, Nat.reduceSub, Nat.reduceAdd, Int.reduceLT, Int.reduceLE, Int.reduceToNat, Nat.reduceMul, Nat.reduceEqDiff, reduceCtorEq, Nat.reduceBEq, Nat.reduceLeDiff, Nat.reduceLT, ai, al, ab, hpl]
      refine W_alone (hdec _ _ (fun j0 j1 j2 j6 j7 j9 j11 j12 j13 j15 j19 j20 j21 j22 j23 j24 j25 j26 j27 j28 j29 j30 j31 j32 j33 j34 j35 j36 j37 j38 j39 j40 j41 j42 j43 j44 j45 j46 j47 j48 j49 j50 j51 j52 j53 j54 j55 j56 j57 j58 j59 j60 j61 j62 j63 j64 j65 j66 j67 j68 j69 j70 j71 j72 j73 j74 j75 j76 j77 j78 j79 j80 j81 j82 j83 j84 j85 j86 j87 j88 j89 j90 j91 j92 j93 j94 j95 j96 j97 j98 j99 j100 j101 j102 j103 j104 j105 j109 j110 j111 j112 j113 j114 j115 j116 j117 j118 j119 j120 j121 j122 j123 j124 j125 j126 j127 j128 j129 j130 j131 j132 j133 j134 j135 j136 j137 j138 j139 j140 j141 j142 j143 j144 j145 j146 j147 j148 j149 j150 j151 j152 j153 j154 j155 j156 j157 j161 j162 j163 j164 j165 j166 j167 j168 j169 j170 j171 j172 j173 j174 j175 j176 j177 j178 j179 j180 j181 j182 j183 j184 j185 j186 j187 j188 j189 j190 j191 j192 j193 j194 j195 j196 j197 j198 j199 j200 j201 j202 j203 j204 j205 j206 j207 j208 j209 j210 j211 j212 j213 j214 j215 j216 j217 j218 j219 j220 j221 => W_run 160 ?_) _ _ _ _ _ _ _ _ _ _ _ _ _ _ _ _ _ _ _ _ _ _ _ _ _ _ _ _ _ _ _ _ _ _ _ _ _ _ _ _ _ _ _ _ _ _ _ _ _ _ _ _ _ _ _ _ _ _ _ _ _ _ _ _ _ _ _ _ _ _ _ _ _ _ _ _ _ _ _ _ _ _ _ _ _ _ _ _ _ _ _ _ _ _ _ _ _ _ _ _ _ _ _ _ _ _ _ _ _ _ _ _ _ _ _ _ _ _ _ _ _ _ _ _ _ _ _ _ _ _ _ _ _ _ _ _ _ _ _ _ _ _ _ _ _ _ _ _ _ _ _ _ _ _ _ _ _ _ _ _ _ _ _ _ _ _ _ _ _ _ _ _ _ _ _ _ _ _ _ _ _ _ _ _ _ _ _ _ _ _ _ _ _ _ _ _ _ _ _ _ _ _ _ _ _ _ _)
      simp (maxSteps := 2000000) only [SA, Nat.reduceDiv, Nat.reduceSub, Nat.reduceAdd, Int.reduceLT, Int.reduceLE, Int.reduceToNat, Nat.reduceMul, Nat.reduceEqDiff, reduceCtorEq, Nat.reduceBEq, Nat.reduceLeDiff, Nat.reduceLT, xf3_R1, xf3_R3, ai, wt, wi]
      exact next _ _ _ _ _ _ _ _ _ _ _ _ _ _ _ _ _ _ _ _ _ _ _ _ _ _ _ _ _ _ _ _ _ _ _ _ _ _ _ _ _ _ _ _ _ _ _ _ _ _ _ _ _ _ _ _ _ _ _ _ _ _ _ _ _ _ _ _ _ _ _ _ _ _ _ _ _ _ _ _ _ _ _ _ _ _ _ _ _ _ _ _ _ _ _ _ _ _ _ _ _ _ _ _ _ _ _ _ _ _ _ _ _ _ _ _ _ _ _ _ _ _ _ _ _ _ _ _ _ _ _ _ _ _ _ _ _ _ _ _ _ _ _ _ _ _ _ _ _ _ _ _ _ _ _ _ _ _ _ _ _ _ _ _ _ _ _ _ _ _ _ _ _ _ _ _ _ _ _ _ _ _ _ _ _ _ _ _ _ _ _ _ _ _ _ _ _ _ _ _ _ _ _ _ _ _ _ _ _ _ _ _
def QB3 (o : Out) (c : Cfg) : Prop := (o = .ret ∨ o = .normal) ∧ ∃ rs, xf3.results.mapM (resOf Try.prog c) = some rs ∧ reify c.η 20 (retOf rs) = some (.v (.bool true))
theorem endB_3 {T M : List (List Int)} {s : Int} (hg : gT 3 T) (he : EvT 3 T s) (h0 : 0 ≤ s) (Ps : List (List Int)) (SS : List (List Int × Int)) (hSS : SS.length ≤ 8) (hok : ∀ x, x ∈ SS → x.1 ∈ plL 3) (hsum : sumV 3 SS = .tup [aT T, ai 0]) (hgM : gT 3 M) (hM : M = zerT 3) (q11 q12 q18 : Nat × Option Ob) (hW : Runs Try.prog xf 28 [] (.v (.bool true))) :
    ∀ j0 j1 j2 j6 j7 j9 j11 j12 j13 j15 j17 j18 j19 j20 j21 j22 j23 j24 j25 j26 j27 j28 j29 j30 j31 j32 j33 j34 j35 j36 j37 j38 j39 j40 j41 j42 j43 j44 j45 j46 j47 j48 j49 j50 j51 j52 j53 j54 j55 j56 j57 j58 j59 j60 j61 j62 j63 j64 j65 j66 j67 j68 j69 j70 j71 j72 j73 j74 j75 j76 j77 j78 j79 j80 j81 j82 j83 j84 j85 j86 j87 j88 j89 j90 j91 j92 j93 j94 j95 j96 j97 j98 j99 j100 j101 j102 j103 j104 j105 j106 j107 j108 j109 j110 j111 j112 j113 j114 j115 j116 j117 j118 j119 j120 j121 j122 j123 j124 j125 j126 j127 j128 j129 j130 j131 j132 j133 j134 j135 j136 j137 j138 j139 j140 j141 j142 j143 j144 j145 j146 j147 j148 j149 j150 j151 j152 j153 j154 j155 j156 j157 j158 j159 j160 j161 j162 j163 j164 j165 j166 j167 j168 j169 j170 j171 j172 j173 j174 j175 j176 j177 j178 j179 j180 j181 j182 j183 j184 j185 j186 j187 j188 j189 j190 j191 j192 j193 j194 j195 j196 j197 j198 j199 j200 j201 j202 j203 j204 j205 j206 j207 j208 j209 j210 j211 j212 j213 j214 j215 j216 j217 j218 j219 j220 j221 : AV, W Try.prog (RelU Try.prog xf) 0 [.code xf3_R4] ⟨(j0 :: j1 :: j2 :: (.o 3 1 1 0 0) :: (ai s) :: (ai 3) :: j6 :: j7 :: (aSh false SS) :: j9 :: (aT Ps) :: j11 :: j12 :: j13 :: (.o 14 1 1 0 0) :: j15 :: (ai s) :: j17 :: j18 :: j19 :: j20 :: j21 :: j22 :: j23 :: j24 :: j25 :: j26 :: j27 :: j28 :: j29 :: j30 :: j31 :: j32 :: j33 :: j34 :: j35 :: j36 :: j37 :: j38 :: j39 :: j40 :: j41 :: j42 :: j43 :: j44 :: j45 :: j46 :: j47 :: j48 :: j49 :: j50 :: j51 :: j52 :: j53 :: j54 :: j55 :: j56 :: j57 :: j58 :: j59 :: j60 :: j61 :: j62 :: j63 :: j64 :: j65 :: j66 :: j67 :: j68 :: j69 :: j70 :: j71 :: j72 :: j73 :: j74 :: j75 :: j76 :: j77 :: j78 :: j79 :: j80 :: j81 :: j82 :: j83 :: j84 :: j85 :: j86 :: j87 :: j88 :: j89 :: j90 :: j91 :: j92 :: j93 :: j94 :: j95 :: j96 :: j97 :: j98 :: j99 :: j100 :: j101 :: j102 :: j103 :: j104 :: j105 :: j106 :: j107 :: j108 :: j109 :: j110 :: j111 :: j112 :: j113 :: j114 :: j115 :: j116 :: j117 :: j118 :: j119 :: j120 :: j121 :: j122 :: j123 :: j124 :: j125 :: j126 :: j127 :: j128 :: j129 :: j130 :: j131 :: j132 :: j133 :: j134 :: j135 :: j136 :: j137 :: j138 :: j139 :: j140 :: j141 :: j142 :: j143 :: j144 :: j145 :: j146 :: j147 :: j148 :: j149 :: j150 :: j151 :: j152 :: j153 :: j154 :: j155 :: j156 :: j157 :: j158 :: j159 :: j160 :: j161 :: j162 :: j163 :: j164 :: j165 :: j166 :: j167 :: j168 :: j169 :: j170 :: j171 :: j172 :: j173 :: j174 :: j175 :: j176 :: j177 :: j178 :: j179 :: j180 :: j181 :: j182 :: j183 :: j184 :: j185 :: j186 :: j187 :: j188 :: j189 :: j190 :: j191 :: j192 :: j193 :: j194 :: j195 :: j196 :: j197 :: j198 :: j199 :: j200 :: j201 :: j202 :: j203 :: j204 :: j205 :: j206 :: j207 :: j208 :: j209 :: j210 :: j211 :: j212 :: j213 :: j214 :: j215 :: j216 :: j217 :: j218 :: j219 :: j220 :: j221 :: []), [(3, bx T), (11, q11), (12, q12), (14, (1, some ⟨26, 1, [.os 1011 1 3 1 0 3]⟩)), (18, q18), (1009, (1, some ⟨3, 1, (M.getD 0 []).map ai⟩)), (1011, (1, some ⟨37, 1, [.os 1009 1 3 1 0 3, .os 101009 1 3 1 0 3, .os 201009 1 3 1 0 3]⟩)), (101009, (1, some ⟨3, 1, (M.getD 1 []).map ai⟩)), (201009, (1, some ⟨3, 1, (M.getD 2 []).map ai⟩))]⟩ QB3 := by
  intros
  have hsr := sum_run (n := 3) (by omega) (by omega) (.inl ⟨false, rfl⟩ : (∃ f, aSh false SS = aSh f SS) ∨ (aSh false SS = nilA ∧ SS = [])) (by omega) (fun x hx => by have := (plL_len (by omega) (by omega) _ (hok x hx)).1; omega)
  rw [hsum] at hsr
  obtain ⟨x, y, hb, nx, ny⟩ := bar_ev hg he h0
  have hbr := bar_run hg
  rw [hb] at hbr
  have halk := alike_run (T := T) (by rw [hg.len]; omega) fun R hR => by rw [hg.row R hR]; omega
  have hgz : gT 3 (zerT 3) := hM ▸ hgM
  have halz := alike_run (T := zerT 3) (by rw [hgz.len]; omega) fun R hR => by rw [hgz.row R hR]; omega
  have nrT : noRef (.tup [aT T, ai 0]) = true := by show (noRef (aT T) && (noRef (ai 0) && true)) = true; rw [noRef_T]; rfl
  have nrb : ∀ z : Int, noRef (.tup [x, y, ai z]) = true := fun z => by show (noRef x && (noRef y && (noRef (ai z) && true))) = true; rw [nx, ny]; rfl
  have n00 : ((0 : Int) != 0) = false := rfl
  have e00 : ((0 : Int) == 0) = true := rfl
  have ess : (s == s) = true := by simp
  have hem := emD_3
  have hre : ∀ η : Heap, Eng.look η 1011 = Eng.look [(3, (0, none)), (11, (0, none)), (12, (0, none)), (14, (1, some ⟨26, 1, [.os 1011 1 3 1 0 3]⟩)), (18, (0, none)), (1009, (1, some ⟨3, 1, (M.getD 0 []).map ai⟩)), (1011, (1, some ⟨37, 1, [.os 1009 1 3 1 0 3, .os 101009 1 3 1 0 3, .os 201009 1 3 1 0 3]⟩)), (101009, (1, some ⟨3, 1, (M.getD 1 []).map ai⟩)), (201009, (1, some ⟨3, 1, (M.getD 2 []).map ai⟩))] 1011 → Eng.look η 1009 = Eng.look [(3, (0, none)), (11, (0, none)), (12, (0, none)), (14, (1, some ⟨26, 1, [.os 1011 1 3 1 0 3]⟩)), (18, (0, none)), (1009, (1, some ⟨3, 1, (M.getD 0 []).map ai⟩)), (1011, (1, some ⟨37, 1, [.os 1009 1 3 1 0 3, .os 101009 1 3 1 0 3, .os 201009 1 3 1 0 3]⟩)), (101009, (1, some ⟨3, 1, (M.getD 1 []).map ai⟩)), (201009, (1, some ⟨3, 1, (M.getD 2 []).map ai⟩))] 1009 → Eng.look η 101009 = Eng.look [(3, (0, none)), (11, (0, none)), (12, (0, none)), (14, (1, some ⟨26, 1, [.os 1011 1 3 1 0 3]⟩)), (18, (0, none)), (1009, (1, some ⟨3, 1, (M.getD 0 []).map ai⟩)), (1011, (1, some ⟨37, 1, [.os 1009 1 3 1 0 3, .os 101009 1 3 1 0 3, .os 201009 1 3 1 0 3]⟩)), (101009, (1, some ⟨3, 1, (M.getD 1 []).map ai⟩)), (201009, (1, some ⟨3, 1, (M.getD 2 []).map ai⟩))] 101009 → Eng.look η 201009 = Eng.look [(3, (0, none)), (11, (0, none)), (12, (0, none)), (14, (1, some ⟨26, 1, [.os 1011 1 3 1 0 3]⟩)), (18, (0, none)), (1009, (1, some ⟨3, 1, (M.getD 0 []).map ai⟩)), (1011, (1, some ⟨37, 1, [.os 1009 1 3 1 0 3, .os 101009 1 3 1 0 3, .os 201009 1 3 1 0 3]⟩)), (101009, (1, some ⟨3, 1, (M.getD 1 []).map ai⟩)), (201009, (1, some ⟨3, 1, (M.getD 2 []).map ai⟩))] 201009 → [.os 1011 1 3 1 0 3, aT (zerT 3)].mapM (reify η 20) = some [aT (zerT 3), aT (zerT 3)] := fun η a0 a1 a2 a3 => by
    rw [List.mapM_cons, reB_3 (f := 17) hgM.len hgM.row (a0.trans rfl) (a1.trans rfl) (a2.trans rfl) (a3.trans rfl), List.mapM_cons, reify_T (zerT 3) η 14, hM]; rfl
  generalize M.getD 0 [] = W0 at *
  generalize M.getD 1 [] = W1 at *
  generalize M.getD 2 [] = W2 at *
  refine W_run 200 ?_
  simp (maxSteps := 2000000) only [SA, Nat.reduceDiv, Nat.reduceSub, Nat.reduceAdd, Int.reduceLT, Int.reduceLE, Int.reduceToNat, Nat.reduceMul, Nat.reduceEqDiff, reduceCtorEq, Nat.reduceBEq, Nat.reduceLeDiff, Nat.reduceLT, xf3_R4, ai, bx, aT]
  refine W_call (args := [ai 3, aSh false SS]) rfl (noRefs_2 rfl (noRef_aSh _ _)) hsr nrT (W_run 200 ?_)
  simp (maxSteps := 2000000) only [SA, Nat.reduceDiv, Nat.reduceSub, Nat.reduceAdd, Int.reduceLT, Int.reduceLE, Int.reduceToNat, Nat.reduceMul, Nat.reduceEqDiff, reduceCtorEq, Nat.reduceBEq, Nat.reduceLeDiff, Nat.reduceLT, ai, aT, bx]
  refine W_call (args := [aT T]) rfl (noRefs_T _) hbr (nrb _) (W_run 200 ?_)
  by_cases hs : 0 < s
  · have ds : decide (0 < s) = true := decide_eq_true hs
    rw [if_pos hs]
    have e13 : ((13 : Int) == 13) = true := rfl
    simp (maxSteps := 2000000) only [SA, Nat.reduceDiv, Nat.reduceSub, Nat.reduceAdd, Int.reduceLT, Int.reduceLE, Int.reduceToNat, Nat.reduceMul, Nat.reduceEqDiff, reduceCtorEq, Nat.reduceBEq, Nat.reduceLeDiff, Nat.reduceLT, ai, aT, ess, n00, e00, bx]
    refine W_call (args := [ai 3]) rfl rfl hem (noRef_T _) (W_run 200 ?_)
    simp (maxSteps := 2000000) only [SA, Nat.reduceDiv, Nat.reduceSub, Nat.reduceAdd, Int.reduceLT, Int.reduceLE, Int.reduceToNat, Nat.reduceMul, Nat.reduceEqDiff, reduceCtorEq, Nat.reduceBEq, Nat.reduceLeDiff, Nat.reduceLT, ai, aT, bx]
    refine W_look (fuel := 20) (args := [.os 1011 1 3 1 0 3, aT (zerT 3)]) (args' := [aT (zerT 3), aT (zerT 3)]) rfl (hre _ rfl rfl rfl rfl) halz rfl rfl (W_run 200 ?_)
    simp (maxSteps := 2000000) only [SA, Nat.reduceDiv, Nat.reduceSub, Nat.reduceAdd, Int.reduceLT, Int.reduceLE, Int.reduceToNat, Nat.reduceMul, Nat.reduceEqDiff, reduceCtorEq, Nat.reduceBEq, Nat.reduceLeDiff, Nat.reduceLT, ai, ab, aT, bx, e00]
    refine W_call (args := [aT T, aT T]) rfl (noRefs_2 (noRef_T _) (noRef_T _)) halk rfl (W_run 200 ?_)
    simp (maxSteps := 2000000) only [SA, Nat.reduceDiv, Nat.reduceSub, Nat.reduceAdd, Int.reduceLT, Int.reduceLE, Int.reduceToNat, Nat.reduceMul, Nat.reduceEqDiff, reduceCtorEq, Nat.reduceBEq, Nat.reduceLeDiff, Nat.reduceLT, ai, ab, e13, ds, raw_beq, rawE, opA, argT, Option.elim, toVal]
    refine W_call (args := []) rfl rfl hW rfl (W_run 200 ?_)
    simp (maxSteps := 2000000) only [SA, Nat.reduceDiv, Nat.reduceSub, Nat.reduceAdd, Int.reduceLT, Int.reduceLE, Int.reduceToNat, Nat.reduceMul, Nat.reduceEqDiff, reduceCtorEq, Nat.reduceBEq, Nat.reduceLeDiff, Nat.reduceLT, ai]
    exact W_ret1 (WX_nil ⟨.inl rfl, _, rfl, rfl⟩)
  · have ds : decide (0 < s) = false := decide_eq_false hs
    rw [if_neg hs]
    have e13 : ((0 : Int) == 13) = false := rfl
    simp (maxSteps := 2000000) only [SA, Nat.reduceDiv, Nat.reduceSub, Nat.reduceAdd, Int.reduceLT, Int.reduceLE, Int.reduceToNat, Nat.reduceMul, Nat.reduceEqDiff, reduceCtorEq, Nat.reduceBEq, Nat.reduceLeDiff, Nat.reduceLT, ai, aT, ess, n00, e00, bx]
    refine W_call (args := [ai 3]) rfl rfl hem (noRef_T _) (W_run 200 ?_)
    simp (maxSteps := 2000000) only [SA, Nat.reduceDiv, Nat.reduceSub, Nat.reduceAdd, Int.reduceLT, Int.reduceLE, Int.reduceToNat, Nat.reduceMul, Nat.reduceEqDiff, reduceCtorEq, Nat.reduceBEq, Nat.reduceLeDiff, Nat.reduceLT, ai, aT, bx]
    refine W_look (fuel := 20) (args := [.os 1011 1 3 1 0 3, aT (zerT 3)]) (args' := [aT (zerT 3), aT (zerT 3)]) rfl (hre _ rfl rfl rfl rfl) halz rfl rfl (W_run 200 ?_)
    simp (maxSteps := 2000000) only [SA, Nat.reduceDiv, Nat.reduceSub, Nat.reduceAdd, Int.reduceLT, Int.reduceLE, Int.reduceToNat, Nat.reduceMul, Nat.reduceEqDiff, reduceCtorEq, Nat.reduceBEq, Nat.reduceLeDiff, Nat.reduceLT, ai, ab, aT, bx, e00]
    refine W_call (args := [aT T, aT T]) rfl (noRefs_2 (noRef_T _) (noRef_T _)) halk rfl (W_run 200 ?_)
    simp (maxSteps := 2000000) only [SA, Nat.reduceDiv, Nat.reduceSub, Nat.reduceAdd, Int.reduceLT, Int.reduceLE, Int.reduceToNat, Nat.reduceMul, Nat.reduceEqDiff, reduceCtorEq, Nat.reduceBEq, Nat.reduceLeDiff, Nat.reduceLT, ai, ab, e13, ds, raw_beq, rawE, opA, argT, Option.elim, toVal]
    refine W_call (args := []) rfl rfl hW rfl (W_run 200 ?_)
    simp (maxSteps := 2000000) only [SA, Nat.reduceDiv, Nat.reduceSub, Nat.reduceAdd, Int.reduceLT, Int.reduceLE, Int.reduceToNat, Nat.reduceMul, Nat.reduceEqDiff, reduceCtorEq, Nat.reduceBEq, Nat.reduceLeDiff, Nat.reduceLT, ai]
    exact W_ret1 (WX_nil ⟨.inl rfl, _, rfl, rfl⟩)
theorem namedS_3 (T M : List (List Int)) (q11 q12 : Nat × Option Ob) (j : Nat) : Eng.look [(3, bx T), (11, q11), (12, q12), (14, (1, some ⟨26, 1, [.os 1011 1 3 1 0 3]⟩)), (1009, (1, some ⟨3, 1, (M.getD 0 []).map ai⟩)), (1011, (1, some ⟨37, 1, [.os 1009 1 3 1 0 3, .os 101009 1 3 1 0 3, .os 201009 1 3 1 0 3]⟩)), (101009, (1, some ⟨3, 1, (M.getD 1 []).map ai⟩)), (201009, (1, some ⟨3, 1, (M.getD 2 []).map ai⟩))] j = Eng.look [(3, bx T), (11, q11), (12, q12), (14, (1, some ⟨26, 1, [.os 1011 1 3 1 0 3]⟩)), (18, (0, none)), (1009, (1, some ⟨3, 1, (M.getD 0 []).map ai⟩)), (1011, (1, some ⟨37, 1, [.os 1009 1 3 1 0 3, .os 101009 1 3 1 0 3, .os 201009 1 3 1 0 3]⟩)), (101009, (1, some ⟨3, 1, (M.getD 1 []).map ai⟩)), (201009, (1, some ⟨3, 1, (M.getD 2 []).map ai⟩))] j := by
  by_cases h : 18 = j
  · subst h; rfl
  · simp only [Eng.look, if_neg h]
theorem birk_3 {a b e : Int} {D H : List Int} (hn : sz a = 3) (ha : 0 ≤ a ∧ a ≤ 255) (hb : 0 ≤ b ∧ b ≤ 255) (hD : D.length = 16) (hH : H.length = 8) (bH : ∀ x, x ∈ H → 0 ≤ x ∧ x ≤ 255) (hW : Runs Try.prog xf 28 [] (.v (.bool true))) :
    Runs Try.prog xf 3 [ldg a b e D H] (.v (.bool true)) := by
  have hl27 : (D.map u8 ++ H.map u8).length = 24 := by simp [hD, hH]
  have ht27 : List.take 24 (D.map u8 ++ H.map u8) = D.map u8 ++ H.map u8 := List.take_of_length_le (by rw [hl27]; omega)
  have hnr := noRef_ldg a b e D H
  obtain ⟨S0, T, hSl, hE, hev⟩ := even_3 (b := b) (e := e) hn ha hb hD hH bH (most := 8) (by omega)
  obtain ⟨c1, c2⟩ := tmod_b (a := b) (n := (8 : Int) + 1) hb.1 (by omega)
  have hS8 : S0.length ≤ 8 := by rw [hSl]; have : (b.tmod ((8 : Nat) + 1)) = b.tmod (8 + 1) := rfl; omega
  have hg := ei_gT (by omega) (by omega) hE (by omega)
  have he := hE.ev
  have hMl := hg.len
  have hpl := pl_3
  have hplT := noRef_T (plL 3)
  have hthr := fun (r c : Nat) (hr : r < 3) (hc : c < 3) => thr_ei (n := 3) (by omega) (by omega) hE (by omega) hr hc
  have hsp := split_run (f := S0.length) hg he (by omega) (by omega)
  have hlen := spl_len (f := S0.length) hg he (by omega) (by omega)
  have hin := spl_in S0.length T _ hg he
  have hnd := spl_nd S0.length T _ hg he
  have hsum := sumV_spl (f := S0.length) hg he (by omega)
  have hevn := even_run hg
  obtain ⟨v1, v2⟩ := evB_of (by omega) hg.len he
  unfold evE at hevn
  rw [if_pos v1, v2] at hevn
  have hok : ∀ x, x ∈ splL 3 S0.length T → x.1 ∈ plL 3 := fun x hx => ((within_iff hg).1 (hin x hx).1).1
  have hPok : ∀ q, q ∈ plL 3 → okP 3 q := plL_len (by omega) (by omega)
  have hP24 : (plL 3).length ≤ 24 := by decide
  obtain ⟨Ps, hPs⟩ : ∃ Ps, Ps = plL 3 := ⟨_, rfl⟩
  obtain ⟨SS, hSS⟩ : ∃ SS, SS = splL 3 S0.length T := ⟨_, rfl⟩
  rw [← hSS] at hsp hlen hnd hsum hok
  have hsh := shB_3 Ps hPs SS hlen.2 hok hnd (S0.length : Int) (bx T)
  rw [← hPs] at hpl hplT hthr hPok hP24
  have hlast := hlen.1
  have kb : ((S0.length : Int) != (S0.length : Int)) = false := by simp
  have n00 : ((0 : Int) != 0) = false := rfl
  have wn1 : IntKind.i64.wrap (3 - 1) = 2 := rfl
  have wn2 : IntKind.i64.wrap (2 * 2) = 4 := rfl
  have wn3 : IntKind.i64.wrap (4 + 1) = 5 := rfl
  have dl : decide ((5 : Int) < (SS.length : Int)) = false := decide_eq_false (by omega)
  have nrt : noRef (.tup [aT T, ai S0.length]) = true := by show (noRef (aT T) && (noRef (ai S0.length) && true)) = true; rw [noRef_T]; rfl
  have nrs : noRef (.tup [aSh false SS, ai 0]) = true := by show (noRef (aSh false SS) && (noRef (ai 0) && true)) = true; rw [noRef_aSh]; rfl
  have hsl : (SS.map shV).length = SS.length := List.length_map ..
  have hO := thrO hg Ps hPok hP24 SS (S0.length : Int) hthr
  have hcp := cpyB_3 Ps SS hg (S0.length : Int)
  have hend := fun {M : List (List Int)} (hgM : gT 3 M) (hM : M = zerT 3) (q11 q12 q18 : Nat × Option Ob) => endB_3 hg he (by omega) Ps SS hlen.2 hok hsum hgM hM q11 q12 q18 hW
  have hnamed : ∀ j, Eng.look [(3, bx T)] j = Eng.look (hU T (0, none) (0, none)) j := fun j => by
    simp only [Eng.look, hU]
    by_cases h3 : 3 = j
    · rw [if_pos h3, if_pos h3]
    · rw [if_neg h3, if_neg h3]
      by_cases h11 : 11 = j
      · rw [if_pos h11]
      · rw [if_neg h11]
        by_cases h12 : 12 = j
        · rw [if_pos h12]
        · rw [if_neg h12]
  refine Runs.ofW (fn := xf3) 20 (by kernel_rfl) (W_run 120 ?_)
  simp (maxSteps := 2000000) only [SA, Nat.reduceDiv, Nat.reduceSub, Nat.reduceAdd, Int.reduceLT, Int.reduceLE, Int.reduceToNat, Nat.reduceMul, Nat.reduceEqDiff, reduceCtorEq, Nat.reduceBEq, Nat.reduceLeDiff, Nat.reduceLT, xf3, ai, nilA, ldg, u8, hl27, ht27, List.length_append, hD, hH]
  refine W_call (args := [ldg a b e D H, ai (8 : Nat)]) rfl (noRefs_2 hnr rfl) hev nrt (W_run 120 ?_)
  simp (maxSteps := 2000000) only [SA, Nat.reduceDiv, Nat.reduceSub, Nat.reduceAdd, Int.reduceLT, Int.reduceLE, Int.reduceToNat, Nat.reduceMul, Nat.reduceEqDiff, reduceCtorEq, Nat.reduceBEq, Nat.reduceLeDiff, Nat.reduceLT, ai, nilA, aT, hMl]
  refine W_call (args := [aT T]) rfl (noRefs_T _) hevn rfl (W_run 120 ?_)
  simp (maxSteps := 2000000) only [SA, Nat.reduceDiv, Nat.reduceSub, Nat.reduceAdd, Int.reduceLT, Int.reduceLE, Int.reduceToNat, Nat.reduceMul, Nat.reduceEqDiff, reduceCtorEq, Nat.reduceBEq, Nat.reduceLeDiff, Nat.reduceLT, ai, nilA, aT]
  refine W_call (args := [aT T]) rfl (noRefs_T _) hsp nrs (W_run 120 ?_)
  simp (maxSteps := 2000000) only [SA, Nat.reduceDiv, Nat.reduceSub, Nat.reduceAdd, Int.reduceLT, Int.reduceLE, Int.reduceToNat, Nat.reduceMul, Nat.reduceEqDiff, reduceCtorEq, Nat.reduceBEq, Nat.reduceLeDiff, Nat.reduceLT, ai, nilA, aT, aSh, n00, kb, hsl, wn1, wn2, wn3, dl]
  refine W_call (args := [ai 3]) rfl rfl hpl hplT (W_run 120 ?_)
  simp (maxSteps := 2000000) only [SA, Nat.reduceDiv, Nat.reduceSub, Nat.reduceAdd, Int.reduceLT, Int.reduceLE, Int.reduceToNat, Nat.reduceMul, Nat.reduceEqDiff, reduceCtorEq, Nat.reduceBEq, Nat.reduceLeDiff, Nat.reduceLT, ai, nilA, aT]
  refine W_alone (W_named hnamed (hO _ _ (fun q11 q12 j0 j1 j2 j6 j7 j9 j11 j12 j13 j14 j15 j16 j17 j18 j19 j20 j21 j22 j23 j24 j25 j26 j27 j28 j29 j30 j31 j32 j33 j34 j35 j36 j37 j38 j39 j40 j41 j42 j43 j44 j45 j46 j47 j48 j49 j50 j51 j52 j53 j54 j55 j56 j57 j58 j59 j60 j61 j62 j63 j64 j65 j66 j69 j70 j71 j72 j73 j74 j75 j76 j77 j78 j79 j80 j81 j82 j83 j84 j85 j86 j87 j88 j89 j90 j91 j92 j93 j94 j95 j96 j97 j98 j99 j100 j101 j102 j103 j104 j105 j106 j107 j108 j109 j110 j111 j112 j113 j114 j115 j116 j117 j118 j119 j120 j121 j122 j123 j124 j125 j126 j127 j128 j129 j130 j131 j132 j133 j134 j135 j136 j137 j138 j139 j140 j141 j142 j143 j144 j145 j146 j147 j148 j149 j150 j151 j152 j153 j154 j155 j156 j157 j158 j159 j160 j161 j162 j163 j164 j165 j166 j167 j168 j169 j170 j171 j172 j173 j174 j175 j176 j177 j178 j179 j180 j181 j182 j183 j184 j185 j186 j187 j188 j189 j190 j191 j192 j193 j194 j195 j196 j197 j198 j199 j200 j201 j202 j203 j204 j205 j206 j207 j208 j209 j210 j211 j212 j213 j214 j215 j216 j217 j218 j219 j220 j221 => W_run 80 ?_) 3 0 (by omega) 0 none 0 none _ _ _ _ _ _ _ _ _ _ _ _ _ _ _ _ _ _ _ _ _ _ _ _ _ _ _ _ _ _ _ _ _ _ _ _ _ _ _ _ _ _ _ _ _ _ _ _ _ _ _ _ _ _ _ _ _ _ _ _ _ _ _ _ _ _ _ _ _ _ _ _ _ _ _ _ _ _ _ _ _ _ _ _ _ _ _ _ _ _ _ _ _ _ _ _ _ _ _ _ _ _ _ _ _ _ _ _ _ _ _ _ _ _ _ _ _ _ _ _ _ _ _ _ _ _ _ _ _ _ _ _ _ _ _ _ _ _ _ _ _ _ _ _ _ _ _ _ _ _ _ _ _ _ _ _ _ _ _ _ _ _ _ _ _ _ _ _ _ _ _ _ _ _ _ _ _ _ _ _ _ _ _ _ _ _ _ _ _ _ _ _ _ _ _ _ _ _ _ _ _ _ _ _ _ _ _ _ _ _ _ _ _ _ _))
  simp (maxSteps := 2000000) only [SA, Nat.reduceDiv, Nat.reduceSub, Nat.reduceAdd, Int.reduceLT, Int.reduceLE, Int.reduceToNat, Nat.reduceMul, Nat.reduceEqDiff, reduceCtorEq, Nat.reduceBEq, Nat.reduceLeDiff, Nat.reduceLT, xf3_R6, ai, nilA, hU]
  refine W_callR (kb' := 1000) (args := [ai 3]) rfl (empB_3 _ _ _) rfl (W_run 120 ?_)
  simp (maxSteps := 2000000) only [SA, Nat.reduceDiv, Nat.reduceSub, Nat.reduceAdd, Int.reduceLT, Int.reduceLE, Int.reduceToNat, Nat.reduceMul, Nat.reduceEqDiff, reduceCtorEq, Nat.reduceBEq, Nat.reduceLeDiff, Nat.reduceLT, ai, nilA]
  refine W_alone (hcp q11 q12 _ _ (fun j0 j1 j2 j6 j7 j9 j11 j12 j13 j15 j16 j17 j18 j19 j20 j21 j22 j23 j24 j25 j26 j27 j28 j29 j30 j31 j32 j33 j34 j35 j36 j37 j38 j39 j40 j41 j42 j43 j44 j45 j46 j47 j48 j49 j50 j51 j52 j53 j54 j55 j56 j57 j58 j59 j60 j61 j62 j63 j64 j65 j66 j67 j68 j69 j70 j71 j72 j73 j74 j75 j76 j77 j78 j79 j80 j81 j82 j83 j84 j85 j86 j87 j88 j89 j90 j91 j94 j95 j96 j97 j98 j99 j100 j101 j102 j103 j104 j105 j106 j107 j108 j109 j110 j111 j112 j113 j114 j115 j116 j117 j118 j119 j120 j121 j122 j123 j124 j125 j126 j127 j128 j129 j130 j131 j132 j133 j134 j135 j136 j137 j138 j139 j140 j141 j142 j143 j144 j145 j146 j147 j148 j149 j150 j151 j152 j153 j154 j155 j156 j157 j158 j159 j160 j161 j162 j163 j164 j165 j166 j167 j168 j169 j170 j171 j172 j173 j174 j175 j176 j177 j178 j179 j180 j181 j182 j183 j184 j185 j186 j187 j188 j189 j190 j191 j192 j193 j194 j195 j196 j197 j198 j199 j200 j201 j202 j203 j204 j205 j206 j207 j208 j209 j210 j211 j212 j213 j214 j215 j216 j217 j218 j219 j220 j221 => W_run 80 ?_) _ _ _ _ _ _ _ _ _ _ _ _ _ _ _ _ _ _ _ _ _ _ _ _ _ _ _ _ _ _ _ _ _ _ _ _ _ _ _ _ _ _ _ _ _ _ _ _ _ _ _ _ _ _ _ _ _ _ _ _ _ _ _ _ _ _ _ _ _ _ _ _ _ _ _ _ _ _ _ _ _ _ _ _ _ _ _ _ _ _ _ _ _ _ _ _ _ _ _ _ _ _ _ _ _ _ _ _ _ _ _ _ _ _ _ _ _ _ _ _ _ _ _ _ _ _ _ _ _ _ _ _ _ _ _ _ _ _ _ _ _ _ _ _ _ _ _ _ _ _ _ _ _ _ _ _ _ _ _ _ _ _ _ _ _ _ _ _ _ _ _ _ _ _ _ _ _ _ _ _ _ _ _ _ _ _ _ _ _ _ _ _ _ _ _ _ _ _ _ _ _ _ _ _ _ _ _ _ _ _ _ _ _ _)
  simp (maxSteps := 2000000) only [SA, Nat.reduceDiv, Nat.reduceSub, Nat.reduceAdd, Int.reduceLT, Int.reduceLE, Int.reduceToNat, Nat.reduceMul, Nat.reduceEqDiff, reduceCtorEq, Nat.reduceBEq, Nat.reduceLeDiff, Nat.reduceLT, xf3_R5, ai, aSh, hsl]
  refine W_alone (W_named (namedS_3 T T q11 q12) (hsh q11 q12 _ _ (fun M tt i q18 hgM hM htt hi j0 j1 j2 j6 j7 j9 j11 j12 j13 j15 j17 j18 j19 j20 j21 j22 j23 j24 j25 j26 j27 j28 j29 j30 j31 j32 j33 j34 j35 j36 j37 j38 j39 j40 j41 j42 j43 j44 j45 j46 j47 j48 j49 j50 j51 j52 j53 j54 j55 j56 j57 j58 j59 j60 j61 j62 j63 j64 j65 j66 j67 j68 j69 j70 j71 j72 j73 j74 j75 j76 j77 j78 j79 j80 j81 j82 j83 j84 j85 j86 j87 j88 j89 j90 j91 j92 j93 j94 j95 j96 j97 j98 j99 j100 j101 j102 j103 j104 j105 j109 j110 j111 j112 j113 j114 j115 j116 j117 j118 j119 j120 j121 j122 j123 j124 j125 j126 j127 j128 j129 j130 j131 j132 j133 j134 j135 j136 j137 j138 j139 j140 j141 j142 j143 j144 j145 j146 j147 j148 j149 j150 j151 j152 j153 j154 j155 j156 j157 j158 j159 j160 j161 j162 j163 j164 j165 j166 j167 j168 j169 j170 j171 j172 j173 j174 j175 j176 j177 j178 j179 j180 j181 j182 j183 j184 j185 j186 j187 j188 j189 j190 j191 j192 j193 j194 j195 j196 j197 j198 j199 j200 j201 j202 j203 j204 j205 j206 j207 j208 j209 j210 j211 j212 j213 j214 j215 j216 j217 j218 j219 j220 j221 => ?_) S0.length T S0.length 0 [] 0 hg he (by omega) (by omega) (by omega) (by omega) hSS.symm rfl 0 none _ _ _ _ _ _ _ _ _ _ _ _ _ _ _ _ _ _ _ _ _ _ _ _ _ _ _ _ _ _ _ _ _ _ _ _ _ _ _ _ _ _ _ _ _ _ _ _ _ _ _ _ _ _ _ _ _ _ _ _ _ _ _ _ _ _ _ _ _ _ _ _ _ _ _ _ _ _ _ _ _ _ _ _ _ _ _ _ _ _ _ _ _ _ _ _ _ _ _ _ _ _ _ _ _ _ _ _ _ _ _ _ _ _ _ _ _ _ _ _ _ _ _ _ _ _ _ _ _ _ _ _ _ _ _ _ _ _ _ _ _ _ _ _ _ _ _ _ _ _ _ _ _ _ _ _ _ _ _ _ _ _ _ _ _ _ _ _ _ _ _ _ _ _ _ _ _ _ _ _ _ _ _ _ _ _ _ _ _ _ _ _ _ _ _ _ _ _ _ _ _ _ _ _ _ _ _ _ _ _ _ _))
  subst htt
  exact hend hgM hM q11 q12 q18 _ _ _ _ _ _ _ _ _ _ _ _ _ _ _ _ _ _ _ _ _ _ _ _ _ _ _ _ _ _ _ _ _ _ _ _ _ _ _ _ _ _ _ _ _ _ _ _ _ _ _ _ _ _ _ _ _ _ _ _ _ _ _ _ _ _ _ _ _ _ _ _ _ _ _ _ _ _ _ _ _ _ _ _ _ _ _ _ _ _ _ _ _ _ _ _ _ _ _ _ _ _ _ _ _ _ _ _ _ _ _ _ _ _ _ _ _ _ _ _ _ _ _ _ _ _ _ _ _ _ _ _ _ _ _ _ _ _ _ _ _ _ _ _ _ _ _ _ _ _ _ _ _ _ _ _ _ _ _ _ _ _ _ _ _ _ _ _ _ _ _ _ _ _ _ _ _ _ _ _ _ _ _ _ _ _ _ _ _ _ _ _ _ _ _ _ _ _ _ _ _ _ _ _ _ _ _ _ _ _ _ _ _ _ _
end Go.Proofs.Ytkbeaheladmeiaa

