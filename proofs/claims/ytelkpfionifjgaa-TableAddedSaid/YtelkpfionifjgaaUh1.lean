/-
  TableAdded: 1 rows, the end.
-/
import Derived.Test.YtelkpfionifjgaaUf1
set_option linter.unusedSimpArgs false
set_option linter.unusedVariables false
namespace Go.Proofs.Ytelkpfionifjgaa
open Go Go.Proofs.Eng
set_option maxRecDepth 100000
set_option maxHeartbeats 8000000
theorem finN_1 {M : List (List Int)} {sm m : Int} (hA : AI 1 [] M sm m) (hW : Runs Try.prog xf 28 [] (.v (.bool true))) (bd : Int) (q15 q61 : Nat × Option Ob) :
    ∀ j0 j1 j3 j4 j5 j6 j8 j13 j14 j15 j16 j17 j18 j19 j20 j21 j22 j23 j24 j25 j26 j27 j28 j29 j30 j31 j32 j33 j34 j35 j36 j37 j38 j39 j40 j41 j42 j43 j44 j45 j46 j47 j48 j49 j50 j51 j52 j53 j54 j55 j56 j57 j58 j59 j60 j61 j62 j63 j64 j65 j66 j67 j68 j69 j70 j71 j72 j73 j74 j75 j76 j77 j78 j79 j80 j81 j82 j83 j84 j85 j86 j87 j88 j89 j90 j91 j92 j93 j94 j95 j96 j97 j98 j99 j100 j101 j102 j103 j104 j105 j106 j107 j108 j109 j110 j111 j112 j113 j114 j115 j116 j117 j118 j119 j120 j121 j122 j123 j124 j125 j126 j127 j128 j129 j130 j131 j132 j133 j134 j135 j136 j137 j138 j139 j140 j141 j142 j143 j144 j145 j146 j147 j148 j149 j150 j151 j152 j153 j154 j155 j156 j157 j158 j159 j160 j161 j162 j163 j164 j165 j166 j167 j168 j169 j170 j171 j172 j173 j174 j175 j176 j177 j178 j179 j180 j181 j182 j183 j184 j185 j186 j187 j188 j189 j190 j191 j192 j193 j194 j195 j196 j197 j198 j199 j200 j201 j202 j203 j204 : AV, W Try.prog (RelU Try.prog xf) 0 [.code xf6_R1] ⟨(j0 :: j1 :: (u8 bd) :: j3 :: j4 :: j5 :: j6 :: (ai 1) :: j8 :: (.os 1011 1 1 1 0 1) :: nilA :: (ai sm) :: (ai m) :: j13 :: j14 :: j15 :: j16 :: j17 :: j18 :: j19 :: j20 :: j21 :: j22 :: j23 :: j24 :: j25 :: j26 :: j27 :: j28 :: j29 :: j30 :: j31 :: j32 :: j33 :: j34 :: j35 :: j36 :: j37 :: j38 :: j39 :: j40 :: j41 :: j42 :: j43 :: j44 :: j45 :: j46 :: j47 :: j48 :: j49 :: j50 :: j51 :: j52 :: j53 :: j54 :: j55 :: j56 :: j57 :: j58 :: j59 :: j60 :: j61 :: j62 :: j63 :: j64 :: j65 :: j66 :: j67 :: j68 :: j69 :: j70 :: j71 :: j72 :: j73 :: j74 :: j75 :: j76 :: j77 :: j78 :: j79 :: j80 :: j81 :: j82 :: j83 :: j84 :: j85 :: j86 :: j87 :: j88 :: j89 :: j90 :: j91 :: j92 :: j93 :: j94 :: j95 :: j96 :: j97 :: j98 :: j99 :: j100 :: j101 :: j102 :: j103 :: j104 :: j105 :: j106 :: j107 :: j108 :: j109 :: j110 :: j111 :: j112 :: j113 :: j114 :: j115 :: j116 :: j117 :: j118 :: j119 :: j120 :: j121 :: j122 :: j123 :: j124 :: j125 :: j126 :: j127 :: j128 :: j129 :: j130 :: j131 :: j132 :: j133 :: j134 :: j135 :: j136 :: j137 :: j138 :: j139 :: j140 :: j141 :: j142 :: j143 :: j144 :: j145 :: j146 :: j147 :: j148 :: j149 :: j150 :: j151 :: j152 :: j153 :: j154 :: j155 :: j156 :: j157 :: j158 :: j159 :: j160 :: j161 :: j162 :: j163 :: j164 :: j165 :: j166 :: j167 :: j168 :: j169 :: j170 :: j171 :: j172 :: j173 :: j174 :: j175 :: j176 :: j177 :: j178 :: j179 :: j180 :: j181 :: j182 :: j183 :: j184 :: j185 :: j186 :: j187 :: j188 :: j189 :: j190 :: j191 :: j192 :: j193 :: j194 :: j195 :: j196 :: j197 :: j198 :: j199 :: j200 :: j201 :: j202 :: j203 :: j204 :: []), [(15, q15), (61, q61), (1009, (1, some ⟨3, 1, (M.getD 0 []).map ai⟩)), (1011, (1, some ⟨37, 1, [.os 1009 1 1 1 0 1]⟩))]⟩ QA := by
  intro j0 j1 j3 j4 j5 j6 j8 j13 j14 j15 j16 j17 j18 j19 j20 j21 j22 j23 j24 j25 j26 j27 j28 j29 j30 j31 j32 j33 j34 j35 j36 j37 j38 j39 j40 j41 j42 j43 j44 j45 j46 j47 j48 j49 j50 j51 j52 j53 j54 j55 j56 j57 j58 j59 j60 j61 j62 j63 j64 j65 j66 j67 j68 j69 j70 j71 j72 j73 j74 j75 j76 j77 j78 j79 j80 j81 j82 j83 j84 j85 j86 j87 j88 j89 j90 j91 j92 j93 j94 j95 j96 j97 j98 j99 j100 j101 j102 j103 j104 j105 j106 j107 j108 j109 j110 j111 j112 j113 j114 j115 j116 j117 j118 j119 j120 j121 j122 j123 j124 j125 j126 j127 j128 j129 j130 j131 j132 j133 j134 j135 j136 j137 j138 j139 j140 j141 j142 j143 j144 j145 j146 j147 j148 j149 j150 j151 j152 j153 j154 j155 j156 j157 j158 j159 j160 j161 j162 j163 j164 j165 j166 j167 j168 j169 j170 j171 j172 j173 j174 j175 j176 j177 j178 j179 j180 j181 j182 j183 j184 j185 j186 j187 j188 j189 j190 j191 j192 j193 j194 j195 j196 j197 j198 j199 j200 j201 j202 j203 j204
  have hn1 : 1 ≤ 1 := by decide
  have hn4 : 1 ≤ 4 := by decide
  have hMl := hA.sh.len
  have halk := alike_run (T := M) (by omega) fun R hR => by rw [hA.sh.row R hR]; omega
  have hsb := hA.sb
  have n00 : ((0 : Int) != 0) = false := rfl
  have e00 : ((0 : Int) == 0) = true := rfl
  have esm : (sm != sm) = false := by simp
  have hML : M = [M.getD 0 []] := by
    have hl := hA.sh.len
    match M, hl with
    | [R0], _ => rfl
  have hre : ∀ η : Heap, (∀ k, k ∈ [1011, 1009] → Go.Proofs.Eng.look η k = Go.Proofs.Eng.look [(15, q15), (61, q61), (1009, (1, some ⟨3, 1, (M.getD 0 []).map ai⟩)), (1011, (1, some ⟨37, 1, [.os 1009 1 1 1 0 1]⟩))] k) → [aT M, .os 1011 1 1 1 0 1].mapM (reify η 20) = some [aT M, aT M] := fun η hη => by
    have e0 := hη 1011 (by simp)
    have e : reify η 20 (.os 1011 1 1 1 0 1) = ([.os 1009 1 1 1 0 1].mapM (elemR (reify η 19))).map (AV.sl 1 false) := reify_osX (n := 19) rfl (e0.trans rfl)
    have e2 : reify η 20 (.os 1011 1 1 1 0 1) = some (aT M) := by
      rw [e, List.mapM_cons, reify_rw (R := M.getD 0 []) (hA.sh.rowlen (by omega)) ((hη 1009 (by simp)).trans rfl), List.mapM_nil]
      conv => rhs; rw [hML]
      rfl
    rw [List.mapM_cons, reify_T M η 14, List.mapM_cons, e2]; rfl
  have hmb := hA.mb
  have hm : ¬ 9 < m := by simp only [List.length_nil] at hmb; omega
  have dm : decide (9 < m) = false := decide_eq_false hm
  have hsum := sum_run hn1 hn4 (.inr ⟨rfl, rfl⟩ : (∃ f, nilA = aSh f []) ∨ (nilA = nilA ∧ ([] : List (List Int × Int)) = [])) (by simp) (fun s h => by cases h)
  rw [sumV_ai hn1 hn4 hA, if_neg hm] at hsum
  have hev := even_run (gT_ai hn1 hn4 hA hm)
  rw [evE_ai hn1 hA] at hev
  have nr : noRef (.tup [aT M, ai 0]) = true := by show (noRef (aT M) && (noRef (ai 0) && true)) = true; rw [noRef_T]; rfl
  refine W_run 200 ?_
  simp (maxSteps := 2000000) only [SA, Nat.reduceDiv, Nat.reduceSub, Nat.reduceAdd, Int.reduceLT, Int.reduceLE, Int.reduceToNat, Nat.reduceMul, Nat.reduceEqDiff, reduceCtorEq, Nat.reduceBEq, Nat.reduceLeDiff, Nat.reduceLT, xf6_R1, ai]
  refine W_call (args := [ai 1, nilA]) rfl (noRefs_2 rfl rfl) hsum nr (W_run 200 ?_)
  simp (maxSteps := 2000000) only [SA, Nat.reduceDiv, Nat.reduceSub, Nat.reduceAdd, Int.reduceLT, Int.reduceLE, Int.reduceToNat, Nat.reduceMul, Nat.reduceEqDiff, reduceCtorEq, Nat.reduceBEq, Nat.reduceLeDiff, Nat.reduceLT, ai, dm, n00]
  refine W_look (fuel := 20) (args := [aT M, .os 1011 1 1 1 0 1]) (args' := [aT M, aT M]) rfl (hre _ (fun k hk => rfl)) halk rfl rfl (W_run 200 ?_)
  simp (maxSteps := 2000000) only [SA, Nat.reduceDiv, Nat.reduceSub, Nat.reduceAdd, Int.reduceLT, Int.reduceLE, Int.reduceToNat, Nat.reduceMul, Nat.reduceEqDiff, reduceCtorEq, Nat.reduceBEq, Nat.reduceLeDiff, Nat.reduceLT, ai, ab, n00]
  refine W_call (args := [aT M]) rfl (noRefs_T _) hev rfl (W_run 200 ?_)
  simp (maxSteps := 2000000) only [SA, Nat.reduceDiv, Nat.reduceSub, Nat.reduceAdd, Int.reduceLT, Int.reduceLE, Int.reduceToNat, Nat.reduceMul, Nat.reduceEqDiff, reduceCtorEq, Nat.reduceBEq, Nat.reduceLeDiff, Nat.reduceLT, ai, nilA, n00, e00, esm]
  refine W_call (args := []) rfl rfl hW rfl (W_run 200 ?_)
  simp (maxSteps := 2000000) only [SA, Nat.reduceDiv, Nat.reduceSub, Nat.reduceAdd, Int.reduceLT, Int.reduceLE, Int.reduceToNat, Nat.reduceMul, Nat.reduceEqDiff, reduceCtorEq, Nat.reduceBEq, Nat.reduceLeDiff, Nat.reduceLT, ai]
  exact W_ret1 (WX_pop (WX_nil ⟨.inl rfl, _, rfl, rfl⟩))
theorem finC_1 {M : List (List Int)} {sm m : Int} {S : List (List Int × Int)} (hS0 : 1 ≤ S.length) (hS8 : S.length ≤ 8) (hA : AI 1 S M sm m) (hW : Runs Try.prog xf 28 [] (.v (.bool true))) {bd : Int} (bb : 0 ≤ bd ∧ bd ≤ 255) (q15 : Nat × Option Ob) (q61 : Nat × Option Ob) :
    ∀ j0 j1 j3 j4 j5 j6 j8 j13 j14 j15 j16 j17 j18 j19 j20 j21 j22 j23 j24 j25 j26 j27 j28 j29 j30 j31 j32 j33 j34 j35 j36 j37 j38 j39 j40 j41 j42 j43 j44 j45 j46 j47 j48 j49 j50 j51 j52 j53 j54 j55 j56 j57 j58 j59 j60 j61 j62 j63 j64 j65 j66 j67 j68 j69 j70 j71 j72 j73 j74 j75 j76 j77 j78 j79 j80 j81 j82 j83 j84 j85 j86 j87 j88 j89 j90 j91 j92 j93 j94 j95 j96 j97 j98 j99 j100 j101 j102 j103 j104 j105 j106 j107 j108 j109 j110 j111 j112 j113 j114 j115 j116 j117 j118 j119 j120 j121 j122 j123 j124 j125 j126 j127 j128 j129 j130 j131 j132 j133 j134 j135 j136 j137 j138 j139 j140 j141 j142 j143 j144 j145 j146 j147 j148 j149 j150 j151 j152 j153 j154 j155 j156 j157 j158 j159 j160 j161 j162 j163 j164 j165 j166 j167 j168 j169 j170 j171 j172 j173 j174 j175 j176 j177 j178 j179 j180 j181 j182 j183 j184 j185 j186 j187 j188 j189 j190 j191 j192 j193 j194 j195 j196 j197 j198 j199 j200 j201 j202 j203 j204 : AV, W Try.prog (RelU Try.prog xf) 0 [.code xf6_R1] ⟨(j0 :: j1 :: (u8 bd) :: j3 :: j4 :: j5 :: j6 :: (ai 1) :: j8 :: (.os 1011 1 1 1 0 1) :: (aSh false S) :: (ai sm) :: (ai m) :: j13 :: j14 :: j15 :: j16 :: j17 :: j18 :: j19 :: j20 :: j21 :: j22 :: j23 :: j24 :: j25 :: j26 :: j27 :: j28 :: j29 :: j30 :: j31 :: j32 :: j33 :: j34 :: j35 :: j36 :: j37 :: j38 :: j39 :: j40 :: j41 :: j42 :: j43 :: j44 :: j45 :: j46 :: j47 :: j48 :: j49 :: j50 :: j51 :: j52 :: j53 :: j54 :: j55 :: j56 :: j57 :: j58 :: j59 :: j60 :: j61 :: j62 :: j63 :: j64 :: j65 :: j66 :: j67 :: j68 :: j69 :: j70 :: j71 :: j72 :: j73 :: j74 :: j75 :: j76 :: j77 :: j78 :: j79 :: j80 :: j81 :: j82 :: j83 :: j84 :: j85 :: j86 :: j87 :: j88 :: j89 :: j90 :: j91 :: j92 :: j93 :: j94 :: j95 :: j96 :: j97 :: j98 :: j99 :: j100 :: j101 :: j102 :: j103 :: j104 :: j105 :: j106 :: j107 :: j108 :: j109 :: j110 :: j111 :: j112 :: j113 :: j114 :: j115 :: j116 :: j117 :: j118 :: j119 :: j120 :: j121 :: j122 :: j123 :: j124 :: j125 :: j126 :: j127 :: j128 :: j129 :: j130 :: j131 :: j132 :: j133 :: j134 :: j135 :: j136 :: j137 :: j138 :: j139 :: j140 :: j141 :: j142 :: j143 :: j144 :: j145 :: j146 :: j147 :: j148 :: j149 :: j150 :: j151 :: j152 :: j153 :: j154 :: j155 :: j156 :: j157 :: j158 :: j159 :: j160 :: j161 :: j162 :: j163 :: j164 :: j165 :: j166 :: j167 :: j168 :: j169 :: j170 :: j171 :: j172 :: j173 :: j174 :: j175 :: j176 :: j177 :: j178 :: j179 :: j180 :: j181 :: j182 :: j183 :: j184 :: j185 :: j186 :: j187 :: j188 :: j189 :: j190 :: j191 :: j192 :: j193 :: j194 :: j195 :: j196 :: j197 :: j198 :: j199 :: j200 :: j201 :: j202 :: j203 :: j204 :: []), [(15, q15), (61, q61), (1009, (1, some ⟨3, 1, (M.getD 0 []).map ai⟩)), (1011, (1, some ⟨37, 1, [.os 1009 1 1 1 0 1]⟩))]⟩ QA := by
  intro j0 j1 j3 j4 j5 j6 j8 j13 j14 j15 j16 j17 j18 j19 j20 j21 j22 j23 j24 j25 j26 j27 j28 j29 j30 j31 j32 j33 j34 j35 j36 j37 j38 j39 j40 j41 j42 j43 j44 j45 j46 j47 j48 j49 j50 j51 j52 j53 j54 j55 j56 j57 j58 j59 j60 j61 j62 j63 j64 j65 j66 j67 j68 j69 j70 j71 j72 j73 j74 j75 j76 j77 j78 j79 j80 j81 j82 j83 j84 j85 j86 j87 j88 j89 j90 j91 j92 j93 j94 j95 j96 j97 j98 j99 j100 j101 j102 j103 j104 j105 j106 j107 j108 j109 j110 j111 j112 j113 j114 j115 j116 j117 j118 j119 j120 j121 j122 j123 j124 j125 j126 j127 j128 j129 j130 j131 j132 j133 j134 j135 j136 j137 j138 j139 j140 j141 j142 j143 j144 j145 j146 j147 j148 j149 j150 j151 j152 j153 j154 j155 j156 j157 j158 j159 j160 j161 j162 j163 j164 j165 j166 j167 j168 j169 j170 j171 j172 j173 j174 j175 j176 j177 j178 j179 j180 j181 j182 j183 j184 j185 j186 j187 j188 j189 j190 j191 j192 j193 j194 j195 j196 j197 j198 j199 j200 j201 j202 j203 j204
  have hn1 : 1 ≤ 1 := by decide
  have hn4 : 1 ≤ 4 := by decide
  have hMl := hA.sh.len
  have halk := alike_run (T := M) (by omega) fun R hR => by rw [hA.sh.row R hR]; omega
  have hsb := hA.sb
  have n00 : ((0 : Int) != 0) = false := rfl
  have e00 : ((0 : Int) == 0) = true := rfl
  have esm : (sm != sm) = false := by simp
  have hML : M = [M.getD 0 []] := by
    have hl := hA.sh.len
    match M, hl with
    | [R0], _ => rfl
  have hre : ∀ η : Heap, (∀ k, k ∈ [1011, 1009] → Go.Proofs.Eng.look η k = Go.Proofs.Eng.look [(15, q15), (61, q61), (1009, (1, some ⟨3, 1, (M.getD 0 []).map ai⟩)), (1011, (1, some ⟨37, 1, [.os 1009 1 1 1 0 1]⟩))] k) → [aT M, .os 1011 1 1 1 0 1].mapM (reify η 20) = some [aT M, aT M] := fun η hη => by
    have e0 := hη 1011 (by simp)
    have e : reify η 20 (.os 1011 1 1 1 0 1) = ([.os 1009 1 1 1 0 1].mapM (elemR (reify η 19))).map (AV.sl 1 false) := reify_osX (n := 19) rfl (e0.trans rfl)
    have e2 : reify η 20 (.os 1011 1 1 1 0 1) = some (aT M) := by
      rw [e, List.mapM_cons, reify_rw (R := M.getD 0 []) (hA.sh.rowlen (by omega)) ((hη 1009 (by simp)).trans rfl), List.mapM_nil]
      conv => rhs; rw [hML]
      rfl
    rw [List.mapM_cons, reify_T M η 14, List.mapM_cons, e2]; rfl
  have hsum := sum_run hn1 hn4 (.inl ⟨false, rfl⟩ : (∃ f, aSh false S = aSh f S) ∨ (aSh false S = nilA ∧ S = [])) (by omega) (fun s h => by have := (plL_len hn1 hn4 _ (hA.good s h).1).1; omega)
  rw [sumV_ai hn1 hn4 hA] at hsum
  have hnS : noRef (aSh false S) = true := noRefs_of fun x hx => by
    obtain ⟨z, _, rfl⟩ := List.mem_map.1 hx
    show (noRef (al false z.1) && (noRef (ai z.2) && true)) = true
    rw [noRef_al]; rfl
  by_cases hm : 9 < m
  · rw [if_pos hm] at hsum
    have dm : decide (9 < m) = true := decide_eq_true hm
    have e15 : ((15 : Int) == 15) = true := rfl
    refine W_run 200 ?_
    simp (maxSteps := 2000000) only [SA, Nat.reduceDiv, Nat.reduceSub, Nat.reduceAdd, Int.reduceLT, Int.reduceLE, Int.reduceToNat, Nat.reduceMul, Nat.reduceEqDiff, reduceCtorEq, Nat.reduceBEq, Nat.reduceLeDiff, Nat.reduceLT, xf6_R1, ai]
    refine W_call (args := [ai 1, aSh false S]) rfl (noRefs_2 rfl hnS) hsum rfl (W_run 200 ?_)
    simp (maxSteps := 2000000) only [SA, Nat.reduceDiv, Nat.reduceSub, Nat.reduceAdd, Int.reduceLT, Int.reduceLE, Int.reduceToNat, Nat.reduceMul, Nat.reduceEqDiff, reduceCtorEq, Nat.reduceBEq, Nat.reduceLeDiff, Nat.reduceLT, ai, nilA, dm, e15, e00]
    refine W_call (args := []) rfl rfl hW rfl (W_run 200 ?_)
    simp (maxSteps := 2000000) only [SA, Nat.reduceDiv, Nat.reduceSub, Nat.reduceAdd, Int.reduceLT, Int.reduceLE, Int.reduceToNat, Nat.reduceMul, Nat.reduceEqDiff, reduceCtorEq, Nat.reduceBEq, Nat.reduceLeDiff, Nat.reduceLT, ai]
    exact W_ret1 (WX_pop (WX_nil ⟨.inl rfl, _, rfl, rfl⟩))
  · rw [if_neg hm] at hsum
    have dm : decide (9 < m) = false := decide_eq_false hm
    have hev := even_run (gT_ai hn1 hn4 hA hm)
    rw [evE_ai hn1 hA] at hev
    have nr : noRef (.tup [aT M, ai 0]) = true := by show (noRef (aT M) && (noRef (ai 0) && true)) = true; rw [noRef_T]; rfl
    have eS0 : ((S.length : Int) == 0) = false := by rw [beq_eq_false_iff_ne]; omega
    have wb : IntKind.i64.wrap bd = bd := wrap_id (by omega) (by omega)
    have zS : ((S.length : Int) = 0) = False := eq_false (by omega)
    have z8 : ((8 : Int) = 0) = False := eq_false (by decide)
    have z4 : ((4 : Int) = 0) = False := eq_false (by decide)
    obtain ⟨r1, r2⟩ := tmod_b (a := bd) (n := S.length) bb.1 (by omega)
    obtain ⟨ix, hix⟩ : ∃ ix : Nat, bd.tmod S.length = (ix : Int) := ⟨(bd.tmod S.length).toNat, by omega⟩
    have hixl : ix < S.length := by omega
    have ixc : (ix : Int) < (S.length : Int) := by omega
    have hq8 : 0 ≤ bd.tdiv 8 ∧ bd.tdiv 8 ≤ 31 := by rw [Int.tdiv_eq_ediv_of_nonneg bb.1]; omega
    have wu : IntKind.u8.wrap (bd.tdiv 8) = bd.tdiv 8 := u8wrap (by omega)
    obtain ⟨u1, u2⟩ := tmod_b (a := bd.tdiv 8) (n := 4) hq8.1 (by omega)
    have hgs := getD_mem (d := (([], 0) : List Int × Int)) hixl
    have hgood := hA.good _ hgs
    have hget := get_sv hixl
    obtain ⟨⟨p, t⟩, hpt⟩ : ∃ s, s = S.getD ix ([], 0) := ⟨_, rfl⟩
    rw [← hpt] at hgood hget
    have hok := plL_len hn1 hn4 _ hgood.1
    simp only at hok
    have hpl := hok.1
    have hgv : (S.map shV)[ix]? = some (.ag [al false p, ai t]) := hget
    have hSm : (S.map shV).length = S.length := by simp
    have hSml : ∀ X, ((S.map shV).set ix X).length = S.length := fun X => by simp
    have hsg : ∀ X, ((S.map shV).set ix X)[ix]? = some X := fun X => by rw [List.getElem?_set]; simp [hixl]
    have hss : ∀ X Y, ((S.map shV).set ix X).set ix Y = (S.map shV).set ix Y := fun X Y => by rw [List.set_set]
    have b0 := bad_run hn1 hn4 (by omega) hA.good hixl (bad0 hok) (by decide) (by simp only; omega)
    have b1 := bad_run hn1 hn4 (by omega) hA.good hixl (bad1 hok) (by decide) (by simp only; omega)
    have b2 := bad_run hn1 hn4 (by omega) hA.good hixl (bad2 (t := t) hok) (by decide) (by simp only [List.length_append, List.length_cons, List.length_nil]; omega)
    have b3 := bad_run hn1 hn4 (by omega) hA.good hixl (bad3 (t := t) hn1 hok) (by decide) (by simp only [List.length_set]; omega)
    have q1 : (1 + 1) * 8 ≤ 100000000000000 := by decide
    have e01 : ((1 : Int) == 0) = false := rfl
    have e11 : ((1 : Int) == 1) = true := rfl
    have e20 : ((2 : Int) == 0) = false := rfl
    have e21 : ((2 : Int) == 1) = false := rfl
    have e22 : ((2 : Int) == 2) = true := rfl
    have e30 : ((3 : Int) == 0) = false := rfl
    have e31 : ((3 : Int) == 1) = false := rfl
    have e32 : ((3 : Int) == 2) = false := rfl
    have e33 : ((3 : Int) == 3) = true := rfl
    have e55 : ((5 : Int) == 5) = true := rfl
    refine W_run 300 ?_
    simp (maxSteps := 2000000) only [SA, Nat.reduceDiv, Nat.reduceSub, Nat.reduceAdd, Int.reduceLT, Int.reduceLE, Int.reduceToNat, Nat.reduceMul, Nat.reduceEqDiff, reduceCtorEq, Nat.reduceBEq, Nat.reduceLeDiff, Nat.reduceLT, xf6_R1, ai]
    refine W_call (args := [ai 1, aSh false S]) rfl (noRefs_2 rfl hnS) hsum nr (W_run 300 ?_)
    simp (maxSteps := 2000000) only [SA, Nat.reduceDiv, Nat.reduceSub, Nat.reduceAdd, Int.reduceLT, Int.reduceLE, Int.reduceToNat, Nat.reduceMul, Nat.reduceEqDiff, reduceCtorEq, Nat.reduceBEq, Nat.reduceLeDiff, Nat.reduceLT, ai, dm, n00]
    refine W_look (fuel := 20) (args := [aT M, .os 1011 1 1 1 0 1]) (args' := [aT M, aT M]) rfl (hre _ (fun k hk => rfl)) halk rfl rfl (W_run 300 ?_)
    simp (maxSteps := 2000000) only [SA, Nat.reduceDiv, Nat.reduceSub, Nat.reduceAdd, Int.reduceLT, Int.reduceLE, Int.reduceToNat, Nat.reduceMul, Nat.reduceEqDiff, reduceCtorEq, Nat.reduceBEq, Nat.reduceLeDiff, Nat.reduceLT, ai, ab, n00]
    refine W_call (args := [aT M]) rfl (noRefs_T _) hev rfl (W_run 300 ?_)
    simp (maxSteps := 2000000) only [SA, Nat.reduceDiv, Nat.reduceSub, Nat.reduceAdd, Int.reduceLT, Int.reduceLE, Int.reduceToNat, Nat.reduceMul, Nat.reduceEqDiff, reduceCtorEq, Nat.reduceBEq, Nat.reduceLeDiff, Nat.reduceLT, ai, u8, aSh, n00, eS0, esm, wb, zS, hix, raw_conv, rawC, opA, argT, Option.elim]
    refine W_callR (kb' := 2000) (args := [aSh false S]) rfl (cloneS_run false S (by omega) _ 0 none rfl) rfl (W_run 300 ?_)
    rcases (by omega : (bd.tdiv 8).tmod 4 = 0 ∨ (bd.tdiv 8).tmod 4 = 1 ∨ (bd.tdiv 8).tmod 4 = 2 ∨ (bd.tdiv 8).tmod 4 = 3) with hu | hu | hu | hu
    · simp (maxSteps := 2000000) only [SA, Nat.reduceDiv, Nat.reduceSub, Nat.reduceAdd, Int.reduceLT, Int.reduceLE, Int.reduceToNat, Nat.reduceMul, Nat.reduceEqDiff, reduceCtorEq, Nat.reduceBEq, Nat.reduceLeDiff, Nat.reduceLT, ai, al, z8, z4, wu, hu, e00, hSm, ixc, hgv]
      refine W_look (fuel := 20) (args := [ai 1, .os 2005 1 S.length 2 0 S.length]) (args' := [ai 1, aSh false (S.set ix (p, 0))]) rfl (reify_set hixl rfl (elem_sv _ 14 (p, 0)) _) b0 rfl rfl (W_run 200 ?_)
      simp (maxSteps := 2000000) only [SA, Nat.reduceDiv, Nat.reduceSub, Nat.reduceAdd, Int.reduceLT, Int.reduceLE, Int.reduceToNat, Nat.reduceMul, Nat.reduceEqDiff, reduceCtorEq, Nat.reduceBEq, Nat.reduceLeDiff, Nat.reduceLT, ai, e11]
      refine W_call (args := []) rfl rfl hW rfl (W_run 200 ?_)
      simp (maxSteps := 2000000) only [SA, Nat.reduceDiv, Nat.reduceSub, Nat.reduceAdd, Int.reduceLT, Int.reduceLE, Int.reduceToNat, Nat.reduceMul, Nat.reduceEqDiff, reduceCtorEq, Nat.reduceBEq, Nat.reduceLeDiff, Nat.reduceLT, ai]
      exact W_ret1 (WX_nil ⟨.inl rfl, _, rfl, rfl⟩)
    · simp (maxSteps := 2000000) only [SA, Nat.reduceDiv, Nat.reduceSub, Nat.reduceAdd, Int.reduceLT, Int.reduceLE, Int.reduceToNat, Nat.reduceMul, Nat.reduceEqDiff, reduceCtorEq, Nat.reduceBEq, Nat.reduceLeDiff, Nat.reduceLT, ai, al, z8, z4, wu, hu, e01, e11, hSm, ixc, hgv]
      refine W_look (fuel := 20) (args := [ai 1, .os 2005 1 S.length 2 0 S.length]) (args' := [ai 1, aSh false (S.set ix (p, 37))]) rfl (reify_set hixl rfl (elem_sv _ 14 (p, 37)) _) b1 rfl rfl (W_run 200 ?_)
      simp (maxSteps := 2000000) only [SA, Nat.reduceDiv, Nat.reduceSub, Nat.reduceAdd, Int.reduceLT, Int.reduceLE, Int.reduceToNat, Nat.reduceMul, Nat.reduceEqDiff, reduceCtorEq, Nat.reduceBEq, Nat.reduceLeDiff, Nat.reduceLT, ai, e11]
      refine W_call (args := []) rfl rfl hW rfl (W_run 200 ?_)
      simp (maxSteps := 2000000) only [SA, Nat.reduceDiv, Nat.reduceSub, Nat.reduceAdd, Int.reduceLT, Int.reduceLE, Int.reduceToNat, Nat.reduceMul, Nat.reduceEqDiff, reduceCtorEq, Nat.reduceBEq, Nat.reduceLeDiff, Nat.reduceLT, ai]
      exact W_ret1 (WX_nil ⟨.inl rfl, _, rfl, rfl⟩)
    · simp (maxSteps := 2000000) only [SA, Nat.reduceDiv, Nat.reduceSub, Nat.reduceAdd, Int.reduceLT, Int.reduceLE, Int.reduceToNat, Nat.reduceMul, Nat.reduceEqDiff, reduceCtorEq, Nat.reduceBEq, Nat.reduceLeDiff, Nat.reduceLT, ai, al, z8, z4, wu, hu, e20, e21, e22, hSm, ixc, hgv]
      refine W_callR (kb' := 1038) (args := [al false p]) rfl (clone_run false p (by omega) _ 0 none rfl) rfl (W_run 2 ?_)
      simp (maxSteps := 2000000) only [SA, Nat.reduceDiv, Nat.reduceSub, Nat.reduceAdd, Int.reduceLT, Int.reduceLE, Int.reduceToNat, Nat.reduceMul, Nat.reduceEqDiff, reduceCtorEq, Nat.reduceBEq, Nat.reduceLeDiff, Nat.reduceLT, ai, al, hpl, q1, Go.Proofs.Eng.elems, List.map_cons, List.map_nil, List.length_map]
      refine W_give (t := 171) (giveT_row (k := 1043) (g := 1) (e := 3) (s := 1) (xs := p.map ai ++ [ai 0]) (n := 1 + 1) rfl rfl (by simp [hpl])) (W_run 300 ?_)
      have hto1 : ∀ (g v s : Nat) (xs : List AV) (a b c d e : Nat), toData 1043 g v s xs (.os 1011 a b c d e) = .os 1011 a b c d e := fun _ _ _ _ _ _ _ _ _ => toData_other (by decide)
      have hto2 : ∀ (g v s : Nat) (xs : List AV) (a b c d e : Nat), toData 1043 g v s xs (.os 2005 a b c d e) = .os 2005 a b c d e := fun _ _ _ _ _ _ _ _ _ => toData_other (by decide)
      have hto3 : ∀ (g v s : Nat) (xs : List AV) (a b c d e : Nat), toData 1043 g v s xs (.o a b c d e) = .o a b c d e := fun _ _ _ _ _ _ _ _ _ => rfl
      have hap : AV.sl 1 false (p.map ai ++ [.v (.int .i64 0)]) = al false (p ++ [0]) := by unfold al; rw [List.map_append]; rfl
      simp (maxSteps := 2000000) only [SA, Nat.reduceDiv, Nat.reduceSub, Nat.reduceAdd, Int.reduceLT, Int.reduceLE, Int.reduceToNat, Nat.reduceMul, Nat.reduceEqDiff, reduceCtorEq, Nat.reduceBEq, Nat.reduceLeDiff, Nat.reduceLT, ai, hto1, hto2, hto3, toData_os, toData_v, toData_sl, toData_ptr, hap, hSm, ixc, hgv, List.map_cons, List.map_nil]
      refine W_look (fuel := 20) (args := [ai 1, .os 2005 1 S.length 2 0 S.length]) (args' := [ai 1, aSh false (S.set ix (p ++ [0], t))]) rfl (reify_set hixl rfl (elem_sv _ 14 (p ++ [0], t)) _) b2 rfl rfl (W_run 200 ?_)
      simp (maxSteps := 2000000) only [SA, Nat.reduceDiv, Nat.reduceSub, Nat.reduceAdd, Int.reduceLT, Int.reduceLE, Int.reduceToNat, Nat.reduceMul, Nat.reduceEqDiff, reduceCtorEq, Nat.reduceBEq, Nat.reduceLeDiff, Nat.reduceLT, ai, e55]
      refine W_call (args := []) rfl rfl hW rfl (W_run 200 ?_)
      simp (maxSteps := 2000000) only [SA, Nat.reduceDiv, Nat.reduceSub, Nat.reduceAdd, Int.reduceLT, Int.reduceLE, Int.reduceToNat, Nat.reduceMul, Nat.reduceEqDiff, reduceCtorEq, Nat.reduceBEq, Nat.reduceLeDiff, Nat.reduceLT, ai]
      exact W_ret1 (WX_nil ⟨.inl rfl, _, rfl, rfl⟩)
    · have hst : (p.map ai).set 0 (.v (.int .i64 1)) = (p.set 0 (1 : Int)).map ai := by rw [List.map_set]; rfl
      have hg0 := get_al (l := p) (i := 0) (by omega)
      have hpl2 : (p.set 0 (1 : Int)).length = 1 := by rw [List.length_set]; exact hpl
      have e2r : ∀ η : Heap, Go.Proofs.Eng.look η 1043 = (1, some ⟨3, 1, (p.set 0 (1 : Int)).map ai⟩) → reify η 19 (.os 1043 1 1 1 0 1) = some (al false (p.set 0 (1 : Int))) := fun η h => reify_rw (R := p.set 0 (1 : Int)) hpl2 h
      simp (maxSteps := 2000000) only [SA, Nat.reduceDiv, Nat.reduceSub, Nat.reduceAdd, Int.reduceLT, Int.reduceLE, Int.reduceToNat, Nat.reduceMul, Nat.reduceEqDiff, reduceCtorEq, Nat.reduceBEq, Nat.reduceLeDiff, Nat.reduceLT, ai, al, z8, z4, wu, hu, e30, e31, e32, e33, hSm, ixc, hgv]
      refine W_callR (kb' := 1038) (args := [al false p]) rfl (clone_run false p (by omega) _ 0 none rfl) rfl (W_run 300 ?_)
      simp (maxSteps := 2000000) only [SA, Nat.reduceDiv, Nat.reduceSub, Nat.reduceAdd, Int.reduceLT, Int.reduceLE, Int.reduceToNat, Nat.reduceMul, Nat.reduceEqDiff, reduceCtorEq, Nat.reduceBEq, Nat.reduceLeDiff, Nat.reduceLT, ai, al, hpl, hSm, hSml, hsg, hss, ixc, hgv, hg0, hst, List.length_map]
      refine W_look (fuel := 20) (args := [ai 1, .os 2005 1 S.length 2 0 S.length]) (args' := [ai 1, aSh false (S.set ix (p.set 0 (1 : Int), t))]) rfl (reify_set (X := .ag [.os 1043 1 1 1 0 1, ai t]) hixl rfl (by
        show ([.os 1043 1 1 1 0 1, ai t].mapM (reify _ 19)).map AV.ag = _
        rw [List.mapM_cons, e2r _ rfl]; rfl) _) b3 rfl rfl (W_run 200 ?_)
      simp (maxSteps := 2000000) only [SA, Nat.reduceDiv, Nat.reduceSub, Nat.reduceAdd, Int.reduceLT, Int.reduceLE, Int.reduceToNat, Nat.reduceMul, Nat.reduceEqDiff, reduceCtorEq, Nat.reduceBEq, Nat.reduceLeDiff, Nat.reduceLT, ai, e22]
      refine W_call (args := []) rfl rfl hW rfl (W_run 200 ?_)
      simp (maxSteps := 2000000) only [SA, Nat.reduceDiv, Nat.reduceSub, Nat.reduceAdd, Int.reduceLT, Int.reduceLE, Int.reduceToNat, Nat.reduceMul, Nat.reduceEqDiff, reduceCtorEq, Nat.reduceBEq, Nat.reduceLeDiff, Nat.reduceLT, ai]
      exact W_ret1 (WX_nil ⟨.inl rfl, _, rfl, rfl⟩)
end Go.Proofs.Ytelkpfionifjgaa

