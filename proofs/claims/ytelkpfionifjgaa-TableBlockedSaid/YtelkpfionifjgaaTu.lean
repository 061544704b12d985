/-
  TableBlocked: the end, the law.
-/
import Derived.Test.YtelkpfionifjgaaTt
set_option linter.unusedSimpArgs false
set_option linter.unusedVariables false
namespace Go.Proofs.Ytelkpfionifjgaa
open Go Go.Proofs.Eng
set_option maxRecDepth 100000
set_option maxHeartbeats 4000000
def QB (o : Out) (c : Cfg) : Prop := (o = .ret ∨ o = .normal) ∧ ∃ rs, xf4.results.mapM (resOf Try.prog c) = some rs ∧ reify c.η 20 (retOf rs) = some (.v (.bool true))
theorem lrL_cn {n : Nat} (h1 : 1 ≤ n) (h4 : n ≤ 4) : ∀ l, l ∈ lrL n → cnE n none l = 0 := by
  match n, h1, h4 with
  | 1, _, _ | 2, _, _ | 3, _, _ | 4, _, _ => decide +kernel
theorem zerC_lr {n : Nat} {T : List (List Int)} (hg : gT n T) (l : List Int) : zerC n T l ∈ lrL n := lrL_mem hg.n1 hg.n4 (zerB T l)
/-- a block proves itself -/
theorem prv_blk {n : Nat} {T : List (List Int)} (hg : gT n T) {l : List Int} (hl : l ∈ lrL n) (hb : blkP n T l = true) : prvE n T l (zerC n T l) = 0 := by
  unfold prvE
  rw [if_pos (lrL_cn hg.n1 hg.n4 _ hl), if_pos (lrL_cn hg.n1 hg.n4 _ (zerC_lr hg l)), if_neg]
  unfold blkP at hb
  have hb := of_decide_eq_true hb
  rintro (h | h)
  · omega
  · obtain ⟨c, hc, h⟩ := List.any_eq_true.1 h
    rw [memD_iff.2 hc] at h; cases h
theorem noRef_bar (n : Nat) (T : List (List Int)) : noRef (barV n T) = true := by
  unfold barV
  split
  · rename_i l _
    show (noRef (lv l) && (noRef (al false (zerC n T l)) && (noRef (ai 0) && true))) = true
    rw [(lv_isL l).ref, noRef_al]; rfl
  · rfl
/-- no block: there is a plan -/
theorem end_none {n : Nat} {T : List (List Int)} (hg : gT n T) (p : List Int) (t : List (List Int)) (hw : withP n T = p :: t) (hb : barF n T = none) (hW : Runs Try.prog xf 28 [] (.v (.bool true))) (q14 q40 q59 q72 : Nat × Option Ob) :
    ∀ j0 j1 j2 j6 j7 j10 j11 j12 j13 j14 j15 j16 j17 j18 j19 j20 j21 j22 j23 j24 j25 j26 j27 j28 j29 j30 j31 j32 j33 j34 j35 j36 j37 j38 j39 j40 j41 j42 j43 j44 j45 j46 j47 j48 j49 j50 j51 j52 j53 j54 j55 j56 j57 j58 j59 j60 j61 j62 j63 j64 j65 j66 j67 j68 j69 j70 j71 j72 j73 j74 j75 j76 j77 j78 j79 j80 j81 j82 j83 j84 j85 j86 j87 j88 j89 j90 j91 j92 j93 j94 j95 j96 j97 j98 j99 j100 j101 j102 j103 j104 j105 j106 j107 j108 j109 j110 j111 j112 j113 j114 j115 j116 j117 j118 j119 j120 j121 j122 j123 j124 j125 j126 j127 j128 j129 j130 j131 j132 j133 j134 j135 j136 j137 j138 j139 j140 j141 j142 j143 j144 j145 j146 j147 j148 j149 j150 j151 j152 j153 j154 j155 j156 j157 j158 j159 j160 j161 j162 j163 j164 j165 j166 j167 j168 j169 j170 j171 j172 j173 j174 j175 j176 j177 j178 j179 j180 j181 j182 j183 j184 j185 j186 j187 j188 j189 j190 j191 j192 j193 j194 j195 j196 j197 j198 j199 j200 : AV, W Try.prog (RelU Try.prog xf) 0 [.code xf4_R3] ⟨(j0 :: j1 :: j2 :: (.o 3 1 1 0 0) :: (ai n) :: (plW (p :: t)) :: j6 :: j7 :: (dv []) :: (dv (cR n T [])) :: j10 :: j11 :: j12 :: j13 :: j14 :: j15 :: j16 :: j17 :: j18 :: j19 :: j20 :: j21 :: j22 :: j23 :: j24 :: j25 :: j26 :: j27 :: j28 :: j29 :: j30 :: j31 :: j32 :: j33 :: j34 :: j35 :: j36 :: j37 :: j38 :: j39 :: j40 :: j41 :: j42 :: j43 :: j44 :: j45 :: j46 :: j47 :: j48 :: j49 :: j50 :: j51 :: j52 :: j53 :: j54 :: j55 :: j56 :: j57 :: j58 :: j59 :: j60 :: j61 :: j62 :: j63 :: j64 :: j65 :: j66 :: j67 :: j68 :: j69 :: j70 :: j71 :: j72 :: j73 :: j74 :: j75 :: j76 :: j77 :: j78 :: j79 :: j80 :: j81 :: j82 :: j83 :: j84 :: j85 :: j86 :: j87 :: j88 :: j89 :: j90 :: j91 :: j92 :: j93 :: j94 :: j95 :: j96 :: j97 :: j98 :: j99 :: j100 :: j101 :: j102 :: j103 :: j104 :: j105 :: j106 :: j107 :: j108 :: j109 :: j110 :: j111 :: j112 :: j113 :: j114 :: j115 :: j116 :: j117 :: j118 :: j119 :: j120 :: j121 :: j122 :: j123 :: j124 :: j125 :: j126 :: j127 :: j128 :: j129 :: j130 :: j131 :: j132 :: j133 :: j134 :: j135 :: j136 :: j137 :: j138 :: j139 :: j140 :: j141 :: j142 :: j143 :: j144 :: j145 :: j146 :: j147 :: j148 :: j149 :: j150 :: j151 :: j152 :: j153 :: j154 :: j155 :: j156 :: j157 :: j158 :: j159 :: j160 :: j161 :: j162 :: j163 :: j164 :: j165 :: j166 :: j167 :: j168 :: j169 :: j170 :: j171 :: j172 :: j173 :: j174 :: j175 :: j176 :: j177 :: j178 :: j179 :: j180 :: j181 :: j182 :: j183 :: j184 :: j185 :: j186 :: j187 :: j188 :: j189 :: j190 :: j191 :: j192 :: j193 :: j194 :: j195 :: j196 :: j197 :: j198 :: j199 :: j200 :: []), hB T q14 q40 q59 q72⟩ QB := by
  intro j0 j1 j2 j6 j7 j10 j11 j12 j13 j14 j15 j16 j17 j18 j19 j20 j21 j22 j23 j24 j25 j26 j27 j28 j29 j30 j31 j32 j33 j34 j35 j36 j37 j38 j39 j40 j41 j42 j43 j44 j45 j46 j47 j48 j49 j50 j51 j52 j53 j54 j55 j56 j57 j58 j59 j60 j61 j62 j63 j64 j65 j66 j67 j68 j69 j70 j71 j72 j73 j74 j75 j76 j77 j78 j79 j80 j81 j82 j83 j84 j85 j86 j87 j88 j89 j90 j91 j92 j93 j94 j95 j96 j97 j98 j99 j100 j101 j102 j103 j104 j105 j106 j107 j108 j109 j110 j111 j112 j113 j114 j115 j116 j117 j118 j119 j120 j121 j122 j123 j124 j125 j126 j127 j128 j129 j130 j131 j132 j133 j134 j135 j136 j137 j138 j139 j140 j141 j142 j143 j144 j145 j146 j147 j148 j149 j150 j151 j152 j153 j154 j155 j156 j157 j158 j159 j160 j161 j162 j163 j164 j165 j166 j167 j168 j169 j170 j171 j172 j173 j174 j175 j176 j177 j178 j179 j180 j181 j182 j183 j184 j185 j186 j187 j188 j189 j190 j191 j192 j193 j194 j195 j196 j197 j198 j199 j200
  have hbar := bar_run hg
  have hfst := first_run hg
  have hcnt := count_run hg
  have hpl : p.length = n := (withP_ok (T := T) (p := p) (by rw [hw]; exact List.mem_cons_self)).1
  have hn4 := hg.n4
  have hwl := withP_len (T := T) hn4
  unfold barV at hbar
  rw [hb] at hbar
  rw [hw] at hfst hwl
  unfold cntP at hcnt
  rw [hw, List.length_cons] at hcnt
  simp only at hbar hfst
  have hsame := same_al false false p (by omega)
  generalize dv (cR n T []) = dC at *
  have hd0 : dv [] = nilA := rfl
  have n00 : ((0 : Int) != 0) = false := rfl
  have e00 : ((0 : Int) == 0) = true := rfl
  have e13 : ((13 : Int) == 13) = true := rfl
  have w00 : IntKind.i64.wrap (0 + 0) = 0 := rfl
  have e1 : (((t.length + 1 : Nat) : Int) != ((t.length + 1 : Nat) : Int)) = false := by simp
  have d1 : decide ((0 : Int) < ((t.length + 1 : Nat) : Int)) = true := decide_eq_true (by omega)
  have i1 : (0 : Int) < ((t.length + 1 : Nat) : Int) := by omega
  rw [hd0]
  refine W_run 200 ?_
  simp (maxSteps := 2000000) only [SA, Nat.reduceDiv, Nat.reduceSub, Nat.reduceAdd, Int.reduceLT, Int.reduceLE, Int.reduceToNat, Nat.reduceMul, Nat.reduceEqDiff, reduceCtorEq, Nat.reduceBEq, Nat.reduceLeDiff, Nat.reduceLT, xf4_R3, ai, hB, bx, plW, nilA]
  refine W_call (args := [aT T]) rfl (noRefs_T T) hbar rfl (W_run 200 ?_)
  simp (maxSteps := 2000000) only [SA, Nat.reduceDiv, Nat.reduceSub, Nat.reduceAdd, Int.reduceLT, Int.reduceLE, Int.reduceToNat, Nat.reduceMul, Nat.reduceEqDiff, reduceCtorEq, Nat.reduceBEq, Nat.reduceLeDiff, Nat.reduceLT, ai, nilA]
  refine W_call (args := [aT T]) rfl (noRefs_T T) hfst (by show (noRef (al false p) && (noRef (ai 0) && true)) = true; rw [noRef_al]; rfl) (W_run 200 ?_)
  simp (maxSteps := 2000000) only [SA, Nat.reduceDiv, Nat.reduceSub, Nat.reduceAdd, Int.reduceLT, Int.reduceLE, Int.reduceToNat, Nat.reduceMul, Nat.reduceEqDiff, reduceCtorEq, Nat.reduceBEq, Nat.reduceLeDiff, Nat.reduceLT, ai, al, nilA]
  refine W_call (args := [aT T]) rfl (noRefs_T T) hcnt rfl (W_run 200 ?_)
  simp (maxSteps := 2000000) only [SA, Nat.reduceDiv, Nat.reduceSub, Nat.reduceAdd, Int.reduceLT, Int.reduceLE, Int.reduceToNat, Nat.reduceMul, Nat.reduceEqDiff, reduceCtorEq, Nat.reduceBEq, Nat.reduceLeDiff, Nat.reduceLT, ai, al, aT, nilA, n00, e1, d1, raw_bne, rawN, opA, argT, Option.elim, toVal, bne_self_eq_false, e13, e00, w00, List.map_cons, undef]
  refine W_call (args := [al false p, al false p]) rfl (noRefs_2 (noRef_al _ _) (noRef_al _ _)) hsame rfl (W_run 200 ?_)
  simp (maxSteps := 2000000) only [SA, Nat.reduceDiv, Nat.reduceSub, Nat.reduceAdd, Int.reduceLT, Int.reduceLE, Int.reduceToNat, Nat.reduceMul, Nat.reduceEqDiff, reduceCtorEq, Nat.reduceBEq, Nat.reduceLeDiff, Nat.reduceLT, ai, ab]
  refine W_call (args := []) rfl rfl hW rfl (W_run 200 ?_)
  simp (maxSteps := 2000000) only [SA, Nat.reduceDiv, Nat.reduceSub, Nat.reduceAdd, Int.reduceLT, Int.reduceLE, Int.reduceToNat, Nat.reduceMul, Nat.reduceEqDiff, reduceCtorEq, Nat.reduceBEq, Nat.reduceLeDiff, Nat.reduceLT, ai]
  exact W_ret1 (WX_pop (WX_nil ⟨.inl rfl, _, rfl, rfl⟩))
/-- a block: there is no plan -/
theorem end_some {n : Nat} {T : List (List Int)} (hg : gT n T) (x : Int) (u : List Int) (hw : withP n T = []) (hb : barF n T = some (x :: u)) (hW : Runs Try.prog xf 28 [] (.v (.bool true))) (q14 q40 q59 q72 : Nat × Option Ob) :
    ∀ j0 j1 j2 j6 j7 j10 j11 j12 j13 j14 j15 j16 j17 j18 j19 j20 j21 j22 j23 j24 j25 j26 j27 j28 j29 j30 j31 j32 j33 j34 j35 j36 j37 j38 j39 j40 j41 j42 j43 j44 j45 j46 j47 j48 j49 j50 j51 j52 j53 j54 j55 j56 j57 j58 j59 j60 j61 j62 j63 j64 j65 j66 j67 j68 j69 j70 j71 j72 j73 j74 j75 j76 j77 j78 j79 j80 j81 j82 j83 j84 j85 j86 j87 j88 j89 j90 j91 j92 j93 j94 j95 j96 j97 j98 j99 j100 j101 j102 j103 j104 j105 j106 j107 j108 j109 j110 j111 j112 j113 j114 j115 j116 j117 j118 j119 j120 j121 j122 j123 j124 j125 j126 j127 j128 j129 j130 j131 j132 j133 j134 j135 j136 j137 j138 j139 j140 j141 j142 j143 j144 j145 j146 j147 j148 j149 j150 j151 j152 j153 j154 j155 j156 j157 j158 j159 j160 j161 j162 j163 j164 j165 j166 j167 j168 j169 j170 j171 j172 j173 j174 j175 j176 j177 j178 j179 j180 j181 j182 j183 j184 j185 j186 j187 j188 j189 j190 j191 j192 j193 j194 j195 j196 j197 j198 j199 j200 : AV, W Try.prog (RelU Try.prog xf) 0 [.code xf4_R3] ⟨(j0 :: j1 :: j2 :: (.o 3 1 1 0 0) :: (ai n) :: (plW []) :: j6 :: j7 :: (dv (x :: u)) :: (dv (cR n T (x :: u))) :: j10 :: j11 :: j12 :: j13 :: j14 :: j15 :: j16 :: j17 :: j18 :: j19 :: j20 :: j21 :: j22 :: j23 :: j24 :: j25 :: j26 :: j27 :: j28 :: j29 :: j30 :: j31 :: j32 :: j33 :: j34 :: j35 :: j36 :: j37 :: j38 :: j39 :: j40 :: j41 :: j42 :: j43 :: j44 :: j45 :: j46 :: j47 :: j48 :: j49 :: j50 :: j51 :: j52 :: j53 :: j54 :: j55 :: j56 :: j57 :: j58 :: j59 :: j60 :: j61 :: j62 :: j63 :: j64 :: j65 :: j66 :: j67 :: j68 :: j69 :: j70 :: j71 :: j72 :: j73 :: j74 :: j75 :: j76 :: j77 :: j78 :: j79 :: j80 :: j81 :: j82 :: j83 :: j84 :: j85 :: j86 :: j87 :: j88 :: j89 :: j90 :: j91 :: j92 :: j93 :: j94 :: j95 :: j96 :: j97 :: j98 :: j99 :: j100 :: j101 :: j102 :: j103 :: j104 :: j105 :: j106 :: j107 :: j108 :: j109 :: j110 :: j111 :: j112 :: j113 :: j114 :: j115 :: j116 :: j117 :: j118 :: j119 :: j120 :: j121 :: j122 :: j123 :: j124 :: j125 :: j126 :: j127 :: j128 :: j129 :: j130 :: j131 :: j132 :: j133 :: j134 :: j135 :: j136 :: j137 :: j138 :: j139 :: j140 :: j141 :: j142 :: j143 :: j144 :: j145 :: j146 :: j147 :: j148 :: j149 :: j150 :: j151 :: j152 :: j153 :: j154 :: j155 :: j156 :: j157 :: j158 :: j159 :: j160 :: j161 :: j162 :: j163 :: j164 :: j165 :: j166 :: j167 :: j168 :: j169 :: j170 :: j171 :: j172 :: j173 :: j174 :: j175 :: j176 :: j177 :: j178 :: j179 :: j180 :: j181 :: j182 :: j183 :: j184 :: j185 :: j186 :: j187 :: j188 :: j189 :: j190 :: j191 :: j192 :: j193 :: j194 :: j195 :: j196 :: j197 :: j198 :: j199 :: j200 :: []), hB T q14 q40 q59 q72⟩ QB := by
  intro j0 j1 j2 j6 j7 j10 j11 j12 j13 j14 j15 j16 j17 j18 j19 j20 j21 j22 j23 j24 j25 j26 j27 j28 j29 j30 j31 j32 j33 j34 j35 j36 j37 j38 j39 j40 j41 j42 j43 j44 j45 j46 j47 j48 j49 j50 j51 j52 j53 j54 j55 j56 j57 j58 j59 j60 j61 j62 j63 j64 j65 j66 j67 j68 j69 j70 j71 j72 j73 j74 j75 j76 j77 j78 j79 j80 j81 j82 j83 j84 j85 j86 j87 j88 j89 j90 j91 j92 j93 j94 j95 j96 j97 j98 j99 j100 j101 j102 j103 j104 j105 j106 j107 j108 j109 j110 j111 j112 j113 j114 j115 j116 j117 j118 j119 j120 j121 j122 j123 j124 j125 j126 j127 j128 j129 j130 j131 j132 j133 j134 j135 j136 j137 j138 j139 j140 j141 j142 j143 j144 j145 j146 j147 j148 j149 j150 j151 j152 j153 j154 j155 j156 j157 j158 j159 j160 j161 j162 j163 j164 j165 j166 j167 j168 j169 j170 j171 j172 j173 j174 j175 j176 j177 j178 j179 j180 j181 j182 j183 j184 j185 j186 j187 j188 j189 j190 j191 j192 j193 j194 j195 j196 j197 j198 j199 j200
  have hbar := bar_run hg
  have hfst := first_run hg
  have hcnt := count_run hg
  have hn4 := hg.n4
  unfold barV at hbar
  rw [hb] at hbar
  rw [hw] at hfst
  unfold cntP at hcnt
  rw [hw, List.length_nil] at hcnt
  simp only at hbar hfst
  have hbm : x :: u ∈ lrL n := List.mem_of_find?_eq_some hb
  have hbk : blkP n T (x :: u) = true := by have := List.find?_some hb; simpa using this
  have hbl := (lrL_ok hg.n1 hn4 _ hbm).2.2
  have hzl : (zerC n T (x :: u)).length ≤ n := zerK_len T _ n
  have hcRe : cR n T (x :: u) = zerC n T (x :: u) := dv_cR (by simp)
  have hpr := proves_run hg (lv_isL (x :: u)) (.inl ⟨false, rfl⟩ : isL (al false (zerC n T (x :: u))) (zerC n T (x :: u))) (by omega) (by omega)
  rw [prv_blk hg hbm hbk] at hpr
  have hs1 := same_al false false (x :: u) (by omega)
  have hs2 := same_run (.inl ⟨false, rfl⟩ : isL (al false (zerC n T (x :: u))) (zerC n T (x :: u))) (dv_isL (zerC n T (x :: u))) (by omega)
  rw [hcRe]
  generalize hZ : zerC n T (x :: u) = Z at *
  have hdZ := noRef_dv Z
  generalize dv Z = dZ at *
  have n00 : ((0 : Int) != 0) = false := rfl
  have e00 : ((0 : Int) == 0) = true := rfl
  have e12 : ((12 : Int) == 12) = true := rfl
  have d00' : decide ((0 : Int) < 0) = false := rfl
  refine W_run 200 ?_
  simp (maxSteps := 2000000) only [SA, Nat.reduceDiv, Nat.reduceSub, Nat.reduceAdd, Int.reduceLT, Int.reduceLE, Int.reduceToNat, Nat.reduceMul, Nat.reduceEqDiff, reduceCtorEq, Nat.reduceBEq, Nat.reduceLeDiff, Nat.reduceLT, xf4_R3, ai, hB, bx, plW, dv]
  refine W_call (args := [aT T]) rfl (noRefs_T T) hbar (by show (noRef (al false (x :: u)) && (noRef (al false Z) && (noRef (ai 0) && true))) = true; rw [noRef_al, noRef_al]; rfl) (W_run 200 ?_)
  simp (maxSteps := 2000000) only [SA, Nat.reduceDiv, Nat.reduceSub, Nat.reduceAdd, Int.reduceLT, Int.reduceLE, Int.reduceToNat, Nat.reduceMul, Nat.reduceEqDiff, reduceCtorEq, Nat.reduceBEq, Nat.reduceLeDiff, Nat.reduceLT, ai, al, nilA, lv]
  refine W_call (args := [aT T]) rfl (noRefs_T T) hfst rfl (W_run 200 ?_)
  simp (maxSteps := 2000000) only [SA, Nat.reduceDiv, Nat.reduceSub, Nat.reduceAdd, Int.reduceLT, Int.reduceLE, Int.reduceToNat, Nat.reduceMul, Nat.reduceEqDiff, reduceCtorEq, Nat.reduceBEq, Nat.reduceLeDiff, Nat.reduceLT, ai, al, nilA]
  refine W_call (args := [aT T]) rfl (noRefs_T T) hcnt rfl (W_run 200 ?_)
  simp (maxSteps := 2000000) only [SA, Nat.reduceDiv, Nat.reduceSub, Nat.reduceAdd, Int.reduceLT, Int.reduceLE, Int.reduceToNat, Nat.reduceMul, Nat.reduceEqDiff, reduceCtorEq, Nat.reduceBEq, Nat.reduceLeDiff, Nat.reduceLT, ai, al, aT, nilA, n00, d00', raw_bne, rawN, opA, argT, Option.elim, toVal, bne_self_eq_false, e00, List.map_cons, Int.natCast_zero, undef]
  refine W_call (args := [al false (x :: u), al false (x :: u)]) rfl (noRefs_2 (noRef_al _ _) (noRef_al _ _)) hs1 rfl (W_run 200 ?_)
  simp (maxSteps := 2000000) only [SA, Nat.reduceDiv, Nat.reduceSub, Nat.reduceAdd, Int.reduceLT, Int.reduceLE, Int.reduceToNat, Nat.reduceMul, Nat.reduceEqDiff, reduceCtorEq, Nat.reduceBEq, Nat.reduceLeDiff, Nat.reduceLT, ai, ab]
  refine W_call (args := [al false Z, dZ]) rfl (noRefs_2 (noRef_al _ _) hdZ) hs2 rfl (W_run 200 ?_)
  simp (maxSteps := 2000000) only [SA, Nat.reduceDiv, Nat.reduceSub, Nat.reduceAdd, Int.reduceLT, Int.reduceLE, Int.reduceToNat, Nat.reduceMul, Nat.reduceEqDiff, reduceCtorEq, Nat.reduceBEq, Nat.reduceLeDiff, Nat.reduceLT, ai, ab, nilA, e12, e00]
  refine W_call (args := [aT T, al false (x :: u), al false Z]) rfl (noRefs_3 (noRef_T _) (noRef_al _ _) (noRef_al _ _)) hpr rfl (W_run 200 ?_)
  simp (maxSteps := 2000000) only [SA, Nat.reduceDiv, Nat.reduceSub, Nat.reduceAdd, Int.reduceLT, Int.reduceLE, Int.reduceToNat, Nat.reduceMul, Nat.reduceEqDiff, reduceCtorEq, Nat.reduceBEq, Nat.reduceLeDiff, Nat.reduceLT, ai, e00]
  refine W_call (args := []) rfl rfl hW rfl (W_run 200 ?_)
  simp (maxSteps := 2000000) only [SA, Nat.reduceDiv, Nat.reduceSub, Nat.reduceAdd, Int.reduceLT, Int.reduceLE, Int.reduceToNat, Nat.reduceMul, Nat.reduceEqDiff, reduceCtorEq, Nat.reduceBEq, Nat.reduceLeDiff, Nat.reduceLT, ai]
  exact W_ret1 (WX_nil ⟨.inl rfl, _, rfl, rfl⟩)
end Go.Proofs.Ytelkpfionifjgaa

