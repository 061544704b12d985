/-
  slices.Compare; TableBlocked: the plans within, the rows and columns of a set.
-/
import Derived.Test.YtelkpfionifjgaaTq
set_option linter.unusedSimpArgs false
set_option linter.unusedVariables false
namespace Go.Proofs.Ytelkpfionifjgaa
open Go Go.Proofs.Eng
set_option maxRecDepth 100000
set_option maxHeartbeats 2000000
theorem nan_run (x : Int) : Runs Try.prog xf 81 [ai x] (ab false) := by
  have h : (x != x) = false := bne_self_eq_false _
  refine Runs.ofW (fn := xf81) 20 (by kernel_rfl) (W_run 80 ?_)
  simp (maxSteps := 2000000) only [SA, Nat.reduceDiv, Nat.reduceSub, Nat.reduceAdd, Int.reduceLT, Int.reduceLE, Int.reduceToNat, Nat.reduceMul, Nat.reduceEqDiff, reduceCtorEq, Nat.reduceBEq, Nat.reduceLeDiff, Nat.reduceLT, xf81, ai, ab, h]
  first | exact W_ret1 (WX_pop (WX_nil ⟨.inl rfl, _, rfl, rfl⟩)) | exact W_ret1 (WX_nil ⟨.inl rfl, _, rfl, rfl⟩)
theorem cm_run (x y : Int) : Runs Try.prog xf 68 [ai x, ai y] (ai (cm x y)) := by
  refine Runs.ofW (fn := xf68) 20 (by kernel_rfl) (W_run 80 ?_)
  simp (maxSteps := 2000000) only [SA, Nat.reduceDiv, Nat.reduceSub, Nat.reduceAdd, Int.reduceLT, Int.reduceLE, Int.reduceToNat, Nat.reduceMul, Nat.reduceEqDiff, reduceCtorEq, Nat.reduceBEq, Nat.reduceLeDiff, Nat.reduceLT, xf68, ai, ab]
  refine W_call (args := [ai x]) rfl rfl (nan_run x) rfl (W_run 80 ?_)
  simp (maxSteps := 2000000) only [SA, Nat.reduceDiv, Nat.reduceSub, Nat.reduceAdd, Int.reduceLT, Int.reduceLE, Int.reduceToNat, Nat.reduceMul, Nat.reduceEqDiff, reduceCtorEq, Nat.reduceBEq, Nat.reduceLeDiff, Nat.reduceLT, ai, ab]
  refine W_call (args := [ai y]) rfl rfl (nan_run y) rfl (W_run 80 ?_)
  unfold cm
  by_cases h : x < y
  · have d : decide (x < y) = true := decide_eq_true h
    rw [if_pos h]
    simp (maxSteps := 2000000) only [SA, Nat.reduceDiv, Nat.reduceSub, Nat.reduceAdd, Int.reduceLT, Int.reduceLE, Int.reduceToNat, Nat.reduceMul, Nat.reduceEqDiff, reduceCtorEq, Nat.reduceBEq, Nat.reduceLeDiff, Nat.reduceLT, ai, ab, d]
    first | exact W_ret1 (WX_pop (WX_nil ⟨.inl rfl, _, rfl, rfl⟩)) | exact W_ret1 (WX_nil ⟨.inl rfl, _, rfl, rfl⟩)
  · have d : decide (x < y) = false := decide_eq_false h
    rw [if_neg h]
    by_cases h' : y < x
    · have d' : decide (y < x) = true := decide_eq_true h'
      rw [if_pos h']
      simp (maxSteps := 2000000) only [SA, Nat.reduceDiv, Nat.reduceSub, Nat.reduceAdd, Int.reduceLT, Int.reduceLE, Int.reduceToNat, Nat.reduceMul, Nat.reduceEqDiff, reduceCtorEq, Nat.reduceBEq, Nat.reduceLeDiff, Nat.reduceLT, ai, ab, d, d']
      first | exact W_ret1 (WX_pop (WX_nil ⟨.inl rfl, _, rfl, rfl⟩)) | exact W_ret1 (WX_nil ⟨.inl rfl, _, rfl, rfl⟩)
    · have d' : decide (y < x) = false := decide_eq_false h'
      rw [if_neg h']
      simp (maxSteps := 2000000) only [SA, Nat.reduceDiv, Nat.reduceSub, Nat.reduceAdd, Int.reduceLT, Int.reduceLE, Int.reduceToNat, Nat.reduceMul, Nat.reduceEqDiff, reduceCtorEq, Nat.reduceBEq, Nat.reduceLeDiff, Nat.reduceLT, ai, ab, d, d']
      first | exact W_ret1 (WX_pop (WX_nil ⟨.inl rfl, _, rfl, rfl⟩)) | exact W_ret1 (WX_nil ⟨.inl rfl, _, rfl, rfl⟩)

theorem cmp_loop (f g : Bool) (p q : List Int) (hpq : p.length = q.length) (hn : p.length ≤ 100) (K : List Fr) (Q : Out → Cfg → Prop)
    (hK : cmpL p q = 0 → ∀ j2 j3 j5 j6 j7 j8 j12 j13 j14 j15 j16 j17 j18 j19 j20 j21 j22 j23 j24 j25 j26 j27 j28 j29 j30 j31 j32 j33 j34 j35 : AV, W Try.prog (RelU Try.prog xf) 0 K ⟨((al f p) :: (al g q) :: j2 :: j3 :: (ai 0) :: j5 :: j6 :: j7 :: j8 :: (al f p) :: (ai p.length) :: (ai p.length) :: j12 :: j13 :: j14 :: j15 :: j16 :: j17 :: j18 :: j19 :: j20 :: j21 :: j22 :: j23 :: j24 :: j25 :: j26 :: j27 :: j28 :: j29 :: j30 :: j31 :: j32 :: j33 :: j34 :: j35 :: []), []⟩ Q)
    (hR : ∀ (i : Nat), ∀ j2 j3 j5 j6 j7 j8 j12 j13 j14 j15 j16 j17 j18 j19 j20 j21 j22 j23 j24 j25 j26 j27 j28 j29 j30 j31 j32 j33 j34 j35 : AV, WX Try.prog (RelU Try.prog xf) 0 K .ret ⟨((al f p) :: (al g q) :: j2 :: j3 :: (ai (cmpL p q)) :: j5 :: j6 :: j7 :: j8 :: (al f p) :: (ai p.length) :: (ai i) :: j12 :: j13 :: j14 :: j15 :: j16 :: j17 :: j18 :: j19 :: j20 :: j21 :: j22 :: j23 :: j24 :: j25 :: j26 :: j27 :: j28 :: j29 :: j30 :: j31 :: j32 :: j33 :: j34 :: j35 :: []), []⟩ Q) :
    ∀ (k i : Nat), i + k = p.length → cmpL p q = cmpL (p.drop i) (q.drop i) → ∀ j2 j3 j5 j6 j7 j8 j12 j13 j14 j15 j16 j17 j18 j19 j20 j21 j22 j23 j24 j25 j26 j27 j28 j29 j30 j31 j32 j33 j34 j35 : AV, W Try.prog (RelU Try.prog xf) 0 (.code (.loop xf32_L0) :: .blk 0 :: .stop :: K) ⟨((al f p) :: (al g q) :: j2 :: j3 :: (ai 0) :: j5 :: j6 :: j7 :: j8 :: (al f p) :: (ai p.length) :: (ai i) :: j12 :: j13 :: j14 :: j15 :: j16 :: j17 :: j18 :: j19 :: j20 :: j21 :: j22 :: j23 :: j24 :: j25 :: j26 :: j27 :: j28 :: j29 :: j30 :: j31 :: j32 :: j33 :: j34 :: j35 :: []), []⟩ Q := by
  intro k
  induction k with
  | zero =>
    intro i hi hf j2 j3 j5 j6 j7 j8 j12 j13 j14 j15 j16 j17 j18 j19 j20 j21 j22 j23 j24 j25 j26 j27 j28 j29 j30 j31 j32 j33 j34 j35
    have : i = p.length := by omega
    subst this
    have h0 : decide (p.length < p.length) = false := by simp
    rw [List.drop_length, hpq, List.drop_length] at hf
    refine W_loop (W_run 80 ?_)
    simp (maxSteps := 2000000) only [SA, Nat.reduceDiv, Nat.reduceSub, Nat.reduceAdd, Int.reduceLT, Int.reduceLE, Int.reduceToNat, Nat.reduceMul, Nat.reduceEqDiff, reduceCtorEq, Nat.reduceBEq, Nat.reduceLeDiff, Nat.reduceLT, xf32_L0, ai, al, lt_cast, h0]
    exact W_stop (hK (by rw [hf]; rfl) _ _ _ _ _ _ _ _ _ _ _ _ _ _ _ _ _ _ _ _ _ _ _ _ _ _ _ _ _ _)
  | succ k ih =>
    intro i hi hf j2 j3 j5 j6 j7 j8 j12 j13 j14 j15 j16 j17 j18 j19 j20 j21 j22 j23 j24 j25 j26 j27 j28 j29 j30 j31 j32 j33 j34 j35
    have h1 : i < p.length := by omega
    have h2 : i < q.length := by omega
    have h0 : decide (i < p.length) = true := decide_eq_true h1
    have d0 : decide ((q.length : Int) ≤ (i : Int)) = false := decide_eq_false (by omega)
    have i2 : (i : Int) < (q.length : Int) := by omega
    rw [drop_at (d := 0) h1, drop_at (d := 0) h2, cmpL] at hf
    have gp := get_al h1
    have gq := get_al h2
    have wi : IntKind.i64.wrap ((i : Int) + 1) = ((i + 1 : Nat) : Int) := by rw [wrap_id (by omega) (by omega)]; simp
    have next := ih (i + 1) (by omega)
    have hret := hR i
    have hcm := cm_run (p.getD i 0) (q.getD i 0)
    generalize p.getD i 0 = x at *
    generalize q.getD i 0 = y at *
    refine W_loop (W_run 80 ?_)
    simp (maxSteps := 2000000) only [SA, Nat.reduceDiv, Nat.reduceSub, Nat.reduceAdd, Int.reduceLT, Int.reduceLE, Int.reduceToNat, Nat.reduceMul, Nat.reduceEqDiff, reduceCtorEq, Nat.reduceBEq, Nat.reduceLeDiff, Nat.reduceLT, xf32_L0, ai, al, lt_cast, h0, gp, gq, d0]
    refine W_call (args := [ai x, ai y]) rfl rfl hcm rfl (W_run 80 ?_)
    by_cases hc : cm x y = 0
    · rw [if_pos hc] at hf
      have e : (cm x y != 0) = false := by rw [hc]; rfl
      have next := next hf
      simp (maxSteps := 2000000) only [SA, Nat.reduceDiv, Nat.reduceSub, Nat.reduceAdd, Int.reduceLT, Int.reduceLE, Int.reduceToNat, Nat.reduceMul, Nat.reduceEqDiff, reduceCtorEq, Nat.reduceBEq, Nat.reduceLeDiff, Nat.reduceLT, ai, e, wi]
      exact next _ _ _ _ _ _ _ _ _ _ _ _ _ _ _ _ _ _ _ _ _ _ _ _ _ _ _ _ _ _
    · rw [if_neg hc] at hf
      have e : (cm x y != 0) = true := by rw [bne_iff_ne]; exact hc
      rw [hf] at hret
      simp (maxSteps := 2000000) only [SA, Nat.reduceDiv, Nat.reduceSub, Nat.reduceAdd, Int.reduceLT, Int.reduceLE, Int.reduceToNat, Nat.reduceMul, Nat.reduceEqDiff, reduceCtorEq, Nat.reduceBEq, Nat.reduceLeDiff, Nat.reduceLT, ai, e]
      exact W_ret1 (WX_pop (hret _ _ _ _ _ _ _ _ _ _ _ _ _ _ _ _ _ _ _ _ _ _ _ _ _ _ _ _ _ _))
theorem cmp_run (f g : Bool) (p q : List Int) (hpq : p.length = q.length) (hn : p.length ≤ 100) : Runs Try.prog xf 32 [al f p, al g q] (ai (cmpL p q)) := by
  have d0 : decide ((p.length : Int) < (q.length : Int)) = false := decide_eq_false (by omega)
  refine Runs.ofW (fn := xf32) 20 (by kernel_rfl) (W_run 80 ?_)
  simp (maxSteps := 2000000) only [SA, Nat.reduceDiv, Nat.reduceSub, Nat.reduceAdd, Int.reduceLT, Int.reduceLE, Int.reduceToNat, Nat.reduceMul, Nat.reduceEqDiff, reduceCtorEq, Nat.reduceBEq, Nat.reduceLeDiff, Nat.reduceLT, xf32, ai, al]
  refine W_alone (cmp_loop f g p q hpq hn _ _ (fun hf j2 j3 j5 j6 j7 j8 j12 j13 j14 j15 j16 j17 j18 j19 j20 j21 j22 j23 j24 j25 j26 j27 j28 j29 j30 j31 j32 j33 j34 j35 => W_run 80 ?_) (fun i j2 j3 j5 j6 j7 j8 j12 j13 j14 j15 j16 j17 j18 j19 j20 j21 j22 j23 j24 j25 j26 j27 j28 j29 j30 j31 j32 j33 j34 j35 => ?_) p.length 0 (by omega) rfl _ _ _ _ _ _ _ _ _ _ _ _ _ _ _ _ _ _ _ _ _ _ _ _ _ _ _ _ _ _)
  · simp (maxSteps := 2000000) only [SA, Nat.reduceDiv, Nat.reduceSub, Nat.reduceAdd, Int.reduceLT, Int.reduceLE, Int.reduceToNat, Nat.reduceMul, Nat.reduceEqDiff, reduceCtorEq, Nat.reduceBEq, Nat.reduceLeDiff, Nat.reduceLT, xf32_R0, ai, al, d0]
    rw [hf]
    exact W_ret1 (WX_nil ⟨.inl rfl, _, rfl, rfl⟩)
  · exact WX_pop (WX_nil ⟨.inl rfl, _, rfl, rfl⟩)
/-! ### the heap of the law -/
def bx (T : List (List Int)) : Nat × Option Ob := (1, some ⟨26, 1, [aT T]⟩)
def hB (T : List (List Int)) (q14 q40 q59 q72 : Nat × Option Ob) : Heap := [(3, bx T), (14, q14), (40, q40), (59, q59), (72, q72)]
def wv (W : List (List Int)) : AV := match W with | [] => nilA | x :: t => .os 40 1 (t.length + 1) 1 0 (t.length + 1)
def wr (W : List (List Int)) : Nat × Option Ob := match W with | [] => (0, none) | x :: t => (1, some ⟨37, 1, al false x :: t.map (al false)⟩)
/-! ### the plans within -/
theorem wit_loop {n : Nat} {T : List (List Int)} (hg : gT n T) (Ps : List (List Int)) (hPs : ∀ p, p ∈ Ps → inC n p ∧ p.length = n) (hn : Ps.length ≤ 100) (q14 q59 q72 : Nat × Option Ob) (K : List Fr) (Q : Out → Cfg → Prop)
    (hK : ∀ Wi, Wi = Ps.filter (fun p => decide (0 < wgt T p)) → ∀ j0 j1 j2 j6 j7 j8 j9 j10 j11 j12 j13 j14 j15 j16 j17 j18 j19 j20 j21 j22 j23 j24 j25 j26 j30 j31 j32 j33 j34 j35 j36 j37 j38 j39 j40 j41 j42 j43 j44 j45 j46 j47 j48 j49 j50 j51 j52 j53 j54 j55 j56 j57 j58 j59 j60 j61 j62 j63 j64 j65 j66 j67 j68 j69 j70 j71 j72 j73 j74 j75 j76 j77 j78 j79 j80 j81 j82 j83 j84 j85 j86 j87 j88 j89 j90 j91 j92 j93 j94 j95 j96 j97 j98 j99 j100 j101 j102 j103 j104 j105 j106 j107 j108 j109 j110 j111 j112 j113 j114 j115 j116 j117 j118 j119 j120 j121 j122 j123 j124 j125 j126 j127 j128 j129 j130 j131 j132 j133 j134 j135 j136 j137 j138 j139 j140 j141 j142 j143 j144 j145 j146 j147 j148 j149 j150 j151 j152 j153 j154 j155 j156 j157 j158 j159 j160 j161 j162 j163 j164 j165 j166 j167 j168 j169 j170 j171 j172 j173 j174 j175 j176 j177 j178 j179 j180 j181 j182 j183 j184 j185 j186 j187 j188 j189 j190 j191 j192 j193 j194 j195 j196 j197 j198 j199 j200 : AV, W Try.prog (RelU Try.prog xf) 0 K ⟨(j0 :: j1 :: j2 :: (.o 3 1 1 0 0) :: (ai n) :: (wv Wi) :: j6 :: j7 :: j8 :: j9 :: j10 :: j11 :: j12 :: j13 :: j14 :: j15 :: j16 :: j17 :: j18 :: j19 :: j20 :: j21 :: j22 :: j23 :: j24 :: j25 :: j26 :: (aT Ps) :: (ai Ps.length) :: (ai Ps.length) :: j30 :: j31 :: j32 :: j33 :: j34 :: j35 :: j36 :: j37 :: j38 :: j39 :: j40 :: j41 :: j42 :: j43 :: j44 :: j45 :: j46 :: j47 :: j48 :: j49 :: j50 :: j51 :: j52 :: j53 :: j54 :: j55 :: j56 :: j57 :: j58 :: j59 :: j60 :: j61 :: j62 :: j63 :: j64 :: j65 :: j66 :: j67 :: j68 :: j69 :: j70 :: j71 :: j72 :: j73 :: j74 :: j75 :: j76 :: j77 :: j78 :: j79 :: j80 :: j81 :: j82 :: j83 :: j84 :: j85 :: j86 :: j87 :: j88 :: j89 :: j90 :: j91 :: j92 :: j93 :: j94 :: j95 :: j96 :: j97 :: j98 :: j99 :: j100 :: j101 :: j102 :: j103 :: j104 :: j105 :: j106 :: j107 :: j108 :: j109 :: j110 :: j111 :: j112 :: j113 :: j114 :: j115 :: j116 :: j117 :: j118 :: j119 :: j120 :: j121 :: j122 :: j123 :: j124 :: j125 :: j126 :: j127 :: j128 :: j129 :: j130 :: j131 :: j132 :: j133 :: j134 :: j135 :: j136 :: j137 :: j138 :: j139 :: j140 :: j141 :: j142 :: j143 :: j144 :: j145 :: j146 :: j147 :: j148 :: j149 :: j150 :: j151 :: j152 :: j153 :: j154 :: j155 :: j156 :: j157 :: j158 :: j159 :: j160 :: j161 :: j162 :: j163 :: j164 :: j165 :: j166 :: j167 :: j168 :: j169 :: j170 :: j171 :: j172 :: j173 :: j174 :: j175 :: j176 :: j177 :: j178 :: j179 :: j180 :: j181 :: j182 :: j183 :: j184 :: j185 :: j186 :: j187 :: j188 :: j189 :: j190 :: j191 :: j192 :: j193 :: j194 :: j195 :: j196 :: j197 :: j198 :: j199 :: j200 :: []), hB T q14 (wr Wi) q59 q72⟩ Q) :
    ∀ (k i : Nat), i + k = Ps.length → ∀ Wi, Wi = (Ps.take i).filter (fun p => decide (0 < wgt T p)) → ∀ j0 j1 j2 j6 j7 j8 j9 j10 j11 j12 j13 j14 j15 j16 j17 j18 j19 j20 j21 j22 j23 j24 j25 j26 j30 j31 j32 j33 j34 j35 j36 j37 j38 j39 j40 j41 j42 j43 j44 j45 j46 j47 j48 j49 j50 j51 j52 j53 j54 j55 j56 j57 j58 j59 j60 j61 j62 j63 j64 j65 j66 j67 j68 j69 j70 j71 j72 j73 j74 j75 j76 j77 j78 j79 j80 j81 j82 j83 j84 j85 j86 j87 j88 j89 j90 j91 j92 j93 j94 j95 j96 j97 j98 j99 j100 j101 j102 j103 j104 j105 j106 j107 j108 j109 j110 j111 j112 j113 j114 j115 j116 j117 j118 j119 j120 j121 j122 j123 j124 j125 j126 j127 j128 j129 j130 j131 j132 j133 j134 j135 j136 j137 j138 j139 j140 j141 j142 j143 j144 j145 j146 j147 j148 j149 j150 j151 j152 j153 j154 j155 j156 j157 j158 j159 j160 j161 j162 j163 j164 j165 j166 j167 j168 j169 j170 j171 j172 j173 j174 j175 j176 j177 j178 j179 j180 j181 j182 j183 j184 j185 j186 j187 j188 j189 j190 j191 j192 j193 j194 j195 j196 j197 j198 j199 j200 : AV, W Try.prog (RelU Try.prog xf) 0 (.code (.loop xf4_L0) :: .blk 0 :: .stop :: K) ⟨(j0 :: j1 :: j2 :: (.o 3 1 1 0 0) :: (ai n) :: (wv Wi) :: j6 :: j7 :: j8 :: j9 :: j10 :: j11 :: j12 :: j13 :: j14 :: j15 :: j16 :: j17 :: j18 :: j19 :: j20 :: j21 :: j22 :: j23 :: j24 :: j25 :: j26 :: (aT Ps) :: (ai Ps.length) :: (ai i) :: j30 :: j31 :: j32 :: j33 :: j34 :: j35 :: j36 :: j37 :: j38 :: j39 :: j40 :: j41 :: j42 :: j43 :: j44 :: j45 :: j46 :: j47 :: j48 :: j49 :: j50 :: j51 :: j52 :: j53 :: j54 :: j55 :: j56 :: j57 :: j58 :: j59 :: j60 :: j61 :: j62 :: j63 :: j64 :: j65 :: j66 :: j67 :: j68 :: j69 :: j70 :: j71 :: j72 :: j73 :: j74 :: j75 :: j76 :: j77 :: j78 :: j79 :: j80 :: j81 :: j82 :: j83 :: j84 :: j85 :: j86 :: j87 :: j88 :: j89 :: j90 :: j91 :: j92 :: j93 :: j94 :: j95 :: j96 :: j97 :: j98 :: j99 :: j100 :: j101 :: j102 :: j103 :: j104 :: j105 :: j106 :: j107 :: j108 :: j109 :: j110 :: j111 :: j112 :: j113 :: j114 :: j115 :: j116 :: j117 :: j118 :: j119 :: j120 :: j121 :: j122 :: j123 :: j124 :: j125 :: j126 :: j127 :: j128 :: j129 :: j130 :: j131 :: j132 :: j133 :: j134 :: j135 :: j136 :: j137 :: j138 :: j139 :: j140 :: j141 :: j142 :: j143 :: j144 :: j145 :: j146 :: j147 :: j148 :: j149 :: j150 :: j151 :: j152 :: j153 :: j154 :: j155 :: j156 :: j157 :: j158 :: j159 :: j160 :: j161 :: j162 :: j163 :: j164 :: j165 :: j166 :: j167 :: j168 :: j169 :: j170 :: j171 :: j172 :: j173 :: j174 :: j175 :: j176 :: j177 :: j178 :: j179 :: j180 :: j181 :: j182 :: j183 :: j184 :: j185 :: j186 :: j187 :: j188 :: j189 :: j190 :: j191 :: j192 :: j193 :: j194 :: j195 :: j196 :: j197 :: j198 :: j199 :: j200 :: []), hB T q14 (wr Wi) q59 q72⟩ Q := by
  intro k
  induction k with
  | zero =>
    intro i hi Wi hW j0 j1 j2 j6 j7 j8 j9 j10 j11 j12 j13 j14 j15 j16 j17 j18 j19 j20 j21 j22 j23 j24 j25 j26 j30 j31 j32 j33 j34 j35 j36 j37 j38 j39 j40 j41 j42 j43 j44 j45 j46 j47 j48 j49 j50 j51 j52 j53 j54 j55 j56 j57 j58 j59 j60 j61 j62 j63 j64 j65 j66 j67 j68 j69 j70 j71 j72 j73 j74 j75 j76 j77 j78 j79 j80 j81 j82 j83 j84 j85 j86 j87 j88 j89 j90 j91 j92 j93 j94 j95 j96 j97 j98 j99 j100 j101 j102 j103 j104 j105 j106 j107 j108 j109 j110 j111 j112 j113 j114 j115 j116 j117 j118 j119 j120 j121 j122 j123 j124 j125 j126 j127 j128 j129 j130 j131 j132 j133 j134 j135 j136 j137 j138 j139 j140 j141 j142 j143 j144 j145 j146 j147 j148 j149 j150 j151 j152 j153 j154 j155 j156 j157 j158 j159 j160 j161 j162 j163 j164 j165 j166 j167 j168 j169 j170 j171 j172 j173 j174 j175 j176 j177 j178 j179 j180 j181 j182 j183 j184 j185 j186 j187 j188 j189 j190 j191 j192 j193 j194 j195 j196 j197 j198 j199 j200
    have : i = Ps.length := by omega
    subst this
    have h0 : decide (Ps.length < Ps.length) = false := by simp
    rw [List.take_length] at hW
    have hK := hK Wi hW
    generalize wv Wi = w at *
    generalize wr Wi = w2 at *
    refine W_loop (W_run 80 ?_)
    simp (maxSteps := 2000000) only [SA, Nat.reduceDiv, Nat.reduceSub, Nat.reduceAdd, Int.reduceLT, Int.reduceLE, Int.reduceToNat, Nat.reduceMul, Nat.reduceEqDiff, reduceCtorEq, Nat.reduceBEq, Nat.reduceLeDiff, Nat.reduceLT, xf4_L0, ai, aT, lt_cast, h0]
    exact W_stop (hK _ _ _ _ _ _ _ _ _ _ _ _ _ _ _ _ _ _ _ _ _ _ _ _ _ _ _ _ _ _ _ _ _ _ _ _ _ _ _ _ _ _ _ _ _ _ _ _ _ _ _ _ _ _ _ _ _ _ _ _ _ _ _ _ _ _ _ _ _ _ _ _ _ _ _ _ _ _ _ _ _ _ _ _ _ _ _ _ _ _ _ _ _ _ _ _ _ _ _ _ _ _ _ _ _ _ _ _ _ _ _ _ _ _ _ _ _ _ _ _ _ _ _ _ _ _ _ _ _ _ _ _ _ _ _ _ _ _ _ _ _ _ _ _ _ _ _ _ _ _ _ _ _ _ _ _ _ _ _ _ _ _ _ _ _ _ _ _ _ _ _ _ _ _ _ _ _ _ _ _ _ _ _ _ _ _ _ _ _ _ _ _ _ _ _)
  | succ k ih =>
    intro i hi Wi hW j0 j1 j2 j6 j7 j8 j9 j10 j11 j12 j13 j14 j15 j16 j17 j18 j19 j20 j21 j22 j23 j24 j25 j26 j30 j31 j32 j33 j34 j35 j36 j37 j38 j39 j40 j41 j42 j43 j44 j45 j46 j47 j48 j49 j50 j51 j52 j53 j54 j55 j56 j57 j58 j59 j60 j61 j62 j63 j64 j65 j66 j67 j68 j69 j70 j71 j72 j73 j74 j75 j76 j77 j78 j79 j80 j81 j82 j83 j84 j85 j86 j87 j88 j89 j90 j91 j92 j93 j94 j95 j96 j97 j98 j99 j100 j101 j102 j103 j104 j105 j106 j107 j108 j109 j110 j111 j112 j113 j114 j115 j116 j117 j118 j119 j120 j121 j122 j123 j124 j125 j126 j127 j128 j129 j130 j131 j132 j133 j134 j135 j136 j137 j138 j139 j140 j141 j142 j143 j144 j145 j146 j147 j148 j149 j150 j151 j152 j153 j154 j155 j156 j157 j158 j159 j160 j161 j162 j163 j164 j165 j166 j167 j168 j169 j170 j171 j172 j173 j174 j175 j176 j177 j178 j179 j180 j181 j182 j183 j184 j185 j186 j187 j188 j189 j190 j191 j192 j193 j194 j195 j196 j197 j198 j199 j200
    have h1 : i < Ps.length := by omega
    have h0 : decide (i < Ps.length) = true := decide_eq_true h1
    have hget := get_T h1
    obtain ⟨l1, l2⟩ := hPs _ (getD_mem (d := []) h1)
    have hwl : Wi.length ≤ i := by rw [hW]; exact Nat.le_trans (List.length_filter_le _ _) (by rw [List.length_take]; omega)
    have hnx : (Ps.take (i + 1)).filter (fun p => decide (0 < wgt T p)) = Wi ++ (if decide (0 < wgt T (Ps.getD i [])) = true then [Ps.getD i []] else []) := by
      rw [take_snoc (d := []) h1, List.filter_append, ← hW, List.filter_cons, List.filter_nil]
    have hwr := wgt_run hg false l1 (by omega)
    have wi : IntKind.i64.wrap ((i : Int) + 1) = ((i + 1 : Nat) : Int) := by rw [wrap_id (by omega) (by omega)]; simp
    have next := fun Wi hW => ih (i + 1) (by omega) Wi hW
    generalize Ps.getD i [] = p at *
    cases hd : decide (0 < wgt T p) with
    | true =>
      rw [hd, if_pos rfl] at hnx
      have next := next _ hnx.symm
      refine W_loop (W_run 120 ?_)
      cases Wi with
      | nil =>
        simp only [wv, wr, List.nil_append, List.map_nil, List.length_nil] at next ⊢
        simp (maxSteps := 2000000) only [SA, Nat.reduceDiv, Nat.reduceSub, Nat.reduceAdd, Int.reduceLT, Int.reduceLE, Int.reduceToNat, Nat.reduceMul, Nat.reduceEqDiff, reduceCtorEq, Nat.reduceBEq, Nat.reduceLeDiff, Nat.reduceLT, xf4_L0, ai, al, aT, hB, bx, lt_cast, h0, hget]
        refine W_call (args := [aT T, al false p]) rfl (noRefs_2 (noRef_T _) (noRef_al _ _)) hwr rfl (W_run 120 ?_)
        simp (maxSteps := 2000000) only [SA, Nat.reduceDiv, Nat.reduceSub, Nat.reduceAdd, Int.reduceLT, Int.reduceLE, Int.reduceToNat, Nat.reduceMul, Nat.reduceEqDiff, reduceCtorEq, Nat.reduceBEq, Nat.reduceLeDiff, Nat.reduceLT, ai, al, aT, nilA, hd, wi, Go.Proofs.Eng.elems, List.map_cons, List.map_nil]
        exact next _ _ _ _ _ _ _ _ _ _ _ _ _ _ _ _ _ _ _ _ _ _ _ _ _ _ _ _ _ _ _ _ _ _ _ _ _ _ _ _ _ _ _ _ _ _ _ _ _ _ _ _ _ _ _ _ _ _ _ _ _ _ _ _ _ _ _ _ _ _ _ _ _ _ _ _ _ _ _ _ _ _ _ _ _ _ _ _ _ _ _ _ _ _ _ _ _ _ _ _ _ _ _ _ _ _ _ _ _ _ _ _ _ _ _ _ _ _ _ _ _ _ _ _ _ _ _ _ _ _ _ _ _ _ _ _ _ _ _ _ _ _ _ _ _ _ _ _ _ _ _ _ _ _ _ _ _ _ _ _ _ _ _ _ _ _ _ _ _ _ _ _ _ _ _ _ _ _ _ _ _ _ _ _ _ _ _ _ _ _ _ _ _ _ _
      | cons y t =>
        have q1 : (t.length + 1 + 1) * 24 ≤ 100000000000000 := by simp only [List.length_cons] at hwl; omega
        have q2 : t.length + 1 + 1 ≤ 100000000000000 := by simp only [List.length_cons] at hwl; omega
        simp only [wv, wr, List.cons_append, List.length_append, List.length_cons, List.length_nil, List.map_append, List.map_cons, List.map_nil] at next ⊢
        simp (maxSteps := 2000000) only [SA, Nat.reduceDiv, Nat.reduceSub, Nat.reduceAdd, Int.reduceLT, Int.reduceLE, Int.reduceToNat, Nat.reduceMul, Nat.reduceEqDiff, reduceCtorEq, Nat.reduceBEq, Nat.reduceLeDiff, Nat.reduceLT, xf4_L0, ai, al, aT, hB, bx, lt_cast, h0, hget]
        refine W_call (args := [aT T, al false p]) rfl (noRefs_2 (noRef_T _) (noRef_al _ _)) hwr rfl (W_run 120 ?_)
        simp (maxSteps := 2000000) only [SA, Nat.reduceDiv, Nat.reduceSub, Nat.reduceAdd, Int.reduceLT, Int.reduceLE, Int.reduceToNat, Nat.reduceMul, Nat.reduceEqDiff, reduceCtorEq, Nat.reduceBEq, Nat.reduceLeDiff, Nat.reduceLT, ai, al, aT, nilA, hd, wi, q1, q2, Go.Proofs.Eng.elems, List.map_cons, List.map_nil]
        exact next _ _ _ _ _ _ _ _ _ _ _ _ _ _ _ _ _ _ _ _ _ _ _ _ _ _ _ _ _ _ _ _ _ _ _ _ _ _ _ _ _ _ _ _ _ _ _ _ _ _ _ _ _ _ _ _ _ _ _ _ _ _ _ _ _ _ _ _ _ _ _ _ _ _ _ _ _ _ _ _ _ _ _ _ _ _ _ _ _ _ _ _ _ _ _ _ _ _ _ _ _ _ _ _ _ _ _ _ _ _ _ _ _ _ _ _ _ _ _ _ _ _ _ _ _ _ _ _ _ _ _ _ _ _ _ _ _ _ _ _ _ _ _ _ _ _ _ _ _ _ _ _ _ _ _ _ _ _ _ _ _ _ _ _ _ _ _ _ _ _ _ _ _ _ _ _ _ _ _ _ _ _ _ _ _ _ _ _ _ _ _ _ _ _ _
    | false =>
      rw [hd, if_neg (by simp), List.append_nil] at hnx
      have next := next _ hnx.symm
      generalize hwv : wv Wi = w at *
      generalize hwr2 : wr Wi = w2 at *
      refine W_loop (W_run 120 ?_)
      simp (maxSteps := 2000000) only [SA, Nat.reduceDiv, Nat.reduceSub, Nat.reduceAdd, Int.reduceLT, Int.reduceLE, Int.reduceToNat, Nat.reduceMul, Nat.reduceEqDiff, reduceCtorEq, Nat.reduceBEq, Nat.reduceLeDiff, Nat.reduceLT, xf4_L0, ai, al, aT, hB, bx, lt_cast, h0, hget]
      refine W_call (args := [aT T, al false p]) rfl (noRefs_2 (noRef_T _) (noRef_al _ _)) hwr rfl (W_run 120 ?_)
      simp (maxSteps := 2000000) only [SA, Nat.reduceDiv, Nat.reduceSub, Nat.reduceAdd, Int.reduceLT, Int.reduceLE, Int.reduceToNat, Nat.reduceMul, Nat.reduceEqDiff, reduceCtorEq, Nat.reduceBEq, Nat.reduceLeDiff, Nat.reduceLT, ai, al, aT, hd, wi]
      exact next _ _ _ _ _ _ _ _ _ _ _ _ _ _ _ _ _ _ _ _ _ _ _ _ _ _ _ _ _ _ _ _ _ _ _ _ _ _ _ _ _ _ _ _ _ _ _ _ _ _ _ _ _ _ _ _ _ _ _ _ _ _ _ _ _ _ _ _ _ _ _ _ _ _ _ _ _ _ _ _ _ _ _ _ _ _ _ _ _ _ _ _ _ _ _ _ _ _ _ _ _ _ _ _ _ _ _ _ _ _ _ _ _ _ _ _ _ _ _ _ _ _ _ _ _ _ _ _ _ _ _ _ _ _ _ _ _ _ _ _ _ _ _ _ _ _ _ _ _ _ _ _ _ _ _ _ _ _ _ _ _ _ _ _ _ _ _ _ _ _ _ _ _ _ _ _ _ _ _ _ _ _ _ _ _ _ _ _ _ _ _ _ _ _ _
/-! ### the rows of a set -/
def av (key g : Nat) (A : List Int) : AV := match A with | [] => nilA | x :: t => .os key (g + 1) (t.length + 1) 1 0 (t.length + 1)
def ar (g : Nat) (A : List Int) : Nat × Option Ob := match A with | [] => (g, none) | x :: t => (g + 1, some ⟨3, 1, ai x :: t.map ai⟩)
theorem row_loop (n st : Nat) (hn : n ≤ 4) (T : List (List Int)) (g : Nat) (x5 x8 x9 x15 x43 : AV) (q14 q40 q72 : Nat × Option Ob) (K : List Fr) (Q : Out → Cfg → Prop)
    (hK : ∀ A, A = bitL st n → ∀ j0 j1 j2 j6 j7 j13 j14 j16 j17 j18 j19 j20 j21 j22 j23 j24 j25 j26 j27 j28 j29 j30 j31 j32 j33 j34 j35 j36 j37 j38 j39 j40 j41 j42 j45 j46 j49 j50 j51 j52 j53 j54 j55 j56 j57 j58 j59 j60 j61 j62 j63 j64 j65 j66 j67 j68 j69 j70 j71 j72 j73 j74 j75 j76 j77 j78 j79 j80 j81 j82 j83 j84 j85 j86 j87 j88 j89 j90 j91 j92 j93 j94 j95 j96 j97 j98 j99 j100 j101 j102 j103 j104 j105 j106 j107 j108 j109 j110 j111 j112 j113 j114 j115 j116 j117 j118 j119 j120 j121 j122 j123 j124 j125 j126 j127 j128 j129 j130 j131 j132 j133 j134 j135 j136 j137 j138 j139 j140 j141 j142 j143 j144 j145 j146 j147 j148 j149 j150 j151 j152 j153 j154 j155 j156 j157 j158 j159 j160 j161 j162 j163 j164 j165 j166 j167 j168 j169 j170 j171 j172 j173 j174 j175 j176 j177 j178 j179 j180 j181 j182 j183 j184 j185 j186 j187 j188 j189 j190 j191 j192 j193 j194 j195 j196 j197 j198 j199 j200 : AV, W Try.prog (RelU Try.prog xf) 0 K ⟨(j0 :: j1 :: j2 :: (.o 3 1 1 0 0) :: (ai n) :: x5 :: j6 :: j7 :: x8 :: x9 :: (ai st) :: (av 59 g A) :: nilA :: j13 :: j14 :: x15 :: j16 :: j17 :: j18 :: j19 :: j20 :: j21 :: j22 :: j23 :: j24 :: j25 :: j26 :: j27 :: j28 :: j29 :: j30 :: j31 :: j32 :: j33 :: j34 :: j35 :: j36 :: j37 :: j38 :: j39 :: j40 :: j41 :: j42 :: x43 :: (ai st) :: j45 :: j46 :: (ai n) :: (ai n) :: j49 :: j50 :: j51 :: j52 :: j53 :: j54 :: j55 :: j56 :: j57 :: j58 :: j59 :: j60 :: j61 :: j62 :: j63 :: j64 :: j65 :: j66 :: j67 :: j68 :: j69 :: j70 :: j71 :: j72 :: j73 :: j74 :: j75 :: j76 :: j77 :: j78 :: j79 :: j80 :: j81 :: j82 :: j83 :: j84 :: j85 :: j86 :: j87 :: j88 :: j89 :: j90 :: j91 :: j92 :: j93 :: j94 :: j95 :: j96 :: j97 :: j98 :: j99 :: j100 :: j101 :: j102 :: j103 :: j104 :: j105 :: j106 :: j107 :: j108 :: j109 :: j110 :: j111 :: j112 :: j113 :: j114 :: j115 :: j116 :: j117 :: j118 :: j119 :: j120 :: j121 :: j122 :: j123 :: j124 :: j125 :: j126 :: j127 :: j128 :: j129 :: j130 :: j131 :: j132 :: j133 :: j134 :: j135 :: j136 :: j137 :: j138 :: j139 :: j140 :: j141 :: j142 :: j143 :: j144 :: j145 :: j146 :: j147 :: j148 :: j149 :: j150 :: j151 :: j152 :: j153 :: j154 :: j155 :: j156 :: j157 :: j158 :: j159 :: j160 :: j161 :: j162 :: j163 :: j164 :: j165 :: j166 :: j167 :: j168 :: j169 :: j170 :: j171 :: j172 :: j173 :: j174 :: j175 :: j176 :: j177 :: j178 :: j179 :: j180 :: j181 :: j182 :: j183 :: j184 :: j185 :: j186 :: j187 :: j188 :: j189 :: j190 :: j191 :: j192 :: j193 :: j194 :: j195 :: j196 :: j197 :: j198 :: j199 :: j200 :: []), hB T q14 q40 (ar g A) q72⟩ Q) :
    ∀ (m k : Nat), k + m = n → ∀ A, A = bitL st k → ∀ j0 j1 j2 j6 j7 j13 j14 j16 j17 j18 j19 j20 j21 j22 j23 j24 j25 j26 j27 j28 j29 j30 j31 j32 j33 j34 j35 j36 j37 j38 j39 j40 j41 j42 j45 j46 j49 j50 j51 j52 j53 j54 j55 j56 j57 j58 j59 j60 j61 j62 j63 j64 j65 j66 j67 j68 j69 j70 j71 j72 j73 j74 j75 j76 j77 j78 j79 j80 j81 j82 j83 j84 j85 j86 j87 j88 j89 j90 j91 j92 j93 j94 j95 j96 j97 j98 j99 j100 j101 j102 j103 j104 j105 j106 j107 j108 j109 j110 j111 j112 j113 j114 j115 j116 j117 j118 j119 j120 j121 j122 j123 j124 j125 j126 j127 j128 j129 j130 j131 j132 j133 j134 j135 j136 j137 j138 j139 j140 j141 j142 j143 j144 j145 j146 j147 j148 j149 j150 j151 j152 j153 j154 j155 j156 j157 j158 j159 j160 j161 j162 j163 j164 j165 j166 j167 j168 j169 j170 j171 j172 j173 j174 j175 j176 j177 j178 j179 j180 j181 j182 j183 j184 j185 j186 j187 j188 j189 j190 j191 j192 j193 j194 j195 j196 j197 j198 j199 j200 : AV, W Try.prog (RelU Try.prog xf) 0 (.code (.loop xf4_L1) :: .blk 4 :: .stop :: K) ⟨(j0 :: j1 :: j2 :: (.o 3 1 1 0 0) :: (ai n) :: x5 :: j6 :: j7 :: x8 :: x9 :: (ai st) :: (av 59 g A) :: nilA :: j13 :: j14 :: x15 :: j16 :: j17 :: j18 :: j19 :: j20 :: j21 :: j22 :: j23 :: j24 :: j25 :: j26 :: j27 :: j28 :: j29 :: j30 :: j31 :: j32 :: j33 :: j34 :: j35 :: j36 :: j37 :: j38 :: j39 :: j40 :: j41 :: j42 :: x43 :: (ai st) :: j45 :: j46 :: (ai n) :: (ai k) :: j49 :: j50 :: j51 :: j52 :: j53 :: j54 :: j55 :: j56 :: j57 :: j58 :: j59 :: j60 :: j61 :: j62 :: j63 :: j64 :: j65 :: j66 :: j67 :: j68 :: j69 :: j70 :: j71 :: j72 :: j73 :: j74 :: j75 :: j76 :: j77 :: j78 :: j79 :: j80 :: j81 :: j82 :: j83 :: j84 :: j85 :: j86 :: j87 :: j88 :: j89 :: j90 :: j91 :: j92 :: j93 :: j94 :: j95 :: j96 :: j97 :: j98 :: j99 :: j100 :: j101 :: j102 :: j103 :: j104 :: j105 :: j106 :: j107 :: j108 :: j109 :: j110 :: j111 :: j112 :: j113 :: j114 :: j115 :: j116 :: j117 :: j118 :: j119 :: j120 :: j121 :: j122 :: j123 :: j124 :: j125 :: j126 :: j127 :: j128 :: j129 :: j130 :: j131 :: j132 :: j133 :: j134 :: j135 :: j136 :: j137 :: j138 :: j139 :: j140 :: j141 :: j142 :: j143 :: j144 :: j145 :: j146 :: j147 :: j148 :: j149 :: j150 :: j151 :: j152 :: j153 :: j154 :: j155 :: j156 :: j157 :: j158 :: j159 :: j160 :: j161 :: j162 :: j163 :: j164 :: j165 :: j166 :: j167 :: j168 :: j169 :: j170 :: j171 :: j172 :: j173 :: j174 :: j175 :: j176 :: j177 :: j178 :: j179 :: j180 :: j181 :: j182 :: j183 :: j184 :: j185 :: j186 :: j187 :: j188 :: j189 :: j190 :: j191 :: j192 :: j193 :: j194 :: j195 :: j196 :: j197 :: j198 :: j199 :: j200 :: []), hB T q14 q40 (ar g A) q72⟩ Q := by
  intro m
  induction m with
  | zero =>
    intro k hk A hA j0 j1 j2 j6 j7 j13 j14 j16 j17 j18 j19 j20 j21 j22 j23 j24 j25 j26 j27 j28 j29 j30 j31 j32 j33 j34 j35 j36 j37 j38 j39 j40 j41 j42 j45 j46 j49 j50 j51 j52 j53 j54 j55 j56 j57 j58 j59 j60 j61 j62 j63 j64 j65 j66 j67 j68 j69 j70 j71 j72 j73 j74 j75 j76 j77 j78 j79 j80 j81 j82 j83 j84 j85 j86 j87 j88 j89 j90 j91 j92 j93 j94 j95 j96 j97 j98 j99 j100 j101 j102 j103 j104 j105 j106 j107 j108 j109 j110 j111 j112 j113 j114 j115 j116 j117 j118 j119 j120 j121 j122 j123 j124 j125 j126 j127 j128 j129 j130 j131 j132 j133 j134 j135 j136 j137 j138 j139 j140 j141 j142 j143 j144 j145 j146 j147 j148 j149 j150 j151 j152 j153 j154 j155 j156 j157 j158 j159 j160 j161 j162 j163 j164 j165 j166 j167 j168 j169 j170 j171 j172 j173 j174 j175 j176 j177 j178 j179 j180 j181 j182 j183 j184 j185 j186 j187 j188 j189 j190 j191 j192 j193 j194 j195 j196 j197 j198 j199 j200
    have : k = n := by omega
    subst this
    have h0 : decide (k < k) = false := by simp
    have hK := hK A hA
    generalize av 59 g A = w at *
    generalize ar g A = w2 at *
    refine W_loop (W_run 80 ?_)
    simp (maxSteps := 2000000) only [SA, Nat.reduceDiv, Nat.reduceSub, Nat.reduceAdd, Int.reduceLT, Int.reduceLE, Int.reduceToNat, Nat.reduceMul, Nat.reduceEqDiff, reduceCtorEq, Nat.reduceBEq, Nat.reduceLeDiff, Nat.reduceLT, xf4_L1, ai, lt_cast, h0]
    exact W_stop (hK _ _ _ _ _ _ _ _ _ _ _ _ _ _ _ _ _ _ _ _ _ _ _ _ _ _ _ _ _ _ _ _ _ _ _ _ _ _ _ _ _ _ _ _ _ _ _ _ _ _ _ _ _ _ _ _ _ _ _ _ _ _ _ _ _ _ _ _ _ _ _ _ _ _ _ _ _ _ _ _ _ _ _ _ _ _ _ _ _ _ _ _ _ _ _ _ _ _ _ _ _ _ _ _ _ _ _ _ _ _ _ _ _ _ _ _ _ _ _ _ _ _ _ _ _ _ _ _ _ _ _ _ _ _ _ _ _ _ _ _ _ _ _ _ _ _ _ _ _ _ _ _ _ _ _ _ _ _ _ _ _ _ _ _ _ _ _ _ _ _ _ _ _ _ _ _ _ _ _ _ _ _ _ _ _ _ _ _)
  | succ m ih =>
    intro k hk A hA j0 j1 j2 j6 j7 j13 j14 j16 j17 j18 j19 j20 j21 j22 j23 j24 j25 j26 j27 j28 j29 j30 j31 j32 j33 j34 j35 j36 j37 j38 j39 j40 j41 j42 j45 j46 j49 j50 j51 j52 j53 j54 j55 j56 j57 j58 j59 j60 j61 j62 j63 j64 j65 j66 j67 j68 j69 j70 j71 j72 j73 j74 j75 j76 j77 j78 j79 j80 j81 j82 j83 j84 j85 j86 j87 j88 j89 j90 j91 j92 j93 j94 j95 j96 j97 j98 j99 j100 j101 j102 j103 j104 j105 j106 j107 j108 j109 j110 j111 j112 j113 j114 j115 j116 j117 j118 j119 j120 j121 j122 j123 j124 j125 j126 j127 j128 j129 j130 j131 j132 j133 j134 j135 j136 j137 j138 j139 j140 j141 j142 j143 j144 j145 j146 j147 j148 j149 j150 j151 j152 j153 j154 j155 j156 j157 j158 j159 j160 j161 j162 j163 j164 j165 j166 j167 j168 j169 j170 j171 j172 j173 j174 j175 j176 j177 j178 j179 j180 j181 j182 j183 j184 j185 j186 j187 j188 j189 j190 j191 j192 j193 j194 j195 j196 j197 j198 j199 j200
    have hkn : k < n := by omega
    have h0 : decide (k < n) = true := decide_eq_true hkn
    have k0 : ((k : Int) < 0) = False := eq_false (by omega)
    have wk : IntKind.i64.wrap ((k : Int) + 1) = ((k + 1 : Nat) : Int) := by rw [wrap_id (by omega) (by omega)]; simp
    have hAl : A.length ≤ k := by
      rw [hA]; unfold bitL; rw [List.length_map]
      exact Nat.le_trans (List.length_filter_le _ _) (by simp)
    have hnx := bitL_succ st k
    rw [← hA] at hnx
    have next := fun A hA => ih (k + 1) (by omega) A hA
    refine W_loop (W_run 120 ?_)
    cases hb : bitI st k with
    | true =>
      rw [hb, if_pos rfl] at hnx
      have next := next _ hnx.symm
      unfold bitI at hb
      cases A with
      | nil =>
        simp only [av, ar, List.nil_append, List.map_nil, List.length_nil] at next ⊢
        simp (maxSteps := 2000000) only [SA, Nat.reduceDiv, Nat.reduceSub, Nat.reduceAdd, Int.reduceLT, Int.reduceLE, Int.reduceToNat, Nat.reduceMul, Nat.reduceEqDiff, reduceCtorEq, Nat.reduceBEq, Nat.reduceLeDiff, Nat.reduceLT, xf4_L1, ai, nilA, hB, bx, lt_cast, h0, k0, wk, hb, Go.Proofs.Eng.elems, List.map_cons, List.map_nil]
        exact next _ _ _ _ _ _ _ _ _ _ _ _ _ _ _ _ _ _ _ _ _ _ _ _ _ _ _ _ _ _ _ _ _ _ _ _ _ _ _ _ _ _ _ _ _ _ _ _ _ _ _ _ _ _ _ _ _ _ _ _ _ _ _ _ _ _ _ _ _ _ _ _ _ _ _ _ _ _ _ _ _ _ _ _ _ _ _ _ _ _ _ _ _ _ _ _ _ _ _ _ _ _ _ _ _ _ _ _ _ _ _ _ _ _ _ _ _ _ _ _ _ _ _ _ _ _ _ _ _ _ _ _ _ _ _ _ _ _ _ _ _ _ _ _ _ _ _ _ _ _ _ _ _ _ _ _ _ _ _ _ _ _ _ _ _ _ _ _ _ _ _ _ _ _ _ _ _ _ _ _ _ _ _ _ _ _ _ _
      | cons y t =>
        have q1 : (t.length + 1 + 1) * 8 ≤ 100000000000000 := by simp only [List.length_cons] at hAl; omega
        have q2 : t.length + 1 + 1 ≤ 100000000000000 := by simp only [List.length_cons] at hAl; omega
        simp only [av, ar, List.cons_append, List.length_append, List.length_cons, List.length_nil, List.map_append, List.map_cons, List.map_nil] at next ⊢
        simp (maxSteps := 2000000) only [SA, Nat.reduceDiv, Nat.reduceSub, Nat.reduceAdd, Int.reduceLT, Int.reduceLE, Int.reduceToNat, Nat.reduceMul, Nat.reduceEqDiff, reduceCtorEq, Nat.reduceBEq, Nat.reduceLeDiff, Nat.reduceLT, xf4_L1, ai, nilA, hB, bx, lt_cast, h0, k0, wk, hb, q1, q2, Go.Proofs.Eng.elems, List.map_cons, List.map_nil]
        exact next _ _ _ _ _ _ _ _ _ _ _ _ _ _ _ _ _ _ _ _ _ _ _ _ _ _ _ _ _ _ _ _ _ _ _ _ _ _ _ _ _ _ _ _ _ _ _ _ _ _ _ _ _ _ _ _ _ _ _ _ _ _ _ _ _ _ _ _ _ _ _ _ _ _ _ _ _ _ _ _ _ _ _ _ _ _ _ _ _ _ _ _ _ _ _ _ _ _ _ _ _ _ _ _ _ _ _ _ _ _ _ _ _ _ _ _ _ _ _ _ _ _ _ _ _ _ _ _ _ _ _ _ _ _ _ _ _ _ _ _ _ _ _ _ _ _ _ _ _ _ _ _ _ _ _ _ _ _ _ _ _ _ _ _ _ _ _ _ _ _ _ _ _ _ _ _ _ _ _ _ _ _ _ _ _ _ _ _
    | false =>
      rw [hb, if_neg (by simp), List.append_nil] at hnx
      have next := next _ hnx.symm
      unfold bitI at hb
      generalize av 59 g A = w at *
      generalize ar g A = w2 at *
      simp (maxSteps := 2000000) only [SA, Nat.reduceDiv, Nat.reduceSub, Nat.reduceAdd, Int.reduceLT, Int.reduceLE, Int.reduceToNat, Nat.reduceMul, Nat.reduceEqDiff, reduceCtorEq, Nat.reduceBEq, Nat.reduceLeDiff, Nat.reduceLT, xf4_L1, ai, nilA, hB, bx, lt_cast, h0, k0, wk, hb]
      exact next _ _ _ _ _ _ _ _ _ _ _ _ _ _ _ _ _ _ _ _ _ _ _ _ _ _ _ _ _ _ _ _ _ _ _ _ _ _ _ _ _ _ _ _ _ _ _ _ _ _ _ _ _ _ _ _ _ _ _ _ _ _ _ _ _ _ _ _ _ _ _ _ _ _ _ _ _ _ _ _ _ _ _ _ _ _ _ _ _ _ _ _ _ _ _ _ _ _ _ _ _ _ _ _ _ _ _ _ _ _ _ _ _ _ _ _ _ _ _ _ _ _ _ _ _ _ _ _ _ _ _ _ _ _ _ _ _ _ _ _ _ _ _ _ _ _ _ _ _ _ _ _ _ _ _ _ _ _ _ _ _ _ _ _ _ _ _ _ _ _ _ _ _ _ _ _ _ _ _ _ _ _ _ _ _ _ _ _
/-! ### the columns of a set of rows -/
theorem haslB_run {n : Nat} {T : List (List Int)} (hg : gT n T) (r : Int) (hr : 0 ≤ r ∧ r < n) (c : Nat) (hc : c < n) : Runs Try.prog xf 31 [ai r, .ptr (aT T), .ptr (ai c)] (ab (decide (0 < cel T r.toNat c))) := by
  have hlen := hg.len
  have hgt := get_T (T := T) (i := r.toNat) (by omega)
  have hcl := get_cel hg (r := r.toNat) (c := (c : Int)) (by omega) (by omega)
  rw [toNat_cast] at hcl
  have hr0 := hr.1
  refine Runs.ofW (fn := xf31) 20 (by kernel_rfl) (W_run 80 ?_)
  simp (maxSteps := 2000000) only [SA, Nat.reduceDiv, Nat.reduceSub, Nat.reduceAdd, Int.reduceLT, Int.reduceLE, Int.reduceToNat, Nat.reduceMul, Nat.reduceEqDiff, reduceCtorEq, Nat.reduceBEq, Nat.reduceLeDiff, Nat.reduceLT, xf31, ai, aT, al, hr0, hgt, hcl]
  exact W_ret1 (WX_nil ⟨.inl rfl, _, rfl, rfl⟩)
theorem call_haslB : callable Try.prog 31 = true := by kernel_rfl
theorem reify_cB {x : AV} {l : List Int} (hx : isL x l) {T : List (List Int)} {η : Heap} {f g : Nat} (c : Nat) (h3 : Go.Proofs.Eng.look η 3 = bx T) (hk : Go.Proofs.Eng.look η 14 = (g, some ⟨3, 1, [ai c]⟩)) :
    [x, .fn f [.o 3 1 1 0 0, .o 14 g 1 0 0]].mapM (reify η 20) = some [x, .fn f [.ptr (aT T), .ptr (ai c)]] := by
  have h1 := reify_isL hx η 17
  have h2 : elemR (reify η 18) (aT T) = some (aT T) := reify_T T η 12
  have e1 : reify η 19 (.o 3 1 1 0 0) = some (.ptr (aT T)) := by rw [reify_box (n := 18) h3, h2]; rfl
  have e2 : reify η 19 (.o 14 g 1 0 0) = some (.ptr (ai c)) := by rw [reify_box (n := 18) hk]; rfl
  have h4 : reify η 20 (.fn f [.o 3 1 1 0 0, .o 14 g 1 0 0]) = some (.fn f [.ptr (aT T), .ptr (ai c)]) := by
    show ([.o 3 1 1 0 0, .o 14 g 1 0 0].mapM (reify η 19)).map (AV.fn f) = _
    simp only [List.mapM_cons, List.mapM_nil, e1, e2]; rfl
  simp only [List.mapM_cons, List.mapM_nil, h1, h4]; rfl
theorem col_loop {n : Nat} (st : Nat) {T : List (List Int)} (hg : gT n T) (A : List Int) (hA : inC n A) (hAl : A.length ≤ 4) (g : Nat) (x5 x8 x9 x15 x43 : AV) (q40 q59 : Nat × Option Ob) (K : List Fr) (Q : Out → Cfg → Prop)
    (hK : ∀ Z, Z = zerC n T A → ∀ (q14 : Nat × Option Ob), ∀ j0 j1 j2 j6 j7 j13 j14 j16 j17 j18 j19 j20 j21 j22 j23 j24 j25 j26 j27 j28 j29 j30 j31 j32 j33 j34 j35 j36 j37 j38 j39 j40 j41 j42 j45 j46 j47 j48 j49 j50 j51 j52 j53 j54 j55 j56 j57 j58 j59 j60 j63 j64 j65 j66 j67 j68 j69 j70 j71 j72 j73 j74 j75 j76 j77 j78 j79 j80 j81 j82 j83 j84 j85 j86 j87 j88 j89 j90 j91 j92 j93 j94 j95 j96 j97 j98 j99 j100 j101 j102 j103 j104 j105 j106 j107 j108 j109 j110 j111 j112 j113 j114 j115 j116 j117 j118 j119 j120 j121 j122 j123 j124 j125 j126 j127 j128 j129 j130 j131 j132 j133 j134 j135 j136 j137 j138 j139 j140 j141 j142 j143 j144 j145 j146 j147 j148 j149 j150 j151 j152 j153 j154 j155 j156 j157 j158 j159 j160 j161 j162 j163 j164 j165 j166 j167 j168 j169 j170 j171 j172 j173 j174 j175 j176 j177 j178 j179 j180 j181 j182 j183 j184 j185 j186 j187 j188 j189 j190 j191 j192 j193 j194 j195 j196 j197 j198 j199 j200 : AV, W Try.prog (RelU Try.prog xf) 0 K ⟨(j0 :: j1 :: j2 :: (.o 3 1 1 0 0) :: (ai n) :: x5 :: j6 :: j7 :: x8 :: x9 :: (ai st) :: (dv A) :: (av 72 g Z) :: j13 :: j14 :: x15 :: j16 :: j17 :: j18 :: j19 :: j20 :: j21 :: j22 :: j23 :: j24 :: j25 :: j26 :: j27 :: j28 :: j29 :: j30 :: j31 :: j32 :: j33 :: j34 :: j35 :: j36 :: j37 :: j38 :: j39 :: j40 :: j41 :: j42 :: x43 :: (ai st) :: j45 :: j46 :: j47 :: j48 :: j49 :: j50 :: j51 :: j52 :: j53 :: j54 :: j55 :: j56 :: j57 :: j58 :: j59 :: j60 :: (ai n) :: (ai n) :: j63 :: j64 :: j65 :: j66 :: j67 :: j68 :: j69 :: j70 :: j71 :: j72 :: j73 :: j74 :: j75 :: j76 :: j77 :: j78 :: j79 :: j80 :: j81 :: j82 :: j83 :: j84 :: j85 :: j86 :: j87 :: j88 :: j89 :: j90 :: j91 :: j92 :: j93 :: j94 :: j95 :: j96 :: j97 :: j98 :: j99 :: j100 :: j101 :: j102 :: j103 :: j104 :: j105 :: j106 :: j107 :: j108 :: j109 :: j110 :: j111 :: j112 :: j113 :: j114 :: j115 :: j116 :: j117 :: j118 :: j119 :: j120 :: j121 :: j122 :: j123 :: j124 :: j125 :: j126 :: j127 :: j128 :: j129 :: j130 :: j131 :: j132 :: j133 :: j134 :: j135 :: j136 :: j137 :: j138 :: j139 :: j140 :: j141 :: j142 :: j143 :: j144 :: j145 :: j146 :: j147 :: j148 :: j149 :: j150 :: j151 :: j152 :: j153 :: j154 :: j155 :: j156 :: j157 :: j158 :: j159 :: j160 :: j161 :: j162 :: j163 :: j164 :: j165 :: j166 :: j167 :: j168 :: j169 :: j170 :: j171 :: j172 :: j173 :: j174 :: j175 :: j176 :: j177 :: j178 :: j179 :: j180 :: j181 :: j182 :: j183 :: j184 :: j185 :: j186 :: j187 :: j188 :: j189 :: j190 :: j191 :: j192 :: j193 :: j194 :: j195 :: j196 :: j197 :: j198 :: j199 :: j200 :: []), hB T q14 q40 q59 (ar g Z)⟩ Q) :
    ∀ (m c : Nat), c + m = n → ∀ Z, Z = zerK T A c → ∀ (g14 : Nat) (o14 : Option Ob), ∀ j0 j1 j2 j6 j7 j13 j14 j16 j17 j18 j19 j20 j21 j22 j23 j24 j25 j26 j27 j28 j29 j30 j31 j32 j33 j34 j35 j36 j37 j38 j39 j40 j41 j42 j45 j46 j47 j48 j49 j50 j51 j52 j53 j54 j55 j56 j57 j58 j59 j60 j63 j64 j65 j66 j67 j68 j69 j70 j71 j72 j73 j74 j75 j76 j77 j78 j79 j80 j81 j82 j83 j84 j85 j86 j87 j88 j89 j90 j91 j92 j93 j94 j95 j96 j97 j98 j99 j100 j101 j102 j103 j104 j105 j106 j107 j108 j109 j110 j111 j112 j113 j114 j115 j116 j117 j118 j119 j120 j121 j122 j123 j124 j125 j126 j127 j128 j129 j130 j131 j132 j133 j134 j135 j136 j137 j138 j139 j140 j141 j142 j143 j144 j145 j146 j147 j148 j149 j150 j151 j152 j153 j154 j155 j156 j157 j158 j159 j160 j161 j162 j163 j164 j165 j166 j167 j168 j169 j170 j171 j172 j173 j174 j175 j176 j177 j178 j179 j180 j181 j182 j183 j184 j185 j186 j187 j188 j189 j190 j191 j192 j193 j194 j195 j196 j197 j198 j199 j200 : AV, W Try.prog (RelU Try.prog xf) 0 (.code (.loop xf4_L2) :: .blk 6 :: .stop :: K) ⟨(j0 :: j1 :: j2 :: (.o 3 1 1 0 0) :: (ai n) :: x5 :: j6 :: j7 :: x8 :: x9 :: (ai st) :: (dv A) :: (av 72 g Z) :: j13 :: j14 :: x15 :: j16 :: j17 :: j18 :: j19 :: j20 :: j21 :: j22 :: j23 :: j24 :: j25 :: j26 :: j27 :: j28 :: j29 :: j30 :: j31 :: j32 :: j33 :: j34 :: j35 :: j36 :: j37 :: j38 :: j39 :: j40 :: j41 :: j42 :: x43 :: (ai st) :: j45 :: j46 :: j47 :: j48 :: j49 :: j50 :: j51 :: j52 :: j53 :: j54 :: j55 :: j56 :: j57 :: j58 :: j59 :: j60 :: (ai n) :: (ai c) :: j63 :: j64 :: j65 :: j66 :: j67 :: j68 :: j69 :: j70 :: j71 :: j72 :: j73 :: j74 :: j75 :: j76 :: j77 :: j78 :: j79 :: j80 :: j81 :: j82 :: j83 :: j84 :: j85 :: j86 :: j87 :: j88 :: j89 :: j90 :: j91 :: j92 :: j93 :: j94 :: j95 :: j96 :: j97 :: j98 :: j99 :: j100 :: j101 :: j102 :: j103 :: j104 :: j105 :: j106 :: j107 :: j108 :: j109 :: j110 :: j111 :: j112 :: j113 :: j114 :: j115 :: j116 :: j117 :: j118 :: j119 :: j120 :: j121 :: j122 :: j123 :: j124 :: j125 :: j126 :: j127 :: j128 :: j129 :: j130 :: j131 :: j132 :: j133 :: j134 :: j135 :: j136 :: j137 :: j138 :: j139 :: j140 :: j141 :: j142 :: j143 :: j144 :: j145 :: j146 :: j147 :: j148 :: j149 :: j150 :: j151 :: j152 :: j153 :: j154 :: j155 :: j156 :: j157 :: j158 :: j159 :: j160 :: j161 :: j162 :: j163 :: j164 :: j165 :: j166 :: j167 :: j168 :: j169 :: j170 :: j171 :: j172 :: j173 :: j174 :: j175 :: j176 :: j177 :: j178 :: j179 :: j180 :: j181 :: j182 :: j183 :: j184 :: j185 :: j186 :: j187 :: j188 :: j189 :: j190 :: j191 :: j192 :: j193 :: j194 :: j195 :: j196 :: j197 :: j198 :: j199 :: j200 :: []), hB T (g14, o14) q40 q59 (ar g Z)⟩ Q := by
  intro m
  induction m with
  | zero =>
    intro c hc Z hZ g14 o14 j0 j1 j2 j6 j7 j13 j14 j16 j17 j18 j19 j20 j21 j22 j23 j24 j25 j26 j27 j28 j29 j30 j31 j32 j33 j34 j35 j36 j37 j38 j39 j40 j41 j42 j45 j46 j47 j48 j49 j50 j51 j52 j53 j54 j55 j56 j57 j58 j59 j60 j63 j64 j65 j66 j67 j68 j69 j70 j71 j72 j73 j74 j75 j76 j77 j78 j79 j80 j81 j82 j83 j84 j85 j86 j87 j88 j89 j90 j91 j92 j93 j94 j95 j96 j97 j98 j99 j100 j101 j102 j103 j104 j105 j106 j107 j108 j109 j110 j111 j112 j113 j114 j115 j116 j117 j118 j119 j120 j121 j122 j123 j124 j125 j126 j127 j128 j129 j130 j131 j132 j133 j134 j135 j136 j137 j138 j139 j140 j141 j142 j143 j144 j145 j146 j147 j148 j149 j150 j151 j152 j153 j154 j155 j156 j157 j158 j159 j160 j161 j162 j163 j164 j165 j166 j167 j168 j169 j170 j171 j172 j173 j174 j175 j176 j177 j178 j179 j180 j181 j182 j183 j184 j185 j186 j187 j188 j189 j190 j191 j192 j193 j194 j195 j196 j197 j198 j199 j200
    have : c = n := by omega
    subst this
    have h0 : decide (c < c) = false := by simp
    have hK := hK Z hZ (g14, o14)
    generalize dv A = dA at *
    generalize av 72 g Z = w at *
    generalize ar g Z = w2 at *
    refine W_loop (W_run 80 ?_)
    simp (maxSteps := 2000000) only [SA, Nat.reduceDiv, Nat.reduceSub, Nat.reduceAdd, Int.reduceLT, Int.reduceLE, Int.reduceToNat, Nat.reduceMul, Nat.reduceEqDiff, reduceCtorEq, Nat.reduceBEq, Nat.reduceLeDiff, Nat.reduceLT, xf4_L2, ai, lt_cast, h0]
    exact W_stop (hK _ _ _ _ _ _ _ _ _ _ _ _ _ _ _ _ _ _ _ _ _ _ _ _ _ _ _ _ _ _ _ _ _ _ _ _ _ _ _ _ _ _ _ _ _ _ _ _ _ _ _ _ _ _ _ _ _ _ _ _ _ _ _ _ _ _ _ _ _ _ _ _ _ _ _ _ _ _ _ _ _ _ _ _ _ _ _ _ _ _ _ _ _ _ _ _ _ _ _ _ _ _ _ _ _ _ _ _ _ _ _ _ _ _ _ _ _ _ _ _ _ _ _ _ _ _ _ _ _ _ _ _ _ _ _ _ _ _ _ _ _ _ _ _ _ _ _ _ _ _ _ _ _ _ _ _ _ _ _ _ _ _ _ _ _ _ _ _ _ _ _ _ _ _ _ _ _ _ _ _ _ _ _ _ _ _ _ _)
  | succ m ih =>
    intro c hc Z hZ g14 o14 j0 j1 j2 j6 j7 j13 j14 j16 j17 j18 j19 j20 j21 j22 j23 j24 j25 j26 j27 j28 j29 j30 j31 j32 j33 j34 j35 j36 j37 j38 j39 j40 j41 j42 j45 j46 j47 j48 j49 j50 j51 j52 j53 j54 j55 j56 j57 j58 j59 j60 j63 j64 j65 j66 j67 j68 j69 j70 j71 j72 j73 j74 j75 j76 j77 j78 j79 j80 j81 j82 j83 j84 j85 j86 j87 j88 j89 j90 j91 j92 j93 j94 j95 j96 j97 j98 j99 j100 j101 j102 j103 j104 j105 j106 j107 j108 j109 j110 j111 j112 j113 j114 j115 j116 j117 j118 j119 j120 j121 j122 j123 j124 j125 j126 j127 j128 j129 j130 j131 j132 j133 j134 j135 j136 j137 j138 j139 j140 j141 j142 j143 j144 j145 j146 j147 j148 j149 j150 j151 j152 j153 j154 j155 j156 j157 j158 j159 j160 j161 j162 j163 j164 j165 j166 j167 j168 j169 j170 j171 j172 j173 j174 j175 j176 j177 j178 j179 j180 j181 j182 j183 j184 j185 j186 j187 j188 j189 j190 j191 j192 j193 j194 j195 j196 j197 j198 j199 j200
    have hcn : c < n := by omega
    have hn4 := hg.n4
    have h0 : decide (c < n) = true := decide_eq_true hcn
    have wc : IntKind.i64.wrap ((c : Int) + 1) = ((c + 1 : Nat) : Int) := by rw [wrap_id (by omega) (by omega)]; simp
    have hZl := zerK_len T A c
    rw [← hZ] at hZl
    have hnx := zerK_succ T A c
    rw [← hZ] at hnx
    have hcall := cnf_run 31 [.ptr (aT T), .ptr (ai c)] (noRefs_2 (noRef_T T) rfl) call_haslB (fun r => decide (0 < cel T r.toNat c)) (dv_isL A) (by omega) fun z hz => haslB_run hg z (hA z hz) c hcn
    have hrf := fun η h3 hk => reify_cB (f := 31) (g := g14 + 1) (dv_isL A) (T := T) (η := η) c h3 hk
    have next := fun Z hZ => ih (c + 1) (by omega) Z hZ
    generalize dv A = dA at *
    cases hb : zerB T A c with
    | true =>
      have hb2 : (A.any fun r => decide (0 < cel T r.toNat c)) = false := by unfold zerB at hb; simpa using hb
      rw [hb, if_pos rfl] at hnx
      have next := next _ hnx.symm
      refine W_loop (W_run 120 ?_)
      cases Z with
      | nil =>
        simp only [av, ar, List.nil_append, List.map_nil, List.length_nil] at next ⊢
        simp (maxSteps := 2000000) only [SA, Nat.reduceDiv, Nat.reduceSub, Nat.reduceAdd, Int.reduceLT, Int.reduceLE, Int.reduceToNat, Nat.reduceMul, Nat.reduceEqDiff, reduceCtorEq, Nat.reduceBEq, Nat.reduceLeDiff, Nat.reduceLT, xf4_L2, ai, hB, bx, lt_cast, h0]
        refine W_look (fuel := 20) (args := [dA, .fn 31 [.o 3 1 1 0 0, .o 14 (g14 + 1) 1 0 0]]) (args' := [dA, .fn 31 [.ptr (aT T), .ptr (ai c)]]) rfl (hrf _ rfl rfl) hcall rfl rfl (W_run 120 ?_)
        simp (maxSteps := 2000000) only [SA, Nat.reduceDiv, Nat.reduceSub, Nat.reduceAdd, Int.reduceLT, Int.reduceLE, Int.reduceToNat, Nat.reduceMul, Nat.reduceEqDiff, reduceCtorEq, Nat.reduceBEq, Nat.reduceLeDiff, Nat.reduceLT, ai, ab, nilA, hb2, wc, Go.Proofs.Eng.elems, List.map_cons, List.map_nil]
        exact next _ _ _ _ _ _ _ _ _ _ _ _ _ _ _ _ _ _ _ _ _ _ _ _ _ _ _ _ _ _ _ _ _ _ _ _ _ _ _ _ _ _ _ _ _ _ _ _ _ _ _ _ _ _ _ _ _ _ _ _ _ _ _ _ _ _ _ _ _ _ _ _ _ _ _ _ _ _ _ _ _ _ _ _ _ _ _ _ _ _ _ _ _ _ _ _ _ _ _ _ _ _ _ _ _ _ _ _ _ _ _ _ _ _ _ _ _ _ _ _ _ _ _ _ _ _ _ _ _ _ _ _ _ _ _ _ _ _ _ _ _ _ _ _ _ _ _ _ _ _ _ _ _ _ _ _ _ _ _ _ _ _ _ _ _ _ _ _ _ _ _ _ _ _ _ _ _ _ _ _ _ _ _ _ _ _ _ _ _ _
      | cons y t =>
        have q1 : (t.length + 1 + 1) * 8 ≤ 100000000000000 := by simp only [List.length_cons] at hZl; omega
        have q2 : t.length + 1 + 1 ≤ 100000000000000 := by simp only [List.length_cons] at hZl; omega
        simp only [av, ar, List.cons_append, List.length_append, List.length_cons, List.length_nil, List.map_append, List.map_cons, List.map_nil] at next ⊢
        simp (maxSteps := 2000000) only [SA, Nat.reduceDiv, Nat.reduceSub, Nat.reduceAdd, Int.reduceLT, Int.reduceLE, Int.reduceToNat, Nat.reduceMul, Nat.reduceEqDiff, reduceCtorEq, Nat.reduceBEq, Nat.reduceLeDiff, Nat.reduceLT, xf4_L2, ai, hB, bx, lt_cast, h0]
        refine W_look (fuel := 20) (args := [dA, .fn 31 [.o 3 1 1 0 0, .o 14 (g14 + 1) 1 0 0]]) (args' := [dA, .fn 31 [.ptr (aT T), .ptr (ai c)]]) rfl (hrf _ rfl rfl) hcall rfl rfl (W_run 120 ?_)
        simp (maxSteps := 2000000) only [SA, Nat.reduceDiv, Nat.reduceSub, Nat.reduceAdd, Int.reduceLT, Int.reduceLE, Int.reduceToNat, Nat.reduceMul, Nat.reduceEqDiff, reduceCtorEq, Nat.reduceBEq, Nat.reduceLeDiff, Nat.reduceLT, ai, ab, nilA, hb2, wc, q1, q2, Go.Proofs.Eng.elems, List.map_cons, List.map_nil]
        exact next _ _ _ _ _ _ _ _ _ _ _ _ _ _ _ _ _ _ _ _ _ _ _ _ _ _ _ _ _ _ _ _ _ _ _ _ _ _ _ _ _ _ _ _ _ _ _ _ _ _ _ _ _ _ _ _ _ _ _ _ _ _ _ _ _ _ _ _ _ _ _ _ _ _ _ _ _ _ _ _ _ _ _ _ _ _ _ _ _ _ _ _ _ _ _ _ _ _ _ _ _ _ _ _ _ _ _ _ _ _ _ _ _ _ _ _ _ _ _ _ _ _ _ _ _ _ _ _ _ _ _ _ _ _ _ _ _ _ _ _ _ _ _ _ _ _ _ _ _ _ _ _ _ _ _ _ _ _ _ _ _ _ _ _ _ _ _ _ _ _ _ _ _ _ _ _ _ _ _ _ _ _ _ _ _ _ _ _ _ _
    | false =>
      have hb2 : (A.any fun r => decide (0 < cel T r.toNat c)) = true := by unfold zerB at hb; simpa using hb
      rw [hb, if_neg (by simp), List.append_nil] at hnx
      have next := next _ hnx.symm
      generalize av 72 g Z = w at *
      generalize ar g Z = w2 at *
      refine W_loop (W_run 120 ?_)
      simp (maxSteps := 2000000) only [SA, Nat.reduceDiv, Nat.reduceSub, Nat.reduceAdd, Int.reduceLT, Int.reduceLE, Int.reduceToNat, Nat.reduceMul, Nat.reduceEqDiff, reduceCtorEq, Nat.reduceBEq, Nat.reduceLeDiff, Nat.reduceLT, xf4_L2, ai, hB, bx, lt_cast, h0]
      refine W_look (fuel := 20) (args := [dA, .fn 31 [.o 3 1 1 0 0, .o 14 (g14 + 1) 1 0 0]]) (args' := [dA, .fn 31 [.ptr (aT T), .ptr (ai c)]]) rfl (hrf _ rfl rfl) hcall rfl rfl (W_run 120 ?_)
      simp (maxSteps := 2000000) only [SA, Nat.reduceDiv, Nat.reduceSub, Nat.reduceAdd, Int.reduceLT, Int.reduceLE, Int.reduceToNat, Nat.reduceMul, Nat.reduceEqDiff, reduceCtorEq, Nat.reduceBEq, Nat.reduceLeDiff, Nat.reduceLT, ai, ab, hb2, wc]
      exact next _ _ _ _ _ _ _ _ _ _ _ _ _ _ _ _ _ _ _ _ _ _ _ _ _ _ _ _ _ _ _ _ _ _ _ _ _ _ _ _ _ _ _ _ _ _ _ _ _ _ _ _ _ _ _ _ _ _ _ _ _ _ _ _ _ _ _ _ _ _ _ _ _ _ _ _ _ _ _ _ _ _ _ _ _ _ _ _ _ _ _ _ _ _ _ _ _ _ _ _ _ _ _ _ _ _ _ _ _ _ _ _ _ _ _ _ _ _ _ _ _ _ _ _ _ _ _ _ _ _ _ _ _ _ _ _ _ _ _ _ _ _ _ _ _ _ _ _ _ _ _ _ _ _ _ _ _ _ _ _ _ _ _ _ _ _ _ _ _ _ _ _ _ _ _ _ _ _ _ _ _ _ _ _ _ _ _ _ _ _
end Go.Proofs.Ytelkpfionifjgaa

