/-
  LineProved.
-/
import Derived.Test.YtdmffkknghianaaMx
import Derived.Test.YtdmffkknghianaaGE
import Derived.Test.YtdmffkknghianaaMp
set_option linter.unusedSimpArgs false
set_option linter.unusedVariables false
namespace Go.Proofs.Ytdmffkknghianaa
open Go Go.Proofs.Eng
set_option maxRecDepth 100000
set_option maxHeartbeats 4000000
theorem way_ok {q : Nat → Int} {V : Int} {n : Nat} {L C : Nat → Int} {N : Nat → Nat} (hA : Ahead q V n L C N) : ∀ (k i : Nat), n - i ≤ k → i ≤ n → eE n i (way N n k i) = 0 ∧ (spE i (way N n k i)).all (fun p => fit q V p.1 p.2) = true ∧ csF q V n i (way N n k i) = L i ∧ (way N n k i).length ≤ n - i := by
  have hend : eE n n [] = 0 ∧ (spE n []).all (fun p => fit q V p.1 p.2) = true ∧ csF q V n n [] = L n ∧ ([] : List Nat).length ≤ n - n := ⟨by rw [eE, if_pos rfl], rfl, by rw [hA.ln]; rfl, by simp⟩
  intro k
  induction k with
  | zero => intro i h1 h2; have : i = n := by omega
            subst this; rw [way]; exact hend
  | succ k ih =>
    intro i h1 h2
    by_cases e : i = n
    · subst e; rw [way, if_pos rfl]; exact hend
    · rw [way, if_neg e]
      obtain ⟨sl, sN, _⟩ := hA.st i (by omega)
      obtain ⟨m1, m2, m3⟩ := sN.mem
      obtain ⟨a, b, c, d⟩ := ih (N i) (by omega) m2
      refine ⟨by rw [eE, if_neg (by omega), if_neg (by omega)]; exact a, ?_, by rw [csF_cons, c]; exact sl.symm, by rw [List.length_cons]; omega⟩
      rw [spE, List.all_cons, b, Bool.and_true]; exact m3
theorem pl_set (o : Nat → Int) (n k : Nat) (x : Int) : ((pl o n).map ai).set k (.v (.int .i64 x)) = (pl (up o k x) n).map ai := by
  unfold pl up
  refine List.ext_getElem (by simp) fun i h1 h2 => ?_
  rw [List.getElem_set]
  simp only [List.getElem_map, List.getElem_range]
  by_cases h : k = i
  · subst h; simp [ai]
  · have h' : ¬ i = k := fun e => h e.symm
    rw [if_neg h, if_neg h']
theorem reify_pl {η : Heap} {k g e n : Nat} {o : Nat → Int} (hk : Go.Proofs.Eng.look η k = (g, some ⟨e, 1, (pl o n).map ai⟩)) : reify η 20 (.os k g n 1 0 n) = some (al false (pl o n)) := by
  have h := reify_ints (η := η) (k := k) (g := g) (e := e) (l := pl o n) hk
  rw [pl_len] at h
  exact h
theorem oth_loop (V : Int) (w : List Int) (hn : w.length ≤ 10) (S : List Int) (hS : S.length = 10) (bS : ∀ x, x ∈ S → 0 ≤ x ∧ x ≤ 255) (q5 : Nat × Option Ob) (x0 x1 x2 x6 x7 x9 x11 x13 x15 x17 : AV) (K : List Fr) (Q : Out → Cfg → Prop)
    (hK : ∀ o : Nat → Int, (∀ i, i < w.length → 0 ≤ o i ∧ o i ≤ 20000) → ∀ j8 j10 j12 j14 j16 j18 j19 j21 j22 j23 j24 j25 j26 j27 j28 j29 j30 j31 j32 j33 j34 j35 j36 j37 j38 j39 j40 j41 j42 j43 j44 j45 j46 j47 j48 j49 j50 j51 j52 j53 j54 j55 j56 j57 j58 j59 j60 j61 j62 j63 j64 j65 j66 j67 j68 j69 j70 j71 j72 j73 j74 j75 j76 j77 j78 j79 j80 j81 j82 j83 j84 j85 j86 j87 j88 j89 j90 j91 j92 j93 j94 j95 j96 j97 j98 j99 j100 j101 j102 j103 j104 j105 j106 j107 j108 j109 j110 j111 j112 j113 j114 j115 j116 j117 j118 j119 j120 j121 j125 j126 j127 j128 j129 j130 j131 j132 j133 j134 j135 j136 j137 j138 j139 j140 j141 j142 j143 j144 j145 j146 j147 j148 j149 j150 j151 j152 j153 j154 j155 j156 j157 j158 j159 j160 j161 j162 j163 j164 j165 j166 j167 j168 j169 j170 j171 j172 j173 j174 j175 j176 j177 j178 j179 j180 j181 j182 j183 j184 j185 j186 j187 j188 j189 j190 j191 j192 j193 j194 j195 j196 : AV, W Try.prog (RelU Try.prog xf) 0 K ⟨(x0 :: x1 :: x2 :: (.ptr (stp S)) :: (ab false) :: (.o 5 1 1 0 0) :: x6 :: x7 :: j8 :: x9 :: j10 :: x11 :: j12 :: x13 :: j14 :: x15 :: j16 :: x17 :: j18 :: j19 :: (.os 1005 1 w.length 1 0 w.length) :: j21 :: j22 :: j23 :: j24 :: j25 :: j26 :: j27 :: j28 :: j29 :: j30 :: j31 :: j32 :: j33 :: j34 :: j35 :: j36 :: j37 :: j38 :: j39 :: j40 :: j41 :: j42 :: j43 :: j44 :: j45 :: j46 :: j47 :: j48 :: j49 :: j50 :: j51 :: j52 :: j53 :: j54 :: j55 :: j56 :: j57 :: j58 :: j59 :: j60 :: j61 :: j62 :: j63 :: j64 :: j65 :: j66 :: j67 :: j68 :: j69 :: j70 :: j71 :: j72 :: j73 :: j74 :: j75 :: j76 :: j77 :: j78 :: j79 :: j80 :: j81 :: j82 :: j83 :: j84 :: j85 :: j86 :: j87 :: j88 :: j89 :: j90 :: j91 :: j92 :: j93 :: j94 :: j95 :: j96 :: j97 :: j98 :: j99 :: j100 :: j101 :: j102 :: j103 :: j104 :: j105 :: j106 :: j107 :: j108 :: j109 :: j110 :: j111 :: j112 :: j113 :: j114 :: j115 :: j116 :: j117 :: j118 :: j119 :: j120 :: j121 :: (.os 1005 1 w.length 1 0 w.length) :: (ai w.length) :: (ai w.length) :: j125 :: j126 :: j127 :: j128 :: j129 :: j130 :: j131 :: j132 :: j133 :: j134 :: j135 :: j136 :: j137 :: j138 :: j139 :: j140 :: j141 :: j142 :: j143 :: j144 :: j145 :: j146 :: j147 :: j148 :: j149 :: j150 :: j151 :: j152 :: j153 :: j154 :: j155 :: j156 :: j157 :: j158 :: j159 :: j160 :: j161 :: j162 :: j163 :: j164 :: j165 :: j166 :: j167 :: j168 :: j169 :: j170 :: j171 :: j172 :: j173 :: j174 :: j175 :: j176 :: j177 :: j178 :: j179 :: j180 :: j181 :: j182 :: j183 :: j184 :: j185 :: j186 :: j187 :: j188 :: j189 :: j190 :: j191 :: j192 :: j193 :: j194 :: j195 :: j196 :: []), [(5, q5), (1005, (1, some ⟨3, 1, (pl o w.length).map ai⟩))]⟩ Q) :
    ∀ (m k : Nat), k + m = w.length → ∀ o : Nat → Int, (∀ i, i < w.length → 0 ≤ o i ∧ o i ≤ 20000) → (∀ i, k ≤ i → i < w.length → o i ≤ 16000) → ∀ j8 j10 j12 j14 j16 j18 j19 j21 j22 j23 j24 j25 j26 j27 j28 j29 j30 j31 j32 j33 j34 j35 j36 j37 j38 j39 j40 j41 j42 j43 j44 j45 j46 j47 j48 j49 j50 j51 j52 j53 j54 j55 j56 j57 j58 j59 j60 j61 j62 j63 j64 j65 j66 j67 j68 j69 j70 j71 j72 j73 j74 j75 j76 j77 j78 j79 j80 j81 j82 j83 j84 j85 j86 j87 j88 j89 j90 j91 j92 j93 j94 j95 j96 j97 j98 j99 j100 j101 j102 j103 j104 j105 j106 j107 j108 j109 j110 j111 j112 j113 j114 j115 j116 j117 j118 j119 j120 j121 j125 j126 j127 j128 j129 j130 j131 j132 j133 j134 j135 j136 j137 j138 j139 j140 j141 j142 j143 j144 j145 j146 j147 j148 j149 j150 j151 j152 j153 j154 j155 j156 j157 j158 j159 j160 j161 j162 j163 j164 j165 j166 j167 j168 j169 j170 j171 j172 j173 j174 j175 j176 j177 j178 j179 j180 j181 j182 j183 j184 j185 j186 j187 j188 j189 j190 j191 j192 j193 j194 j195 j196 : AV, W Try.prog (RelU Try.prog xf) 0 (.code (.loop xf3_L0) :: .blk 0 :: .stop :: K) ⟨(x0 :: x1 :: x2 :: (.ptr (stp S)) :: (ab false) :: (.o 5 1 1 0 0) :: x6 :: x7 :: j8 :: x9 :: j10 :: x11 :: j12 :: x13 :: j14 :: x15 :: j16 :: x17 :: j18 :: j19 :: (.os 1005 1 w.length 1 0 w.length) :: j21 :: j22 :: j23 :: j24 :: j25 :: j26 :: j27 :: j28 :: j29 :: j30 :: j31 :: j32 :: j33 :: j34 :: j35 :: j36 :: j37 :: j38 :: j39 :: j40 :: j41 :: j42 :: j43 :: j44 :: j45 :: j46 :: j47 :: j48 :: j49 :: j50 :: j51 :: j52 :: j53 :: j54 :: j55 :: j56 :: j57 :: j58 :: j59 :: j60 :: j61 :: j62 :: j63 :: j64 :: j65 :: j66 :: j67 :: j68 :: j69 :: j70 :: j71 :: j72 :: j73 :: j74 :: j75 :: j76 :: j77 :: j78 :: j79 :: j80 :: j81 :: j82 :: j83 :: j84 :: j85 :: j86 :: j87 :: j88 :: j89 :: j90 :: j91 :: j92 :: j93 :: j94 :: j95 :: j96 :: j97 :: j98 :: j99 :: j100 :: j101 :: j102 :: j103 :: j104 :: j105 :: j106 :: j107 :: j108 :: j109 :: j110 :: j111 :: j112 :: j113 :: j114 :: j115 :: j116 :: j117 :: j118 :: j119 :: j120 :: j121 :: (.os 1005 1 w.length 1 0 w.length) :: (ai w.length) :: (ai k) :: j125 :: j126 :: j127 :: j128 :: j129 :: j130 :: j131 :: j132 :: j133 :: j134 :: j135 :: j136 :: j137 :: j138 :: j139 :: j140 :: j141 :: j142 :: j143 :: j144 :: j145 :: j146 :: j147 :: j148 :: j149 :: j150 :: j151 :: j152 :: j153 :: j154 :: j155 :: j156 :: j157 :: j158 :: j159 :: j160 :: j161 :: j162 :: j163 :: j164 :: j165 :: j166 :: j167 :: j168 :: j169 :: j170 :: j171 :: j172 :: j173 :: j174 :: j175 :: j176 :: j177 :: j178 :: j179 :: j180 :: j181 :: j182 :: j183 :: j184 :: j185 :: j186 :: j187 :: j188 :: j189 :: j190 :: j191 :: j192 :: j193 :: j194 :: j195 :: j196 :: []), [(5, q5), (1005, (1, some ⟨3, 1, (pl o w.length).map ai⟩))]⟩ Q := by
  have hSl : (S.map u8).length = 10 := by simp [hS]
  intro m
  induction m with
  | zero =>
    intro k hk o h1 h2 j8 j10 j12 j14 j16 j18 j19 j21 j22 j23 j24 j25 j26 j27 j28 j29 j30 j31 j32 j33 j34 j35 j36 j37 j38 j39 j40 j41 j42 j43 j44 j45 j46 j47 j48 j49 j50 j51 j52 j53 j54 j55 j56 j57 j58 j59 j60 j61 j62 j63 j64 j65 j66 j67 j68 j69 j70 j71 j72 j73 j74 j75 j76 j77 j78 j79 j80 j81 j82 j83 j84 j85 j86 j87 j88 j89 j90 j91 j92 j93 j94 j95 j96 j97 j98 j99 j100 j101 j102 j103 j104 j105 j106 j107 j108 j109 j110 j111 j112 j113 j114 j115 j116 j117 j118 j119 j120 j121 j125 j126 j127 j128 j129 j130 j131 j132 j133 j134 j135 j136 j137 j138 j139 j140 j141 j142 j143 j144 j145 j146 j147 j148 j149 j150 j151 j152 j153 j154 j155 j156 j157 j158 j159 j160 j161 j162 j163 j164 j165 j166 j167 j168 j169 j170 j171 j172 j173 j174 j175 j176 j177 j178 j179 j180 j181 j182 j183 j184 j185 j186 j187 j188 j189 j190 j191 j192 j193 j194 j195 j196
    have ek : k = w.length := by omega
    have h0 : decide (k < w.length) = false := decide_eq_false (by omega)
    refine W_loop (W_run 80 ?_)
    simp (maxSteps := 2000000) only [SA, Nat.reduceDiv, Nat.reduceSub, Nat.reduceAdd, Int.reduceLT, Int.reduceLE, Int.reduceToNat, Nat.reduceMul, Nat.reduceEqDiff, reduceCtorEq, Nat.reduceBEq, Nat.reduceLeDiff, Nat.reduceLT, xf3_L0, ai, ab, lt_cast, h0]
    rw [ek]
    exact W_stop (hK o h1 _ _ _ _ _ _ _ _ _ _ _ _ _ _ _ _ _ _ _ _ _ _ _ _ _ _ _ _ _ _ _ _ _ _ _ _ _ _ _ _ _ _ _ _ _ _ _ _ _ _ _ _ _ _ _ _ _ _ _ _ _ _ _ _ _ _ _ _ _ _ _ _ _ _ _ _ _ _ _ _ _ _ _ _ _ _ _ _ _ _ _ _ _ _ _ _ _ _ _ _ _ _ _ _ _ _ _ _ _ _ _ _ _ _ _ _ _ _ _ _ _ _ _ _ _ _ _ _ _ _ _ _ _ _ _ _ _ _ _ _ _ _ _ _ _ _ _ _ _ _ _ _ _ _ _ _ _ _ _ _ _ _ _ _ _ _ _ _ _ _ _ _ _ _ _ _ _ _ _ _)
  | succ m ih =>
    intro k hk o h1 h2 j8 j10 j12 j14 j16 j18 j19 j21 j22 j23 j24 j25 j26 j27 j28 j29 j30 j31 j32 j33 j34 j35 j36 j37 j38 j39 j40 j41 j42 j43 j44 j45 j46 j47 j48 j49 j50 j51 j52 j53 j54 j55 j56 j57 j58 j59 j60 j61 j62 j63 j64 j65 j66 j67 j68 j69 j70 j71 j72 j73 j74 j75 j76 j77 j78 j79 j80 j81 j82 j83 j84 j85 j86 j87 j88 j89 j90 j91 j92 j93 j94 j95 j96 j97 j98 j99 j100 j101 j102 j103 j104 j105 j106 j107 j108 j109 j110 j111 j112 j113 j114 j115 j116 j117 j118 j119 j120 j121 j125 j126 j127 j128 j129 j130 j131 j132 j133 j134 j135 j136 j137 j138 j139 j140 j141 j142 j143 j144 j145 j146 j147 j148 j149 j150 j151 j152 j153 j154 j155 j156 j157 j158 j159 j160 j161 j162 j163 j164 j165 j166 j167 j168 j169 j170 j171 j172 j173 j174 j175 j176 j177 j178 j179 j180 j181 j182 j183 j184 j185 j186 j187 j188 j189 j190 j191 j192 j193 j194 j195 j196
    have hk1 : k < w.length := by omega
    have h0 : decide (k < w.length) = true := decide_eq_true hk1
    have wi : IntKind.i64.wrap ((k : Int) + 1) = ((k + 1 : Nat) : Int) := by rw [wrap_id (by omega) (by omega)]; simp
    have hpl := pl_len o w.length
    have gk := get_pl (p := o) hk1
    have gS := get_u8 (l := S) (i := k) (by omega)
    have bz := bS _ (getD_in (d := 0) (l := S) (i := k) (by omega))
    have ok := h1 k hk1
    have ok2 := h2 k (Nat.le_refl _) hk1
    have k10 : (k : Int) < 10 := by omega
    have knn : (0 : Int) ≤ k := by omega
    have kn : (k : Int) < w.length := by omega
    generalize S.getD k 0 = z at *
    have wz : IntKind.i64.wrap z = z := wrap_id (by omega) (by omega)
    obtain ⟨t1, t2⟩ := tmod_b (a := z) (n := 8) bz.1 (by omega)
    have u1 : 0 ≤ z.tdiv 200 ∧ z.tdiv 200 ≤ 1 := by rw [Int.tdiv_eq_ediv_of_nonneg bz.1]; omega
    have z8 : ((8 : Int) = 0) = False := eq_false (by omega)
    have z200 : ((200 : Int) = 0) = False := eq_false (by omega)
    have w1 : IntKind.i64.wrap (o k - z.tmod 8) = o k - z.tmod 8 := wrap_id (by omega) (by omega)
    have w2 : IntKind.i64.wrap (z.tdiv 200) = z.tdiv 200 := wrap_id (by omega) (by omega)
    have w3 : IntKind.i64.wrap (o k - z.tmod 8 + z.tdiv 200) = o k - z.tmod 8 + z.tdiv 200 := wrap_id (by omega) (by omega)
    obtain ⟨v, hv⟩ : ∃ v, mx2 0 (o k - z.tmod 8 + z.tdiv 200) = v := ⟨_, rfl⟩
    have hvb : 0 ≤ v ∧ v ≤ 20000 := by rw [← hv]; unfold mx2; split <;> omega
    have next := ih (k + 1) (by omega) (up o k v) (fun i hi => by
      unfold up
      split
      · exact hvb
      · exact h1 i hi) (fun i hi hi2 => by
      unfold up
      rw [if_neg (by omega)]
      exact h2 i (by omega) hi2)
    refine W_loop (W_run 160 ?_)
    simp (maxSteps := 2000000) only [SA, Nat.reduceDiv, Nat.reduceSub, Nat.reduceAdd, Int.reduceLT, Int.reduceLE, Int.reduceToNat, Nat.reduceMul, Nat.reduceEqDiff, reduceCtorEq, Nat.reduceBEq, Nat.reduceLeDiff, Nat.reduceLT, xf3_L0, ai, ab, u8, stp, lt_cast, h0, gk, gS, hpl, hSl, wz, w1, w2, w3, hv, z8, z200, wi, kn, k10, knn, pl_set, raw_conv, rawC, raw_max, rawK, opA, argT, Option.elim, Nat.mul_one, Int.toNat_natCast, List.map_cons, List.map_nil, List.length_map]
    exact next _ _ _ _ _ _ _ _ _ _ _ _ _ _ _ _ _ _ _ _ _ _ _ _ _ _ _ _ _ _ _ _ _ _ _ _ _ _ _ _ _ _ _ _ _ _ _ _ _ _ _ _ _ _ _ _ _ _ _ _ _ _ _ _ _ _ _ _ _ _ _ _ _ _ _ _ _ _ _ _ _ _ _ _ _ _ _ _ _ _ _ _ _ _ _ _ _ _ _ _ _ _ _ _ _ _ _ _ _ _ _ _ _ _ _ _ _ _ _ _ _ _ _ _ _ _ _ _ _ _ _ _ _ _ _ _ _ _ _ _ _ _ _ _ _ _ _ _ _ _ _ _ _ _ _ _ _ _ _ _ _ _ _ _ _ _ _ _ _ _ _ _ _ _ _ _ _ _ _ _
theorem noRef_gal (a b e : Int) (H : List Int) : noRef (gal a b e H) = true := noRefs_of fun x hx => by
  simp only [List.mem_cons, List.mem_map] at hx
  rcases hx with rfl | rfl | rfl | ⟨z, _, rfl⟩ <;> rfl
theorem proved_law {a b e : Int} {H S : List Int} (ha : 0 ≤ a ∧ a ≤ 255) (hb : 0 ≤ b ∧ b ≤ 255) (he : 0 ≤ e ∧ e ≤ 255) (hH : H.length = 10) (bH : ∀ x, x ∈ H → 0 ≤ x ∧ x ≤ 255) (hS : S.length = 10) (bS : ∀ x, x ∈ S → 0 ≤ x ∧ x ≤ 255) (hw : Runs Try.prog xf 25 [] (ab true)) :
    Runs Try.prog xf 3 [gal a b e H, stp S] (ab true) := by
  obtain ⟨r, ⟨V, w, rfl, hg, hm⟩, hmade⟩ := gal_made (m := 9) (by omega) ha hb he hH bH
  obtain ⟨D, Sx, hB⟩ := Back.ex hg.pos w.length (Nat.le_refl _)
  obtain ⟨L, C, N, hA⟩ := Ahead.ex hg.pos
  have n1 := hg.n1
  have n10 := hg.n10
  obtain ⟨y1, y2, y3, y4⟩ := way_ok hA w.length 0 (by omega) (Nat.zero_le _)
  have hfE : fE (pf w) V w.length (way N w.length w.length 0) = 0 := by unfold fE; rw [if_pos y1, if_pos y2]
  have hcl : cstL (pf w) V w.length (way N w.length w.length 0) = L 0 := y3
  have hDb : ∀ i, i < w.length → 0 ≤ D i ∧ D i ≤ 20000 := fun i hi => by have := hB.b hg.pos hg.W1 i (by omega); omega
  have hDb2 : ∀ i, 0 ≤ i → i < w.length → D i ≤ 16000 := fun i _ hi => by have := hB.b hg.pos hg.W1 i (by omega); omega
  have hPD : prB (pf w) V w.length D = true := prB_iff.2 (back_prov hB)
  have hlbne : lb (pf w) V w.length ≠ [] := lb_ne hg.pos n1 (Nat.le_refl _)
  have hble : ∀ p, prB (pf w) V w.length p = true → bnL p (lb (pf w) V w.length) ≤ L 0 := fun p hp => by
    have h := prB_iff.1 hp
    have := bound_le h hA (b := bnL p (lb (pf w) V w.length)) (fun i hi => bnL_le (lb_mem.1 hi)) w.length 0 (by omega) n1
    rw [h.p0] at this; omega
  have hbD : bnL D (lb (pf w) V w.length) = L 0 := by
    have h1 := hble D hPD
    obtain ⟨i, hi, h2⟩ := bnL_ex (p := D) hlbne fun i hi => (hDb i (lb_mem.2 hi).1).2
    have := least_le hB hA (lb_mem.2 hi)
    omega
  have hbest := best_run hg false hA
  have hfirst := first_run hg false hA
  have hleast := least_run hg false hA
  have hcount := count_run hg false hA
  have hprices := prices_run hg false hB
  have hlpr := lprices_run hg false hB
  have hcheck := check_run hg false
  have hbound := bound_run hg false false hDb
  unfold bndR at hbound
  rw [if_pos hPD, hbD] at hbound
  have hproves := proves_run hg false false false (E := way N w.length w.length 0) (by omega) hfE hDb
  rw [hcl, hbD, if_pos ⟨hPD, rfl⟩] at hproves
  have hwl : (nl (way N w.length w.length 0)).length ≤ 100 := by rw [nl_len]; omega
  have hs1 := same_run false false (nl (way N w.length w.length 0)) (nl (way N w.length w.length 0)) hwl
  rw [decide_eq_true rfl] at hs1
  have hpl := pl_len D w.length
  have hs2 := same_run false false (pl D w.length) (pl D w.length) (by omega)
  rw [decide_eq_true rfl] at hs2
  have hcln := cloneI_run false (pl D w.length) (by omega)
  rw [hpl] at hcln
  have hpr2 : ∀ o : Nat → Int, (∀ i, i < w.length → 0 ≤ o i ∧ o i ≤ 20000) → _ := fun o ho => lproved_run hg false ho
  have hbo2 : ∀ o : Nat → Int, (∀ i, i < w.length → 0 ≤ o i ∧ o i ≤ 20000) → _ := fun o ho => bound_run hg false false ho
  have hpv2 : ∀ o : Nat → Int, (∀ i, i < w.length → 0 ≤ o i ∧ o i ≤ 20000) → _ := fun o ho => proves_run hg false false false (E := way N w.length w.length 0) (by omega) hfE ho
  rw [hcl] at hpv2
  have hpri : priL D w.length = pl D w.length := rfl
  rw [hpri] at hprices
  generalize nl (way N w.length w.length 0) = X at *
  generalize L 0 = L0 at *
  generalize C 0 = C0 at *
  have n00 : ((0 : Int) != 0) = false := rfl
  have e00 : ((0 : Int) == 0) = true := rfl
  have nLL : (L0 != L0) = false := by simp
  have nCC : (C0 != C0) = false := by simp
  have htk : (u8 a :: u8 b :: u8 e :: H.map u8).take 13 = u8 a :: u8 b :: u8 e :: H.map u8 := List.take_of_length_le (by simp [hH])
  have hgn := noRef_gal a b e H
  have hst : (S.map u8).take 10 = S.map u8 := List.take_of_length_le (by simp [hS])
  have hsl : (S.map u8).length = 10 := by simp [hS]
  unfold gal at hmade hgn ⊢
  generalize hGG : u8 a :: u8 b :: u8 e :: H.map u8 = G at hmade hgn htk ⊢
  have hGlen : G.length = 13 := by rw [← hGG]; simp [hH]
  refine Runs.ofW (fn := xf3) 20 (by kernel_rfl) (W_run 160 ?_)
  simp (maxSteps := 2000000) only [SA, Nat.reduceDiv, Nat.reduceSub, Nat.reduceAdd, Int.reduceLT, Int.reduceLE, Int.reduceToNat, Nat.reduceMul, Nat.reduceEqDiff, reduceCtorEq, Nat.reduceBEq, Nat.reduceLeDiff, Nat.reduceLT, xf3, ai, stp, hGlen, htk, hst, hsl]
  refine W_call (args := [.ag G, ai 9]) rfl (noRefs_2 hgn rfl) hmade (noRef_tx _ _ _) (W_run 160 ?_)
  simp (maxSteps := 2000000) only [SA, Nat.reduceDiv, Nat.reduceSub, Nat.reduceAdd, Int.reduceLT, Int.reduceLE, Int.reduceToNat, Nat.reduceMul, Nat.reduceEqDiff, reduceCtorEq, Nat.reduceBEq, Nat.reduceLeDiff, Nat.reduceLT, ai, al, tx, List.map_cons, List.map_nil]
  refine W_call (args := [tx false V w]) rfl (noRefs_1 (noRef_tx _ _ _)) hbest (noRefs_3 (noRef_al _ _) rfl rfl) (W_run 160 ?_)
  simp (maxSteps := 2000000) only [SA, Nat.reduceDiv, Nat.reduceSub, Nat.reduceAdd, Int.reduceLT, Int.reduceLE, Int.reduceToNat, Nat.reduceMul, Nat.reduceEqDiff, reduceCtorEq, Nat.reduceBEq, Nat.reduceLeDiff, Nat.reduceLT, ai, al, tx]
  refine W_call (args := [tx false V w]) rfl (noRefs_1 (noRef_tx _ _ _)) hfirst (noRef_t2 (noRef_al _ _) rfl) (W_run 160 ?_)
  simp (maxSteps := 2000000) only [SA, Nat.reduceDiv, Nat.reduceSub, Nat.reduceAdd, Int.reduceLT, Int.reduceLE, Int.reduceToNat, Nat.reduceMul, Nat.reduceEqDiff, reduceCtorEq, Nat.reduceBEq, Nat.reduceLeDiff, Nat.reduceLT, ai, al, tx]
  refine W_call (args := [tx false V w]) rfl (noRefs_1 (noRef_tx _ _ _)) hleast rfl (W_run 160 ?_)
  simp (maxSteps := 2000000) only [SA, Nat.reduceDiv, Nat.reduceSub, Nat.reduceAdd, Int.reduceLT, Int.reduceLE, Int.reduceToNat, Nat.reduceMul, Nat.reduceEqDiff, reduceCtorEq, Nat.reduceBEq, Nat.reduceLeDiff, Nat.reduceLT, ai, al, tx]
  refine W_call (args := [tx false V w]) rfl (noRefs_1 (noRef_tx _ _ _)) hcount rfl (W_run 160 ?_)
  simp (maxSteps := 2000000) only [SA, Nat.reduceDiv, Nat.reduceSub, Nat.reduceAdd, Int.reduceLT, Int.reduceLE, Int.reduceToNat, Nat.reduceMul, Nat.reduceEqDiff, reduceCtorEq, Nat.reduceBEq, Nat.reduceLeDiff, Nat.reduceLT, ai, al, tx]
  refine W_call (args := [tx false V w]) rfl (noRefs_1 (noRef_tx _ _ _)) hprices (noRef_t2 (noRef_al _ _) rfl) (W_run 160 ?_)
  simp (maxSteps := 2000000) only [SA, Nat.reduceDiv, Nat.reduceSub, Nat.reduceAdd, Int.reduceLT, Int.reduceLE, Int.reduceToNat, Nat.reduceMul, Nat.reduceEqDiff, reduceCtorEq, Nat.reduceBEq, Nat.reduceLeDiff, Nat.reduceLT, ai, al, tx]
  refine W_call (args := [tx false V w]) rfl (noRefs_1 (noRef_tx _ _ _)) hlpr (noRef_t2 (noRef_al _ _) (noRef_al _ _)) (W_run 160 ?_)
  simp (maxSteps := 2000000) only [SA, Nat.reduceDiv, Nat.reduceSub, Nat.reduceAdd, Int.reduceLT, Int.reduceLE, Int.reduceToNat, Nat.reduceMul, Nat.reduceEqDiff, reduceCtorEq, Nat.reduceBEq, Nat.reduceLeDiff, Nat.reduceLT, ai, al, tx]
  refine W_call (args := [tx false V w]) rfl (noRefs_1 (noRef_tx _ _ _)) hcheck rfl (W_run 160 ?_)
  simp (maxSteps := 2000000) only [SA, Nat.reduceDiv, Nat.reduceSub, Nat.reduceAdd, Int.reduceLT, Int.reduceLE, Int.reduceToNat, Nat.reduceMul, Nat.reduceEqDiff, reduceCtorEq, Nat.reduceBEq, Nat.reduceLeDiff, Nat.reduceLT, ai, al, tx, n00]
  refine W_call (args := [al false X, al false X]) rfl (noRefs_2 (noRef_al _ _) (noRef_al _ _)) hs1 rfl (W_run 160 ?_)
  simp (maxSteps := 2000000) only [SA, Nat.reduceDiv, Nat.reduceSub, Nat.reduceAdd, Int.reduceLT, Int.reduceLE, Int.reduceToNat, Nat.reduceMul, Nat.reduceEqDiff, reduceCtorEq, Nat.reduceBEq, Nat.reduceLeDiff, Nat.reduceLT, ai, ab, al, tx, n00, nLL, nCC]
  refine W_call (args := [al false (pl D w.length), al false (pl D w.length)]) rfl (noRefs_2 (noRef_al _ _) (noRef_al _ _)) hs2 rfl (W_run 160 ?_)
  simp (maxSteps := 2000000) only [SA, Nat.reduceDiv, Nat.reduceSub, Nat.reduceAdd, Int.reduceLT, Int.reduceLE, Int.reduceToNat, Nat.reduceMul, Nat.reduceEqDiff, reduceCtorEq, Nat.reduceBEq, Nat.reduceLeDiff, Nat.reduceLT, ai, ab, al, tx, n00]
  refine W_call (args := [tx false V w, al false (pl D w.length)]) rfl (noRefs_2 (noRef_tx _ _ _) (noRef_al _ _)) hbound rfl (W_run 160 ?_)
  simp (maxSteps := 2000000) only [SA, Nat.reduceDiv, Nat.reduceSub, Nat.reduceAdd, Int.reduceLT, Int.reduceLE, Int.reduceToNat, Nat.reduceMul, Nat.reduceEqDiff, reduceCtorEq, Nat.reduceBEq, Nat.reduceLeDiff, Nat.reduceLT, ai, ab, al, tx, n00, nLL]
  refine W_call (args := [tx false V w, al false X, al false (pl D w.length)]) rfl (noRefs_3 (noRef_tx _ _ _) (noRef_al _ _) (noRef_al _ _)) hproves rfl (W_run 160 ?_)
  simp (maxSteps := 2000000) only [SA, Nat.reduceDiv, Nat.reduceSub, Nat.reduceAdd, Int.reduceLT, Int.reduceLE, Int.reduceToNat, Nat.reduceMul, Nat.reduceEqDiff, reduceCtorEq, Nat.reduceBEq, Nat.reduceLeDiff, Nat.reduceLT, ai, ab, al, tx, n00]
  refine W_callR (kb' := 1000) (args := [al false (pl D w.length)]) rfl (hcln _ rfl) rfl (W_run 160 ?_)
  simp (maxSteps := 2000000) only [SA, Nat.reduceDiv, Nat.reduceSub, Nat.reduceAdd, Int.reduceLT, Int.reduceLE, Int.reduceToNat, Nat.reduceMul, Nat.reduceEqDiff, reduceCtorEq, Nat.reduceBEq, Nat.reduceLeDiff, Nat.reduceLT, ai, ab, al, tx, Go.Proofs.Eng.putAt]
  refine W_alone (oth_loop V w n10 S hS bS _ _ _ _ _ _ _ _ _ _ _ _ _ (fun o ho j8 j10 j12 j14 j16 j18 j19 j21 j22 j23 j24 j25 j26 j27 j28 j29 j30 j31 j32 j33 j34 j35 j36 j37 j38 j39 j40 j41 j42 j43 j44 j45 j46 j47 j48 j49 j50 j51 j52 j53 j54 j55 j56 j57 j58 j59 j60 j61 j62 j63 j64 j65 j66 j67 j68 j69 j70 j71 j72 j73 j74 j75 j76 j77 j78 j79 j80 j81 j82 j83 j84 j85 j86 j87 j88 j89 j90 j91 j92 j93 j94 j95 j96 j97 j98 j99 j100 j101 j102 j103 j104 j105 j106 j107 j108 j109 j110 j111 j112 j113 j114 j115 j116 j117 j118 j119 j120 j121 j125 j126 j127 j128 j129 j130 j131 j132 j133 j134 j135 j136 j137 j138 j139 j140 j141 j142 j143 j144 j145 j146 j147 j148 j149 j150 j151 j152 j153 j154 j155 j156 j157 j158 j159 j160 j161 j162 j163 j164 j165 j166 j167 j168 j169 j170 j171 j172 j173 j174 j175 j176 j177 j178 j179 j180 j181 j182 j183 j184 j185 j186 j187 j188 j189 j190 j191 j192 j193 j194 j195 j196 => W_run 160 ?_) w.length 0 (by omega) D hDb hDb2 _ _ _ _ _ _ _ _ _ _ _ _ _ _ _ _ _ _ _ _ _ _ _ _ _ _ _ _ _ _ _ _ _ _ _ _ _ _ _ _ _ _ _ _ _ _ _ _ _ _ _ _ _ _ _ _ _ _ _ _ _ _ _ _ _ _ _ _ _ _ _ _ _ _ _ _ _ _ _ _ _ _ _ _ _ _ _ _ _ _ _ _ _ _ _ _ _ _ _ _ _ _ _ _ _ _ _ _ _ _ _ _ _ _ _ _ _ _ _ _ _ _ _ _ _ _ _ _ _ _ _ _ _ _ _ _ _ _ _ _ _ _ _ _ _ _ _ _ _ _ _ _ _ _ _ _ _ _ _ _ _ _ _ _ _ _ _ _ _ _ _ _ _ _ _ _ _ _ _ _)
  have hpr3 := hpr2 o ho
  have hbo3 := hbo2 o ho
  have hpv3 := hpv2 o ho
  have hble2 := hble o
  clear hpr2 hbo2 hpv2 hble
  unfold bndR at hbo3
  generalize bnL o (lb (pf w) V w.length) = z at *
  simp (maxSteps := 2000000) only [SA, Nat.reduceDiv, Nat.reduceSub, Nat.reduceAdd, Int.reduceLT, Int.reduceLE, Int.reduceToNat, Nat.reduceMul, Nat.reduceEqDiff, reduceCtorEq, Nat.reduceBEq, Nat.reduceLeDiff, Nat.reduceLT, xf3_R0, ai, ab, al, tx]
  refine W_look (fuel := 20) (args := [tx false V w, .os 1005 1 w.length 1 0 w.length]) rfl (by rw [List.mapM_cons, List.mapM_cons, reify_tx, reify_pl rfl]; rfl) hpr3 rfl rfl (W_run 160 ?_)
  simp (maxSteps := 2000000) only [SA, Nat.reduceDiv, Nat.reduceSub, Nat.reduceAdd, Int.reduceLT, Int.reduceLE, Int.reduceToNat, Nat.reduceMul, Nat.reduceEqDiff, reduceCtorEq, Nat.reduceBEq, Nat.reduceLeDiff, Nat.reduceLT, ai, ab, al, tx]
  cases hq : prB (pf w) V w.length o with
  | false =>
    rw [hq, if_neg (by simp)] at hbo3
    have e14 : ((14 : Int) == 14) = true := rfl
    refine W_look (fuel := 20) (args := [tx false V w, .os 1005 1 w.length 1 0 w.length]) rfl (by rw [List.mapM_cons, List.mapM_cons, reify_tx, reify_pl rfl]; rfl) hbo3 rfl rfl (W_run 160 ?_)
    simp (maxSteps := 2000000) only [SA, Nat.reduceDiv, Nat.reduceSub, Nat.reduceAdd, Int.reduceLT, Int.reduceLE, Int.reduceToNat, Nat.reduceMul, Nat.reduceEqDiff, reduceCtorEq, Nat.reduceBEq, Nat.reduceLeDiff, Nat.reduceLT, ai, ab, al, tx, e14, e00]
    refine W_call (args := []) rfl rfl hw rfl (W_run 160 ?_)
    simp (maxSteps := 2000000) only [SA, Nat.reduceDiv, Nat.reduceSub, Nat.reduceAdd, Int.reduceLT, Int.reduceLE, Int.reduceToNat, Nat.reduceMul, Nat.reduceEqDiff, reduceCtorEq, Nat.reduceBEq, Nat.reduceLeDiff, Nat.reduceLT, ai, ab, al, tx]
    exact W_ret1 (WX_pop (WX_nil ⟨.inl rfl, _, rfl, rfl⟩))
  | true =>
    have hz := hble2 hq
    have dz : decide (z ≤ L0) = true := decide_eq_true hz
    have ezz : (z == z) = true := by simp
    rw [hq, if_pos rfl] at hbo3
    rw [hq] at hpv3
    refine W_look (fuel := 20) (args := [tx false V w, .os 1005 1 w.length 1 0 w.length]) rfl (by rw [List.mapM_cons, List.mapM_cons, reify_tx, reify_pl rfl]; rfl) hbo3 rfl rfl (W_run 160 ?_)
    by_cases hzl : z = L0
    · have ez : (z == L0) = true := by simp [hzl]
      rw [if_pos ⟨rfl, hzl⟩] at hpv3
      simp (maxSteps := 2000000) only [SA, Nat.reduceDiv, Nat.reduceSub, Nat.reduceAdd, Int.reduceLT, Int.reduceLE, Int.reduceToNat, Nat.reduceMul, Nat.reduceEqDiff, reduceCtorEq, Nat.reduceBEq, Nat.reduceLeDiff, Nat.reduceLT, ai, ab, al, tx, ez, e00, ezz, dz]
      refine W_look (fuel := 20) (args := [tx false V w, al false X, .os 1005 1 w.length 1 0 w.length]) rfl (by rw [List.mapM_cons, List.mapM_cons, List.mapM_cons, reify_tx, reify_al, reify_pl rfl]; rfl) hpv3 rfl rfl (W_run 160 ?_)
      simp (maxSteps := 2000000) only [SA, Nat.reduceDiv, Nat.reduceSub, Nat.reduceAdd, Int.reduceLT, Int.reduceLE, Int.reduceToNat, Nat.reduceMul, Nat.reduceEqDiff, reduceCtorEq, Nat.reduceBEq, Nat.reduceLeDiff, Nat.reduceLT, ai, ab, al, tx, e00]
      refine W_call (args := []) rfl rfl hw rfl (W_run 160 ?_)
      simp (maxSteps := 2000000) only [SA, Nat.reduceDiv, Nat.reduceSub, Nat.reduceAdd, Int.reduceLT, Int.reduceLE, Int.reduceToNat, Nat.reduceMul, Nat.reduceEqDiff, reduceCtorEq, Nat.reduceBEq, Nat.reduceLeDiff, Nat.reduceLT, ai, ab, al, tx]
      exact W_ret1 (WX_nil ⟨.inl rfl, _, rfl, rfl⟩)
    · have ez : (z == L0) = false := by rw [beq_eq_false_iff_ne]; exact hzl
      have e14 : ((14 : Int) == 14) = true := rfl
      rw [if_neg (fun h => hzl h.2)] at hpv3
      simp (maxSteps := 2000000) only [SA, Nat.reduceDiv, Nat.reduceSub, Nat.reduceAdd, Int.reduceLT, Int.reduceLE, Int.reduceToNat, Nat.reduceMul, Nat.reduceEqDiff, reduceCtorEq, Nat.reduceBEq, Nat.reduceLeDiff, Nat.reduceLT, ai, ab, al, tx, ez, e00, ezz, dz]
      refine W_look (fuel := 20) (args := [tx false V w, al false X, .os 1005 1 w.length 1 0 w.length]) rfl (by rw [List.mapM_cons, List.mapM_cons, List.mapM_cons, reify_tx, reify_al, reify_pl rfl]; rfl) hpv3 rfl rfl (W_run 160 ?_)
      simp (maxSteps := 2000000) only [SA, Nat.reduceDiv, Nat.reduceSub, Nat.reduceAdd, Int.reduceLT, Int.reduceLE, Int.reduceToNat, Nat.reduceMul, Nat.reduceEqDiff, reduceCtorEq, Nat.reduceBEq, Nat.reduceLeDiff, Nat.reduceLT, ai, ab, al, tx, e14]
      refine W_call (args := []) rfl rfl hw rfl (W_run 160 ?_)
      simp (maxSteps := 2000000) only [SA, Nat.reduceDiv, Nat.reduceSub, Nat.reduceAdd, Int.reduceLT, Int.reduceLE, Int.reduceToNat, Nat.reduceMul, Nat.reduceEqDiff, reduceCtorEq, Nat.reduceBEq, Nat.reduceLeDiff, Nat.reduceLT, ai, ab, al, tx]
      exact W_ret1 (WX_nil ⟨.inl rfl, _, rfl, rfl⟩)
end Go.Proofs.Ytdmffkknghianaa

