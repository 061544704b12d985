/-
  TableShown: what is done with rows and columns.
-/
import Derived.Test.YtelkpfionifjgaaTi
import Derived.Test.YtelkpfionifjgaaPcV
set_option linter.unusedSimpArgs false
set_option linter.unusedVariables false
namespace Go.Proofs.Ytelkpfionifjgaa
open Go Go.Proofs.Eng
set_option maxRecDepth 100000
set_option maxHeartbeats 2000000
def zv (B : Bool) : Int := if B = true then 14 else 0
/-- whether some of the rows meets some of the columns at more than 0 -/
def meet (T : List (List Int)) (a b : List Int) : Bool := a.any fun r => b.any fun c => decide (0 < cel T r.toNat c.toNat)
theorem prvE_zv {n : Nat} {T : List (List Int)} {a b : List Int} (ha : cnE n none a = 0) (hb : cnE n none b = 0) : prvE n T a b = zv (decide (a.length + b.length ≤ n) || meet T a b) := by
  have hin := cnE_in _ _ hb
  have e : (b.any fun c => !memD (zerC n T a) c) = meet T a b := by
    rw [Bool.eq_iff_iff]
    simp only [meet, List.any_eq_true, Bool.not_eq_true']
    constructor
    · rintro ⟨c, hc, h⟩
      have hcn := hin c hc
      have hz : zerB T a c.toNat ≠ true := fun q => by
        rw [memD_iff.2 (zerC_mem.2 ⟨hcn, q⟩)] at h; cases h
      have hz2 : (a.any fun r => decide (0 < cel T r.toNat c.toNat)) = true := by
        unfold zerB at hz; simpa using hz
      obtain ⟨r, hr, h2⟩ := List.any_eq_true.1 hz2
      exact ⟨r, hr, c, hc, h2⟩
    · rintro ⟨r, hr, c, hc, h⟩
      refine ⟨c, hc, ?_⟩
      cases q : memD (zerC n T a) c with
      | false => rfl
      | true =>
        have := (zerC_mem.1 (memD_iff.1 q)).2
        unfold zerB at this
        rw [List.any_eq_true.2 ⟨r, hr, h⟩] at this
        cases this
  unfold prvE
  rw [if_pos ha, if_pos hb, e]
  unfold zv
  by_cases h1 : a.length + b.length ≤ n
  · rw [if_pos (.inl h1), decide_eq_true h1]; rfl
  · rw [decide_eq_false h1, Bool.false_or]
    cases meet T a b with
    | true => rw [if_pos (.inr rfl)]; rfl
    | false => rw [if_neg (by simp; omega)]; rfl
theorem cn_snoc_hi {n : Nat} (x : Int) (hx : x < 0 ∨ (n : Int) ≤ x) : ∀ (l : List Int) (o : Option Int), cnE n o l = 0 → cnE n o (l ++ [x]) = 2
  | [], none, _ => by rw [List.nil_append, cn_n, if_pos hx]
  | [], some y, _ => by rw [List.nil_append, cn_s, if_pos hx]
  | z :: t, none, h => by
    rw [cn_n] at h
    split at h
    · omega
    · rename_i q
      rw [List.cons_append, cn_n, if_neg q]
      exact cn_snoc_hi x hx t _ h
  | z :: t, some y, h => by
    rw [cn_s] at h
    split at h
    · omega
    · rename_i q
      split at h
      · omega
      · rename_i q2
        rw [List.cons_append, cn_s, if_neg q, if_neg q2]
        exact cn_snoc_hi x hx t _ h
theorem prvE_a {n : Nat} {T : List (List Int)} {a b : List Int} (h : cnE n none a = 2) : prvE n T a b = 2 := by unfold prvE; rw [if_neg (by omega), h]
theorem prvE_b {n : Nat} {T : List (List Int)} {a b : List Int} (ha : cnE n none a = 0) (h : cnE n none b = 2) : prvE n T a b = 2 := by unfold prvE; rw [if_pos ha, if_neg (by omega), h]
def hE (q47 q1 q2 : Nat × Option Ob) : Heap := [(47, q47), (106, q1), (115, q2)]
theorem reify_a {T : List (List Int)} {y : AV} {b : List Int} (hy : isL y b) {η : Heap} {k g e : Nat} {l : List Int} {m : Nat} (hm : m = l.length) {xs : List AV} (hxs : xs = l.map ai) (hk : Go.Proofs.Eng.look η k = (g, some ⟨e, 1, xs⟩)) :
    [aT T, .os k g m 1 0 m, y].mapM (reify η 20) = some [aT T, al false l, y] := by
  subst hm hxs
  have h1 := reify_T T η 14
  have h2 := reify_ints hk
  have h3 := reify_isL hy η 17
  simp only [List.mapM_cons, List.mapM_nil, h1, h2, h3]; rfl
theorem reify_b {T : List (List Int)} {x : AV} {a : List Int} (hx : isL x a) {η : Heap} {k g e : Nat} {l : List Int} {m : Nat} (hm : m = l.length) {xs : List AV} (hxs : xs = l.map ai) (hk : Go.Proofs.Eng.look η k = (g, some ⟨e, 1, xs⟩)) :
    [aT T, x, .os k g m 1 0 m].mapM (reify η 20) = some [aT T, x, al false l] := by
  subst hm hxs
  have h1 := reify_T T η 14
  have h2 := reify_ints hk
  have h3 := reify_isL hx η 17
  simp only [List.mapM_cons, List.mapM_nil, h1, h2, h3]; rfl
def QT (o : Out) (c : Cfg) : Prop := (o = .ret ∨ o = .normal) ∧ ∃ rs, xf10.results.mapM (resOf Try.prog c) = some rs ∧ reify c.η 20 (retOf rs) = some (.v (.bool true))
theorem fin_ll {n : Nat} {T : List (List Int)} (hg : gT n T) (f : Bool) (y0 : Int) (t0 : List Int) (g : Bool) (y1 : Int) (t1 : List Int) (ha : cnE n none (y0 :: t0) = 0) (hb : cnE n none (y1 :: t1) = 0) (hal : (y0 :: t0).length ≤ 4) (hbl : (y1 :: t1).length ≤ 4) (hW : Runs Try.prog xf 28 [] (.v (.bool true))) (q47 q1 q2 : Nat × Option Ob) :
    ∀ j0 j1 j2 j3 j4 j5 j6 j7 j8 j11 j12 j13 j14 j15 j16 j19 j21 j22 j23 j24 j25 j26 j27 j28 j29 j30 j31 j32 j33 j34 j35 j36 j37 j38 j39 j40 j41 j42 j43 j44 j45 j46 j47 j48 j49 j50 j51 j52 j53 j54 j55 j56 j57 j58 j59 j60 j61 j62 j63 j64 j65 j66 j67 j68 j69 j70 j71 j72 j73 j74 j75 j76 j77 j78 j79 j80 j81 j82 j83 j84 j85 j86 j87 j88 j89 j90 j91 j92 j93 j94 j95 j96 j97 j98 j99 j100 j101 j102 j103 j104 j105 j106 j107 j108 j109 j110 j111 j112 j113 j114 j115 j116 j117 j118 j119 j120 j121 j122 j123 j124 j125 j126 j127 j128 j129 j130 j131 j132 j133 j134 j135 j136 j137 j138 j139 j140 j141 j142 j143 j144 j145 j146 j147 j148 j149 j150 j151 j152 j153 j154 j155 j156 j157 j158 j159 j160 j161 j162 j163 j164 j165 j166 j167 j168 j169 j170 j171 j172 j173 j174 j175 : AV, W Try.prog (RelU Try.prog xf) 0 [.code xf10_R1] ⟨(j0 :: j1 :: j2 :: j3 :: j4 :: j5 :: j6 :: j7 :: j8 :: (aT T) :: (ai n) :: j11 :: j12 :: j13 :: j14 :: j15 :: j16 :: (al f (y0 :: t0)) :: (al g (y1 :: t1)) :: j19 :: (ai (prvE n T (y0 :: t0) (y1 :: t1))) :: j21 :: j22 :: j23 :: j24 :: j25 :: j26 :: j27 :: j28 :: j29 :: j30 :: j31 :: j32 :: j33 :: j34 :: j35 :: j36 :: j37 :: j38 :: j39 :: j40 :: j41 :: j42 :: j43 :: j44 :: j45 :: j46 :: j47 :: j48 :: j49 :: j50 :: j51 :: j52 :: j53 :: j54 :: j55 :: j56 :: j57 :: j58 :: j59 :: j60 :: j61 :: j62 :: j63 :: j64 :: j65 :: j66 :: j67 :: j68 :: j69 :: j70 :: j71 :: j72 :: j73 :: j74 :: j75 :: j76 :: j77 :: j78 :: j79 :: j80 :: j81 :: j82 :: j83 :: j84 :: j85 :: j86 :: j87 :: j88 :: j89 :: j90 :: j91 :: j92 :: j93 :: j94 :: j95 :: j96 :: j97 :: j98 :: j99 :: j100 :: j101 :: j102 :: j103 :: j104 :: j105 :: j106 :: j107 :: j108 :: j109 :: j110 :: j111 :: j112 :: j113 :: j114 :: j115 :: j116 :: j117 :: j118 :: j119 :: j120 :: j121 :: j122 :: j123 :: j124 :: j125 :: j126 :: j127 :: j128 :: j129 :: j130 :: j131 :: j132 :: j133 :: j134 :: j135 :: j136 :: j137 :: j138 :: j139 :: j140 :: j141 :: j142 :: j143 :: j144 :: j145 :: j146 :: j147 :: j148 :: j149 :: j150 :: j151 :: j152 :: j153 :: j154 :: j155 :: j156 :: j157 :: j158 :: j159 :: j160 :: j161 :: j162 :: j163 :: j164 :: j165 :: j166 :: j167 :: j168 :: j169 :: j170 :: j171 :: j172 :: j173 :: j174 :: j175 :: []), hE q47 q1 q2⟩ QT := by
  intro j0 j1 j2 j3 j4 j5 j6 j7 j8 j11 j12 j13 j14 j15 j16 j19 j21 j22 j23 j24 j25 j26 j27 j28 j29 j30 j31 j32 j33 j34 j35 j36 j37 j38 j39 j40 j41 j42 j43 j44 j45 j46 j47 j48 j49 j50 j51 j52 j53 j54 j55 j56 j57 j58 j59 j60 j61 j62 j63 j64 j65 j66 j67 j68 j69 j70 j71 j72 j73 j74 j75 j76 j77 j78 j79 j80 j81 j82 j83 j84 j85 j86 j87 j88 j89 j90 j91 j92 j93 j94 j95 j96 j97 j98 j99 j100 j101 j102 j103 j104 j105 j106 j107 j108 j109 j110 j111 j112 j113 j114 j115 j116 j117 j118 j119 j120 j121 j122 j123 j124 j125 j126 j127 j128 j129 j130 j131 j132 j133 j134 j135 j136 j137 j138 j139 j140 j141 j142 j143 j144 j145 j146 j147 j148 j149 j150 j151 j152 j153 j154 j155 j156 j157 j158 j159 j160 j161 j162 j163 j164 j165 j166 j167 j168 j169 j170 j171 j172 j173 j174 j175
  have hx : isL (al f (y0 :: t0)) (y0 :: t0) := (.inl ⟨f, rfl⟩ : isL (al f (y0 :: t0)) (y0 :: t0))
  have hy : isL (al g (y1 :: t1)) (y1 :: t1) := (.inl ⟨g, rfl⟩ : isL (al g (y1 :: t1)) (y1 :: t1))
  have p1 := proves_run hg hx hy (by omega) (by omega)
  have p2 := proves_run hg (.inl ⟨false, rfl⟩ : isL (al false ((y0 :: t0) ++ [(n : Int)])) ((y0 :: t0) ++ [(n : Int)])) hy (by rw [List.length_append]; simp only [List.length_cons, List.length_nil] at hal ⊢; omega) (by omega)
  have p3 := proves_run hg hx (.inl ⟨false, rfl⟩ : isL (al false ((y1 :: t1) ++ [-1])) ((y1 :: t1) ++ [-1])) (by omega) (by rw [List.length_append]; simp only [List.length_cons, List.length_nil] at hbl ⊢; omega)
  rw [prvE_a (cn_snoc_hi (n : Int) (.inr (Int.le_refl _)) _ _ ha)] at p2
  rw [prvE_b ha (cn_snoc_hi (-1) (.inl (by omega)) _ _ hb)] at p3
  generalize hz : prvE n T (y0 :: t0) (y1 :: t1) = z at *
  have ez : (z == z) = true := by simp
  have e22 : ((2 : Int) == 2) = true := rfl
  refine W_run 200 ?_
  simp (maxSteps := 2000000) only [SA, Nat.reduceDiv, Nat.reduceSub, Nat.reduceAdd, Int.reduceLT, Int.reduceLE, Int.reduceToNat, Nat.reduceMul, Nat.reduceEqDiff, reduceCtorEq, Nat.reduceBEq, Nat.reduceLeDiff, Nat.reduceLT, xf10_R1, ai, aT]
  refine W_call (args := [aT T, al f (y0 :: t0), al g (y1 :: t1)]) rfl (noRefs_3 (noRef_T T) hx.ref hy.ref) p1 rfl (W_run 200 ?_)
  simp (maxSteps := 2000000) only [SA, Nat.reduceDiv, Nat.reduceSub, Nat.reduceAdd, Int.reduceLT, Int.reduceLE, Int.reduceToNat, Nat.reduceMul, Nat.reduceEqDiff, reduceCtorEq, Nat.reduceBEq, Nat.reduceLeDiff, Nat.reduceLT, ai, ez]
  refine W_callR (kb' := 1038) (args := [al f (y0 :: t0)]) rfl (clone_run f (y0 :: t0) (by omega) _ _ _ rfl) rfl (W_run 200 ?_)
  have q1f : (t0.length + 1 + 1) * 8 ≤ 100000000000000 := by simp only [List.length_cons] at hal hbl; omega
  have q2f : t0.length + 1 + 1 ≤ 100000000000000 := by simp only [List.length_cons] at hal hbl; omega
  simp (maxSteps := 2000000) only [SA, Nat.reduceDiv, Nat.reduceSub, Nat.reduceAdd, Int.reduceLT, Int.reduceLE, Int.reduceToNat, Nat.reduceMul, Nat.reduceEqDiff, reduceCtorEq, Nat.reduceBEq, Nat.reduceLeDiff, Nat.reduceLT, ai, al, aT, hE, q1f, q2f, Go.Proofs.Eng.elems, List.map_cons, List.map_nil]
  refine W_look (fuel := 20) (args := [aT T, .os 1043 1 (t0.length + 1 + 1) 1 0 (t0.length + 1 + 1), al g (y1 :: t1)]) (args' := [aT T, al false ((y0 :: t0) ++ [(n : Int)]), al g (y1 :: t1)]) rfl (reify_a (l := (y0 :: t0) ++ [(n : Int)]) hy (by simp) (by simp [ai]) rfl) p2 rfl rfl (W_run 200 ?_)
  simp (maxSteps := 2000000) only [SA, Nat.reduceDiv, Nat.reduceSub, Nat.reduceAdd, Int.reduceLT, Int.reduceLE, Int.reduceToNat, Nat.reduceMul, Nat.reduceEqDiff, reduceCtorEq, Nat.reduceBEq, Nat.reduceLeDiff, Nat.reduceLT, ai, e22]
  refine W_callR (kb' := 1038) (args := [al g (y1 :: t1)]) rfl (clone_run g (y1 :: t1) (by omega) _ _ _ rfl) rfl (W_run 200 ?_)
  have q1g : (t1.length + 1 + 1) * 8 ≤ 100000000000000 := by simp only [List.length_cons] at hal hbl; omega
  have q2g : t1.length + 1 + 1 ≤ 100000000000000 := by simp only [List.length_cons] at hal hbl; omega
  simp (maxSteps := 2000000) only [SA, Nat.reduceDiv, Nat.reduceSub, Nat.reduceAdd, Int.reduceLT, Int.reduceLE, Int.reduceToNat, Nat.reduceMul, Nat.reduceEqDiff, reduceCtorEq, Nat.reduceBEq, Nat.reduceLeDiff, Nat.reduceLT, ai, al, aT, hE, q1g, q2g, Go.Proofs.Eng.elems, List.map_cons, List.map_nil]
  refine W_look (fuel := 20) (args := [aT T, al f (y0 :: t0), .os 1043 2 (t1.length + 1 + 1) 1 0 (t1.length + 1 + 1)]) (args' := [aT T, al f (y0 :: t0), al false ((y1 :: t1) ++ [-1])]) rfl (reify_b (l := (y1 :: t1) ++ [-1]) hx (by simp) (by simp [ai]) rfl) p3 rfl rfl (W_run 200 ?_)
  simp (maxSteps := 2000000) only [SA, Nat.reduceDiv, Nat.reduceSub, Nat.reduceAdd, Int.reduceLT, Int.reduceLE, Int.reduceToNat, Nat.reduceMul, Nat.reduceEqDiff, reduceCtorEq, Nat.reduceBEq, Nat.reduceLeDiff, Nat.reduceLT, ai, e22]
  refine W_call (args := []) rfl rfl hW rfl (W_run 200 ?_)
  simp (maxSteps := 2000000) only [SA, Nat.reduceDiv, Nat.reduceSub, Nat.reduceAdd, Int.reduceLT, Int.reduceLE, Int.reduceToNat, Nat.reduceMul, Nat.reduceEqDiff, reduceCtorEq, Nat.reduceBEq, Nat.reduceLeDiff, Nat.reduceLT, ai]
  exact W_ret1 (WX_nil ⟨.inl rfl, _, rfl, rfl⟩)
theorem fin_ln {n : Nat} {T : List (List Int)} (hg : gT n T) (f : Bool) (y0 : Int) (t0 : List Int) (ha : cnE n none (y0 :: t0) = 0) (hb : cnE n none ([] : List Int) = 0) (hal : (y0 :: t0).length ≤ 4) (hbl : ([] : List Int).length ≤ 4) (hW : Runs Try.prog xf 28 [] (.v (.bool true))) (q47 q1 q2 : Nat × Option Ob) :
    ∀ j0 j1 j2 j3 j4 j5 j6 j7 j8 j11 j12 j13 j14 j15 j16 j19 j21 j22 j23 j24 j25 j26 j27 j28 j29 j30 j31 j32 j33 j34 j35 j36 j37 j38 j39 j40 j41 j42 j43 j44 j45 j46 j47 j48 j49 j50 j51 j52 j53 j54 j55 j56 j57 j58 j59 j60 j61 j62 j63 j64 j65 j66 j67 j68 j69 j70 j71 j72 j73 j74 j75 j76 j77 j78 j79 j80 j81 j82 j83 j84 j85 j86 j87 j88 j89 j90 j91 j92 j93 j94 j95 j96 j97 j98 j99 j100 j101 j102 j103 j104 j105 j106 j107 j108 j109 j110 j111 j112 j113 j114 j115 j116 j117 j118 j119 j120 j121 j122 j123 j124 j125 j126 j127 j128 j129 j130 j131 j132 j133 j134 j135 j136 j137 j138 j139 j140 j141 j142 j143 j144 j145 j146 j147 j148 j149 j150 j151 j152 j153 j154 j155 j156 j157 j158 j159 j160 j161 j162 j163 j164 j165 j166 j167 j168 j169 j170 j171 j172 j173 j174 j175 : AV, W Try.prog (RelU Try.prog xf) 0 [.code xf10_R1] ⟨(j0 :: j1 :: j2 :: j3 :: j4 :: j5 :: j6 :: j7 :: j8 :: (aT T) :: (ai n) :: j11 :: j12 :: j13 :: j14 :: j15 :: j16 :: (al f (y0 :: t0)) :: nilA :: j19 :: (ai (prvE n T (y0 :: t0) ([] : List Int))) :: j21 :: j22 :: j23 :: j24 :: j25 :: j26 :: j27 :: j28 :: j29 :: j30 :: j31 :: j32 :: j33 :: j34 :: j35 :: j36 :: j37 :: j38 :: j39 :: j40 :: j41 :: j42 :: j43 :: j44 :: j45 :: j46 :: j47 :: j48 :: j49 :: j50 :: j51 :: j52 :: j53 :: j54 :: j55 :: j56 :: j57 :: j58 :: j59 :: j60 :: j61 :: j62 :: j63 :: j64 :: j65 :: j66 :: j67 :: j68 :: j69 :: j70 :: j71 :: j72 :: j73 :: j74 :: j75 :: j76 :: j77 :: j78 :: j79 :: j80 :: j81 :: j82 :: j83 :: j84 :: j85 :: j86 :: j87 :: j88 :: j89 :: j90 :: j91 :: j92 :: j93 :: j94 :: j95 :: j96 :: j97 :: j98 :: j99 :: j100 :: j101 :: j102 :: j103 :: j104 :: j105 :: j106 :: j107 :: j108 :: j109 :: j110 :: j111 :: j112 :: j113 :: j114 :: j115 :: j116 :: j117 :: j118 :: j119 :: j120 :: j121 :: j122 :: j123 :: j124 :: j125 :: j126 :: j127 :: j128 :: j129 :: j130 :: j131 :: j132 :: j133 :: j134 :: j135 :: j136 :: j137 :: j138 :: j139 :: j140 :: j141 :: j142 :: j143 :: j144 :: j145 :: j146 :: j147 :: j148 :: j149 :: j150 :: j151 :: j152 :: j153 :: j154 :: j155 :: j156 :: j157 :: j158 :: j159 :: j160 :: j161 :: j162 :: j163 :: j164 :: j165 :: j166 :: j167 :: j168 :: j169 :: j170 :: j171 :: j172 :: j173 :: j174 :: j175 :: []), hE q47 q1 q2⟩ QT := by
  intro j0 j1 j2 j3 j4 j5 j6 j7 j8 j11 j12 j13 j14 j15 j16 j19 j21 j22 j23 j24 j25 j26 j27 j28 j29 j30 j31 j32 j33 j34 j35 j36 j37 j38 j39 j40 j41 j42 j43 j44 j45 j46 j47 j48 j49 j50 j51 j52 j53 j54 j55 j56 j57 j58 j59 j60 j61 j62 j63 j64 j65 j66 j67 j68 j69 j70 j71 j72 j73 j74 j75 j76 j77 j78 j79 j80 j81 j82 j83 j84 j85 j86 j87 j88 j89 j90 j91 j92 j93 j94 j95 j96 j97 j98 j99 j100 j101 j102 j103 j104 j105 j106 j107 j108 j109 j110 j111 j112 j113 j114 j115 j116 j117 j118 j119 j120 j121 j122 j123 j124 j125 j126 j127 j128 j129 j130 j131 j132 j133 j134 j135 j136 j137 j138 j139 j140 j141 j142 j143 j144 j145 j146 j147 j148 j149 j150 j151 j152 j153 j154 j155 j156 j157 j158 j159 j160 j161 j162 j163 j164 j165 j166 j167 j168 j169 j170 j171 j172 j173 j174 j175
  have hx : isL (al f (y0 :: t0)) (y0 :: t0) := (.inl ⟨f, rfl⟩ : isL (al f (y0 :: t0)) (y0 :: t0))
  have hy : isL (nilA) ([] : List Int) := (.inr ⟨rfl, rfl⟩ : isL nilA [])
  have p1 := proves_run hg hx hy (by omega) (by omega)
  have p2 := proves_run hg (.inl ⟨false, rfl⟩ : isL (al false ((y0 :: t0) ++ [(n : Int)])) ((y0 :: t0) ++ [(n : Int)])) hy (by rw [List.length_append]; simp only [List.length_cons, List.length_nil] at hal ⊢; omega) (by omega)
  have p3 := proves_run hg hx (.inl ⟨false, rfl⟩ : isL (al false (([] : List Int) ++ [-1])) (([] : List Int) ++ [-1])) (by omega) (by rw [List.length_append]; simp only [List.length_cons, List.length_nil] at hbl ⊢; omega)
  rw [prvE_a (cn_snoc_hi (n : Int) (.inr (Int.le_refl _)) _ _ ha)] at p2
  rw [prvE_b ha (cn_snoc_hi (-1) (.inl (by omega)) _ _ hb)] at p3
  generalize hz : prvE n T (y0 :: t0) ([] : List Int) = z at *
  have ez : (z == z) = true := by simp
  have e22 : ((2 : Int) == 2) = true := rfl
  refine W_run 200 ?_
  simp (maxSteps := 2000000) only [SA, Nat.reduceDiv, Nat.reduceSub, Nat.reduceAdd, Int.reduceLT, Int.reduceLE, Int.reduceToNat, Nat.reduceMul, Nat.reduceEqDiff, reduceCtorEq, Nat.reduceBEq, Nat.reduceLeDiff, Nat.reduceLT, xf10_R1, ai, aT]
  refine W_call (args := [aT T, al f (y0 :: t0), nilA]) rfl (noRefs_3 (noRef_T T) hx.ref hy.ref) p1 rfl (W_run 200 ?_)
  simp (maxSteps := 2000000) only [SA, Nat.reduceDiv, Nat.reduceSub, Nat.reduceAdd, Int.reduceLT, Int.reduceLE, Int.reduceToNat, Nat.reduceMul, Nat.reduceEqDiff, reduceCtorEq, Nat.reduceBEq, Nat.reduceLeDiff, Nat.reduceLT, ai, ez]
  refine W_callR (kb' := 1038) (args := [al f (y0 :: t0)]) rfl (clone_run f (y0 :: t0) (by omega) _ _ _ rfl) rfl (W_run 200 ?_)
  have q1f : (t0.length + 1 + 1) * 8 ≤ 100000000000000 := by simp only [List.length_cons] at hal hbl; omega
  have q2f : t0.length + 1 + 1 ≤ 100000000000000 := by simp only [List.length_cons] at hal hbl; omega
  simp (maxSteps := 2000000) only [SA, Nat.reduceDiv, Nat.reduceSub, Nat.reduceAdd, Int.reduceLT, Int.reduceLE, Int.reduceToNat, Nat.reduceMul, Nat.reduceEqDiff, reduceCtorEq, Nat.reduceBEq, Nat.reduceLeDiff, Nat.reduceLT, ai, al, aT, hE, q1f, q2f, Go.Proofs.Eng.elems, List.map_cons, List.map_nil]
  refine W_look (fuel := 20) (args := [aT T, .os 1043 1 (t0.length + 1 + 1) 1 0 (t0.length + 1 + 1), nilA]) (args' := [aT T, al false ((y0 :: t0) ++ [(n : Int)]), nilA]) rfl (reify_a (l := (y0 :: t0) ++ [(n : Int)]) hy (by simp) (by simp [ai]) rfl) p2 rfl rfl (W_run 200 ?_)
  simp (maxSteps := 2000000) only [SA, Nat.reduceDiv, Nat.reduceSub, Nat.reduceAdd, Int.reduceLT, Int.reduceLE, Int.reduceToNat, Nat.reduceMul, Nat.reduceEqDiff, reduceCtorEq, Nat.reduceBEq, Nat.reduceLeDiff, Nat.reduceLT, ai, e22]
  refine W_call (args := [nilA]) rfl (noRefs_1 rfl) (clone_nil []) rfl (W_run 200 ?_)
  simp (maxSteps := 2000000) only [SA, Nat.reduceDiv, Nat.reduceSub, Nat.reduceAdd, Int.reduceLT, Int.reduceLE, Int.reduceToNat, Nat.reduceMul, Nat.reduceEqDiff, reduceCtorEq, Nat.reduceBEq, Nat.reduceLeDiff, Nat.reduceLT, ai, al, aT, nilA, hE, Go.Proofs.Eng.elems, List.map_cons, List.map_nil]
  refine W_look (fuel := 20) (args := [aT T, al f (y0 :: t0), .os 169 1 1 1 0 1]) (args' := [aT T, al f (y0 :: t0), al false (([] : List Int) ++ [-1])]) rfl (reify_b (l := ([] : List Int) ++ [-1]) hx (by simp) (by simp [ai]) rfl) p3 rfl rfl (W_run 200 ?_)
  simp (maxSteps := 2000000) only [SA, Nat.reduceDiv, Nat.reduceSub, Nat.reduceAdd, Int.reduceLT, Int.reduceLE, Int.reduceToNat, Nat.reduceMul, Nat.reduceEqDiff, reduceCtorEq, Nat.reduceBEq, Nat.reduceLeDiff, Nat.reduceLT, ai, e22]
  refine W_call (args := []) rfl rfl hW rfl (W_run 200 ?_)
  simp (maxSteps := 2000000) only [SA, Nat.reduceDiv, Nat.reduceSub, Nat.reduceAdd, Int.reduceLT, Int.reduceLE, Int.reduceToNat, Nat.reduceMul, Nat.reduceEqDiff, reduceCtorEq, Nat.reduceBEq, Nat.reduceLeDiff, Nat.reduceLT, ai]
  exact W_ret1 (WX_nil ⟨.inl rfl, _, rfl, rfl⟩)
theorem fin_nl {n : Nat} {T : List (List Int)} (hg : gT n T) (g : Bool) (y1 : Int) (t1 : List Int) (ha : cnE n none ([] : List Int) = 0) (hb : cnE n none (y1 :: t1) = 0) (hal : ([] : List Int).length ≤ 4) (hbl : (y1 :: t1).length ≤ 4) (hW : Runs Try.prog xf 28 [] (.v (.bool true))) (q47 q1 q2 : Nat × Option Ob) :
    ∀ j0 j1 j2 j3 j4 j5 j6 j7 j8 j11 j12 j13 j14 j15 j16 j19 j21 j22 j23 j24 j25 j26 j27 j28 j29 j30 j31 j32 j33 j34 j35 j36 j37 j38 j39 j40 j41 j42 j43 j44 j45 j46 j47 j48 j49 j50 j51 j52 j53 j54 j55 j56 j57 j58 j59 j60 j61 j62 j63 j64 j65 j66 j67 j68 j69 j70 j71 j72 j73 j74 j75 j76 j77 j78 j79 j80 j81 j82 j83 j84 j85 j86 j87 j88 j89 j90 j91 j92 j93 j94 j95 j96 j97 j98 j99 j100 j101 j102 j103 j104 j105 j106 j107 j108 j109 j110 j111 j112 j113 j114 j115 j116 j117 j118 j119 j120 j121 j122 j123 j124 j125 j126 j127 j128 j129 j130 j131 j132 j133 j134 j135 j136 j137 j138 j139 j140 j141 j142 j143 j144 j145 j146 j147 j148 j149 j150 j151 j152 j153 j154 j155 j156 j157 j158 j159 j160 j161 j162 j163 j164 j165 j166 j167 j168 j169 j170 j171 j172 j173 j174 j175 : AV, W Try.prog (RelU Try.prog xf) 0 [.code xf10_R1] ⟨(j0 :: j1 :: j2 :: j3 :: j4 :: j5 :: j6 :: j7 :: j8 :: (aT T) :: (ai n) :: j11 :: j12 :: j13 :: j14 :: j15 :: j16 :: nilA :: (al g (y1 :: t1)) :: j19 :: (ai (prvE n T ([] : List Int) (y1 :: t1))) :: j21 :: j22 :: j23 :: j24 :: j25 :: j26 :: j27 :: j28 :: j29 :: j30 :: j31 :: j32 :: j33 :: j34 :: j35 :: j36 :: j37 :: j38 :: j39 :: j40 :: j41 :: j42 :: j43 :: j44 :: j45 :: j46 :: j47 :: j48 :: j49 :: j50 :: j51 :: j52 :: j53 :: j54 :: j55 :: j56 :: j57 :: j58 :: j59 :: j60 :: j61 :: j62 :: j63 :: j64 :: j65 :: j66 :: j67 :: j68 :: j69 :: j70 :: j71 :: j72 :: j73 :: j74 :: j75 :: j76 :: j77 :: j78 :: j79 :: j80 :: j81 :: j82 :: j83 :: j84 :: j85 :: j86 :: j87 :: j88 :: j89 :: j90 :: j91 :: j92 :: j93 :: j94 :: j95 :: j96 :: j97 :: j98 :: j99 :: j100 :: j101 :: j102 :: j103 :: j104 :: j105 :: j106 :: j107 :: j108 :: j109 :: j110 :: j111 :: j112 :: j113 :: j114 :: j115 :: j116 :: j117 :: j118 :: j119 :: j120 :: j121 :: j122 :: j123 :: j124 :: j125 :: j126 :: j127 :: j128 :: j129 :: j130 :: j131 :: j132 :: j133 :: j134 :: j135 :: j136 :: j137 :: j138 :: j139 :: j140 :: j141 :: j142 :: j143 :: j144 :: j145 :: j146 :: j147 :: j148 :: j149 :: j150 :: j151 :: j152 :: j153 :: j154 :: j155 :: j156 :: j157 :: j158 :: j159 :: j160 :: j161 :: j162 :: j163 :: j164 :: j165 :: j166 :: j167 :: j168 :: j169 :: j170 :: j171 :: j172 :: j173 :: j174 :: j175 :: []), hE q47 q1 q2⟩ QT := by
  intro j0 j1 j2 j3 j4 j5 j6 j7 j8 j11 j12 j13 j14 j15 j16 j19 j21 j22 j23 j24 j25 j26 j27 j28 j29 j30 j31 j32 j33 j34 j35 j36 j37 j38 j39 j40 j41 j42 j43 j44 j45 j46 j47 j48 j49 j50 j51 j52 j53 j54 j55 j56 j57 j58 j59 j60 j61 j62 j63 j64 j65 j66 j67 j68 j69 j70 j71 j72 j73 j74 j75 j76 j77 j78 j79 j80 j81 j82 j83 j84 j85 j86 j87 j88 j89 j90 j91 j92 j93 j94 j95 j96 j97 j98 j99 j100 j101 j102 j103 j104 j105 j106 j107 j108 j109 j110 j111 j112 j113 j114 j115 j116 j117 j118 j119 j120 j121 j122 j123 j124 j125 j126 j127 j128 j129 j130 j131 j132 j133 j134 j135 j136 j137 j138 j139 j140 j141 j142 j143 j144 j145 j146 j147 j148 j149 j150 j151 j152 j153 j154 j155 j156 j157 j158 j159 j160 j161 j162 j163 j164 j165 j166 j167 j168 j169 j170 j171 j172 j173 j174 j175
  have hx : isL (nilA) ([] : List Int) := (.inr ⟨rfl, rfl⟩ : isL nilA [])
  have hy : isL (al g (y1 :: t1)) (y1 :: t1) := (.inl ⟨g, rfl⟩ : isL (al g (y1 :: t1)) (y1 :: t1))
  have p1 := proves_run hg hx hy (by omega) (by omega)
  have p2 := proves_run hg (.inl ⟨false, rfl⟩ : isL (al false (([] : List Int) ++ [(n : Int)])) (([] : List Int) ++ [(n : Int)])) hy (by rw [List.length_append]; simp only [List.length_cons, List.length_nil] at hal ⊢; omega) (by omega)
  have p3 := proves_run hg hx (.inl ⟨false, rfl⟩ : isL (al false ((y1 :: t1) ++ [-1])) ((y1 :: t1) ++ [-1])) (by omega) (by rw [List.length_append]; simp only [List.length_cons, List.length_nil] at hbl ⊢; omega)
  rw [prvE_a (cn_snoc_hi (n : Int) (.inr (Int.le_refl _)) _ _ ha)] at p2
  rw [prvE_b ha (cn_snoc_hi (-1) (.inl (by omega)) _ _ hb)] at p3
  generalize hz : prvE n T ([] : List Int) (y1 :: t1) = z at *
  have ez : (z == z) = true := by simp
  have e22 : ((2 : Int) == 2) = true := rfl
  refine W_run 200 ?_
  simp (maxSteps := 2000000) only [SA, Nat.reduceDiv, Nat.reduceSub, Nat.reduceAdd, Int.reduceLT, Int.reduceLE, Int.reduceToNat, Nat.reduceMul, Nat.reduceEqDiff, reduceCtorEq, Nat.reduceBEq, Nat.reduceLeDiff, Nat.reduceLT, xf10_R1, ai, aT]
  refine W_call (args := [aT T, nilA, al g (y1 :: t1)]) rfl (noRefs_3 (noRef_T T) hx.ref hy.ref) p1 rfl (W_run 200 ?_)
  simp (maxSteps := 2000000) only [SA, Nat.reduceDiv, Nat.reduceSub, Nat.reduceAdd, Int.reduceLT, Int.reduceLE, Int.reduceToNat, Nat.reduceMul, Nat.reduceEqDiff, reduceCtorEq, Nat.reduceBEq, Nat.reduceLeDiff, Nat.reduceLT, ai, ez]
  refine W_call (args := [nilA]) rfl (noRefs_1 rfl) (clone_nil []) rfl (W_run 200 ?_)
  simp (maxSteps := 2000000) only [SA, Nat.reduceDiv, Nat.reduceSub, Nat.reduceAdd, Int.reduceLT, Int.reduceLE, Int.reduceToNat, Nat.reduceMul, Nat.reduceEqDiff, reduceCtorEq, Nat.reduceBEq, Nat.reduceLeDiff, Nat.reduceLT, ai, al, aT, nilA, hE, Go.Proofs.Eng.elems, List.map_cons, List.map_nil]
  refine W_look (fuel := 20) (args := [aT T, .os 158 1 1 1 0 1, al g (y1 :: t1)]) (args' := [aT T, al false (([] : List Int) ++ [(n : Int)]), al g (y1 :: t1)]) rfl (reify_a (l := ([] : List Int) ++ [(n : Int)]) hy (by simp) (by simp [ai]) rfl) p2 rfl rfl (W_run 200 ?_)
  simp (maxSteps := 2000000) only [SA, Nat.reduceDiv, Nat.reduceSub, Nat.reduceAdd, Int.reduceLT, Int.reduceLE, Int.reduceToNat, Nat.reduceMul, Nat.reduceEqDiff, reduceCtorEq, Nat.reduceBEq, Nat.reduceLeDiff, Nat.reduceLT, ai, e22]
  refine W_callR (kb' := 1038) (args := [al g (y1 :: t1)]) rfl (clone_run g (y1 :: t1) (by omega) _ _ _ rfl) rfl (W_run 200 ?_)
  have q1g : (t1.length + 1 + 1) * 8 ≤ 100000000000000 := by simp only [List.length_cons] at hal hbl; omega
  have q2g : t1.length + 1 + 1 ≤ 100000000000000 := by simp only [List.length_cons] at hal hbl; omega
  simp (maxSteps := 2000000) only [SA, Nat.reduceDiv, Nat.reduceSub, Nat.reduceAdd, Int.reduceLT, Int.reduceLE, Int.reduceToNat, Nat.reduceMul, Nat.reduceEqDiff, reduceCtorEq, Nat.reduceBEq, Nat.reduceLeDiff, Nat.reduceLT, ai, al, aT, hE, q1g, q2g, Go.Proofs.Eng.elems, List.map_cons, List.map_nil]
  refine W_look (fuel := 20) (args := [aT T, nilA, .os 1043 1 (t1.length + 1 + 1) 1 0 (t1.length + 1 + 1)]) (args' := [aT T, nilA, al false ((y1 :: t1) ++ [-1])]) rfl (reify_b (l := (y1 :: t1) ++ [-1]) hx (by simp) (by simp [ai]) rfl) p3 rfl rfl (W_run 200 ?_)
  simp (maxSteps := 2000000) only [SA, Nat.reduceDiv, Nat.reduceSub, Nat.reduceAdd, Int.reduceLT, Int.reduceLE, Int.reduceToNat, Nat.reduceMul, Nat.reduceEqDiff, reduceCtorEq, Nat.reduceBEq, Nat.reduceLeDiff, Nat.reduceLT, ai, e22]
  refine W_call (args := []) rfl rfl hW rfl (W_run 200 ?_)
  simp (maxSteps := 2000000) only [SA, Nat.reduceDiv, Nat.reduceSub, Nat.reduceAdd, Int.reduceLT, Int.reduceLE, Int.reduceToNat, Nat.reduceMul, Nat.reduceEqDiff, reduceCtorEq, Nat.reduceBEq, Nat.reduceLeDiff, Nat.reduceLT, ai]
  exact W_ret1 (WX_nil ⟨.inl rfl, _, rfl, rfl⟩)
theorem fin_nn {n : Nat} {T : List (List Int)} (hg : gT n T) (ha : cnE n none ([] : List Int) = 0) (hb : cnE n none ([] : List Int) = 0) (hal : ([] : List Int).length ≤ 4) (hbl : ([] : List Int).length ≤ 4) (hW : Runs Try.prog xf 28 [] (.v (.bool true))) (q47 q1 q2 : Nat × Option Ob) :
    ∀ j0 j1 j2 j3 j4 j5 j6 j7 j8 j11 j12 j13 j14 j15 j16 j19 j21 j22 j23 j24 j25 j26 j27 j28 j29 j30 j31 j32 j33 j34 j35 j36 j37 j38 j39 j40 j41 j42 j43 j44 j45 j46 j47 j48 j49 j50 j51 j52 j53 j54 j55 j56 j57 j58 j59 j60 j61 j62 j63 j64 j65 j66 j67 j68 j69 j70 j71 j72 j73 j74 j75 j76 j77 j78 j79 j80 j81 j82 j83 j84 j85 j86 j87 j88 j89 j90 j91 j92 j93 j94 j95 j96 j97 j98 j99 j100 j101 j102 j103 j104 j105 j106 j107 j108 j109 j110 j111 j112 j113 j114 j115 j116 j117 j118 j119 j120 j121 j122 j123 j124 j125 j126 j127 j128 j129 j130 j131 j132 j133 j134 j135 j136 j137 j138 j139 j140 j141 j142 j143 j144 j145 j146 j147 j148 j149 j150 j151 j152 j153 j154 j155 j156 j157 j158 j159 j160 j161 j162 j163 j164 j165 j166 j167 j168 j169 j170 j171 j172 j173 j174 j175 : AV, W Try.prog (RelU Try.prog xf) 0 [.code xf10_R1] ⟨(j0 :: j1 :: j2 :: j3 :: j4 :: j5 :: j6 :: j7 :: j8 :: (aT T) :: (ai n) :: j11 :: j12 :: j13 :: j14 :: j15 :: j16 :: nilA :: nilA :: j19 :: (ai (prvE n T ([] : List Int) ([] : List Int))) :: j21 :: j22 :: j23 :: j24 :: j25 :: j26 :: j27 :: j28 :: j29 :: j30 :: j31 :: j32 :: j33 :: j34 :: j35 :: j36 :: j37 :: j38 :: j39 :: j40 :: j41 :: j42 :: j43 :: j44 :: j45 :: j46 :: j47 :: j48 :: j49 :: j50 :: j51 :: j52 :: j53 :: j54 :: j55 :: j56 :: j57 :: j58 :: j59 :: j60 :: j61 :: j62 :: j63 :: j64 :: j65 :: j66 :: j67 :: j68 :: j69 :: j70 :: j71 :: j72 :: j73 :: j74 :: j75 :: j76 :: j77 :: j78 :: j79 :: j80 :: j81 :: j82 :: j83 :: j84 :: j85 :: j86 :: j87 :: j88 :: j89 :: j90 :: j91 :: j92 :: j93 :: j94 :: j95 :: j96 :: j97 :: j98 :: j99 :: j100 :: j101 :: j102 :: j103 :: j104 :: j105 :: j106 :: j107 :: j108 :: j109 :: j110 :: j111 :: j112 :: j113 :: j114 :: j115 :: j116 :: j117 :: j118 :: j119 :: j120 :: j121 :: j122 :: j123 :: j124 :: j125 :: j126 :: j127 :: j128 :: j129 :: j130 :: j131 :: j132 :: j133 :: j134 :: j135 :: j136 :: j137 :: j138 :: j139 :: j140 :: j141 :: j142 :: j143 :: j144 :: j145 :: j146 :: j147 :: j148 :: j149 :: j150 :: j151 :: j152 :: j153 :: j154 :: j155 :: j156 :: j157 :: j158 :: j159 :: j160 :: j161 :: j162 :: j163 :: j164 :: j165 :: j166 :: j167 :: j168 :: j169 :: j170 :: j171 :: j172 :: j173 :: j174 :: j175 :: []), hE q47 q1 q2⟩ QT := by
  intro j0 j1 j2 j3 j4 j5 j6 j7 j8 j11 j12 j13 j14 j15 j16 j19 j21 j22 j23 j24 j25 j26 j27 j28 j29 j30 j31 j32 j33 j34 j35 j36 j37 j38 j39 j40 j41 j42 j43 j44 j45 j46 j47 j48 j49 j50 j51 j52 j53 j54 j55 j56 j57 j58 j59 j60 j61 j62 j63 j64 j65 j66 j67 j68 j69 j70 j71 j72 j73 j74 j75 j76 j77 j78 j79 j80 j81 j82 j83 j84 j85 j86 j87 j88 j89 j90 j91 j92 j93 j94 j95 j96 j97 j98 j99 j100 j101 j102 j103 j104 j105 j106 j107 j108 j109 j110 j111 j112 j113 j114 j115 j116 j117 j118 j119 j120 j121 j122 j123 j124 j125 j126 j127 j128 j129 j130 j131 j132 j133 j134 j135 j136 j137 j138 j139 j140 j141 j142 j143 j144 j145 j146 j147 j148 j149 j150 j151 j152 j153 j154 j155 j156 j157 j158 j159 j160 j161 j162 j163 j164 j165 j166 j167 j168 j169 j170 j171 j172 j173 j174 j175
  have hx : isL (nilA) ([] : List Int) := (.inr ⟨rfl, rfl⟩ : isL nilA [])
  have hy : isL (nilA) ([] : List Int) := (.inr ⟨rfl, rfl⟩ : isL nilA [])
  have p1 := proves_run hg hx hy (by omega) (by omega)
  have p2 := proves_run hg (.inl ⟨false, rfl⟩ : isL (al false (([] : List Int) ++ [(n : Int)])) (([] : List Int) ++ [(n : Int)])) hy (by rw [List.length_append]; simp only [List.length_cons, List.length_nil] at hal ⊢; omega) (by omega)
  have p3 := proves_run hg hx (.inl ⟨false, rfl⟩ : isL (al false (([] : List Int) ++ [-1])) (([] : List Int) ++ [-1])) (by omega) (by rw [List.length_append]; simp only [List.length_cons, List.length_nil] at hbl ⊢; omega)
  rw [prvE_a (cn_snoc_hi (n : Int) (.inr (Int.le_refl _)) _ _ ha)] at p2
  rw [prvE_b ha (cn_snoc_hi (-1) (.inl (by omega)) _ _ hb)] at p3
  generalize hz : prvE n T ([] : List Int) ([] : List Int) = z at *
  have ez : (z == z) = true := by simp
  have e22 : ((2 : Int) == 2) = true := rfl
  refine W_run 200 ?_
  simp (maxSteps := 2000000) only [SA, Nat.reduceDiv, Nat.reduceSub, Nat.reduceAdd, Int.reduceLT, Int.reduceLE, Int.reduceToNat, Nat.reduceMul, Nat.reduceEqDiff, reduceCtorEq, Nat.reduceBEq, Nat.reduceLeDiff, Nat.reduceLT, xf10_R1, ai, aT]
  refine W_call (args := [aT T, nilA, nilA]) rfl (noRefs_3 (noRef_T T) hx.ref hy.ref) p1 rfl (W_run 200 ?_)
  simp (maxSteps := 2000000) only [SA, Nat.reduceDiv, Nat.reduceSub, Nat.reduceAdd, Int.reduceLT, Int.reduceLE, Int.reduceToNat, Nat.reduceMul, Nat.reduceEqDiff, reduceCtorEq, Nat.reduceBEq, Nat.reduceLeDiff, Nat.reduceLT, ai, ez]
  refine W_call (args := [nilA]) rfl (noRefs_1 rfl) (clone_nil []) rfl (W_run 200 ?_)
  simp (maxSteps := 2000000) only [SA, Nat.reduceDiv, Nat.reduceSub, Nat.reduceAdd, Int.reduceLT, Int.reduceLE, Int.reduceToNat, Nat.reduceMul, Nat.reduceEqDiff, reduceCtorEq, Nat.reduceBEq, Nat.reduceLeDiff, Nat.reduceLT, ai, al, aT, nilA, hE, Go.Proofs.Eng.elems, List.map_cons, List.map_nil]
  refine W_look (fuel := 20) (args := [aT T, .os 158 1 1 1 0 1, nilA]) (args' := [aT T, al false (([] : List Int) ++ [(n : Int)]), nilA]) rfl (reify_a (l := ([] : List Int) ++ [(n : Int)]) hy (by simp) (by simp [ai]) rfl) p2 rfl rfl (W_run 200 ?_)
  simp (maxSteps := 2000000) only [SA, Nat.reduceDiv, Nat.reduceSub, Nat.reduceAdd, Int.reduceLT, Int.reduceLE, Int.reduceToNat, Nat.reduceMul, Nat.reduceEqDiff, reduceCtorEq, Nat.reduceBEq, Nat.reduceLeDiff, Nat.reduceLT, ai, e22]
  refine W_call (args := [nilA]) rfl (noRefs_1 rfl) (clone_nil []) rfl (W_run 200 ?_)
  simp (maxSteps := 2000000) only [SA, Nat.reduceDiv, Nat.reduceSub, Nat.reduceAdd, Int.reduceLT, Int.reduceLE, Int.reduceToNat, Nat.reduceMul, Nat.reduceEqDiff, reduceCtorEq, Nat.reduceBEq, Nat.reduceLeDiff, Nat.reduceLT, ai, al, aT, nilA, hE, Go.Proofs.Eng.elems, List.map_cons, List.map_nil]
  refine W_look (fuel := 20) (args := [aT T, nilA, .os 169 1 1 1 0 1]) (args' := [aT T, nilA, al false (([] : List Int) ++ [-1])]) rfl (reify_b (l := ([] : List Int) ++ [-1]) hx (by simp) (by simp [ai]) rfl) p3 rfl rfl (W_run 200 ?_)
  simp (maxSteps := 2000000) only [SA, Nat.reduceDiv, Nat.reduceSub, Nat.reduceAdd, Int.reduceLT, Int.reduceLE, Int.reduceToNat, Nat.reduceMul, Nat.reduceEqDiff, reduceCtorEq, Nat.reduceBEq, Nat.reduceLeDiff, Nat.reduceLT, ai, e22]
  refine W_call (args := []) rfl rfl hW rfl (W_run 200 ?_)
  simp (maxSteps := 2000000) only [SA, Nat.reduceDiv, Nat.reduceSub, Nat.reduceAdd, Int.reduceLT, Int.reduceLE, Int.reduceToNat, Nat.reduceMul, Nat.reduceEqDiff, reduceCtorEq, Nat.reduceBEq, Nat.reduceLeDiff, Nat.reduceLT, ai]
  exact W_ret1 (WX_nil ⟨.inl rfl, _, rfl, rfl⟩)
theorem fin_run {n : Nat} {T : List (List Int)} (hg : gT n T) {x y : AV} {a b : List Int} (hx : x = dv a) (hy : y = dv b) (ha : cnE n none a = 0) (hb : cnE n none b = 0) (hal : a.length ≤ 4) (hbl : b.length ≤ 4) (hW : Runs Try.prog xf 28 [] (.v (.bool true))) (q47 q1 q2 : Nat × Option Ob) :
    ∀ j0 j1 j2 j3 j4 j5 j6 j7 j8 j11 j12 j13 j14 j15 j16 j19 j21 j22 j23 j24 j25 j26 j27 j28 j29 j30 j31 j32 j33 j34 j35 j36 j37 j38 j39 j40 j41 j42 j43 j44 j45 j46 j47 j48 j49 j50 j51 j52 j53 j54 j55 j56 j57 j58 j59 j60 j61 j62 j63 j64 j65 j66 j67 j68 j69 j70 j71 j72 j73 j74 j75 j76 j77 j78 j79 j80 j81 j82 j83 j84 j85 j86 j87 j88 j89 j90 j91 j92 j93 j94 j95 j96 j97 j98 j99 j100 j101 j102 j103 j104 j105 j106 j107 j108 j109 j110 j111 j112 j113 j114 j115 j116 j117 j118 j119 j120 j121 j122 j123 j124 j125 j126 j127 j128 j129 j130 j131 j132 j133 j134 j135 j136 j137 j138 j139 j140 j141 j142 j143 j144 j145 j146 j147 j148 j149 j150 j151 j152 j153 j154 j155 j156 j157 j158 j159 j160 j161 j162 j163 j164 j165 j166 j167 j168 j169 j170 j171 j172 j173 j174 j175 : AV, W Try.prog (RelU Try.prog xf) 0 [.code xf10_R1] ⟨(j0 :: j1 :: j2 :: j3 :: j4 :: j5 :: j6 :: j7 :: j8 :: (aT T) :: (ai n) :: j11 :: j12 :: j13 :: j14 :: j15 :: j16 :: x :: y :: j19 :: (ai (prvE n T a b)) :: j21 :: j22 :: j23 :: j24 :: j25 :: j26 :: j27 :: j28 :: j29 :: j30 :: j31 :: j32 :: j33 :: j34 :: j35 :: j36 :: j37 :: j38 :: j39 :: j40 :: j41 :: j42 :: j43 :: j44 :: j45 :: j46 :: j47 :: j48 :: j49 :: j50 :: j51 :: j52 :: j53 :: j54 :: j55 :: j56 :: j57 :: j58 :: j59 :: j60 :: j61 :: j62 :: j63 :: j64 :: j65 :: j66 :: j67 :: j68 :: j69 :: j70 :: j71 :: j72 :: j73 :: j74 :: j75 :: j76 :: j77 :: j78 :: j79 :: j80 :: j81 :: j82 :: j83 :: j84 :: j85 :: j86 :: j87 :: j88 :: j89 :: j90 :: j91 :: j92 :: j93 :: j94 :: j95 :: j96 :: j97 :: j98 :: j99 :: j100 :: j101 :: j102 :: j103 :: j104 :: j105 :: j106 :: j107 :: j108 :: j109 :: j110 :: j111 :: j112 :: j113 :: j114 :: j115 :: j116 :: j117 :: j118 :: j119 :: j120 :: j121 :: j122 :: j123 :: j124 :: j125 :: j126 :: j127 :: j128 :: j129 :: j130 :: j131 :: j132 :: j133 :: j134 :: j135 :: j136 :: j137 :: j138 :: j139 :: j140 :: j141 :: j142 :: j143 :: j144 :: j145 :: j146 :: j147 :: j148 :: j149 :: j150 :: j151 :: j152 :: j153 :: j154 :: j155 :: j156 :: j157 :: j158 :: j159 :: j160 :: j161 :: j162 :: j163 :: j164 :: j165 :: j166 :: j167 :: j168 :: j169 :: j170 :: j171 :: j172 :: j173 :: j174 :: j175 :: []), hE q47 q1 q2⟩ QT := by
  intro j0 j1 j2 j3 j4 j5 j6 j7 j8 j11 j12 j13 j14 j15 j16 j19 j21 j22 j23 j24 j25 j26 j27 j28 j29 j30 j31 j32 j33 j34 j35 j36 j37 j38 j39 j40 j41 j42 j43 j44 j45 j46 j47 j48 j49 j50 j51 j52 j53 j54 j55 j56 j57 j58 j59 j60 j61 j62 j63 j64 j65 j66 j67 j68 j69 j70 j71 j72 j73 j74 j75 j76 j77 j78 j79 j80 j81 j82 j83 j84 j85 j86 j87 j88 j89 j90 j91 j92 j93 j94 j95 j96 j97 j98 j99 j100 j101 j102 j103 j104 j105 j106 j107 j108 j109 j110 j111 j112 j113 j114 j115 j116 j117 j118 j119 j120 j121 j122 j123 j124 j125 j126 j127 j128 j129 j130 j131 j132 j133 j134 j135 j136 j137 j138 j139 j140 j141 j142 j143 j144 j145 j146 j147 j148 j149 j150 j151 j152 j153 j154 j155 j156 j157 j158 j159 j160 j161 j162 j163 j164 j165 j166 j167 j168 j169 j170 j171 j172 j173 j174 j175
  subst hx hy
  cases a with
  | nil => cases b with
    | nil => exact fin_nn hg ha hb hal hbl hW q47 q1 q2 _ _ _ _ _ _ _ _ _ _ _ _ _ _ _ _ _ _ _ _ _ _ _ _ _ _ _ _ _ _ _ _ _ _ _ _ _ _ _ _ _ _ _ _ _ _ _ _ _ _ _ _ _ _ _ _ _ _ _ _ _ _ _ _ _ _ _ _ _ _ _ _ _ _ _ _ _ _ _ _ _ _ _ _ _ _ _ _ _ _ _ _ _ _ _ _ _ _ _ _ _ _ _ _ _ _ _ _ _ _ _ _ _ _ _ _ _ _ _ _ _ _ _ _ _ _ _ _ _ _ _ _ _ _ _ _ _ _ _ _ _ _ _ _ _ _ _ _ _ _ _ _ _ _ _ _ _ _ _ _ _ _ _ _ _ _ _ _ _ _ _
    | cons y1 t1 => exact fin_nl hg false y1 t1 ha hb hal hbl hW q47 q1 q2 _ _ _ _ _ _ _ _ _ _ _ _ _ _ _ _ _ _ _ _ _ _ _ _ _ _ _ _ _ _ _ _ _ _ _ _ _ _ _ _ _ _ _ _ _ _ _ _ _ _ _ _ _ _ _ _ _ _ _ _ _ _ _ _ _ _ _ _ _ _ _ _ _ _ _ _ _ _ _ _ _ _ _ _ _ _ _ _ _ _ _ _ _ _ _ _ _ _ _ _ _ _ _ _ _ _ _ _ _ _ _ _ _ _ _ _ _ _ _ _ _ _ _ _ _ _ _ _ _ _ _ _ _ _ _ _ _ _ _ _ _ _ _ _ _ _ _ _ _ _ _ _ _ _ _ _ _ _ _ _ _ _ _ _ _ _ _ _ _ _ _
  | cons y0 t0 => cases b with
    | nil => exact fin_ln hg false y0 t0 ha hb hal hbl hW q47 q1 q2 _ _ _ _ _ _ _ _ _ _ _ _ _ _ _ _ _ _ _ _ _ _ _ _ _ _ _ _ _ _ _ _ _ _ _ _ _ _ _ _ _ _ _ _ _ _ _ _ _ _ _ _ _ _ _ _ _ _ _ _ _ _ _ _ _ _ _ _ _ _ _ _ _ _ _ _ _ _ _ _ _ _ _ _ _ _ _ _ _ _ _ _ _ _ _ _ _ _ _ _ _ _ _ _ _ _ _ _ _ _ _ _ _ _ _ _ _ _ _ _ _ _ _ _ _ _ _ _ _ _ _ _ _ _ _ _ _ _ _ _ _ _ _ _ _ _ _ _ _ _ _ _ _ _ _ _ _ _ _ _ _ _ _ _ _ _ _ _ _ _ _
    | cons y1 t1 => exact fin_ll hg false y0 t0 false y1 t1 ha hb hal hbl hW q47 q1 q2 _ _ _ _ _ _ _ _ _ _ _ _ _ _ _ _ _ _ _ _ _ _ _ _ _ _ _ _ _ _ _ _ _ _ _ _ _ _ _ _ _ _ _ _ _ _ _ _ _ _ _ _ _ _ _ _ _ _ _ _ _ _ _ _ _ _ _ _ _ _ _ _ _ _ _ _ _ _ _ _ _ _ _ _ _ _ _ _ _ _ _ _ _ _ _ _ _ _ _ _ _ _ _ _ _ _ _ _ _ _ _ _ _ _ _ _ _ _ _ _ _ _ _ _ _ _ _ _ _ _ _ _ _ _ _ _ _ _ _ _ _ _ _ _ _ _ _ _ _ _ _ _ _ _ _ _ _ _ _ _ _ _ _ _ _ _ _ _ _ _ _
end Go.Proofs.Ytelkpfionifjgaa

