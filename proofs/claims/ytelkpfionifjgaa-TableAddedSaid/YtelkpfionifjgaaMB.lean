/-
  Package table's checkNumbers, Proves, listsOfRows, Bar; the law's lists of plans.
-/
import Derived.Test.YtelkpfionifjgaaMA
set_option linter.unusedSimpArgs false
set_option linter.unusedVariables false
namespace Go.Proofs.Ytelkpfionifjgaa
open Go Go.Proofs.Eng
set_option maxRecDepth 100000
set_option maxHeartbeats 2000000
/-- what is wrong with numbers that are to ascend -/
def cnE (n : Int) : Option Int → List Int → Int
  | _, [] => 0
  | none, x :: t => if x < 0 ∨ n ≤ x then 2 else cnE n (some x) t
  | some y, x :: t => if x < 0 ∨ n ≤ x then 2 else if x ≤ y then 7 else cnE n (some x) t
theorem cn_n (n x : Int) (t : List Int) : cnE n none (x :: t) = if x < 0 ∨ n ≤ x then 2 else cnE n (some x) t := by rw [cnE]
theorem cn_s (n x y : Int) (t : List Int) : cnE n (some y) (x :: t) = if x < 0 ∨ n ≤ x then 2 else if x ≤ y then 7 else cnE n (some x) t := by rw [cnE]
theorem cnE_in {n : Nat} : ∀ (l : List Int) (o : Option Int), cnE n o l = 0 → inC n l
  | [], _, _ => fun c h => by cases h
  | x :: t, none, h => by
    unfold cnE at h
    split at h
    · omega
    · intro c hc
      rcases List.mem_cons.1 hc with rfl | hc
      · omega
      · exact cnE_in t _ h c hc
  | x :: t, some y, h => by
    unfold cnE at h
    split at h
    · omega
    · split at h
      · omega
      · intro c hc
        rcases List.mem_cons.1 hc with rfl | hc
        · omega
        · exact cnE_in t _ h c hc
def prevO (l : List Int) (i : Nat) : Option Int := match i with | 0 => none | j + 1 => some (l.getD j 0)
theorem cn_loop (n : Int) (f : Bool) (l : List Int) (hn : l.length ≤ 1000) (K : List Fr) (Q : Out → Cfg → Prop)
    (hK : cnE n none l = 0 → ∀ j2 j3 j5 j6 j10 j11 j12 j13 j14 j15 j16 j17 j18 j19 j20 j21 j22 j23 j24 j25 j26 j27 j28 j29 j30 j31 j32 : AV, W Try.prog (RelU Try.prog xf) 0 K ⟨((ai n) :: (al f l) :: j2 :: j3 :: (ai 0) :: j5 :: j6 :: (al f l) :: (ai l.length) :: (ai l.length) :: j10 :: j11 :: j12 :: j13 :: j14 :: j15 :: j16 :: j17 :: j18 :: j19 :: j20 :: j21 :: j22 :: j23 :: j24 :: j25 :: j26 :: j27 :: j28 :: j29 :: j30 :: j31 :: j32 :: []), []⟩ Q)
    (hR : cnE n none l ≠ 0 → ∀ (i : Nat), ∀ j2 j3 j5 j6 j10 j11 j12 j13 j14 j15 j16 j17 j18 j19 j20 j21 j22 j23 j24 j25 j26 j27 j28 j29 j30 j31 j32 : AV, WX Try.prog (RelU Try.prog xf) 0 K .ret ⟨((ai n) :: (al f l) :: j2 :: j3 :: (ai (cnE n none l)) :: j5 :: j6 :: (al f l) :: (ai l.length) :: (ai i) :: j10 :: j11 :: j12 :: j13 :: j14 :: j15 :: j16 :: j17 :: j18 :: j19 :: j20 :: j21 :: j22 :: j23 :: j24 :: j25 :: j26 :: j27 :: j28 :: j29 :: j30 :: j31 :: j32 :: []), []⟩ Q) :
    ∀ (k i : Nat), i + k = l.length → cnE n none l = cnE n (prevO l i) (l.drop i) → ∀ j2 j3 j5 j6 j10 j11 j12 j13 j14 j15 j16 j17 j18 j19 j20 j21 j22 j23 j24 j25 j26 j27 j28 j29 j30 j31 j32 : AV, W Try.prog (RelU Try.prog xf) 0 (.code (.loop xf71_L0) :: .blk 0 :: .stop :: K) ⟨((ai n) :: (al f l) :: j2 :: j3 :: (ai 0) :: j5 :: j6 :: (al f l) :: (ai l.length) :: (ai i) :: j10 :: j11 :: j12 :: j13 :: j14 :: j15 :: j16 :: j17 :: j18 :: j19 :: j20 :: j21 :: j22 :: j23 :: j24 :: j25 :: j26 :: j27 :: j28 :: j29 :: j30 :: j31 :: j32 :: []), []⟩ Q := by
  intro k
  induction k with
  | zero =>
    intro i hi hf j2 j3 j5 j6 j10 j11 j12 j13 j14 j15 j16 j17 j18 j19 j20 j21 j22 j23 j24 j25 j26 j27 j28 j29 j30 j31 j32
    have : i = l.length := by omega
    subst this
    have h0 : decide (l.length < l.length) = false := by simp
    rw [List.drop_length] at hf
    have hf2 : cnE n none l = 0 := by rw [hf]; unfold cnE; rfl
    refine W_loop (W_run 80 ?_)
    simp (maxSteps := 2000000) only [SA, Nat.reduceDiv, Nat.reduceSub, Nat.reduceAdd, Int.reduceLT, Int.reduceLE, Int.reduceToNat, Nat.reduceMul, Nat.reduceEqDiff, reduceCtorEq, Nat.reduceBEq, Nat.reduceLeDiff, Nat.reduceLT, xf71_L0, ai, al, lt_cast, h0]
    exact W_stop (hK hf2 _ _ _ _ _ _ _ _ _ _ _ _ _ _ _ _ _ _ _ _ _ _ _ _ _ _ _)
  | succ k ih =>
    intro i hi hf j2 j3 j5 j6 j10 j11 j12 j13 j14 j15 j16 j17 j18 j19 j20 j21 j22 j23 j24 j25 j26 j27 j28 j29 j30 j31 j32
    have h1 : i < l.length := by omega
    have h0 : decide (i < l.length) = true := decide_eq_true h1
    have next := ih (i + 1) (by omega)
    have hp : prevO l (i + 1) = some (l.getD i 0) := rfl
    rw [hp] at next
    rw [drop_at (d := 0) h1] at hf
    have hg := get_al h1
    generalize hs : l.getD i 0 = s at *
    have cn2 : ∀ o, (s < 0 ∨ n ≤ s) → cnE n o (s :: l.drop (i + 1)) = 2 := fun o h => by
      cases o with
      | none => rw [cn_n, if_pos h]
      | some y => rw [cn_s, if_pos h]
    refine W_loop (W_run 80 ?_)
    by_cases c1 : s < 0
    · have d1 : decide (s < 0) = true := decide_eq_true c1
      rw [cn2 _ (.inl c1)] at hf
      simp (maxSteps := 2000000) only [SA, Nat.reduceDiv, Nat.reduceSub, Nat.reduceAdd, Int.reduceLT, Int.reduceLE, Int.reduceToNat, Nat.reduceMul, Nat.reduceEqDiff, reduceCtorEq, Nat.reduceBEq, Nat.reduceLeDiff, Nat.reduceLT, xf71_L0, ai, al, lt_cast, h0, hg, d1]
      have := hR (by rw [hf]; decide) i
      rw [hf] at this
      exact W_ret1 (WX_pop (this _ _ _ _ _ _ _ _ _ _ _ _ _ _ _ _ _ _ _ _ _ _ _ _ _ _ _))
    · have d1 : decide (s < 0) = false := decide_eq_false c1
      by_cases c2 : n ≤ s
      · have d2 : decide (n ≤ s) = true := decide_eq_true c2
        rw [cn2 _ (.inr c2)] at hf
        simp (maxSteps := 2000000) only [SA, Nat.reduceDiv, Nat.reduceSub, Nat.reduceAdd, Int.reduceLT, Int.reduceLE, Int.reduceToNat, Nat.reduceMul, Nat.reduceEqDiff, reduceCtorEq, Nat.reduceBEq, Nat.reduceLeDiff, Nat.reduceLT, xf71_L0, ai, al, lt_cast, h0, hg, d1, d2]
        have := hR (by rw [hf]; decide) i
        rw [hf] at this
        exact W_ret1 (WX_pop (this _ _ _ _ _ _ _ _ _ _ _ _ _ _ _ _ _ _ _ _ _ _ _ _ _ _ _))
      · have d2 : decide (n ≤ s) = false := decide_eq_false c2
        have wi : IntKind.i64.wrap ((i : Int) + 1) = ((i + 1 : Nat) : Int) := by rw [wrap_id (by omega) (by omega)]; simp
        rcases Nat.eq_zero_or_pos i with hz | hz
        · have hp0 : prevO l i = none := by rw [hz]; rfl
          rw [hp0, cn_n, if_neg (by omega)] at hf
          have dz : decide ((0 : Int) < (i : Int)) = false := decide_eq_false (by omega)
          simp (maxSteps := 2000000) only [SA, Nat.reduceDiv, Nat.reduceSub, Nat.reduceAdd, Int.reduceLT, Int.reduceLE, Int.reduceToNat, Nat.reduceMul, Nat.reduceEqDiff, reduceCtorEq, Nat.reduceBEq, Nat.reduceLeDiff, Nat.reduceLT, xf71_L0, ai, al, lt_cast, h0, hg, d1, d2, dz, wi]
          exact next hf _ _ _ _ _ _ _ _ _ _ _ _ _ _ _ _ _ _ _ _ _ _ _ _ _ _ _
        · have hp0 : prevO l i = some (l.getD (i - 1) 0) := by
            obtain ⟨j, rfl⟩ : ∃ j, i = j + 1 := ⟨i - 1, by omega⟩
            rfl
          rw [hp0, cn_s, if_neg (by omega)] at hf
          have dz : decide ((0 : Int) < (i : Int)) = true := decide_eq_true (by omega)
          have w1 : IntKind.i64.wrap ((i : Int) - 1) = ((i - 1 : Nat) : Int) := by rw [wrap_id (by omega) (by omega)]; omega
          have hj := get_al (l := l) (i := i - 1) (by omega)
          generalize hy : l.getD (i - 1) 0 = y at *
          generalize hq : i - 1 = q at *
          by_cases c3 : s ≤ y
          · have d3 : decide (s ≤ y) = true := decide_eq_true c3
            rw [if_pos c3] at hf
            simp (maxSteps := 2000000) only [SA, Nat.reduceDiv, Nat.reduceSub, Nat.reduceAdd, Int.reduceLT, Int.reduceLE, Int.reduceToNat, Nat.reduceMul, Nat.reduceEqDiff, reduceCtorEq, Nat.reduceBEq, Nat.reduceLeDiff, Nat.reduceLT, xf71_L0, ai, al, lt_cast, h0, hg, d1, d2, dz, w1, hj, d3]
            have := hR (by rw [hf]; decide) i
            rw [hf] at this
            exact W_ret1 (WX_pop (this _ _ _ _ _ _ _ _ _ _ _ _ _ _ _ _ _ _ _ _ _ _ _ _ _ _ _))
          · have d3 : decide (s ≤ y) = false := decide_eq_false c3
            rw [if_neg c3] at hf
            simp (maxSteps := 2000000) only [SA, Nat.reduceDiv, Nat.reduceSub, Nat.reduceAdd, Int.reduceLT, Int.reduceLE, Int.reduceToNat, Nat.reduceMul, Nat.reduceEqDiff, reduceCtorEq, Nat.reduceBEq, Nat.reduceLeDiff, Nat.reduceLT, xf71_L0, ai, al, lt_cast, h0, hg, d1, d2, dz, w1, hj, d3, wi]
            exact next hf _ _ _ _ _ _ _ _ _ _ _ _ _ _ _ _ _ _ _ _ _ _ _ _ _ _ _
theorem cn_run (n : Nat) {x : AV} {l : List Int} (hl : isL x l) (hn : l.length ≤ 1000) : Runs Try.prog xf 71 [ai n, x] (ai (cnE n none l)) := by
  refine Runs.ofW (fn := xf71) 20 (by kernel_rfl) (W_run 80 ?_)
  rcases hl with ⟨f, rfl⟩ | ⟨rfl, rfl⟩
  · simp (maxSteps := 2000000) only [SA, Nat.reduceDiv, Nat.reduceSub, Nat.reduceAdd, Int.reduceLT, Int.reduceLE, Int.reduceToNat, Nat.reduceMul, Nat.reduceEqDiff, reduceCtorEq, Nat.reduceBEq, Nat.reduceLeDiff, Nat.reduceLT, xf71, ai, al]
    refine W_alone (cn_loop n f l hn _ _ (fun hf j2 j3 j5 j6 j10 j11 j12 j13 j14 j15 j16 j17 j18 j19 j20 j21 j22 j23 j24 j25 j26 j27 j28 j29 j30 j31 j32 => W_run 80 ?_) (fun hf i j2 j3 j5 j6 j10 j11 j12 j13 j14 j15 j16 j17 j18 j19 j20 j21 j22 j23 j24 j25 j26 j27 j28 j29 j30 j31 j32 => ?_) l.length 0 (by omega) rfl _ _ _ _ _ _ _ _ _ _ _ _ _ _ _ _ _ _ _ _ _ _ _ _ _ _ _)
    · simp (maxSteps := 2000000) only [SA, Nat.reduceDiv, Nat.reduceSub, Nat.reduceAdd, Int.reduceLT, Int.reduceLE, Int.reduceToNat, Nat.reduceMul, Nat.reduceEqDiff, reduceCtorEq, Nat.reduceBEq, Nat.reduceLeDiff, Nat.reduceLT, xf71_R0, ai, al]
      rw [hf]
      exact W_ret1 (WX_nil ⟨.inl rfl, _, rfl, rfl⟩)
    · exact WX_pop (WX_nil ⟨.inl rfl, _, rfl, rfl⟩)
  · have e0 : cnE n none [] = 0 := by unfold cnE; rfl
    rw [e0]
    simp (maxSteps := 2000000) only [SA, Nat.reduceDiv, Nat.reduceSub, Nat.reduceAdd, Int.reduceLT, Int.reduceLE, Int.reduceToNat, Nat.reduceMul, Nat.reduceEqDiff, reduceCtorEq, Nat.reduceBEq, Nat.reduceLeDiff, Nat.reduceLT, xf71, ai, nilA]
    refine W_loop (W_run 80 ?_)
    simp (maxSteps := 2000000) only [SA, Nat.reduceDiv, Nat.reduceSub, Nat.reduceAdd, Int.reduceLT, Int.reduceLE, Int.reduceToNat, Nat.reduceMul, Nat.reduceEqDiff, reduceCtorEq, Nat.reduceBEq, Nat.reduceLeDiff, Nat.reduceLT, xf71_L0, xf71_R0, ai, d00]
    exact W_ret1 (WX_nil ⟨.inl rfl, _, rfl, rfl⟩)
/-- what Proves returns -/
def prvE (n : Nat) (T : List (List Int)) (a b : List Int) : Int :=
  if cnE n none a = 0 then (if cnE n none b = 0 then (if a.length + b.length ≤ n ∨ (b.any fun c => !memD (zerC n T a) c) = true then 14 else 0) else cnE n none b) else cnE n none a
theorem nohas_run (Z : List Int) (hZ : Z.length ≤ 1000) (c : Int) : Runs Try.prog xf 72 [ai c, .ptr (al false Z)] (ab (!memD Z c)) := by
  refine Runs.ofW (fn := xf72) 20 (by kernel_rfl) (W_run 80 ?_)
  simp (maxSteps := 2000000) only [SA, Nat.reduceDiv, Nat.reduceSub, Nat.reduceAdd, Int.reduceLT, Int.reduceLE, Int.reduceToNat, Nat.reduceMul, Nat.reduceEqDiff, reduceCtorEq, Nat.reduceBEq, Nat.reduceLeDiff, Nat.reduceLT, xf72, ai, al]
  refine W_call (args := [al false Z, ai c]) rfl (noRefs_2 (noRef_al _ _) rfl) (idx1_has false Z c (by omega)) rfl (W_run 80 ?_)
  simp (maxSteps := 2000000) only [SA, Nat.reduceDiv, Nat.reduceSub, Nat.reduceAdd, Int.reduceLT, Int.reduceLE, Int.reduceToNat, Nat.reduceMul, Nat.reduceEqDiff, reduceCtorEq, Nat.reduceBEq, Nat.reduceLeDiff, Nat.reduceLT, ai, ab]
  exact W_ret1 (WX_nil ⟨.inl rfl, _, rfl, rfl⟩)
theorem call_nohas : callable Try.prog 72 = true := by kernel_rfl
theorem reify_box {η : Heap} {k g e s n : Nat} {x : AV} (hk : Go.Proofs.Eng.look η k = (g, some ⟨e, s, [x]⟩)) : reify η (n + 1) (.o k g 1 0 0) = (elemR (reify η n) x).map .ptr := by
  simp only [reify, hk]
  simp
theorem reify_pr {x : AV} {l : List Int} (hx : isL x l) {Z : List Int} {η : Heap} {f g k : Nat} (hk : Go.Proofs.Eng.look η k = (g, some ⟨37, 1, [al false Z]⟩)) :
    [x, .fn f [.o k g 1 0 0]].mapM (reify η 20) = some [x, .fn f [.ptr (al false Z)]] := by
  have h1 := reify_isL hx η 17
  have h5 : elemR (reify η 18) (al false Z) = some (al false Z) := reify_isL (.inl ⟨false, rfl⟩) η 15
  have h3 : reify η 19 (.o k g 1 0 0) = some (.ptr (al false Z)) := by
    rw [reify_box (n := 18) hk, h5]; rfl
  have h4 : reify η 20 (.fn f [.o k g 1 0 0]) = some (.fn f [.ptr (al false Z)]) := by
    show ([.o k g 1 0 0].mapM (reify η 19)).map (AV.fn f) = _
    simp only [List.mapM_cons, List.mapM_nil, h3]; rfl
  simp only [List.mapM_cons, List.mapM_nil, h1, h4]; rfl
theorem prv_ll {n : Nat} {T : List (List Int)} (hg : gT n T) (f : Bool) (a : List Int) (hal : a.length ≤ 1000) (g : Bool) (b : List Int) (hbl : b.length ≤ 1000) : Runs Try.prog xf 35 [aT T, al f a, al g b] (ai (prvE n T a b)) := by
  have n00 : ((0 : Int) != 0) = false := rfl
  have d02 : decide ((0 : Int) < 2) = true := rfl
  have d12 : decide ((1 : Int) < 2) = true := rfl
  have d22 : decide ((2 : Int) < 2) = false := rfl
  have w01 : IntKind.i64.wrap (0 + 1) = 1 := rfl
  have w11 : IntKind.i64.wrap (1 + 1) = 2 := rfl
  have hn4 := hg.n4
  obtain rfl := hg.len
  have hxa : isL (al f a) a := (.inl ⟨f, rfl⟩ : isL (al f a) a)
  have hxb : isL (al g b) b := (.inl ⟨g, rfl⟩ : isL (al g b) b)
  have ca := cn_run T.length hxa hal
  have cb := cn_run T.length hxb hbl
  refine Runs.ofW (fn := xf35) 20 (by kernel_rfl) (W_run 120 ?_)
  simp (maxSteps := 2000000) only [SA, Nat.reduceDiv, Nat.reduceSub, Nat.reduceAdd, Int.reduceLT, Int.reduceLE, Int.reduceToNat, Nat.reduceMul, Nat.reduceEqDiff, reduceCtorEq, Nat.reduceBEq, Nat.reduceLeDiff, Nat.reduceLT, xf35, ai, aT, al, nilA]
  refine W_call (args := [aT T]) rfl (noRefs_1 (noRef_T _)) (check_run hg) rfl (W_run 120 ?_)
  simp (maxSteps := 2000000) only [SA, Nat.reduceDiv, Nat.reduceSub, Nat.reduceAdd, Int.reduceLT, Int.reduceLE, Int.reduceToNat, Nat.reduceMul, Nat.reduceEqDiff, reduceCtorEq, Nat.reduceBEq, Nat.reduceLeDiff, Nat.reduceLT, ai, aT, al, nilA, n00, List.map_cons, List.map_nil]
  refine W_loop (W_run 120 ?_)
  simp (maxSteps := 2000000) only [SA, Nat.reduceDiv, Nat.reduceSub, Nat.reduceAdd, Int.reduceLT, Int.reduceLE, Int.reduceToNat, Nat.reduceMul, Nat.reduceEqDiff, reduceCtorEq, Nat.reduceBEq, Nat.reduceLeDiff, Nat.reduceLT, xf35_L0, ai, aT, al, nilA, d02]
  refine W_call (args := [ai T.length, al f a]) rfl (noRefs_2 rfl hxa.ref) ca rfl (W_run 120 ?_)
  by_cases h1 : cnE T.length none a = 0
  · rw [h1]
    simp (maxSteps := 2000000) only [SA, Nat.reduceDiv, Nat.reduceSub, Nat.reduceAdd, Int.reduceLT, Int.reduceLE, Int.reduceToNat, Nat.reduceMul, Nat.reduceEqDiff, reduceCtorEq, Nat.reduceBEq, Nat.reduceLeDiff, Nat.reduceLT, ai, aT, al, nilA, n00, w01]
    refine W_loop (W_run 120 ?_)
    simp (maxSteps := 2000000) only [SA, Nat.reduceDiv, Nat.reduceSub, Nat.reduceAdd, Int.reduceLT, Int.reduceLE, Int.reduceToNat, Nat.reduceMul, Nat.reduceEqDiff, reduceCtorEq, Nat.reduceBEq, Nat.reduceLeDiff, Nat.reduceLT, xf35_L0, ai, aT, al, nilA, d12]
    refine W_call (args := [ai T.length, al g b]) rfl (noRefs_2 rfl hxb.ref) cb rfl (W_run 120 ?_)
    by_cases h2 : cnE T.length none b = 0
    · rw [h2]
      have hemp := empty_run hg hxa (cnE_in _ _ h1) hal
      have hzl := zerK_len T a T.length
      have hno := cnf_run 72 [.ptr (al false (zerC T.length T a))] (noRefs_1 (noRef_al false (zerC T.length T a))) call_nohas (fun c => !memD (zerC T.length T a) c) hxb hbl fun c _ => nohas_run _ (by show (zerK T _ T.length).length ≤ 1000; omega) c
      simp (maxSteps := 2000000) only [SA, Nat.reduceDiv, Nat.reduceSub, Nat.reduceAdd, Int.reduceLT, Int.reduceLE, Int.reduceToNat, Nat.reduceMul, Nat.reduceEqDiff, reduceCtorEq, Nat.reduceBEq, Nat.reduceLeDiff, Nat.reduceLT, ai, aT, al, nilA, n00, w11]
      refine W_loop (W_run 120 ?_)
      simp (maxSteps := 2000000) only [SA, Nat.reduceDiv, Nat.reduceSub, Nat.reduceAdd, Int.reduceLT, Int.reduceLE, Int.reduceToNat, Nat.reduceMul, Nat.reduceEqDiff, reduceCtorEq, Nat.reduceBEq, Nat.reduceLeDiff, Nat.reduceLT, xf35_L0, xf35_R0, ai, aT, al, nilA, d22]
      refine W_call (args := [aT T, al f a]) rfl (noRefs_2 (noRef_T _) hxa.ref) hemp (noRef_al _ _) (W_run 120 ?_)
      generalize hZ : zerC T.length T a = Z at *
      have wl : IntKind.i64.wrap ((a.length : Int) + (b.length : Int)) = (a.length : Int) + (b.length : Int) := by rw [wrap_id (by omega) (by omega)]
      by_cases h3 : (a).length + (b).length ≤ T.length
      · have d3 : decide ((a.length : Int) + (b.length : Int) ≤ (T.length : Int)) = true := decide_eq_true (by first | omega | (simp only [List.length_nil] at h3; omega))
        have hpv : prvE T.length T a b = 14 := by unfold prvE; rw [if_pos h1, if_pos h2, if_pos (.inl h3)]
        rw [hpv]
        simp (maxSteps := 2000000) only [SA, Nat.reduceDiv, Nat.reduceSub, Nat.reduceAdd, Int.reduceLT, Int.reduceLE, Int.reduceToNat, Nat.reduceMul, Nat.reduceEqDiff, reduceCtorEq, Nat.reduceBEq, Nat.reduceLeDiff, Nat.reduceLT, ai, aT, al, nilA, wl, d3]
        exact W_ret1 (WX_pop (WX_nil ⟨.inl rfl, _, rfl, rfl⟩))
      · have d3 : decide ((a.length : Int) + (b.length : Int) ≤ (T.length : Int)) = false := decide_eq_false (by first | omega | (simp only [List.length_nil] at h3; omega))
        simp (maxSteps := 2000000) only [SA, Nat.reduceDiv, Nat.reduceSub, Nat.reduceAdd, Int.reduceLT, Int.reduceLE, Int.reduceToNat, Nat.reduceMul, Nat.reduceEqDiff, reduceCtorEq, Nat.reduceBEq, Nat.reduceLeDiff, Nat.reduceLT, ai, aT, al, nilA, wl, d3]
        refine W_look (fuel := 20) (args := [al g b, .fn 72 [.o 11 1 1 0 0]]) (args' := [al g b, .fn 72 [.ptr (al false Z)]]) rfl (reify_pr hxb rfl) hno rfl rfl (W_run 120 ?_)
        cases h4 : (b).any fun c => !memD Z c with
        | true =>
          have hpv : prvE T.length T a b = 14 := by unfold prvE; rw [if_pos h1, if_pos h2, if_pos (.inr (by rw [hZ]; exact h4))]
          rw [hpv]
          simp (maxSteps := 2000000) only [SA, Nat.reduceDiv, Nat.reduceSub, Nat.reduceAdd, Int.reduceLT, Int.reduceLE, Int.reduceToNat, Nat.reduceMul, Nat.reduceEqDiff, reduceCtorEq, Nat.reduceBEq, Nat.reduceLeDiff, Nat.reduceLT, ai, ab]
          exact W_ret1 (WX_pop (WX_nil ⟨.inl rfl, _, rfl, rfl⟩))
        | false =>
          have hpv : prvE T.length T a b = 0 := by unfold prvE; rw [if_pos h1, if_pos h2, if_neg (by rw [hZ, h4]; simp only [Bool.false_eq_true, or_false]; exact h3)]
          rw [hpv]
          simp (maxSteps := 2000000) only [SA, Nat.reduceDiv, Nat.reduceSub, Nat.reduceAdd, Int.reduceLT, Int.reduceLE, Int.reduceToNat, Nat.reduceMul, Nat.reduceEqDiff, reduceCtorEq, Nat.reduceBEq, Nat.reduceLeDiff, Nat.reduceLT, ai, ab]
          exact W_ret1 (WX_nil ⟨.inl rfl, _, rfl, rfl⟩)
    · have hpv : prvE T.length T a b = cnE T.length none b := by unfold prvE; rw [if_pos h1, if_neg h2]
      rw [hpv]
      have e1 : (cnE T.length none b != 0) = true := by rw [bne_iff_ne]; exact h2
      simp (maxSteps := 2000000) only [SA, Nat.reduceDiv, Nat.reduceSub, Nat.reduceAdd, Int.reduceLT, Int.reduceLE, Int.reduceToNat, Nat.reduceMul, Nat.reduceEqDiff, reduceCtorEq, Nat.reduceBEq, Nat.reduceLeDiff, Nat.reduceLT, ai, aT, al, nilA, e1]
      exact W_ret1 (WX_pop (WX_nil ⟨.inl rfl, _, rfl, rfl⟩))
  · have hpv : prvE T.length T a b = cnE T.length none a := by unfold prvE; rw [if_neg h1]
    rw [hpv]
    have e1 : (cnE T.length none a != 0) = true := by rw [bne_iff_ne]; exact h1
    simp (maxSteps := 2000000) only [SA, Nat.reduceDiv, Nat.reduceSub, Nat.reduceAdd, Int.reduceLT, Int.reduceLE, Int.reduceToNat, Nat.reduceMul, Nat.reduceEqDiff, reduceCtorEq, Nat.reduceBEq, Nat.reduceLeDiff, Nat.reduceLT, ai, aT, al, nilA, e1]
    exact W_ret1 (WX_pop (WX_nil ⟨.inl rfl, _, rfl, rfl⟩))
theorem prv_ln {n : Nat} {T : List (List Int)} (hg : gT n T) (f : Bool) (a : List Int) (hal : a.length ≤ 1000) : Runs Try.prog xf 35 [aT T, al f a, nilA] (ai (prvE n T a ([] : List Int))) := by
  have n00 : ((0 : Int) != 0) = false := rfl
  have d02 : decide ((0 : Int) < 2) = true := rfl
  have d12 : decide ((1 : Int) < 2) = true := rfl
  have d22 : decide ((2 : Int) < 2) = false := rfl
  have w01 : IntKind.i64.wrap (0 + 1) = 1 := rfl
  have w11 : IntKind.i64.wrap (1 + 1) = 2 := rfl
  have hn4 := hg.n4
  obtain rfl := hg.len
  have hxa : isL (al f a) a := (.inl ⟨f, rfl⟩ : isL (al f a) a)
  have hxb : isL (nilA) ([] : List Int) := (.inr ⟨rfl, rfl⟩ : isL nilA [])
  have ca := cn_run T.length hxa hal
  have cb := cn_run T.length hxb (by simp)
  refine Runs.ofW (fn := xf35) 20 (by kernel_rfl) (W_run 120 ?_)
  simp (maxSteps := 2000000) only [SA, Nat.reduceDiv, Nat.reduceSub, Nat.reduceAdd, Int.reduceLT, Int.reduceLE, Int.reduceToNat, Nat.reduceMul, Nat.reduceEqDiff, reduceCtorEq, Nat.reduceBEq, Nat.reduceLeDiff, Nat.reduceLT, xf35, ai, aT, al, nilA]
  refine W_call (args := [aT T]) rfl (noRefs_1 (noRef_T _)) (check_run hg) rfl (W_run 120 ?_)
  simp (maxSteps := 2000000) only [SA, Nat.reduceDiv, Nat.reduceSub, Nat.reduceAdd, Int.reduceLT, Int.reduceLE, Int.reduceToNat, Nat.reduceMul, Nat.reduceEqDiff, reduceCtorEq, Nat.reduceBEq, Nat.reduceLeDiff, Nat.reduceLT, ai, aT, al, nilA, n00, List.map_cons, List.map_nil]
  refine W_loop (W_run 120 ?_)
  simp (maxSteps := 2000000) only [SA, Nat.reduceDiv, Nat.reduceSub, Nat.reduceAdd, Int.reduceLT, Int.reduceLE, Int.reduceToNat, Nat.reduceMul, Nat.reduceEqDiff, reduceCtorEq, Nat.reduceBEq, Nat.reduceLeDiff, Nat.reduceLT, xf35_L0, ai, aT, al, nilA, d02]
  refine W_call (args := [ai T.length, al f a]) rfl (noRefs_2 rfl hxa.ref) ca rfl (W_run 120 ?_)
  by_cases h1 : cnE T.length none a = 0
  · rw [h1]
    simp (maxSteps := 2000000) only [SA, Nat.reduceDiv, Nat.reduceSub, Nat.reduceAdd, Int.reduceLT, Int.reduceLE, Int.reduceToNat, Nat.reduceMul, Nat.reduceEqDiff, reduceCtorEq, Nat.reduceBEq, Nat.reduceLeDiff, Nat.reduceLT, ai, aT, al, nilA, n00, w01]
    refine W_loop (W_run 120 ?_)
    simp (maxSteps := 2000000) only [SA, Nat.reduceDiv, Nat.reduceSub, Nat.reduceAdd, Int.reduceLT, Int.reduceLE, Int.reduceToNat, Nat.reduceMul, Nat.reduceEqDiff, reduceCtorEq, Nat.reduceBEq, Nat.reduceLeDiff, Nat.reduceLT, xf35_L0, ai, aT, al, nilA, d12]
    refine W_call (args := [ai T.length, nilA]) rfl (noRefs_2 rfl hxb.ref) cb rfl (W_run 120 ?_)
    by_cases h2 : cnE T.length none ([] : List Int) = 0
    · rw [h2]
      have hemp := empty_run hg hxa (cnE_in _ _ h1) hal
      have hzl := zerK_len T a T.length
      have hno := cnf_run 72 [.ptr (al false (zerC T.length T a))] (noRefs_1 (noRef_al false (zerC T.length T a))) call_nohas (fun c => !memD (zerC T.length T a) c) hxb (by simp) fun c _ => nohas_run _ (by show (zerK T _ T.length).length ≤ 1000; omega) c
      simp (maxSteps := 2000000) only [SA, Nat.reduceDiv, Nat.reduceSub, Nat.reduceAdd, Int.reduceLT, Int.reduceLE, Int.reduceToNat, Nat.reduceMul, Nat.reduceEqDiff, reduceCtorEq, Nat.reduceBEq, Nat.reduceLeDiff, Nat.reduceLT, ai, aT, al, nilA, n00, w11]
      refine W_loop (W_run 120 ?_)
      simp (maxSteps := 2000000) only [SA, Nat.reduceDiv, Nat.reduceSub, Nat.reduceAdd, Int.reduceLT, Int.reduceLE, Int.reduceToNat, Nat.reduceMul, Nat.reduceEqDiff, reduceCtorEq, Nat.reduceBEq, Nat.reduceLeDiff, Nat.reduceLT, xf35_L0, xf35_R0, ai, aT, al, nilA, d22]
      refine W_call (args := [aT T, al f a]) rfl (noRefs_2 (noRef_T _) hxa.ref) hemp (noRef_al _ _) (W_run 120 ?_)
      generalize hZ : zerC T.length T a = Z at *
      have wl : IntKind.i64.wrap ((a.length : Int) + 0) = (a.length : Int) + 0 := by rw [wrap_id (by omega) (by omega)]
      by_cases h3 : (a).length + (([] : List Int)).length ≤ T.length
      · have d3 : decide ((a.length : Int) + 0 ≤ (T.length : Int)) = true := decide_eq_true (by first | omega | (simp only [List.length_nil] at h3; omega))
        have hpv : prvE T.length T a ([] : List Int) = 14 := by unfold prvE; rw [if_pos h1, if_pos h2, if_pos (.inl h3)]
        rw [hpv]
        simp (maxSteps := 2000000) only [SA, Nat.reduceDiv, Nat.reduceSub, Nat.reduceAdd, Int.reduceLT, Int.reduceLE, Int.reduceToNat, Nat.reduceMul, Nat.reduceEqDiff, reduceCtorEq, Nat.reduceBEq, Nat.reduceLeDiff, Nat.reduceLT, ai, aT, al, nilA, wl, d3]
        exact W_ret1 (WX_pop (WX_nil ⟨.inl rfl, _, rfl, rfl⟩))
      · have d3 : decide ((a.length : Int) + 0 ≤ (T.length : Int)) = false := decide_eq_false (by first | omega | (simp only [List.length_nil] at h3; omega))
        simp (maxSteps := 2000000) only [SA, Nat.reduceDiv, Nat.reduceSub, Nat.reduceAdd, Int.reduceLT, Int.reduceLE, Int.reduceToNat, Nat.reduceMul, Nat.reduceEqDiff, reduceCtorEq, Nat.reduceBEq, Nat.reduceLeDiff, Nat.reduceLT, ai, aT, al, nilA, wl, d3]
        refine W_look (fuel := 20) (args := [nilA, .fn 72 [.o 11 1 1 0 0]]) (args' := [nilA, .fn 72 [.ptr (al false Z)]]) rfl (reify_pr hxb rfl) hno rfl rfl (W_run 120 ?_)
        cases h4 : (([] : List Int)).any fun c => !memD Z c with
        | true =>
          have hpv : prvE T.length T a ([] : List Int) = 14 := by unfold prvE; rw [if_pos h1, if_pos h2, if_pos (.inr (by rw [hZ]; exact h4))]
          rw [hpv]
          simp (maxSteps := 2000000) only [SA, Nat.reduceDiv, Nat.reduceSub, Nat.reduceAdd, Int.reduceLT, Int.reduceLE, Int.reduceToNat, Nat.reduceMul, Nat.reduceEqDiff, reduceCtorEq, Nat.reduceBEq, Nat.reduceLeDiff, Nat.reduceLT, ai, ab]
          exact W_ret1 (WX_pop (WX_nil ⟨.inl rfl, _, rfl, rfl⟩))
        | false =>
          have hpv : prvE T.length T a ([] : List Int) = 0 := by unfold prvE; rw [if_pos h1, if_pos h2, if_neg (by rw [hZ, h4]; simp only [Bool.false_eq_true, or_false]; exact h3)]
          rw [hpv]
          simp (maxSteps := 2000000) only [SA, Nat.reduceDiv, Nat.reduceSub, Nat.reduceAdd, Int.reduceLT, Int.reduceLE, Int.reduceToNat, Nat.reduceMul, Nat.reduceEqDiff, reduceCtorEq, Nat.reduceBEq, Nat.reduceLeDiff, Nat.reduceLT, ai, ab]
          exact W_ret1 (WX_nil ⟨.inl rfl, _, rfl, rfl⟩)
    · have hpv : prvE T.length T a ([] : List Int) = cnE T.length none ([] : List Int) := by unfold prvE; rw [if_pos h1, if_neg h2]
      rw [hpv]
      have e1 : (cnE T.length none ([] : List Int) != 0) = true := by rw [bne_iff_ne]; exact h2
      simp (maxSteps := 2000000) only [SA, Nat.reduceDiv, Nat.reduceSub, Nat.reduceAdd, Int.reduceLT, Int.reduceLE, Int.reduceToNat, Nat.reduceMul, Nat.reduceEqDiff, reduceCtorEq, Nat.reduceBEq, Nat.reduceLeDiff, Nat.reduceLT, ai, aT, al, nilA, e1]
      exact W_ret1 (WX_pop (WX_nil ⟨.inl rfl, _, rfl, rfl⟩))
  · have hpv : prvE T.length T a ([] : List Int) = cnE T.length none a := by unfold prvE; rw [if_neg h1]
    rw [hpv]
    have e1 : (cnE T.length none a != 0) = true := by rw [bne_iff_ne]; exact h1
    simp (maxSteps := 2000000) only [SA, Nat.reduceDiv, Nat.reduceSub, Nat.reduceAdd, Int.reduceLT, Int.reduceLE, Int.reduceToNat, Nat.reduceMul, Nat.reduceEqDiff, reduceCtorEq, Nat.reduceBEq, Nat.reduceLeDiff, Nat.reduceLT, ai, aT, al, nilA, e1]
    exact W_ret1 (WX_pop (WX_nil ⟨.inl rfl, _, rfl, rfl⟩))
theorem prv_nl {n : Nat} {T : List (List Int)} (hg : gT n T) (g : Bool) (b : List Int) (hbl : b.length ≤ 1000) : Runs Try.prog xf 35 [aT T, nilA, al g b] (ai (prvE n T ([] : List Int) b)) := by
  have n00 : ((0 : Int) != 0) = false := rfl
  have d02 : decide ((0 : Int) < 2) = true := rfl
  have d12 : decide ((1 : Int) < 2) = true := rfl
  have d22 : decide ((2 : Int) < 2) = false := rfl
  have w01 : IntKind.i64.wrap (0 + 1) = 1 := rfl
  have w11 : IntKind.i64.wrap (1 + 1) = 2 := rfl
  have hn4 := hg.n4
  obtain rfl := hg.len
  have hxa : isL (nilA) ([] : List Int) := (.inr ⟨rfl, rfl⟩ : isL nilA [])
  have hxb : isL (al g b) b := (.inl ⟨g, rfl⟩ : isL (al g b) b)
  have ca := cn_run T.length hxa (by simp)
  have cb := cn_run T.length hxb hbl
  refine Runs.ofW (fn := xf35) 20 (by kernel_rfl) (W_run 120 ?_)
  simp (maxSteps := 2000000) only [SA, Nat.reduceDiv, Nat.reduceSub, Nat.reduceAdd, Int.reduceLT, Int.reduceLE, Int.reduceToNat, Nat.reduceMul, Nat.reduceEqDiff, reduceCtorEq, Nat.reduceBEq, Nat.reduceLeDiff, Nat.reduceLT, xf35, ai, aT, al, nilA]
  refine W_call (args := [aT T]) rfl (noRefs_1 (noRef_T _)) (check_run hg) rfl (W_run 120 ?_)
  simp (maxSteps := 2000000) only [SA, Nat.reduceDiv, Nat.reduceSub, Nat.reduceAdd, Int.reduceLT, Int.reduceLE, Int.reduceToNat, Nat.reduceMul, Nat.reduceEqDiff, reduceCtorEq, Nat.reduceBEq, Nat.reduceLeDiff, Nat.reduceLT, ai, aT, al, nilA, n00, List.map_cons, List.map_nil]
  refine W_loop (W_run 120 ?_)
  simp (maxSteps := 2000000) only [SA, Nat.reduceDiv, Nat.reduceSub, Nat.reduceAdd, Int.reduceLT, Int.reduceLE, Int.reduceToNat, Nat.reduceMul, Nat.reduceEqDiff, reduceCtorEq, Nat.reduceBEq, Nat.reduceLeDiff, Nat.reduceLT, xf35_L0, ai, aT, al, nilA, d02]
  refine W_call (args := [ai T.length, nilA]) rfl (noRefs_2 rfl hxa.ref) ca rfl (W_run 120 ?_)
  by_cases h1 : cnE T.length none ([] : List Int) = 0
  · rw [h1]
    simp (maxSteps := 2000000) only [SA, Nat.reduceDiv, Nat.reduceSub, Nat.reduceAdd, Int.reduceLT, Int.reduceLE, Int.reduceToNat, Nat.reduceMul, Nat.reduceEqDiff, reduceCtorEq, Nat.reduceBEq, Nat.reduceLeDiff, Nat.reduceLT, ai, aT, al, nilA, n00, w01]
    refine W_loop (W_run 120 ?_)
    simp (maxSteps := 2000000) only [SA, Nat.reduceDiv, Nat.reduceSub, Nat.reduceAdd, Int.reduceLT, Int.reduceLE, Int.reduceToNat, Nat.reduceMul, Nat.reduceEqDiff, reduceCtorEq, Nat.reduceBEq, Nat.reduceLeDiff, Nat.reduceLT, xf35_L0, ai, aT, al, nilA, d12]
    refine W_call (args := [ai T.length, al g b]) rfl (noRefs_2 rfl hxb.ref) cb rfl (W_run 120 ?_)
    by_cases h2 : cnE T.length none b = 0
    · rw [h2]
      have hemp := empty_run hg hxa (cnE_in _ _ h1) (by simp)
      have hzl := zerK_len T ([] : List Int) T.length
      have hno := cnf_run 72 [.ptr (al false (zerC T.length T ([] : List Int)))] (noRefs_1 (noRef_al false (zerC T.length T ([] : List Int)))) call_nohas (fun c => !memD (zerC T.length T ([] : List Int)) c) hxb hbl fun c _ => nohas_run _ (by show (zerK T _ T.length).length ≤ 1000; omega) c
      simp (maxSteps := 2000000) only [SA, Nat.reduceDiv, Nat.reduceSub, Nat.reduceAdd, Int.reduceLT, Int.reduceLE, Int.reduceToNat, Nat.reduceMul, Nat.reduceEqDiff, reduceCtorEq, Nat.reduceBEq, Nat.reduceLeDiff, Nat.reduceLT, ai, aT, al, nilA, n00, w11]
      refine W_loop (W_run 120 ?_)
      simp (maxSteps := 2000000) only [SA, Nat.reduceDiv, Nat.reduceSub, Nat.reduceAdd, Int.reduceLT, Int.reduceLE, Int.reduceToNat, Nat.reduceMul, Nat.reduceEqDiff, reduceCtorEq, Nat.reduceBEq, Nat.reduceLeDiff, Nat.reduceLT, xf35_L0, xf35_R0, ai, aT, al, nilA, d22]
      refine W_call (args := [aT T, nilA]) rfl (noRefs_2 (noRef_T _) hxa.ref) hemp (noRef_al _ _) (W_run 120 ?_)
      generalize hZ : zerC T.length T ([] : List Int) = Z at *
      have wl : IntKind.i64.wrap (0 + (b.length : Int)) = 0 + (b.length : Int) := by rw [wrap_id (by omega) (by omega)]
      by_cases h3 : (([] : List Int)).length + (b).length ≤ T.length
      · have d3 : decide (0 + (b.length : Int) ≤ (T.length : Int)) = true := decide_eq_true (by first | omega | (simp only [List.length_nil] at h3; omega))
        have hpv : prvE T.length T ([] : List Int) b = 14 := by unfold prvE; rw [if_pos h1, if_pos h2, if_pos (.inl h3)]
        rw [hpv]
        simp (maxSteps := 2000000) only [SA, Nat.reduceDiv, Nat.reduceSub, Nat.reduceAdd, Int.reduceLT, Int.reduceLE, Int.reduceToNat, Nat.reduceMul, Nat.reduceEqDiff, reduceCtorEq, Nat.reduceBEq, Nat.reduceLeDiff, Nat.reduceLT, ai, aT, al, nilA, wl, d3]
        exact W_ret1 (WX_pop (WX_nil ⟨.inl rfl, _, rfl, rfl⟩))
      · have d3 : decide (0 + (b.length : Int) ≤ (T.length : Int)) = false := decide_eq_false (by first | omega | (simp only [List.length_nil] at h3; omega))
        simp (maxSteps := 2000000) only [SA, Nat.reduceDiv, Nat.reduceSub, Nat.reduceAdd, Int.reduceLT, Int.reduceLE, Int.reduceToNat, Nat.reduceMul, Nat.reduceEqDiff, reduceCtorEq, Nat.reduceBEq, Nat.reduceLeDiff, Nat.reduceLT, ai, aT, al, nilA, wl, d3]
        refine W_look (fuel := 20) (args := [al g b, .fn 72 [.o 11 1 1 0 0]]) (args' := [al g b, .fn 72 [.ptr (al false Z)]]) rfl (reify_pr hxb rfl) hno rfl rfl (W_run 120 ?_)
        cases h4 : (b).any fun c => !memD Z c with
        | true =>
          have hpv : prvE T.length T ([] : List Int) b = 14 := by unfold prvE; rw [if_pos h1, if_pos h2, if_pos (.inr (by rw [hZ]; exact h4))]
          rw [hpv]
          simp (maxSteps := 2000000) only [SA, Nat.reduceDiv, Nat.reduceSub, Nat.reduceAdd, Int.reduceLT, Int.reduceLE, Int.reduceToNat, Nat.reduceMul, Nat.reduceEqDiff, reduceCtorEq, Nat.reduceBEq, Nat.reduceLeDiff, Nat.reduceLT, ai, ab]
          exact W_ret1 (WX_pop (WX_nil ⟨.inl rfl, _, rfl, rfl⟩))
        | false =>
          have hpv : prvE T.length T ([] : List Int) b = 0 := by unfold prvE; rw [if_pos h1, if_pos h2, if_neg (by rw [hZ, h4]; simp only [Bool.false_eq_true, or_false]; exact h3)]
          rw [hpv]
          simp (maxSteps := 2000000) only [SA, Nat.reduceDiv, Nat.reduceSub, Nat.reduceAdd, Int.reduceLT, Int.reduceLE, Int.reduceToNat, Nat.reduceMul, Nat.reduceEqDiff, reduceCtorEq, Nat.reduceBEq, Nat.reduceLeDiff, Nat.reduceLT, ai, ab]
          exact W_ret1 (WX_nil ⟨.inl rfl, _, rfl, rfl⟩)
    · have hpv : prvE T.length T ([] : List Int) b = cnE T.length none b := by unfold prvE; rw [if_pos h1, if_neg h2]
      rw [hpv]
      have e1 : (cnE T.length none b != 0) = true := by rw [bne_iff_ne]; exact h2
      simp (maxSteps := 2000000) only [SA, Nat.reduceDiv, Nat.reduceSub, Nat.reduceAdd, Int.reduceLT, Int.reduceLE, Int.reduceToNat, Nat.reduceMul, Nat.reduceEqDiff, reduceCtorEq, Nat.reduceBEq, Nat.reduceLeDiff, Nat.reduceLT, ai, aT, al, nilA, e1]
      exact W_ret1 (WX_pop (WX_nil ⟨.inl rfl, _, rfl, rfl⟩))
  · have hpv : prvE T.length T ([] : List Int) b = cnE T.length none ([] : List Int) := by unfold prvE; rw [if_neg h1]
    rw [hpv]
    have e1 : (cnE T.length none ([] : List Int) != 0) = true := by rw [bne_iff_ne]; exact h1
    simp (maxSteps := 2000000) only [SA, Nat.reduceDiv, Nat.reduceSub, Nat.reduceAdd, Int.reduceLT, Int.reduceLE, Int.reduceToNat, Nat.reduceMul, Nat.reduceEqDiff, reduceCtorEq, Nat.reduceBEq, Nat.reduceLeDiff, Nat.reduceLT, ai, aT, al, nilA, e1]
    exact W_ret1 (WX_pop (WX_nil ⟨.inl rfl, _, rfl, rfl⟩))
theorem prv_nn {n : Nat} {T : List (List Int)} (hg : gT n T) : Runs Try.prog xf 35 [aT T, nilA, nilA] (ai (prvE n T ([] : List Int) ([] : List Int))) := by
  have n00 : ((0 : Int) != 0) = false := rfl
  have d02 : decide ((0 : Int) < 2) = true := rfl
  have d12 : decide ((1 : Int) < 2) = true := rfl
  have d22 : decide ((2 : Int) < 2) = false := rfl
  have w01 : IntKind.i64.wrap (0 + 1) = 1 := rfl
  have w11 : IntKind.i64.wrap (1 + 1) = 2 := rfl
  have hn4 := hg.n4
  obtain rfl := hg.len
  have hxa : isL (nilA) ([] : List Int) := (.inr ⟨rfl, rfl⟩ : isL nilA [])
  have hxb : isL (nilA) ([] : List Int) := (.inr ⟨rfl, rfl⟩ : isL nilA [])
  have ca := cn_run T.length hxa (by simp)
  have cb := cn_run T.length hxb (by simp)
  refine Runs.ofW (fn := xf35) 20 (by kernel_rfl) (W_run 120 ?_)
  simp (maxSteps := 2000000) only [SA, Nat.reduceDiv, Nat.reduceSub, Nat.reduceAdd, Int.reduceLT, Int.reduceLE, Int.reduceToNat, Nat.reduceMul, Nat.reduceEqDiff, reduceCtorEq, Nat.reduceBEq, Nat.reduceLeDiff, Nat.reduceLT, xf35, ai, aT, al, nilA]
  refine W_call (args := [aT T]) rfl (noRefs_1 (noRef_T _)) (check_run hg) rfl (W_run 120 ?_)
  simp (maxSteps := 2000000) only [SA, Nat.reduceDiv, Nat.reduceSub, Nat.reduceAdd, Int.reduceLT, Int.reduceLE, Int.reduceToNat, Nat.reduceMul, Nat.reduceEqDiff, reduceCtorEq, Nat.reduceBEq, Nat.reduceLeDiff, Nat.reduceLT, ai, aT, al, nilA, n00, List.map_cons, List.map_nil]
  refine W_loop (W_run 120 ?_)
  simp (maxSteps := 2000000) only [SA, Nat.reduceDiv, Nat.reduceSub, Nat.reduceAdd, Int.reduceLT, Int.reduceLE, Int.reduceToNat, Nat.reduceMul, Nat.reduceEqDiff, reduceCtorEq, Nat.reduceBEq, Nat.reduceLeDiff, Nat.reduceLT, xf35_L0, ai, aT, al, nilA, d02]
  refine W_call (args := [ai T.length, nilA]) rfl (noRefs_2 rfl hxa.ref) ca rfl (W_run 120 ?_)
  by_cases h1 : cnE T.length none ([] : List Int) = 0
  · rw [h1]
    simp (maxSteps := 2000000) only [SA, Nat.reduceDiv, Nat.reduceSub, Nat.reduceAdd, Int.reduceLT, Int.reduceLE, Int.reduceToNat, Nat.reduceMul, Nat.reduceEqDiff, reduceCtorEq, Nat.reduceBEq, Nat.reduceLeDiff, Nat.reduceLT, ai, aT, al, nilA, n00, w01]
    refine W_loop (W_run 120 ?_)
    simp (maxSteps := 2000000) only [SA, Nat.reduceDiv, Nat.reduceSub, Nat.reduceAdd, Int.reduceLT, Int.reduceLE, Int.reduceToNat, Nat.reduceMul, Nat.reduceEqDiff, reduceCtorEq, Nat.reduceBEq, Nat.reduceLeDiff, Nat.reduceLT, xf35_L0, ai, aT, al, nilA, d12]
    refine W_call (args := [ai T.length, nilA]) rfl (noRefs_2 rfl hxb.ref) cb rfl (W_run 120 ?_)
    by_cases h2 : cnE T.length none ([] : List Int) = 0
    · rw [h2]
      have hemp := empty_run hg hxa (cnE_in _ _ h1) (by simp)
      have hzl := zerK_len T ([] : List Int) T.length
      have hno := cnf_run 72 [.ptr (al false (zerC T.length T ([] : List Int)))] (noRefs_1 (noRef_al false (zerC T.length T ([] : List Int)))) call_nohas (fun c => !memD (zerC T.length T ([] : List Int)) c) hxb (by simp) fun c _ => nohas_run _ (by show (zerK T _ T.length).length ≤ 1000; omega) c
      simp (maxSteps := 2000000) only [SA, Nat.reduceDiv, Nat.reduceSub, Nat.reduceAdd, Int.reduceLT, Int.reduceLE, Int.reduceToNat, Nat.reduceMul, Nat.reduceEqDiff, reduceCtorEq, Nat.reduceBEq, Nat.reduceLeDiff, Nat.reduceLT, ai, aT, al, nilA, n00, w11]
      refine W_loop (W_run 120 ?_)
      simp (maxSteps := 2000000) only [SA, Nat.reduceDiv, Nat.reduceSub, Nat.reduceAdd, Int.reduceLT, Int.reduceLE, Int.reduceToNat, Nat.reduceMul, Nat.reduceEqDiff, reduceCtorEq, Nat.reduceBEq, Nat.reduceLeDiff, Nat.reduceLT, xf35_L0, xf35_R0, ai, aT, al, nilA, d22]
      refine W_call (args := [aT T, nilA]) rfl (noRefs_2 (noRef_T _) hxa.ref) hemp (noRef_al _ _) (W_run 120 ?_)
      generalize hZ : zerC T.length T ([] : List Int) = Z at *
      have wl : IntKind.i64.wrap (0 + 0) = 0 + 0 := by rw [wrap_id (by omega) (by omega)]
      by_cases h3 : (([] : List Int)).length + (([] : List Int)).length ≤ T.length
      · have d3 : decide (0 + 0 ≤ (T.length : Int)) = true := decide_eq_true (by first | omega | (simp only [List.length_nil] at h3; omega))
        have hpv : prvE T.length T ([] : List Int) ([] : List Int) = 14 := by unfold prvE; rw [if_pos h1, if_pos h2, if_pos (.inl h3)]
        rw [hpv]
        simp (maxSteps := 2000000) only [SA, Nat.reduceDiv, Nat.reduceSub, Nat.reduceAdd, Int.reduceLT, Int.reduceLE, Int.reduceToNat, Nat.reduceMul, Nat.reduceEqDiff, reduceCtorEq, Nat.reduceBEq, Nat.reduceLeDiff, Nat.reduceLT, ai, aT, al, nilA, wl, d3]
        exact W_ret1 (WX_pop (WX_nil ⟨.inl rfl, _, rfl, rfl⟩))
      · have d3 : decide (0 + 0 ≤ (T.length : Int)) = false := decide_eq_false (by first | omega | (simp only [List.length_nil] at h3; omega))
        simp (maxSteps := 2000000) only [SA, Nat.reduceDiv, Nat.reduceSub, Nat.reduceAdd, Int.reduceLT, Int.reduceLE, Int.reduceToNat, Nat.reduceMul, Nat.reduceEqDiff, reduceCtorEq, Nat.reduceBEq, Nat.reduceLeDiff, Nat.reduceLT, ai, aT, al, nilA, wl, d3]
        refine W_look (fuel := 20) (args := [nilA, .fn 72 [.o 11 1 1 0 0]]) (args' := [nilA, .fn 72 [.ptr (al false Z)]]) rfl (reify_pr hxb rfl) hno rfl rfl (W_run 120 ?_)
        cases h4 : (([] : List Int)).any fun c => !memD Z c with
        | true =>
          have hpv : prvE T.length T ([] : List Int) ([] : List Int) = 14 := by unfold prvE; rw [if_pos h1, if_pos h2, if_pos (.inr (by rw [hZ]; exact h4))]
          rw [hpv]
          simp (maxSteps := 2000000) only [SA, Nat.reduceDiv, Nat.reduceSub, Nat.reduceAdd, Int.reduceLT, Int.reduceLE, Int.reduceToNat, Nat.reduceMul, Nat.reduceEqDiff, reduceCtorEq, Nat.reduceBEq, Nat.reduceLeDiff, Nat.reduceLT, ai, ab]
          exact W_ret1 (WX_pop (WX_nil ⟨.inl rfl, _, rfl, rfl⟩))
        | false =>
          have hpv : prvE T.length T ([] : List Int) ([] : List Int) = 0 := by unfold prvE; rw [if_pos h1, if_pos h2, if_neg (by rw [hZ, h4]; simp only [Bool.false_eq_true, or_false]; exact h3)]
          rw [hpv]
          simp (maxSteps := 2000000) only [SA, Nat.reduceDiv, Nat.reduceSub, Nat.reduceAdd, Int.reduceLT, Int.reduceLE, Int.reduceToNat, Nat.reduceMul, Nat.reduceEqDiff, reduceCtorEq, Nat.reduceBEq, Nat.reduceLeDiff, Nat.reduceLT, ai, ab]
          exact W_ret1 (WX_nil ⟨.inl rfl, _, rfl, rfl⟩)
    · have hpv : prvE T.length T ([] : List Int) ([] : List Int) = cnE T.length none ([] : List Int) := by unfold prvE; rw [if_pos h1, if_neg h2]
      rw [hpv]
      have e1 : (cnE T.length none ([] : List Int) != 0) = true := by rw [bne_iff_ne]; exact h2
      simp (maxSteps := 2000000) only [SA, Nat.reduceDiv, Nat.reduceSub, Nat.reduceAdd, Int.reduceLT, Int.reduceLE, Int.reduceToNat, Nat.reduceMul, Nat.reduceEqDiff, reduceCtorEq, Nat.reduceBEq, Nat.reduceLeDiff, Nat.reduceLT, ai, aT, al, nilA, e1]
      exact W_ret1 (WX_pop (WX_nil ⟨.inl rfl, _, rfl, rfl⟩))
  · have hpv : prvE T.length T ([] : List Int) ([] : List Int) = cnE T.length none ([] : List Int) := by unfold prvE; rw [if_neg h1]
    rw [hpv]
    have e1 : (cnE T.length none ([] : List Int) != 0) = true := by rw [bne_iff_ne]; exact h1
    simp (maxSteps := 2000000) only [SA, Nat.reduceDiv, Nat.reduceSub, Nat.reduceAdd, Int.reduceLT, Int.reduceLE, Int.reduceToNat, Nat.reduceMul, Nat.reduceEqDiff, reduceCtorEq, Nat.reduceBEq, Nat.reduceLeDiff, Nat.reduceLT, ai, aT, al, nilA, e1]
    exact W_ret1 (WX_pop (WX_nil ⟨.inl rfl, _, rfl, rfl⟩))
theorem proves_run {n : Nat} {T : List (List Int)} (hg : gT n T) {x y : AV} {a b : List Int} (hx : isL x a) (hy : isL y b) (ha : a.length ≤ 1000) (hb : b.length ≤ 1000) : Runs Try.prog xf 35 [aT T, x, y] (ai (prvE n T a b)) := by
  rcases hx with ⟨f, rfl⟩ | ⟨rfl, rfl⟩ <;> rcases hy with ⟨g, rfl⟩ | ⟨rfl, rfl⟩
  · exact prv_ll hg f a ha g b hb
  · exact prv_ln hg f a ha
  · exact prv_nl hg g b hb
  · exact prv_nn hg
/-- a list that is nil if it has no element -/
def lv (l : List Int) : AV := match l with | [] => nilA | x :: t => al false (x :: t)
theorem lv_isL (l : List Int) : isL (lv l) l := by
  cases l with
  | nil => exact .inr ⟨rfl, rfl⟩
  | cons x t => exact .inl ⟨false, rfl⟩
def aLv (L : List (List Int)) : AV := .sl 1 false (L.map lv)
/-- all lists of rows -/
def lrL : Nat → List (List Int)
  | 1 => [[], [0]]
  | 2 => [[], [0], [1], [0, 1]]
  | 3 => [[], [0], [1], [2], [0, 1], [0, 2], [1, 2], [0, 1, 2]]
  | _ => [[], [0], [1], [2], [3], [0, 1], [0, 2], [0, 3], [1, 2], [1, 3], [2, 3], [0, 1, 2], [0, 1, 3], [0, 2, 3], [1, 2, 3], [0, 1, 2, 3]]
/-- all plans -/
def plL : Nat → List (List Int)
  | 1 => [[0]]
  | 2 => [[0, 1], [1, 0]]
  | 3 => [[0, 1, 2], [0, 2, 1], [1, 0, 2], [1, 2, 0], [2, 0, 1], [2, 1, 0]]
  | _ => [[0, 1, 2, 3], [0, 1, 3, 2], [0, 2, 1, 3], [0, 2, 3, 1], [0, 3, 1, 2], [0, 3, 2, 1], [1, 0, 2, 3], [1, 0, 3, 2], [1, 2, 0, 3], [1, 2, 3, 0], [1, 3, 0, 2], [1, 3, 2, 0], [2, 0, 1, 3], [2, 0, 3, 1], [2, 1, 0, 3], [2, 1, 3, 0], [2, 3, 0, 1], [2, 3, 1, 0], [3, 0, 1, 2], [3, 0, 2, 1], [3, 1, 0, 2], [3, 1, 2, 0], [3, 2, 0, 1], [3, 2, 1, 0]]
theorem lr_1 : Runs Try.prog xf 65 [ai 1] (aLv (lrL 1)) := Runs.exec (fr := fun _ => false) (fuel := 1000) 20 (by kernel_rfl)
theorem lr_2 : Runs Try.prog xf 65 [ai 2] (aLv (lrL 2)) := Runs.exec (fr := fun _ => false) (fuel := 1000) 20 (by kernel_rfl)
theorem lr_3 : Runs Try.prog xf 65 [ai 3] (aLv (lrL 3)) := Runs.exec (fr := fun _ => false) (fuel := 1000) 20 (by kernel_rfl)
theorem lr_4 : Runs Try.prog xf 65 [ai 4] (aLv (lrL 4)) := Runs.exec (fr := fun _ => false) (fuel := 1000) 20 (by kernel_rfl)
theorem pl_1 : Runs Try.prog xf 15 [ai 1] (aT (plL 1)) := Runs.exec (fr := fun _ => false) (fuel := 1000) 20 (by kernel_rfl)
theorem pl_2 : Runs Try.prog xf 15 [ai 2] (aT (plL 2)) := Runs.exec (fr := fun _ => false) (fuel := 1000) 20 (by kernel_rfl)
theorem pl_3 : Runs Try.prog xf 15 [ai 3] (aT (plL 3)) := Runs.exec (fr := fun _ => false) (fuel := 1000) 20 (by kernel_rfl)
theorem pl_4 : Runs Try.prog xf 15 [ai 4] (aT (plL 4)) := Runs.exec (fr := fun _ => false) (fuel := 1000) 20 (by kernel_rfl)
theorem lr_run {n : Nat} (h1 : 1 ≤ n) (h4 : n ≤ 4) : Runs Try.prog xf 65 [ai n] (aLv (lrL n)) := by
  match n, h1, h4 with
  | 1, _, _ => exact lr_1
  | 2, _, _ => exact lr_2
  | 3, _, _ => exact lr_3
  | 4, _, _ => exact lr_4
theorem pl_run {n : Nat} (h1 : 1 ≤ n) (h4 : n ≤ 4) : Runs Try.prog xf 15 [ai n] (aT (plL n)) := by
  match n, h1, h4 with
  | 1, _, _ => exact pl_1
  | 2, _, _ => exact pl_2
  | 3, _, _ => exact pl_3
  | 4, _, _ => exact pl_4
end Go.Proofs.Ytelkpfionifjgaa

