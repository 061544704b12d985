/-
  Lines as full as they can be: the mathematics; the law's filled.
-/
import Derived.Test.YtdmffkknghianaaMn
import Derived.Test.YtdmffkknghianaaGC
set_option linter.unusedSimpArgs false
set_option linter.unusedVariables false
namespace Go.Proofs.Ytdmffkknghianaa
open Go Go.Proofs.Eng
set_option maxRecDepth 100000
set_option maxHeartbeats 4000000
/-- ends from a place on, whose lines fit -/
def Ch (q : Nat → Int) (V : Int) (n : Nat) : Nat → List Nat → Prop
  | b, [] => b = n
  | b, e :: t => b < e ∧ e ≤ n ∧ fit q V b e = true ∧ Ch q V n e t
/-- .. and are as full as they can be -/
def Gd (q : Nat → Int) (V : Int) (n : Nat) : Nat → List Nat → Prop
  | b, [] => b = n
  | b, e :: t => b < e ∧ e ≤ n ∧ fit q V b e = true ∧ (e = n ∨ fit q V b (e + 1) = false) ∧ Gd q V n e t
theorem Gd.ch {q : Nat → Int} {V : Int} {n : Nat} : ∀ {F : List Nat} {b : Nat}, Gd q V n b F → Ch q V n b F
  | [], b, h => h
  | e :: t, b, h => by rw [Gd] at h; rw [Ch]; exact ⟨h.1, h.2.1, h.2.2.1, Gd.ch h.2.2.2.2⟩
theorem ch_iff {q : Nat → Int} {V : Int} {n : Nat} : ∀ (E : List Nat) (b : Nat), Ch q V n b E ↔ eE n b E = 0 ∧ (spE b E).all (fun p => fit q V p.1 p.2) = true
  | [], b => by
    rw [Ch, eE, spE]
    by_cases h : b = n <;> simp [h]
  | e :: t, b => by
    rw [Ch, eE, spE, List.all_cons, ch_iff t e]
    constructor
    · rintro ⟨h1, h2, h3, h4, h5⟩
      rw [if_neg (by omega), if_neg (by omega)]
      exact ⟨h4, by rw [h3, h5]; rfl⟩
    · rintro ⟨h1, h2⟩
      split at h1
      · omega
      · split at h1
        · omega
        · rw [Bool.and_eq_true] at h2
          exact ⟨by omega, by omega, h2.1, h1, h2.2⟩
theorem ch_fE {q : Nat → Int} {V : Int} {n : Nat} {E : List Nat} : Ch q V n 0 E ↔ fE q V n E = 0 := by
  rw [ch_iff]
  unfold fE
  have := eE_nn n E 0
  by_cases h : eE n 0 E = 0
  · rw [if_pos h]
    cases h2 : (spE 0 E).all (fun p => fit q V p.1 p.2) <;> simp [h]
  · rw [if_neg h]
    simp [h]
theorem ch_len {q : Nat → Int} {V : Int} {n : Nat} : ∀ {E : List Nat} {b : Nat}, Ch q V n b E → E.length + b ≤ n
  | [], b, h => by rw [Ch] at h; simp [h]
  | e :: t, b, h => by rw [Ch] at h; have := ch_len h.2.2.2; rw [List.length_cons]; omega
/-- no ends have fewer lines, and none of theirs ends later -/
theorem dom {q : Nat → Int} {V : Int} {n : Nat} (hp : Pos q n V) : ∀ (F E : List Nat) (b b' : Nat), Gd q V n b F → Ch q V n b' E → b' ≤ b → F.length ≤ E.length ∧ ∀ v, v < F.length → E.getD v 0 ≤ F.getD v 0
  | [], E, b, b', hF, hE, hb => ⟨Nat.zero_le _, fun v hv => by simp at hv⟩
  | f :: F, [], b, b', hF, hE, hb => by
    rw [Ch] at hE; rw [Gd] at hF; omega
  | f :: F, e :: E, b, b', hF, hE, hb => by
    rw [Gd] at hF; rw [Ch] at hE
    obtain ⟨f1, f2, f3, f4, f5⟩ := hF
    obtain ⟨e1, e2, e3, e4⟩ := hE
    have hef : e ≤ f := by
      rcases f4 with rfl | f4
      · exact e2
      · rcases Nat.lt_or_ge f e with h | h
        · have := fit_sub hp (i := b') (i' := b) (j := e) (j' := f + 1) hb (by omega) h e2 e3
          rw [this] at f4; cases f4
        · exact h
    obtain ⟨h1, h2⟩ := dom hp F E f e f5 e4 hef
    refine ⟨by rw [List.length_cons, List.length_cons]; omega, fun v hv => ?_⟩
    cases v with
    | zero => simpa using hef
    | succ v => simpa using h2 v (by simpa using hv)
theorem Gd.uniq {q : Nat → Int} {V : Int} {n : Nat} (hp : Pos q n V) : ∀ {F F' : List Nat} {b : Nat}, Gd q V n b F → Gd q V n b F' → F = F'
  | [], [], b, _, _ => rfl
  | [], f :: F, b, h, h' => by rw [Gd] at h; rw [Gd] at h'; omega
  | f :: F, [], b, h, h' => by rw [Gd] at h; rw [Gd] at h'; omega
  | f :: F, f' :: F', b, h, h' => by
    have h0 := h
    have h0' := h'
    rw [Gd] at h
    rw [Gd] at h'
    have e1 : f = f' := by
      have a := (dom hp _ _ b b h0 h0'.ch (Nat.le_refl _)).2 0 (by simp)
      have c := (dom hp _ _ b b h0' h0.ch (Nat.le_refl _)).2 0 (by simp)
      simp at a c
      omega
    subst e1
    rw [Gd.uniq hp h.2.2.2.2 h'.2.2.2.2]
/-- what is built from the front -/
structure PreG (q : Nat → Int) (V : Int) (n : Nat) (E : List Nat) (b : Nat) : Prop where
  gd : ∀ t, Gd q V n b t → Gd q V n 0 (E ++ t)
theorem PreG.nil (q : Nat → Int) (V : Int) (n : Nat) : PreG q V n [] 0 := ⟨fun _ h => h⟩
theorem PreG.step {q : Nat → Int} {V : Int} {n : Nat} {E : List Nat} {b e : Nat} (h : PreG q V n E b) (h1 : b < e) (h2 : e ≤ n) (hf : fit q V b e = true) (hm : e = n ∨ fit q V b (e + 1) = false) : PreG q V n (E ++ [e]) e where
  gd := fun t ht => by rw [List.append_assoc]; exact h.gd _ (by rw [List.singleton_append, Gd]; exact ⟨h1, h2, hf, hm, ht⟩)
theorem fli_loop (V : Int) (w : List Int) (hg : gX V w) (f : Bool) (x3 : AV) (b : Nat) (H : Heap) (K : List Fr) (Q : Out → Cfg → Prop)
    (hK : ∀ e : Nat, b < e → e ≤ w.length → fit (pf w) V b e = true → (e = w.length ∨ fit (pf w) V b (e + 1) = false) → ∀ j6 j7 j8 j9 j10 j11 j12 j13 j14 j15 j16 j17 j18 j19 j20 j21 j22 j23 j24 j25 j26 j27 j28 j29 j30 j31 j32 j33 : AV, W Try.prog (RelU Try.prog xf) 0 K ⟨((tx f V w) :: (.ptr (tx f V w)) :: nilA :: x3 :: (ai b) :: (ai e) :: j6 :: j7 :: j8 :: j9 :: j10 :: j11 :: j12 :: j13 :: j14 :: j15 :: j16 :: j17 :: j18 :: j19 :: j20 :: j21 :: j22 :: j23 :: j24 :: j25 :: j26 :: j27 :: j28 :: j29 :: j30 :: j31 :: j32 :: j33 :: []), H⟩ Q) :
    ∀ (m e : Nat), e + m = w.length → b < e → fit (pf w) V b e = true → ∀ j6 j7 j8 j9 j10 j11 j12 j13 j14 j15 j16 j17 j18 j19 j20 j21 j22 j23 j24 j25 j26 j27 j28 j29 j30 j31 j32 j33 : AV, W Try.prog (RelU Try.prog xf) 0 (.code (.loop xf28_L0) :: .blk 2 :: .stop :: K) ⟨((tx f V w) :: (.ptr (tx f V w)) :: nilA :: x3 :: (ai b) :: (ai e) :: j6 :: j7 :: j8 :: j9 :: j10 :: j11 :: j12 :: j13 :: j14 :: j15 :: j16 :: j17 :: j18 :: j19 :: j20 :: j21 :: j22 :: j23 :: j24 :: j25 :: j26 :: j27 :: j28 :: j29 :: j30 :: j31 :: j32 :: j33 :: []), H⟩ Q := by
  have n10 := hg.n10
  intro m
  induction m with
  | zero =>
    intro e he hb hf j6 j7 j8 j9 j10 j11 j12 j13 j14 j15 j16 j17 j18 j19 j20 j21 j22 j23 j24 j25 j26 j27 j28 j29 j30 j31 j32 j33
    have h0 : decide (e < w.length) = false := decide_eq_false (by omega)
    refine W_loop (W_run 80 ?_)
    simp (maxSteps := 2000000) only [SA, Nat.reduceDiv, Nat.reduceSub, Nat.reduceAdd, Int.reduceLT, Int.reduceLE, Int.reduceToNat, Nat.reduceMul, Nat.reduceEqDiff, reduceCtorEq, Nat.reduceBEq, Nat.reduceLeDiff, Nat.reduceLT, xf28_L0, ai, al, tx, lt_cast, h0]
    exact W_stop (hK e hb (by omega) hf (.inl (by omega)) _ _ _ _ _ _ _ _ _ _ _ _ _ _ _ _ _ _ _ _ _ _ _ _ _ _ _ _)
  | succ m ih =>
    intro e he hb hf j6 j7 j8 j9 j10 j11 j12 j13 j14 j15 j16 j17 j18 j19 j20 j21 j22 j23 j24 j25 j26 j27 j28 j29 j30 j31 j32 j33
    have h0 : decide (e < w.length) = true := decide_eq_true (by omega)
    have wi : IntKind.i64.wrap ((e : Int) + 1) = ((e + 1 : Nat) : Int) := by rw [wrap_id (by omega) (by omega)]; simp
    have hlf := lleft_run hg f (i := b) (j := e + 1) (by omega) (by omega)
    refine W_loop (W_run 80 ?_)
    simp (maxSteps := 2000000) only [SA, Nat.reduceDiv, Nat.reduceSub, Nat.reduceAdd, Int.reduceLT, Int.reduceLE, Int.reduceToNat, Nat.reduceMul, Nat.reduceEqDiff, reduceCtorEq, Nat.reduceBEq, Nat.reduceLeDiff, Nat.reduceLT, xf28_L0, ai, al, tx, lt_cast, h0, wi]
    refine W_call (args := [tx f V w, ai b, ai (e + 1 : Nat)]) rfl (noRefs_3 (noRef_tx _ _ _) rfl rfl) hlf rfl (W_run 80 ?_)
    cases hf2 : fit (pf w) V b (e + 1) with
    | false =>
      have d : decide (0 ≤ lf (pf w) V b (e + 1)) = false := decide_eq_false fun h => by rw [fit_iff.2 h] at hf2; cases hf2
      simp (maxSteps := 2000000) only [SA, Nat.reduceDiv, Nat.reduceSub, Nat.reduceAdd, Int.reduceLT, Int.reduceLE, Int.reduceToNat, Nat.reduceMul, Nat.reduceEqDiff, reduceCtorEq, Nat.reduceBEq, Nat.reduceLeDiff, Nat.reduceLT, ai, al, tx, d]
      exact W_stop (hK e hb (by omega) hf (.inr hf2) _ _ _ _ _ _ _ _ _ _ _ _ _ _ _ _ _ _ _ _ _ _ _ _ _ _ _ _)
    | true =>
      have d : decide (0 ≤ lf (pf w) V b (e + 1)) = true := decide_eq_true (fit_iff.1 hf2)
      simp (maxSteps := 2000000) only [SA, Nat.reduceDiv, Nat.reduceSub, Nat.reduceAdd, Int.reduceLT, Int.reduceLE, Int.reduceToNat, Nat.reduceMul, Nat.reduceEqDiff, reduceCtorEq, Nat.reduceBEq, Nat.reduceLeDiff, Nat.reduceLT, ai, al, tx, d, wi]
      exact ih (e + 1) (by omega) (by omega) hf2 _ _ _ _ _ _ _ _ _ _ _ _ _ _ _ _ _ _ _ _ _ _ _ _ _ _ _ _
def hvF (E : List Nat) : AV := match E with | [] => nilA | x :: t => .os 31 1 (x :: t).length 1 0 (x :: t).length
def hpF (E : List Nat) : Heap := [(31, match E with | [] => (0, none) | x :: t => (1, some ⟨3, 1, (nl (x :: t)).map ai⟩))]
theorem flo_loop (V : Int) (w : List Int) (hg : gX V w) (f : Bool) (K : List Fr) (Q : Out → Cfg → Prop)
    (hK : ∀ E : List Nat, Gd (pf w) V w.length 0 E → ∀ j5 j6 j7 j8 j9 j10 j11 j12 j13 j14 j15 j16 j17 j18 j19 j20 j21 j22 j23 j24 j25 j26 j27 j28 j29 j30 j31 j32 j33 : AV, W Try.prog (RelU Try.prog xf) 0 K ⟨((tx f V w) :: (.ptr (tx f V w)) :: nilA :: (hvF E) :: (ai w.length) :: j5 :: j6 :: j7 :: j8 :: j9 :: j10 :: j11 :: j12 :: j13 :: j14 :: j15 :: j16 :: j17 :: j18 :: j19 :: j20 :: j21 :: j22 :: j23 :: j24 :: j25 :: j26 :: j27 :: j28 :: j29 :: j30 :: j31 :: j32 :: j33 :: []), hpF E⟩ Q) :
    ∀ (m b : Nat), w.length - b ≤ m → b ≤ w.length → ∀ E : List Nat, E.length ≤ b → PreG (pf w) V w.length E b → ∀ j5 j6 j7 j8 j9 j10 j11 j12 j13 j14 j15 j16 j17 j18 j19 j20 j21 j22 j23 j24 j25 j26 j27 j28 j29 j30 j31 j32 j33 : AV, W Try.prog (RelU Try.prog xf) 0 (.code (.loop xf28_L1) :: .blk 0 :: .stop :: K) ⟨((tx f V w) :: (.ptr (tx f V w)) :: nilA :: (hvF E) :: (ai b) :: j5 :: j6 :: j7 :: j8 :: j9 :: j10 :: j11 :: j12 :: j13 :: j14 :: j15 :: j16 :: j17 :: j18 :: j19 :: j20 :: j21 :: j22 :: j23 :: j24 :: j25 :: j26 :: j27 :: j28 :: j29 :: j30 :: j31 :: j32 :: j33 :: []), hpF E⟩ Q := by
  have n10 := hg.n10
  have fin : ∀ b, b = w.length → ∀ E : List Nat, PreG (pf w) V w.length E b → ∀ j5 j6 j7 j8 j9 j10 j11 j12 j13 j14 j15 j16 j17 j18 j19 j20 j21 j22 j23 j24 j25 j26 j27 j28 j29 j30 j31 j32 j33 : AV, W Try.prog (RelU Try.prog xf) 0 (.code (.loop xf28_L1) :: .blk 0 :: .stop :: K) ⟨((tx f V w) :: (.ptr (tx f V w)) :: nilA :: (hvF E) :: (ai b) :: j5 :: j6 :: j7 :: j8 :: j9 :: j10 :: j11 :: j12 :: j13 :: j14 :: j15 :: j16 :: j17 :: j18 :: j19 :: j20 :: j21 :: j22 :: j23 :: j24 :: j25 :: j26 :: j27 :: j28 :: j29 :: j30 :: j31 :: j32 :: j33 :: []), hpF E⟩ Q := by
    intro b hb E hP j5 j6 j7 j8 j9 j10 j11 j12 j13 j14 j15 j16 j17 j18 j19 j20 j21 j22 j23 j24 j25 j26 j27 j28 j29 j30 j31 j32 j33
    subst hb
    have h0 : decide (w.length < w.length) = false := by simp
    have hE := hP.gd [] rfl
    rw [List.append_nil] at hE
    refine W_loop (W_run 80 ?_)
    simp (maxSteps := 2000000) only [SA, Nat.reduceDiv, Nat.reduceSub, Nat.reduceAdd, Int.reduceLT, Int.reduceLE, Int.reduceToNat, Nat.reduceMul, Nat.reduceEqDiff, reduceCtorEq, Nat.reduceBEq, Nat.reduceLeDiff, Nat.reduceLT, xf28_L1, ai, al, tx, lt_cast, h0]
    exact W_stop (hK E hE _ _ _ _ _ _ _ _ _ _ _ _ _ _ _ _ _ _ _ _ _ _ _ _ _ _ _ _ _)
  intro m
  induction m with
  | zero =>
    intro b hm hb E hE hP j5 j6 j7 j8 j9 j10 j11 j12 j13 j14 j15 j16 j17 j18 j19 j20 j21 j22 j23 j24 j25 j26 j27 j28 j29 j30 j31 j32 j33
    exact fin b (by omega) E hP _ _ _ _ _ _ _ _ _ _ _ _ _ _ _ _ _ _ _ _ _ _ _ _ _ _ _ _ _
  | succ m ih =>
    intro b hm hb E hE hP j5 j6 j7 j8 j9 j10 j11 j12 j13 j14 j15 j16 j17 j18 j19 j20 j21 j22 j23 j24 j25 j26 j27 j28 j29 j30 j31 j32 j33
    by_cases hbn : b = w.length
    · exact fin b hbn E hP _ _ _ _ _ _ _ _ _ _ _ _ _ _ _ _ _ _ _ _ _ _ _ _ _ _ _ _ _
    · have h0 : decide (b < w.length) = true := decide_eq_true (by omega)
      have wi : IntKind.i64.wrap ((b : Int) + 1) = ((b + 1 : Nat) : Int) := by rw [wrap_id (by omega) (by omega)]; simp
      refine W_loop (W_run 80 ?_)
      simp (maxSteps := 2000000) only [SA, Nat.reduceDiv, Nat.reduceSub, Nat.reduceAdd, Int.reduceLT, Int.reduceLE, Int.reduceToNat, Nat.reduceMul, Nat.reduceEqDiff, reduceCtorEq, Nat.reduceBEq, Nat.reduceLeDiff, Nat.reduceLT, xf28_L1, ai, al, tx, lt_cast, h0, wi]
      refine W_alone (fli_loop V w hg f _ b _ _ _ (fun e h1 h2 h3 h4 j6 j7 j8 j9 j10 j11 j12 j13 j14 j15 j16 j17 j18 j19 j20 j21 j22 j23 j24 j25 j26 j27 j28 j29 j30 j31 j32 j33 => W_run 80 ?_) (w.length - (b + 1)) (b + 1) (by omega) (by omega) (fit_one hg.pos (by omega)) _ _ _ _ _ _ _ _ _ _ _ _ _ _ _ _ _ _ _ _ _ _ _ _ _ _ _ _)
      have next := ih e (by omega) h2 (E ++ [e]) (by rw [List.length_append]; simp; omega) (hP.step h1 h2 h3 h4)
      cases E with
      | nil =>
        simp only [hpF, hvF, List.nil_append] at next ⊢
        simp (maxSteps := 2000000) only [SA, Nat.reduceDiv, Nat.reduceSub, Nat.reduceAdd, Int.reduceLT, Int.reduceLE, Int.reduceToNat, Nat.reduceMul, Nat.reduceEqDiff, reduceCtorEq, Nat.reduceBEq, Nat.reduceLeDiff, Nat.reduceLT, xf28_R0, ai, al, nilA, tx, Go.Proofs.Eng.elems, List.map_cons, List.map_nil]
        exact next _ _ _ _ _ _ _ _ _ _ _ _ _ _ _ _ _ _ _ _ _ _ _ _ _ _ _ _ _
      | cons x t =>
        have q1 : (t.length + 1 + 1) * 8 ≤ 100000000000000 := by simp only [List.length_cons] at hE; omega
        have q2 : t.length + 1 + 1 ≤ 100000000000000 := by simp only [List.length_cons] at hE; omega
        have e2 : (x :: (t ++ [e])).length = t.length + 1 + 1 := by simp
        have e3 : (nl (x :: (t ++ [e]))).map ai = (nl (x :: t)).map ai ++ [ai (e : Nat)] := by unfold nl; simp
        have e4 : ((nl (x :: t)).map ai).length = t.length + 1 := by unfold nl; simp
        simp only [hpF, hvF, List.cons_append, e2, e3] at next ⊢
        simp (maxSteps := 2000000) only [SA, Nat.reduceDiv, Nat.reduceSub, Nat.reduceAdd, Int.reduceLT, Int.reduceLE, Int.reduceToNat, Nat.reduceMul, Nat.reduceEqDiff, reduceCtorEq, Nat.reduceBEq, Nat.reduceLeDiff, Nat.reduceLT, xf28_R0, ai, al, nilA, tx, q1, q2, e4, Go.Proofs.Eng.elems, List.map_cons, List.map_nil]
        exact next _ _ _ _ _ _ _ _ _ _ _ _ _ _ _ _ _ _ _ _ _ _ _ _ _ _ _ _ _
theorem named31 (j : Nat) : Go.Proofs.Eng.look [] j = Go.Proofs.Eng.look (hpF []) j := by
  simp only [Go.Proofs.Eng.look, hpF]
  by_cases h : 31 = j
  · subst h; simp
  · simp [h]
theorem filled_run {V : Int} {w : List Int} (hg : gX V w) (f : Bool) : ∃ r, (∃ E : List Nat, r = al false (nl E) ∧ Gd (pf w) V w.length 0 E) ∧ Runs Try.prog xf 28 [tx f V w] r := by
  refine ofWE (fn := xf28) 20 (by kernel_rfl) (W_run 80 ?_)
  simp (maxSteps := 2000000) only [SA, Nat.reduceDiv, Nat.reduceSub, Nat.reduceAdd, Int.reduceLT, Int.reduceLE, Int.reduceToNat, Nat.reduceMul, Nat.reduceEqDiff, reduceCtorEq, Nat.reduceBEq, Nat.reduceLeDiff, Nat.reduceLT, xf28, ai, al, tx]
  refine W_alone (W_named named31 (flo_loop V w hg f _ _ (fun E hE j5 j6 j7 j8 j9 j10 j11 j12 j13 j14 j15 j16 j17 j18 j19 j20 j21 j22 j23 j24 j25 j26 j27 j28 j29 j30 j31 j32 j33 => W_run 80 ?_) w.length 0 (by omega) (Nat.zero_le _) [] (Nat.le_refl _) (PreG.nil _ _ _) _ _ _ _ _ _ _ _ _ _ _ _ _ _ _ _ _ _ _ _ _ _ _ _ _ _ _ _ _))
  cases E with
  | nil => rw [Gd] at hE; have := hg.n1; omega
  | cons x t =>
    simp only [hpF, hvF]
    simp (maxSteps := 2000000) only [SA, Nat.reduceDiv, Nat.reduceSub, Nat.reduceAdd, Int.reduceLT, Int.reduceLE, Int.reduceToNat, Nat.reduceMul, Nat.reduceEqDiff, reduceCtorEq, Nat.reduceBEq, Nat.reduceLeDiff, Nat.reduceLT, xf28_R1, ai, al, tx]
    refine W_ret1 (WX_nil ⟨.inl rfl, _, rfl, al false (nl (x :: t)), ⟨x :: t, rfl, hE⟩, ?_⟩)
    have h := reify_ints (η := [(31, (1, some ⟨3, 1, (nl (x :: t)).map ai⟩))]) (k := 31) (g := 1) (e := 3) (l := nl (x :: t)) rfl
    rw [nl_len] at h
    exact h
end Go.Proofs.Ytdmffkknghianaa

set_option linter.unusedSimpArgs false
set_option linter.unusedVariables false
namespace Go.Proofs.Ytdmffkknghianaa
open Go Go.Proofs.Eng
set_option maxRecDepth 100000
set_option maxHeartbeats 4000000
theorem undS : pureRun Try.prog (underlying 77) = some (.array 2 3) := by kernel_rfl
theorem siz1 : pureRun Try.prog (sizeOf 3) = some 1 := by kernel_rfl
theorem agg1 : pureRun Try.prog (isAgg 3) = some false := by kernel_rfl
theorem eq1 (n : Nat) (a b : Int) : pureRun Try.prog (Op.equalIn (n + 1) 3 (.int .i64 a) (.int .i64 b)) = some (a == b) := by
  rw [Op.equalIn]
  simp only [pureRun_bind, und1, Option.bind_some, if_true, pureRun_pure]
theorem part0 (x y : Value) : pureRun Try.prog (Go.part 3 #[x, y] 0) = some x := by
  simp only [Go.part, pureRun_bind, agg1, Option.bind_some]; rfl
theorem part1 (x y : Value) : pureRun Try.prog (Go.part 3 #[x, y] 1) = some y := by
  simp only [Go.part, pureRun_bind, agg1, Option.bind_some]; rfl
theorem eq2 (a b c d : Int) : pureRun Try.prog (Op.equalIn 10000 77 (.agg #[.int .i64 a, .int .i64 b]) (.agg #[.int .i64 c, .int .i64 d])) = some (a == c && b == d) := by
  rw [show (10000 : Nat) = 9998 + 1 + 1 from rfl, Op.equalIn]
  simp only [pureRun_bind, undS, siz1, Option.bind_some, Std.Legacy.Range.forIn_eq_forIn_range', Std.Legacy.Range.size, Nat.sub_zero, Nat.add_sub_cancel, Nat.div_one, List.range'_succ, List.range'_zero, List.forIn_cons, List.forIn_nil]
  simp only [Nat.zero_mul, Nat.mul_one, Nat.zero_add, part0, part1, Option.bind_some, eq1]
  by_cases h1 : a = c
  · by_cases h2 : b = d <;> simp [h1, h2, pureRun_bind, part1, eq1, pureRun_pure]
  · simp [h1, pureRun_pure]
theorem grdT : Try.prog.eqGuardType Try.prog.depth 77 = false := by kernel_rfl
theorem grd2 (x y : Operand) (u v : Array Value) : pureRun Try.prog (eqGuard .eql 77 x y (.agg u) (.agg v)) = some () := by
  simp only [eqGuard, pureRun_bind, pureRun_program, Option.bind_some, grdT, Bool.not_false, if_true, pureRun_pure]
  rfl
theorem toVal_opP {σ : List AV} {x : Operand} {a b : Int} (hi : opA σ x = .ag [.v (.int .i64 a), .v (.int .i64 b)]) : ((argT x).bind fun xa => toVal (evalF σ xa)) = some (.agg #[.int .i64 a, .int .i64 b]) := by
  unfold opA at hi
  cases h : argT x with
  | none => rw [h] at hi; cases hi
  | some xa =>
    rw [h] at hi
    simp only [Option.elim] at hi
    rw [Option.bind_some, evalF_eq, hi]; rfl
/-- two lines are equal where both numbers are -/
def rawP (x y : AV) (fb : Option Res) : Option Res :=
  match x, y with
  | .ag [.v (.int .i64 a), .v (.int .i64 b)], .ag [.v (.int .i64 c), .v (.int .i64 d)] => some (.val (.v (.bool (a == c && b == d))))
  | _, _ => fb
theorem raw_eqs (dst : Nat) (c : Cfg) (x y : Operand) (ty : TypeId) :
    stF_raw Try.prog dst c (.binOp .eql 77 x y 77) ty = rawP (opA c.σ x) (opA c.σ y) (rawX Try.prog dst c (.binOp .eql 77 x y 77) ty) := by
  unfold rawP
  split
  · rename_i p1 p2 a b c' d hi hj
    have e1 := toVal_opP hi
    have e2 := toVal_opP hj
    unfold stF_raw
    rw [if_pos ⟨rfl, by simp [Op.operands, e1, e2]⟩]
    have h3 : pureRun Try.prog (execOp (fun x => ((argT x).bind fun xa => toVal (evalF c.σ xa)).getD (.bool false)) { dst := none, op := .binOp .eql 77 x y 77, type := ty, pos := "", after := #[], guard := none }) = some (.value (.bool (a == c' && b == d))) := by
      simp only [execOp, e1, e2, Option.getD_some, pureRun_bind, grd2, Option.bind_some]
      have h4 : pureRun Try.prog (binOp .eql 77 (.agg #[.int .i64 a, .int .i64 b]) (.agg #[.int .i64 c', .int .i64 d])) = some (.bool (a == c' && b == d)) := by
        simp only [binOp, pureRun_bind, Op.equal]
        have := eq2 a b c' d
        unfold Op.maxDepth
        rw [this]; rfl
      rw [h4]; rfl
    rw [h3]; rfl
  · rfl
/-! ### lines that run over -/
def ext (n : Nat) (E : List Nat) (l : Nat) : List Nat := if l = E.length then E ++ [n] else E
inductive Ro (q : Nat → Int) (V : Int) (n : Nat) : List Nat → Nat → Nat → List Nat → Nat → Prop
  | stop (E : List Nat) (l b : Nat) (hl : l < E.length) (h1 : b < E.getD l 0) (h2 : E.getD l 0 ≤ n) (hf : fit q V b (E.getD l 0) = true) : Ro q V n E l b E l
  | go (E : List Nat) (l b e : Nat) (E' : List Nat) (l' : Nat) (hl : l < E.length) (h2 : E.getD l 0 ≤ n) (hk : Kp q V b (E.getD l 0) e) (hne : e < E.getD l 0) (h : Ro q V n (ext n (E.set l e) (l + 1)) (l + 1) e E' l') : Ro q V n E l b E' l'
/-- ends that rise from a line on -/
structure Asc (n : Nat) (E : List Nat) (l b : Nat) : Prop where
  lt : l < E.length
  first : b < E.getD l 0
  up : ∀ i, l ≤ i → i + 1 < E.length → E.getD i 0 < E.getD (i + 1) 0
  le : ∀ i, l ≤ i → i < E.length → E.getD i 0 ≤ n
theorem getD_set {E : List Nat} {l i x : Nat} (h : l < E.length) : (E.set l x).getD i 0 = if i = l then x else E.getD i 0 := by
  rw [List.getD_eq_getElem?_getD, List.getD_eq_getElem?_getD, List.getElem?_set]
  by_cases e : l = i
  · subst e; simp [h]
  · rw [if_neg e, if_neg (fun h => e h.symm)]
theorem Asc.next {n : Nat} {E : List Nat} {l b e : Nat} (h : Asc n E l b) (he : e < E.getD l 0) : Asc n (ext n (E.set l e) (l + 1)) (l + 1) e := by
  have hl := h.lt
  have hlen : (E.set l e).length = E.length := List.length_set
  have hle := h.le l (Nat.le_refl _) hl
  unfold ext
  rw [hlen]
  by_cases hc : l + 1 = E.length
  · rw [if_pos hc]
    have hat : (E.set l e ++ [n]).getD (l + 1) 0 = n := by
      rw [List.getD_eq_getElem?_getD, List.getElem?_append_right (by omega), hlen, hc]; simp
    refine ⟨by rw [List.length_append, hlen]; simp; omega, by rw [hat]; omega, fun i h1 h2 => ?_, fun i h1 h2 => ?_⟩
    · rw [List.length_append, hlen] at h2; simp at h2; omega
    · rw [List.length_append, hlen] at h2
      have : i = l + 1 := by simp at h2; omega
      subst this; rw [hat]; exact Nat.le_refl _
  · rw [if_neg hc]
    refine ⟨by omega, ?_, fun i h1 h2 => ?_, fun i h1 h2 => ?_⟩
    · rw [getD_set hl, if_neg (by omega)]
      have := h.up l (Nat.le_refl _) (by omega)
      omega
    · rw [getD_set hl, getD_set hl, if_neg (by omega), if_neg (by omega)]
      exact h.up i (by omega) (by omega)
    · rw [getD_set hl, if_neg (by omega)]
      exact h.le i (by omega) (by omega)
theorem ro_loop (V : Int) (w : List Int) (hg : gX V w) (f : Bool) (x0 : AV) (K : List Fr) (Q : Out → Cfg → Prop)
    (E0 : List Nat) (l0 b0 : Nat) (hR : ∀ (E : List Nat) (l b : Nat) (E' : List Nat) (l' : Nat), True)
    (hK : ∀ (E' : List Nat) (l' b : Nat), Ro (pf w) V w.length E0 l0 b0 E' l' → ∀ (r9 r10 : Nat × Option Ob), ∀ j4 j5 j9 j10 j11 j12 j13 j14 j15 j16 j17 j18 j19 j20 j21 j22 j23 j24 j25 j26 j27 j28 j29 j30 j31 j32 j33 j34 j35 j36 j37 j38 j39 j40 j41 j42 j43 j44 j45 j46 j47 j48 j49 j50 j51 : AV, WX Try.prog (RelU Try.prog xf) 0 K .ret ⟨(x0 :: (.os 1005 1 E'.length 1 0 E'.length) :: (ai l') :: (.ptr (tx f V w)) :: j4 :: j5 :: (.os 1005 1 E'.length 1 0 E'.length) :: (ai l') :: (ai b) :: j9 :: j10 :: j11 :: j12 :: j13 :: j14 :: j15 :: j16 :: j17 :: j18 :: j19 :: j20 :: j21 :: j22 :: j23 :: j24 :: j25 :: j26 :: j27 :: j28 :: j29 :: j30 :: j31 :: j32 :: j33 :: j34 :: j35 :: j36 :: j37 :: j38 :: j39 :: j40 :: j41 :: j42 :: j43 :: j44 :: j45 :: j46 :: j47 :: j48 :: j49 :: j50 :: j51 :: []), [(9, r9), (10, r10), (1005, (1, some ⟨3, 1, (nl E').map ai⟩))]⟩ Q) :
    ∀ (m b : Nat), w.length - b ≤ m → ∀ (E : List Nat) (l : Nat), E.length ≤ w.length + 1 → l ≤ b → Asc w.length E l b → (∀ E' l', Ro (pf w) V w.length E l b E' l' → Ro (pf w) V w.length E0 l0 b0 E' l') → ∀ (g9 : Nat) (o9 : Option Ob) (g10 : Nat) (o10 : Option Ob), ∀ j4 j5 j9 j10 j11 j12 j13 j14 j15 j16 j17 j18 j19 j20 j21 j22 j23 j24 j25 j26 j27 j28 j29 j30 j31 j32 j33 j34 j35 j36 j37 j38 j39 j40 j41 j42 j43 j44 j45 j46 j47 j48 j49 j50 j51 : AV, W Try.prog (RelU Try.prog xf) 0 (.code (.loop xf53_L0) :: .blk 0 :: .stop :: K) ⟨(x0 :: (.os 1005 1 E.length 1 0 E.length) :: (ai l) :: (.ptr (tx f V w)) :: j4 :: j5 :: nilA :: (ai 0) :: (ai b) :: j9 :: j10 :: j11 :: j12 :: j13 :: j14 :: j15 :: j16 :: j17 :: j18 :: j19 :: j20 :: j21 :: j22 :: j23 :: j24 :: j25 :: j26 :: j27 :: j28 :: j29 :: j30 :: j31 :: j32 :: j33 :: j34 :: j35 :: j36 :: j37 :: j38 :: j39 :: j40 :: j41 :: j42 :: j43 :: j44 :: j45 :: j46 :: j47 :: j48 :: j49 :: j50 :: j51 :: []), [(9, (g9, o9)), (10, (g10, o10)), (1005, (1, some ⟨3, 1, (nl E).map ai⟩))]⟩ Q := by
  have n10 := hg.n10
  intro m
  induction m with
  | zero => intro b hm E l hEl hlb hA; have := hA.first; have := hA.le l (Nat.le_refl _) hA.lt; omega
  | succ m ih =>
    intro b hm E l hEl hlb hA himp g9 o9 g10 o10 j4 j5 j9 j10 j11 j12 j13 j14 j15 j16 j17 j18 j19 j20 j21 j22 j23 j24 j25 j26 j27 j28 j29 j30 j31 j32 j33 j34 j35 j36 j37 j38 j39 j40 j41 j42 j43 j44 j45 j46 j47 j48 j49 j50 j51
    have hl := hA.lt
    have hbe := hA.first
    have hen := hA.le l (Nat.le_refl _) hl
    obtain ⟨e, hk⟩ := Kp.ex hg.pos (i := b) _ (E.getD l 0) (Nat.le_refl _) hbe hen
    have hkr := kept_run hg f hen hk
    have hgt := get_nl hl
    have hnl := nl_len E
    have wi : IntKind.i64.wrap ((l : Int) + 1) = ((l + 1 : Nat) : Int) := by rw [wrap_id (by omega) (by omega)]; simp
    have llt : (l : Int) < E.length := by omega
    have lnn : (0 : Int) ≤ l := by omega
    generalize hx : E.getD l 0 = x at *
    refine W_loop (W_run 160 ?_)
    simp (maxSteps := 2000000) only [SA, Nat.reduceDiv, Nat.reduceSub, Nat.reduceAdd, Int.reduceLT, Int.reduceLE, Int.reduceToNat, Nat.reduceMul, Nat.reduceEqDiff, reduceCtorEq, Nat.reduceBEq, Nat.reduceLeDiff, Nat.reduceLT, xf53_L0, ai, al, tx, hgt, hnl, llt, lnn, List.length_map, Int.toNat_natCast, Go.Proofs.Eng.fillA, List.map_cons, List.map_nil]
    refine W_call (args := [tx f V w, spn b x]) rfl (noRefs_2 (noRef_tx _ _ _) rfl) hkr rfl (W_run 160 ?_)
    by_cases hex : e = x
    · have d : ((e : Int) == x) = true := by simp [hex]
      have hro := himp E l (.stop E l b hl (by rw [hx]; exact hbe) (by rw [hx]; exact hen) (by rw [hx, ← hex]; exact hk.ok))
      simp (maxSteps := 2000000) only [SA, Nat.reduceDiv, Nat.reduceSub, Nat.reduceAdd, Int.reduceLT, Int.reduceLE, Int.reduceToNat, Nat.reduceMul, Nat.reduceEqDiff, reduceCtorEq, Nat.reduceBEq, Nat.reduceLeDiff, Nat.reduceLT, ai, al, tx, spn, shA, raw_eqs, rawP, opA, argT, Option.elim, d, List.map_cons, List.map_nil]
      exact W_ret1 (WX_pop (hK E l b hro _ _ _ _ _ _ _ _ _ _ _ _ _ _ _ _ _ _ _ _ _ _ _ _ _ _ _ _ _ _ _ _ _ _ _ _ _ _ _ _ _ _ _ _ _ _ _))
    · have hlt : e < x := by have := hk.hi; omega
      have d : ((e : Int) == x) = false := by rw [beq_eq_false_iff_ne]; omega
      have hset : ((nl E).map ai).set l (.v (.int .i64 (e : Nat))) = (nl (E.set l e)).map ai := by unfold nl; rw [List.map_set, List.map_set]; rfl
      have hsl : (E.set l e).length = E.length := List.length_set
      have hA2 := hA.next (e := e) (by rw [hx]; exact hlt)
      have himp2 : ∀ E' l', Ro (pf w) V w.length (ext w.length (E.set l e) (l + 1)) (l + 1) e E' l' → Ro (pf w) V w.length E0 l0 b0 E' l' := fun E' l' h => himp E' l' (.go E l b e E' l' hl (by rw [hx]; exact hen) (by rw [hx]; exact hk) (by rw [hx]; exact hlt) h)
      have hke := hk.lo
      by_cases hc : l + 1 = E.length
      · have d2 : (((l + 1 : Nat) : Int) == (E.length : Int)) = true := by rw [hc]; simp
        have hext : ext w.length (E.set l e) (l + 1) = E.set l e ++ [w.length] := by unfold ext; rw [if_pos (by omega)]
        rw [hext] at hA2 himp2
        have next := ih e (by omega) (E.set l e ++ [w.length]) (l + 1) (by rw [List.length_append, hsl]; simp; omega) (by omega) hA2 himp2
        rw [List.length_append, hsl, show (nl (E.set l e ++ [w.length])).map ai = (nl (E.set l e)).map ai ++ [ai (w.length : Nat)] by unfold nl; simp] at next
        have q1 : (E.length + 1) * 8 ≤ 100000000000000 := by omega
        have q2 : E.length + 1 ≤ 100000000000000 := by omega
        have hsl2 : ((nl (E.set l e)).map ai).length = E.length := by unfold nl; simp
        simp (maxSteps := 2000000) only [SA, Nat.reduceDiv, Nat.reduceSub, Nat.reduceAdd, Int.reduceLT, Int.reduceLE, Int.reduceToNat, Nat.reduceMul, Nat.reduceEqDiff, reduceCtorEq, Nat.reduceBEq, Nat.reduceLeDiff, Nat.reduceLT, ai, al, tx, spn, shA, raw_eqs, rawP, opA, argT, Option.elim, d, d2, wi, hgt, hnl, llt, lnn, hset, List.length_map, Int.toNat_natCast, List.map_cons, List.map_nil]
        refine W_call (args := [tx f V w]) rfl (noRefs_1 (noRef_tx _ _ _)) (last_run V w f) rfl (W_run 160 ?_)
        simp (maxSteps := 2000000) only [SA, Nat.reduceDiv, Nat.reduceSub, Nat.reduceAdd, Int.reduceLT, Int.reduceLE, Int.reduceToNat, Nat.reduceMul, Nat.reduceEqDiff, reduceCtorEq, Nat.reduceBEq, Nat.reduceLeDiff, Nat.reduceLT, ai, al, tx, q1, q2, hsl2, Go.Proofs.Eng.elems, List.map_cons, List.map_nil]
        exact next _ _ _ _ _ _ _ _ _ _ _ _ _ _ _ _ _ _ _ _ _ _ _ _ _ _ _ _ _ _ _ _ _ _ _ _ _ _ _ _ _ _ _ _ _ _ _ _ _
      · have d2 : (((l + 1 : Nat) : Int) == (E.length : Int)) = false := by rw [beq_eq_false_iff_ne]; omega
        have hext : ext w.length (E.set l e) (l + 1) = E.set l e := by unfold ext; rw [if_neg (by omega)]
        rw [hext] at hA2 himp2
        have next := ih e (by omega) (E.set l e) (l + 1) (by omega) (by omega) hA2 himp2
        rw [hsl] at next
        simp (maxSteps := 2000000) only [SA, Nat.reduceDiv, Nat.reduceSub, Nat.reduceAdd, Int.reduceLT, Int.reduceLE, Int.reduceToNat, Nat.reduceMul, Nat.reduceEqDiff, reduceCtorEq, Nat.reduceBEq, Nat.reduceLeDiff, Nat.reduceLT, ai, al, tx, spn, shA, raw_eqs, rawP, opA, argT, Option.elim, d, d2, wi, hgt, hnl, llt, lnn, hset, List.length_map, Int.toNat_natCast, List.map_cons, List.map_nil]
        exact next _ _ _ _ _ _ _ _ _ _ _ _ _ _ _ _ _ _ _ _ _ _ _ _ _ _ _ _ _ _ _ _ _ _ _ _ _ _ _ _ _ _ _ _ _ _ _ _ _
theorem named910 {q : Nat × Option Ob} (j : Nat) : Go.Proofs.Eng.look [(1005, q)] j = Go.Proofs.Eng.look [(9, (0, (none : Option Ob))), (10, (0, (none : Option Ob))), (1005, q)] j := by
  simp only [Go.Proofs.Eng.look]
  by_cases h : 9 = j
  · subst h; simp
  · by_cases h2 : 10 = j
    · subst h2; simp
    · simp [h, h2]
/-- what lines that run over come to, as data -/
theorem over_run {V : Int} {w : List Int} (hg : gX V w) (f g : Bool) {E : List Nat} {l : Nat} (hEl : E.length ≤ w.length) (hA : Asc w.length E l (if 0 < l then E.getD (l - 1) 0 else 0)) (hlb : l ≤ (if 0 < l then E.getD (l - 1) 0 else 0)) :
    ∃ r, (∃ E' l', r = .tup [al false (nl E'), ai (l' : Nat)] ∧ Ro (pf w) V w.length E l (if 0 < l then E.getD (l - 1) 0 else 0) E' l') ∧ Runs Try.prog xf 53 [tx f V w, al g (nl E), ai l] r := by
  have n10 := hg.n10
  have hnl := nl_len E
  have hl := hA.lt
  have hcl := cloneI_run g (nl E) (by omega) [] rfl
  rw [hnl] at hcl
  have hL := fun K Q hK => ro_loop V w hg f (tx f V w) K Q E l (if 0 < l then E.getD (l - 1) 0 else 0) (fun _ _ _ _ _ => trivial) hK _ (if 0 < l then E.getD (l - 1) 0 else 0) (Nat.le_refl _) E l (by omega) hlb hA (fun _ _ h => h)
  refine ofWE (fn := xf53) 20 (by kernel_rfl) (W_run 120 ?_)
  simp (maxSteps := 2000000) only [SA, Nat.reduceDiv, Nat.reduceSub, Nat.reduceAdd, Int.reduceLT, Int.reduceLE, Int.reduceToNat, Nat.reduceMul, Nat.reduceEqDiff, reduceCtorEq, Nat.reduceBEq, Nat.reduceLeDiff, Nat.reduceLT, xf53, ai, al, tx]
  refine W_callR (kb' := 1000) (args := [al g (nl E)]) rfl hcl rfl (W_run 120 ?_)
  by_cases hl0 : 0 < l
  · have d : decide ((0 : Int) < (l : Int)) = true := decide_eq_true (by omega)
    have wl : IntKind.i64.wrap ((l : Int) - 1) = ((l - 1 : Nat) : Int) := by rw [wrap_id (by omega) (by omega)]; omega
    have hgt := get_nl (E := E) (k := l - 1) (by omega)
    have l1 : ((l - 1 : Nat) : Int) < E.length := by omega
    have l2 : (0 : Int) ≤ ((l - 1 : Nat) : Int) := by omega
    rw [if_pos hl0] at hL
    simp (maxSteps := 2000000) only [SA, Nat.reduceDiv, Nat.reduceSub, Nat.reduceAdd, Int.reduceLT, Int.reduceLE, Int.reduceToNat, Nat.reduceMul, Nat.reduceEqDiff, reduceCtorEq, Nat.reduceBEq, Nat.reduceLeDiff, Nat.reduceLT, ai, al, tx, d, wl, hgt, hnl, l1, l2, Go.Proofs.Eng.putAt, List.length_map, Int.toNat_natCast]
    refine W_alone (W_named named910 (hL _ _ (fun E' l' b hro r9 r10 j4 j5 j9 j10 j11 j12 j13 j14 j15 j16 j17 j18 j19 j20 j21 j22 j23 j24 j25 j26 j27 j28 j29 j30 j31 j32 j33 j34 j35 j36 j37 j38 j39 j40 j41 j42 j43 j44 j45 j46 j47 j48 j49 j50 j51 => ?_) _ _ _ _ _ _ _ _ _ _ _ _ _ _ _ _ _ _ _ _ _ _ _ _ _ _ _ _ _ _ _ _ _ _ _ _ _ _ _ _ _ _ _ _ _ _ _ _ _))
    exact WX_pop (WX_nil ⟨.inl rfl, _, rfl, _, ⟨E', l', rfl, by rw [if_pos hl0]; exact hro⟩, reify_tupos (l := nl E') (by rw [nl_len]) rfl⟩)
  · have d : decide ((0 : Int) < (l : Int)) = false := decide_eq_false (by omega)
    rw [if_neg hl0] at hL
    simp (maxSteps := 2000000) only [SA, Nat.reduceDiv, Nat.reduceSub, Nat.reduceAdd, Int.reduceLT, Int.reduceLE, Int.reduceToNat, Nat.reduceMul, Nat.reduceEqDiff, reduceCtorEq, Nat.reduceBEq, Nat.reduceLeDiff, Nat.reduceLT, ai, al, tx, d, Go.Proofs.Eng.putAt]
    refine W_alone (W_named named910 (hL _ _ (fun E' l' b hro r9 r10 j4 j5 j9 j10 j11 j12 j13 j14 j15 j16 j17 j18 j19 j20 j21 j22 j23 j24 j25 j26 j27 j28 j29 j30 j31 j32 j33 j34 j35 j36 j37 j38 j39 j40 j41 j42 j43 j44 j45 j46 j47 j48 j49 j50 j51 => ?_) _ _ _ _ _ _ _ _ _ _ _ _ _ _ _ _ _ _ _ _ _ _ _ _ _ _ _ _ _ _ _ _ _ _ _ _ _ _ _ _ _ _ _ _ _ _ _ _ _))
    exact WX_pop (WX_nil ⟨.inl rfl, _, rfl, _, ⟨E', l', rfl, by rw [if_neg hl0]; exact hro⟩, reify_tupos (l := nl E') (by rw [nl_len]) rfl⟩)
end Go.Proofs.Ytdmffkknghianaa

set_option linter.unusedSimpArgs false
set_option linter.unusedVariables false
namespace Go.Proofs.Ytdmffkknghianaa
open Go Go.Proofs.Eng
set_option maxRecDepth 100000
set_option maxHeartbeats 4000000
theorem ro_gd {q : Nat → Int} {V : Int} {n : Nat} {E : List Nat} {l b : Nat} {E' : List Nat} {l' : Nat} (h : Ro q V n E l b E' l') : (∃ d, E = d ++ [n] ∧ l = d.length ∧ PreG q V n d b) → b < n → Gd q V n 0 E' := by
  induction h with
  | stop E l b hl h1 h2 hf =>
    rintro ⟨d, rfl, rfl, hP⟩ hb
    have hat : (d ++ [n]).getD d.length 0 = n := by rw [List.getD_eq_getElem?_getD, List.getElem?_append_right (Nat.le_refl _)]; simp
    rw [hat] at hf
    exact hP.gd [n] (by rw [Gd]; exact ⟨hb, Nat.le_refl _, hf, .inl rfl, rfl⟩)
  | go E l b e E' l' hl h2 hk hne h ih =>
    rintro ⟨d, rfl, rfl, hP⟩ hb
    have hat : (d ++ [n]).getD d.length 0 = n := by rw [List.getD_eq_getElem?_getD, List.getElem?_append_right (Nat.le_refl _)]; simp
    rw [hat] at hk hne
    have hset : (d ++ [n]).set d.length e = d ++ [e] := by rw [List.set_append_right _ _ (Nat.le_refl _)]; simp
    refine ih ⟨d ++ [e], ?_, by simp, hP.step hk.lo hk.hi hk.ok (.inr (hk.no (e + 1) (by omega) (by omega)))⟩ hne
    unfold ext
    rw [hset, if_pos (by simp)]
theorem full_run {V : Int} {w : List Int} (hg : gX V w) (f : Bool) {F : List Nat} (hF : Gd (pf w) V w.length 0 F) : Runs Try.prog xf 29 [tx f V w] (.tup [al false (nl F), ai 0]) := by
  have n1 := hg.n1
  have n00 : ((0 : Int) != 0) = false := rfl
  have hA : Asc w.length [w.length] 0 (if 0 < 0 then [w.length].getD (0 - 1) 0 else 0) := by
    refine ⟨by simp, by simp; omega, fun i h1 h2 => by simp at h2, fun i h1 h2 => ?_⟩
    have : i = 0 := by simp at h2; omega
    subst this; simp
  obtain ⟨r, ⟨E', l', rfl, hro⟩, hrun⟩ := over_run hg f true (E := [w.length]) (l := 0) (by simp; omega) hA (by simp)
  have hG : Gd (pf w) V w.length 0 E' := ro_gd hro ⟨[], rfl, rfl, PreG.nil _ _ _⟩ (by simp; omega)
  have e := hG.uniq hg.pos hF
  subst e
  refine Runs.ofW (fn := xf29) 20 (by kernel_rfl) (W_run 80 ?_)
  simp (maxSteps := 2000000) only [SA, Nat.reduceDiv, Nat.reduceSub, Nat.reduceAdd, Int.reduceLT, Int.reduceLE, Int.reduceToNat, Nat.reduceMul, Nat.reduceEqDiff, reduceCtorEq, Nat.reduceBEq, Nat.reduceLeDiff, Nat.reduceLT, xf29, ai, al, tx]
  refine W_call (args := [tx f V w]) rfl (noRefs_1 (noRef_tx _ _ _)) (check_run hg f) rfl (W_run 80 ?_)
  simp (maxSteps := 2000000) only [SA, Nat.reduceDiv, Nat.reduceSub, Nat.reduceAdd, Int.reduceLT, Int.reduceLE, Int.reduceToNat, Nat.reduceMul, Nat.reduceEqDiff, reduceCtorEq, Nat.reduceBEq, Nat.reduceLeDiff, Nat.reduceLT, ai, al, tx, n00]
  refine W_call (args := [tx f V w]) rfl (noRefs_1 (noRef_tx _ _ _)) (last_run V w f) rfl (W_run 80 ?_)
  simp (maxSteps := 2000000) only [SA, Nat.reduceDiv, Nat.reduceSub, Nat.reduceAdd, Int.reduceLT, Int.reduceLE, Int.reduceToNat, Nat.reduceMul, Nat.reduceEqDiff, reduceCtorEq, Nat.reduceBEq, Nat.reduceLeDiff, Nat.reduceLT, ai, al, tx, List.map_cons, List.map_nil]
  refine W_call (args := [tx f V w, al true (nl [w.length]), ai ((0 : Nat) : Int)]) rfl (noRefs_3 (noRef_tx _ _ _) (noRef_al _ _) rfl) hrun (noRef_t2 (noRef_al _ _) rfl) (W_run 80 ?_)
  simp (maxSteps := 2000000) only [SA, Nat.reduceDiv, Nat.reduceSub, Nat.reduceAdd, Int.reduceLT, Int.reduceLE, Int.reduceToNat, Nat.reduceMul, Nat.reduceEqDiff, reduceCtorEq, Nat.reduceBEq, Nat.reduceLeDiff, Nat.reduceLT, ai, al, tx]
  exact W_ret1 (WX_nil ⟨.inl rfl, _, rfl, reify_nl _ _ _ _⟩)
end Go.Proofs.Ytdmffkknghianaa

