/-
  Some ends of a text by numbers.
-/
import Derived.Test.YtdmffkknghianaaMn
set_option linter.unusedSimpArgs false
set_option linter.unusedVariables false
namespace Go.Proofs.Ytdmffkknghianaa
open Go Go.Proofs.Eng
set_option maxRecDepth 100000
set_option maxHeartbeats 4000000
structure PreOk (q : Nat → Int) (V : Int) (n : Nat) (E : List Nat) (b : Nat) : Prop where
  er : ∀ t, eE n 0 (E ++ t) = eE n b t
  sp : ∀ t, spE 0 (E ++ t) = spE 0 E ++ spE b t
  ft : (spE 0 E).all (fun p => fit q V p.1 p.2) = true
theorem PreOk.nil (q : Nat → Int) (V : Int) (n : Nat) : PreOk q V n [] 0 := ⟨fun _ => rfl, fun _ => rfl, rfl⟩
theorem PreOk.step {q : Nat → Int} {V : Int} {n : Nat} {E : List Nat} {b e : Nat} (h : PreOk q V n E b) (h1 : b < e) (h2 : e ≤ n) (hf : fit q V b e = true) : PreOk q V n (E ++ [e]) e where
  er := fun t => by rw [List.append_assoc, h.er, List.singleton_append, eE, if_neg (by omega), if_neg (by omega)]
  sp := fun t => by rw [List.append_assoc, h.sp, h.sp, List.singleton_append]; simp [spE]
  ft := by
    rw [h.sp, List.all_append, h.ft]
    simp [spE, hf]
theorem PreOk.fin {q : Nat → Int} {V : Int} {n : Nat} {E : List Nat} (h : PreOk q V n E n) : fE q V n E = 0 := by
  have h1 := h.er []
  rw [List.append_nil, eE, if_pos rfl] at h1
  unfold fE
  rw [if_pos h1, if_pos h.ft]
theorem fE_ok' {q : Nat → Int} {V : Int} {n : Nat} {E : List Nat} (h : fE q V n E = 0) : eE n 0 E = 0 := by
  unfold fE at h
  split at h
  · assumption
  · exact h
def stp (S : List Int) : AV := .ag (S.map u8)
theorem bri_loop (V : Int) (w : List Int) (hg : gX V w) (f : Bool) (S : List Int) (hS : S.length = 10) (x5 : AV) (b : Nat) (H : Heap) (K : List Fr) (Q : Out → Cfg → Prop)
    (hK : ∀ e : Nat, b < e → e ≤ w.length → fit (pf w) V b e = true → ∀ j8 j9 j10 j11 j12 j13 j14 j15 j16 j17 j18 j19 j20 j21 j22 j23 j24 j25 j26 j27 j28 j29 j30 j31 j32 j33 j34 j35 j36 j37 j38 j39 j40 j41 j42 : AV, W Try.prog (RelU Try.prog xf) 0 K ⟨((tx f V w) :: (stp S) :: (.ptr (tx f V w)) :: (.ptr (stp S)) :: nilA :: x5 :: (ai b) :: (ai e) :: j8 :: j9 :: j10 :: j11 :: j12 :: j13 :: j14 :: j15 :: j16 :: j17 :: j18 :: j19 :: j20 :: j21 :: j22 :: j23 :: j24 :: j25 :: j26 :: j27 :: j28 :: j29 :: j30 :: j31 :: j32 :: j33 :: j34 :: j35 :: j36 :: j37 :: j38 :: j39 :: j40 :: j41 :: j42 :: []), H⟩ Q) :
    ∀ (m e : Nat), e + m = w.length → b < e → fit (pf w) V b e = true → ∀ j8 j9 j10 j11 j12 j13 j14 j15 j16 j17 j18 j19 j20 j21 j22 j23 j24 j25 j26 j27 j28 j29 j30 j31 j32 j33 j34 j35 j36 j37 j38 j39 j40 j41 j42 : AV, W Try.prog (RelU Try.prog xf) 0 (.code (.loop xf32_L0) :: .blk 2 :: .stop :: K) ⟨((tx f V w) :: (stp S) :: (.ptr (tx f V w)) :: (.ptr (stp S)) :: nilA :: x5 :: (ai b) :: (ai e) :: j8 :: j9 :: j10 :: j11 :: j12 :: j13 :: j14 :: j15 :: j16 :: j17 :: j18 :: j19 :: j20 :: j21 :: j22 :: j23 :: j24 :: j25 :: j26 :: j27 :: j28 :: j29 :: j30 :: j31 :: j32 :: j33 :: j34 :: j35 :: j36 :: j37 :: j38 :: j39 :: j40 :: j41 :: j42 :: []), H⟩ Q := by
  have n10 := hg.n10
  have hSl : (S.map u8).length = 10 := by simp [hS]
  intro m
  induction m with
  | zero =>
    intro e he hb hf j8 j9 j10 j11 j12 j13 j14 j15 j16 j17 j18 j19 j20 j21 j22 j23 j24 j25 j26 j27 j28 j29 j30 j31 j32 j33 j34 j35 j36 j37 j38 j39 j40 j41 j42
    have h0 : decide (e < w.length) = false := decide_eq_false (by omega)
    refine W_loop (W_run 80 ?_)
    simp (maxSteps := 2000000) only [SA, Nat.reduceDiv, Nat.reduceSub, Nat.reduceAdd, Int.reduceLT, Int.reduceLE, Int.reduceToNat, Nat.reduceMul, Nat.reduceEqDiff, reduceCtorEq, Nat.reduceBEq, Nat.reduceLeDiff, Nat.reduceLT, xf32_L0, ai, al, tx, lt_cast, h0]
    exact W_stop (hK e hb (by omega) hf _ _ _ _ _ _ _ _ _ _ _ _ _ _ _ _ _ _ _ _ _ _ _ _ _ _ _ _ _ _ _ _ _ _ _)
  | succ m ih =>
    intro e he hb hf j8 j9 j10 j11 j12 j13 j14 j15 j16 j17 j18 j19 j20 j21 j22 j23 j24 j25 j26 j27 j28 j29 j30 j31 j32 j33 j34 j35 j36 j37 j38 j39 j40 j41 j42
    have h0 : decide (e < w.length) = true := decide_eq_true (by omega)
    have wi : IntKind.i64.wrap ((e : Int) + 1) = ((e + 1 : Nat) : Int) := by rw [wrap_id (by omega) (by omega)]; simp
    have hlf := lleft_run hg f (i := b) (j := e + 1) (by omega) (by omega)
    have gS := get_u8 (l := S) (i := e) (by omega)
    have e10 : (e : Int) < 10 := by omega
    have enn : (0 : Int) ≤ e := by omega
    generalize S.getD e 0 = z at *
    refine W_loop (W_run 80 ?_)
    simp (maxSteps := 2000000) only [SA, Nat.reduceDiv, Nat.reduceSub, Nat.reduceAdd, Int.reduceLT, Int.reduceLE, Int.reduceToNat, Nat.reduceMul, Nat.reduceEqDiff, reduceCtorEq, Nat.reduceBEq, Nat.reduceLeDiff, Nat.reduceLT, xf32_L0, ai, al, tx, lt_cast, h0, wi]
    refine W_call (args := [tx f V w, ai b, ai (e + 1 : Nat)]) rfl (noRefs_3 (noRef_tx _ _ _) rfl rfl) hlf rfl (W_run 80 ?_)
    cases hf2 : fit (pf w) V b (e + 1) with
    | false =>
      have d : decide (0 ≤ lf (pf w) V b (e + 1)) = false := decide_eq_false fun h => by rw [fit_iff.2 h] at hf2; cases hf2
      simp (maxSteps := 2000000) only [SA, Nat.reduceDiv, Nat.reduceSub, Nat.reduceAdd, Int.reduceLT, Int.reduceLE, Int.reduceToNat, Nat.reduceMul, Nat.reduceEqDiff, reduceCtorEq, Nat.reduceBEq, Nat.reduceLeDiff, Nat.reduceLT, ai, al, tx, d]
      exact W_stop (hK e hb (by omega) hf _ _ _ _ _ _ _ _ _ _ _ _ _ _ _ _ _ _ _ _ _ _ _ _ _ _ _ _ _ _ _ _ _ _ _)
    | true =>
      have d : decide (0 ≤ lf (pf w) V b (e + 1)) = true := decide_eq_true (fit_iff.1 hf2)
      have z4 : ((4 : Int) = 0) = False := eq_false (by omega)
      cases hd : decide (0 < z.tmod 4) with
      | false =>
        simp (maxSteps := 2000000) only [SA, Nat.reduceDiv, Nat.reduceSub, Nat.reduceAdd, Int.reduceLT, Int.reduceLE, Int.reduceToNat, Nat.reduceMul, Nat.reduceEqDiff, reduceCtorEq, Nat.reduceBEq, Nat.reduceLeDiff, Nat.reduceLT, ai, al, tx, d, stp, u8, gS, e10, enn, z4, hd, hSl, Nat.mul_one, Int.toNat_natCast]
        exact W_stop (hK e hb (by omega) hf _ _ _ _ _ _ _ _ _ _ _ _ _ _ _ _ _ _ _ _ _ _ _ _ _ _ _ _ _ _ _ _ _ _ _)
      | true =>
        simp (maxSteps := 2000000) only [SA, Nat.reduceDiv, Nat.reduceSub, Nat.reduceAdd, Int.reduceLT, Int.reduceLE, Int.reduceToNat, Nat.reduceMul, Nat.reduceEqDiff, reduceCtorEq, Nat.reduceBEq, Nat.reduceLeDiff, Nat.reduceLT, ai, al, tx, d, stp, u8, gS, e10, enn, z4, hd, hSl, wi, Nat.mul_one, Int.toNat_natCast]
        exact ih (e + 1) (by omega) (by omega) hf2 _ _ _ _ _ _ _ _ _ _ _ _ _ _ _ _ _ _ _ _ _ _ _ _ _ _ _ _ _ _ _ _ _ _ _
def hvE (E : List Nat) : AV := match E with | [] => nilA | x :: t => .os 40 1 (x :: t).length 1 0 (x :: t).length
def hpE (E : List Nat) : Heap := [(40, match E with | [] => (0, none) | x :: t => (1, some ⟨3, 1, (nl (x :: t)).map ai⟩))]
theorem bro_loop (V : Int) (w : List Int) (hg : gX V w) (f : Bool) (S : List Int) (hS : S.length = 10) (K : List Fr) (Q : Out → Cfg → Prop)
    (hK : ∀ E : List Nat, fE (pf w) V w.length E = 0 → E.length ≤ w.length → ∀ j7 j8 j9 j10 j11 j12 j13 j14 j15 j16 j17 j18 j19 j20 j21 j22 j23 j24 j25 j26 j27 j28 j29 j30 j31 j32 j33 j34 j35 j36 j37 j38 j39 j40 j41 j42 : AV, W Try.prog (RelU Try.prog xf) 0 K ⟨((tx f V w) :: (stp S) :: (.ptr (tx f V w)) :: (.ptr (stp S)) :: nilA :: (hvE E) :: (ai w.length) :: j7 :: j8 :: j9 :: j10 :: j11 :: j12 :: j13 :: j14 :: j15 :: j16 :: j17 :: j18 :: j19 :: j20 :: j21 :: j22 :: j23 :: j24 :: j25 :: j26 :: j27 :: j28 :: j29 :: j30 :: j31 :: j32 :: j33 :: j34 :: j35 :: j36 :: j37 :: j38 :: j39 :: j40 :: j41 :: j42 :: []), hpE E⟩ Q) :
    ∀ (m b : Nat), w.length - b ≤ m → b ≤ w.length → ∀ E : List Nat, E.length ≤ b → PreOk (pf w) V w.length E b → ∀ j7 j8 j9 j10 j11 j12 j13 j14 j15 j16 j17 j18 j19 j20 j21 j22 j23 j24 j25 j26 j27 j28 j29 j30 j31 j32 j33 j34 j35 j36 j37 j38 j39 j40 j41 j42 : AV, W Try.prog (RelU Try.prog xf) 0 (.code (.loop xf32_L1) :: .blk 0 :: .stop :: K) ⟨((tx f V w) :: (stp S) :: (.ptr (tx f V w)) :: (.ptr (stp S)) :: nilA :: (hvE E) :: (ai b) :: j7 :: j8 :: j9 :: j10 :: j11 :: j12 :: j13 :: j14 :: j15 :: j16 :: j17 :: j18 :: j19 :: j20 :: j21 :: j22 :: j23 :: j24 :: j25 :: j26 :: j27 :: j28 :: j29 :: j30 :: j31 :: j32 :: j33 :: j34 :: j35 :: j36 :: j37 :: j38 :: j39 :: j40 :: j41 :: j42 :: []), hpE E⟩ Q := by
  have n10 := hg.n10
  intro m
  induction m with
  | zero =>
    intro b hm hb E hE hP j7 j8 j9 j10 j11 j12 j13 j14 j15 j16 j17 j18 j19 j20 j21 j22 j23 j24 j25 j26 j27 j28 j29 j30 j31 j32 j33 j34 j35 j36 j37 j38 j39 j40 j41 j42
    have eb : b = w.length := by omega
    subst eb
    have h0 : decide (w.length < w.length) = false := by simp
    refine W_loop (W_run 80 ?_)
    simp (maxSteps := 2000000) only [SA, Nat.reduceDiv, Nat.reduceSub, Nat.reduceAdd, Int.reduceLT, Int.reduceLE, Int.reduceToNat, Nat.reduceMul, Nat.reduceEqDiff, reduceCtorEq, Nat.reduceBEq, Nat.reduceLeDiff, Nat.reduceLT, xf32_L1, ai, al, tx, lt_cast, h0]
    exact W_stop (hK E hP.fin hE _ _ _ _ _ _ _ _ _ _ _ _ _ _ _ _ _ _ _ _ _ _ _ _ _ _ _ _ _ _ _ _ _ _ _ _)
  | succ m ih =>
    intro b hm hb E hE hP j7 j8 j9 j10 j11 j12 j13 j14 j15 j16 j17 j18 j19 j20 j21 j22 j23 j24 j25 j26 j27 j28 j29 j30 j31 j32 j33 j34 j35 j36 j37 j38 j39 j40 j41 j42
    by_cases hbn : b = w.length
    · subst hbn
      have h0 : decide (w.length < w.length) = false := by simp
      refine W_loop (W_run 80 ?_)
      simp (maxSteps := 2000000) only [SA, Nat.reduceDiv, Nat.reduceSub, Nat.reduceAdd, Int.reduceLT, Int.reduceLE, Int.reduceToNat, Nat.reduceMul, Nat.reduceEqDiff, reduceCtorEq, Nat.reduceBEq, Nat.reduceLeDiff, Nat.reduceLT, xf32_L1, ai, al, tx, lt_cast, h0]
      exact W_stop (hK E hP.fin hE _ _ _ _ _ _ _ _ _ _ _ _ _ _ _ _ _ _ _ _ _ _ _ _ _ _ _ _ _ _ _ _ _ _ _ _)
    · have h0 : decide (b < w.length) = true := decide_eq_true (by omega)
      have wi : IntKind.i64.wrap ((b : Int) + 1) = ((b + 1 : Nat) : Int) := by rw [wrap_id (by omega) (by omega)]; simp
      refine W_loop (W_run 80 ?_)
      simp (maxSteps := 2000000) only [SA, Nat.reduceDiv, Nat.reduceSub, Nat.reduceAdd, Int.reduceLT, Int.reduceLE, Int.reduceToNat, Nat.reduceMul, Nat.reduceEqDiff, reduceCtorEq, Nat.reduceBEq, Nat.reduceLeDiff, Nat.reduceLT, xf32_L1, ai, al, tx, lt_cast, h0, wi]
      refine W_alone (bri_loop V w hg f S hS _ b _ _ _ (fun e h1 h2 h3 j8 j9 j10 j11 j12 j13 j14 j15 j16 j17 j18 j19 j20 j21 j22 j23 j24 j25 j26 j27 j28 j29 j30 j31 j32 j33 j34 j35 j36 j37 j38 j39 j40 j41 j42 => W_run 80 ?_) (w.length - (b + 1)) (b + 1) (by omega) (by omega) (fit_one hg.pos (by omega)) _ _ _ _ _ _ _ _ _ _ _ _ _ _ _ _ _ _ _ _ _ _ _ _ _ _ _ _ _ _ _ _ _ _ _)
      have next := ih e (by omega) h2 (E ++ [e]) (by rw [List.length_append]; simp; omega) (hP.step h1 h2 h3)
      cases E with
      | nil =>
        simp only [hpE, hvE, List.nil_append] at next ⊢
        simp (maxSteps := 2000000) only [SA, Nat.reduceDiv, Nat.reduceSub, Nat.reduceAdd, Int.reduceLT, Int.reduceLE, Int.reduceToNat, Nat.reduceMul, Nat.reduceEqDiff, reduceCtorEq, Nat.reduceBEq, Nat.reduceLeDiff, Nat.reduceLT, xf32_R0, xf32_R1, ai, al, nilA, tx, Go.Proofs.Eng.elems, List.map_cons, List.map_nil]
        exact next _ _ _ _ _ _ _ _ _ _ _ _ _ _ _ _ _ _ _ _ _ _ _ _ _ _ _ _ _ _ _ _ _ _ _ _
      | cons x t =>
        have q1 : (t.length + 1 + 1) * 8 ≤ 100000000000000 := by simp only [List.length_cons] at hE; omega
        have q2 : t.length + 1 + 1 ≤ 100000000000000 := by simp only [List.length_cons] at hE; omega
        have e2 : (x :: (t ++ [e])).length = t.length + 1 + 1 := by simp
        have e3 : (nl (x :: (t ++ [e]))).map ai = (nl (x :: t)).map ai ++ [ai (e : Nat)] := by unfold nl; simp
        have e4 : ((nl (x :: t)).map ai).length = t.length + 1 := by unfold nl; simp
        simp only [hpE, hvE, List.cons_append, e2, e3] at next ⊢
        simp (maxSteps := 2000000) only [SA, Nat.reduceDiv, Nat.reduceSub, Nat.reduceAdd, Int.reduceLT, Int.reduceLE, Int.reduceToNat, Nat.reduceMul, Nat.reduceEqDiff, reduceCtorEq, Nat.reduceBEq, Nat.reduceLeDiff, Nat.reduceLT, xf32_R0, xf32_R1, ai, al, nilA, tx, q1, q2, e4, Go.Proofs.Eng.elems, List.map_cons, List.map_nil]
        exact next _ _ _ _ _ _ _ _ _ _ _ _ _ _ _ _ _ _ _ _ _ _ _ _ _ _ _ _ _ _ _ _ _ _ _ _
theorem named40 (j : Nat) : Go.Proofs.Eng.look [] j = Go.Proofs.Eng.look (hpE []) j := by
  simp only [Go.Proofs.Eng.look, hpE]
  by_cases h : 40 = j
  · subst h; simp
  · simp [h]
def GE (q : Nat → Int) (V : Int) (n : Nat) (r : AV) : Prop := ∃ E : List Nat, r = al false (nl E) ∧ fE q V n E = 0 ∧ E.length ≤ n
theorem broken_run {V : Int} {w : List Int} (hg : gX V w) (f : Bool) {S : List Int} (hS : S.length = 10) : ∃ r, GE (pf w) V w.length r ∧ Runs Try.prog xf 32 [tx f V w, stp S] r := by
  refine ofWE (fn := xf32) 20 (by kernel_rfl) (W_run 80 ?_)
  have hSl : (S.map u8).length = 10 := by simp [hS]
  have htk : (S.map u8).take 10 = S.map u8 := List.take_of_length_le (by simp [hS])
  simp (maxSteps := 2000000) only [SA, Nat.reduceDiv, Nat.reduceSub, Nat.reduceAdd, Int.reduceLT, Int.reduceLE, Int.reduceToNat, Nat.reduceMul, Nat.reduceEqDiff, reduceCtorEq, Nat.reduceBEq, Nat.reduceLeDiff, Nat.reduceLT, xf32, ai, al, tx, stp, hSl, htk]
  refine W_alone (W_named named40 (bro_loop V w hg f S hS _ _ (fun E hE hl j7 j8 j9 j10 j11 j12 j13 j14 j15 j16 j17 j18 j19 j20 j21 j22 j23 j24 j25 j26 j27 j28 j29 j30 j31 j32 j33 j34 j35 j36 j37 j38 j39 j40 j41 j42 => W_run 80 ?_) w.length 0 (by omega) (Nat.zero_le _) [] (Nat.le_refl _) (PreOk.nil _ _ _) _ _ _ _ _ _ _ _ _ _ _ _ _ _ _ _ _ _ _ _ _ _ _ _ _ _ _ _ _ _ _ _ _ _ _ _))
  cases E with
  | nil => have h := (fE_ok' hE); rw [eE] at h; have := hg.n1; split at h <;> omega
  | cons x t =>
    simp only [hpE, hvE]
    simp (maxSteps := 2000000) only [SA, Nat.reduceDiv, Nat.reduceSub, Nat.reduceAdd, Int.reduceLT, Int.reduceLE, Int.reduceToNat, Nat.reduceMul, Nat.reduceEqDiff, reduceCtorEq, Nat.reduceBEq, Nat.reduceLeDiff, Nat.reduceLT, xf32_R1, ai, al, tx]
    refine W_ret1 (WX_nil ⟨.inl rfl, _, rfl, al false (nl (x :: t)), ⟨x :: t, rfl, hE, hl⟩, ?_⟩)
    have h := reify_ints (η := [(40, (1, some ⟨3, 1, (nl (x :: t)).map ai⟩))]) (k := 40) (g := 1) (e := 3) (l := nl (x :: t)) rfl
    rw [nl_len] at h
    exact h
end Go.Proofs.Ytdmffkknghianaa

