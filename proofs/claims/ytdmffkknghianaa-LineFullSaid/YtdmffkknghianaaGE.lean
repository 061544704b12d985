/-
  All ends are tried (the law's each), for any visit.
-/
import Derived.Test.YtdmffkknghianaaGC
import Derived.Test.YtdmffkknghianaaMr
set_option linter.unusedSimpArgs false
set_option linter.unusedVariables false
namespace Go.Proofs.Ytdmffkknghianaa
open Go Go.Proofs.Eng
set_option maxRecDepth 100000
set_option maxHeartbeats 4000000
mutual
def alE (q : Nat → Int) (V : Int) (n : Nat) : Nat → Nat → List (List Nat)
  | 0, _ => [[]]
  | k + 1, i => if i = n then [[]] else (List.range' (i + 1) (n - i)).flatMap fun j => if fit q V i j = true then (alE q V n k j).map (j :: ·) else []
end
def alG (q : Nat → Int) (V : Int) (n k i j : Nat) : List (List Nat) := if fit q V i j = true then (alE q V n k j).map (j :: ·) else []
theorem alE_z (q : Nat → Int) (V : Int) (n i : Nat) : alE q V n 0 i = [[]] := by rw [alE]
theorem alE_n (q : Nat → Int) (V : Int) (n k : Nat) : alE q V n (k + 1) n = [[]] := by rw [alE, if_pos rfl]
theorem alE_s {q : Nat → Int} {V : Int} {n k i : Nat} (h : i ≠ n) : alE q V n (k + 1) i = (List.range' (i + 1) (n - i)).flatMap (alG q V n k i) := by rw [alE, if_neg h]; rfl
/-- a visit: what it keeps, and what it needs -/
structure Vis {σ : Type} (V : Int) (w : List Int) (vN : Nat) (vc : List AV) (hs : σ → Heap) (up : σ → List Nat → σ) (gd : σ → Nat → Prop) : Prop where
  call : callable Try.prog vN = true
  l1 : ∀ s T, Go.Proofs.Eng.look (hs s ++ T) 1004 = Go.Proofs.Eng.look T 1004
  l2 : ∀ s T, Go.Proofs.Eng.look (hs s ++ T) 1045 = Go.Proofs.Eng.look T 1045
  l3 : ∀ s T, Go.Proofs.Eng.look (hs s ++ T) 1052 = Go.Proofs.Eng.look T 1052
  p2 : ∀ s T v, Go.Proofs.Eng.putAt (hs s ++ T) 1045 v = hs s ++ Go.Proofs.Eng.putAt T 1045 v
  p3 : ∀ s T v, Go.Proofs.Eng.putAt (hs s ++ T) 1052 v = hs s ++ Go.Proofs.Eng.putAt T 1052 v
  run : ∀ s E p r r', gd s 1 → fE (pf w) V w.length E = 0 → RunsR Try.prog xf 1000 vN (al false (nl E) :: al false (lftL (pf w) V E) :: vc) (hs s ++ [(1004, p), (1045, r), (1052, r')]) (.tup []) (hs (up s E) ++ [(1004, p), (1045, r), (1052, r')])
  gm : ∀ s j k, gd s k → j ≤ k → gd s j
  gs : ∀ s k E, gd s (k + 1) → gd (up s E) k
inductive LS (key : Nat) (L : List Int) : AV → Nat × Option Ob → Prop
  | a (r : Nat × Option Ob) (h : L = []) : LS key L nilA r
  | b (g : Nat) (h : L ≠ []) : LS key L (.os key g L.length 1 0 L.length) (g, some ⟨3, 1, L.map ai⟩)
def dv (L : List Int) : AV := match L with | [] => nilA | x :: t => al false (x :: t)
theorem toData_ne (g n s g' v s' lo m : Nat) (xs : List AV) : toData 1045 g n s xs (.os 1052 g' v s' lo m) = .os 1052 g' v s' lo m := by
  simp only [toData]
  rw [if_neg (fun h => by have := h.1; omega)]
theorem call_put : callable Try.prog 54 = true := by kernel_rfl
section
variable {σ : Type} {V : Int} {w : List Int} {vN : Nat} {vc : List AV} {hs : σ → Heap} {up : σ → List Nat → σ} {gd : σ → Nat → Prop}
def fold (up : σ → List Nat → σ) (L : List Nat) (s : σ) (l : List (List Nat)) : σ := l.foldl (fun s t => up s (L ++ t)) s
theorem fold_gd (hv : Vis V w vN vc hs up gd) (L : List Nat) : ∀ (l : List (List Nat)) (s : σ) (k : Nat), gd s (l.length + k) → gd (fold up L s l) k
  | [], s, k, h => by rw [List.length_nil, Nat.zero_add] at h; exact h
  | E :: l, s, k, h => by
    have h1 := hv.gs s (l.length + k) (L ++ E) (by rw [List.length_cons] at h; rwa [show l.length + k + 1 = l.length + 1 + k by omega])
    exact fold_gd hv L l _ k h1
def cpG (f : Bool) (V : Int) (w : List Int) (vN : Nat) (vc : List AV) : List AV := [.ptr (tx f V w), .ptr (.fn vN vc), .o 1004 1 1 0 0]
def hpP (f : Bool) (V : Int) (w : List Int) (vN : Nat) (vc : List AV) (hs : σ → Heap) (s : σ) (r r' : Nat × Option Ob) : Heap := hs s ++ [(1004, (1, some ⟨81, 1, [.fn 54 (cpG f V w vN vc)]⟩)), (1045, r), (1052, r')]
def PutP (f : Bool) (V : Int) (w : List Int) (vN : Nat) (vc : List AV) (hs : σ → Heap) (up : σ → List Nat → σ) (gd : σ → Nat → Prop) (k b : Nat) : Prop := ∀ (E : List Nat) (s : σ) (l1 l2 : AV) (r r' : Nat × Option Ob), PreOk (pf w) V w.length E b → E.length ≤ b → LS 1045 (nl E) l1 r → LS 1052 (lftL (pf w) V E) l2 r' → gd s (alE (pf w) V w.length k b).length →
  ∃ q q', RunsR Try.prog xf 1000 54 (l1 :: l2 :: ai b :: cpG f V w vN vc) (hpP f V w vN vc hs s r r') (.tup []) (hpP f V w vN vc hs (fold up E s (alE (pf w) V w.length k b)) q q')
theorem lftL_snoc {q : Nat → Int} {V : Int} {n : Nat} {E : List Nat} {b j : Nat} (h : PreOk q V n E b) : lftL q V (E ++ [j]) = lftL q V E ++ [lf q V b j] := by
  unfold lftL
  rw [h.sp, List.map_append]; rfl
theorem nl_snoc (E : List Nat) (j : Nat) : nl (E ++ [j]) = nl E ++ [(j : Int)] := by unfold nl; simp
theorem put_loop (f : Bool) (hg : gX V w) (hv : Vis V w vN vc hs up gd) (k b : Nat) (hb : b < w.length) (E : List Nat) (hP : PreOk (pf w) V w.length E b) (hEl : E.length ≤ b) (sF : σ) (ih : ∀ j, b < j → j ≤ w.length → PutP f V w vN vc hs up gd k j) (K : List Fr) (Q : Out → Cfg → Prop)
    (hK : ∀ (r r' : Nat × Option Ob) (j : Nat), ∀ j6 j7 j8 j11 j12 j13 j14 j15 j16 j17 j18 j19 j20 j21 j22 j23 j24 j25 j26 j27 j28 j29 j30 j31 j32 j33 j34 j35 j36 j37 j38 j39 j40 j41 j42 j43 j44 j45 j46 j47 j48 j49 j50 j51 j52 j53 j54 : AV, W Try.prog (RelU Try.prog xf) 1000 K ⟨((dv (nl E)) :: (dv (lftL (pf w) V E)) :: (ai b) :: (.ptr (tx f V w)) :: (.ptr (.fn vN vc)) :: (.o 1004 1 1 0 0) :: j6 :: j7 :: j8 :: (ai E.length) :: (ai j) :: j11 :: j12 :: j13 :: j14 :: j15 :: j16 :: j17 :: j18 :: j19 :: j20 :: j21 :: j22 :: j23 :: j24 :: j25 :: j26 :: j27 :: j28 :: j29 :: j30 :: j31 :: j32 :: j33 :: j34 :: j35 :: j36 :: j37 :: j38 :: j39 :: j40 :: j41 :: j42 :: j43 :: j44 :: j45 :: j46 :: j47 :: j48 :: j49 :: j50 :: j51 :: j52 :: j53 :: j54 :: []), hpP f V w vN vc hs sF r r'⟩ Q) :
    ∀ (m j : Nat), j + m = w.length + 1 → b < j → ∀ (s : σ) (g : Nat) (o : Option Ob) (g' : Nat) (o' : Option Ob), fold up E s ((List.range' j m).flatMap (alG (pf w) V w.length k b)) = sF → gd s ((List.range' j m).flatMap (alG (pf w) V w.length k b)).length →
      ∀ j6 j7 j8 j11 j12 j13 j14 j15 j16 j17 j18 j19 j20 j21 j22 j23 j24 j25 j26 j27 j28 j29 j30 j31 j32 j33 j34 j35 j36 j37 j38 j39 j40 j41 j42 j43 j44 j45 j46 j47 j48 j49 j50 j51 j52 j53 j54 : AV, W Try.prog (RelU Try.prog xf) 1000 (.code (.loop xf54_L0) :: .blk 0 :: .stop :: K) ⟨((dv (nl E)) :: (dv (lftL (pf w) V E)) :: (ai b) :: (.ptr (tx f V w)) :: (.ptr (.fn vN vc)) :: (.o 1004 1 1 0 0) :: j6 :: j7 :: j8 :: (ai E.length) :: (ai j) :: j11 :: j12 :: j13 :: j14 :: j15 :: j16 :: j17 :: j18 :: j19 :: j20 :: j21 :: j22 :: j23 :: j24 :: j25 :: j26 :: j27 :: j28 :: j29 :: j30 :: j31 :: j32 :: j33 :: j34 :: j35 :: j36 :: j37 :: j38 :: j39 :: j40 :: j41 :: j42 :: j43 :: j44 :: j45 :: j46 :: j47 :: j48 :: j49 :: j50 :: j51 :: j52 :: j53 :: j54 :: []), hpP f V w vN vc hs s (g, o) (g', o')⟩ Q := by
  have n10 := hg.n10
  obtain ⟨hcl, hl1, hl2, hl3, hp2, hp3, hrn, hgm, hgs⟩ := hv
  have hv : Vis V w vN vc hs up gd := ⟨hcl, hl1, hl2, hl3, hp2, hp3, hrn, hgm, hgs⟩
  intro m
  induction m with
  | zero =>
    intro j hj hbj s g o g' o' h1 h2 j6 j7 j8 j11 j12 j13 j14 j15 j16 j17 j18 j19 j20 j21 j22 j23 j24 j25 j26 j27 j28 j29 j30 j31 j32 j33 j34 j35 j36 j37 j38 j39 j40 j41 j42 j43 j44 j45 j46 j47 j48 j49 j50 j51 j52 j53 j54
    have d0 : decide ((j : Int) ≤ (w.length : Int)) = false := decide_eq_false (by omega)
    have hst : s = sF := h1
    subst hst
    have hK := hK (g, o) (g', o') j
    generalize dv (nl E) = dl at *
    generalize dv (lftL (pf w) V E) = dl2 at *
    refine W_loop (W_run 80 ?_)
    simp (maxSteps := 2000000) only [SA, Nat.reduceDiv, Nat.reduceSub, Nat.reduceAdd, Int.reduceLT, Int.reduceLE, Int.reduceToNat, Nat.reduceMul, Nat.reduceEqDiff, reduceCtorEq, Nat.reduceBEq, Nat.reduceLeDiff, Nat.reduceLT, xf54_L0, ai, al, tx, d0]
    exact W_stop (hK _ _ _ _ _ _ _ _ _ _ _ _ _ _ _ _ _ _ _ _ _ _ _ _ _ _ _ _ _ _ _ _ _ _ _ _ _ _ _ _ _ _ _ _ _ _ _)
  | succ m ihm =>
    intro j hj hbj s g o g' o' h1 h2 j6 j7 j8 j11 j12 j13 j14 j15 j16 j17 j18 j19 j20 j21 j22 j23 j24 j25 j26 j27 j28 j29 j30 j31 j32 j33 j34 j35 j36 j37 j38 j39 j40 j41 j42 j43 j44 j45 j46 j47 j48 j49 j50 j51 j52 j53 j54
    have d0 : decide ((j : Int) ≤ (w.length : Int)) = true := decide_eq_true (by omega)
    have wx : IntKind.i64.wrap ((j : Int) + 1) = ((j + 1 : Nat) : Int) := by rw [wrap_id (by omega) (by omega)]; simp
    have hlf := lleft_run hg f (i := b) (j := j) hbj (by omega)
    rw [List.range'_succ, List.flatMap_cons] at h1 h2
    cases hf : fit (pf w) V b j with
    | false =>
      have hcg : alG (pf w) V w.length k b j = [] := by unfold alG; rw [hf, if_neg (by simp)]
      rw [hcg, List.nil_append] at h1 h2
      have d : decide (0 ≤ lf (pf w) V b j) = false := decide_eq_false fun h => by rw [fit_iff.2 h] at hf; cases hf
      have next := ihm (j + 1) (by omega) (by omega) s g o g' o' h1 h2
      generalize dv (nl E) = dl at *
      generalize dv (lftL (pf w) V E) = dl2 at *
      refine W_loop (W_run 80 ?_)
      simp (maxSteps := 2000000) only [SA, Nat.reduceDiv, Nat.reduceSub, Nat.reduceAdd, Int.reduceLT, Int.reduceLE, Int.reduceToNat, Nat.reduceMul, Nat.reduceEqDiff, reduceCtorEq, Nat.reduceBEq, Nat.reduceLeDiff, Nat.reduceLT, xf54_L0, ai, al, tx, d0]
      refine W_call (args := [tx f V w, ai b, ai j]) rfl (noRefs_3 (noRef_tx _ _ _) rfl rfl) hlf rfl (W_run 80 ?_)
      simp (maxSteps := 2000000) only [SA, Nat.reduceDiv, Nat.reduceSub, Nat.reduceAdd, Int.reduceLT, Int.reduceLE, Int.reduceToNat, Nat.reduceMul, Nat.reduceEqDiff, reduceCtorEq, Nat.reduceBEq, Nat.reduceLeDiff, Nat.reduceLT, ai, al, tx, d, wx]
      exact next _ _ _ _ _ _ _ _ _ _ _ _ _ _ _ _ _ _ _ _ _ _ _ _ _ _ _ _ _ _ _ _ _ _ _ _ _ _ _ _ _ _ _ _ _ _ _
    | true =>
      have hcg : alG (pf w) V w.length k b j = (alE (pf w) V w.length k j).map (j :: ·) := by unfold alG; rw [hf, if_pos rfl]
      have d : decide (0 ≤ lf (pf w) V b j) = true := decide_eq_true (fit_iff.1 hf)
      rw [hcg, List.length_append, List.length_map] at h2
      have hfold : fold up E s ((alE (pf w) V w.length k j).map (j :: ·)) = fold up (E ++ [j]) s (alE (pf w) V w.length k j) := by
        unfold fold
        rw [List.foldl_map]
        simp only [List.append_assoc, List.cons_append, List.nil_append]
      have h1' : fold up E (fold up (E ++ [j]) s (alE (pf w) V w.length k j)) ((List.range' (j + 1) m).flatMap (alG (pf w) V w.length k b)) = sF := by
        rw [← hfold, ← h1, hcg]
        unfold fold
        rw [List.foldl_append]
      have hgd := fold_gd hv (E ++ [j]) (alE (pf w) V w.length k j) s _ h2
      have hih := ih j hbj (by omega) (E ++ [j]) s
      have next := fun r r' : Nat × Option Ob => ihm (j + 1) (by omega) (by omega) (fold up (E ++ [j]) s (alE (pf w) V w.length k j)) r.1 r.2 r'.1 r'.2 h1' hgd
      have hP2 := hP.step hbj (by omega) hf
      have hgd1 := hgm s _ _ h2 (Nat.le_add_right _ _)
      rw [nl_snoc, lftL_snoc hP] at hih
      have hel : (nl E).length = E.length := nl_len E
      have hel2 : (lftL (pf w) V E).length = E.length := by unfold lftL; rw [List.length_map, spE_len]
      generalize fold up (E ++ [j]) s (alE (pf w) V w.length k j) = s' at *
      generalize nl E = X at *
      generalize lftL (pf w) V E = Y at *
      cases X with
      | nil =>
        cases Y with
        | cons y Y => simp at hel hel2; omega
        | nil =>
          have hE0 : E.length = 0 := by simpa using hel.symm
          obtain ⟨r, r', hrun⟩ := hih (.os 1045 (g + 1) 1 1 0 1) (.os 1052 (g' + 1) 1 1 0 1) (g + 1, some ⟨3, 1, [ai j]⟩) (g' + 1, some ⟨3, 1, [ai (lf (pf w) V b j)]⟩) hP2 (by simp; omega) (.b (L := [(j : Int)]) (g + 1) (by simp)) (.b (L := [lf (pf w) V b j]) (g' + 1) (by simp)) hgd1
          have next := next r r'
          simp only [dv, hE0] at next ⊢
          refine W_loop (W_run 160 ?_)
          simp (maxSteps := 2000000) only [SA, Nat.reduceDiv, Nat.reduceSub, Nat.reduceAdd, Int.reduceLT, Int.reduceLE, Int.reduceToNat, Nat.reduceMul, Nat.reduceEqDiff, reduceCtorEq, Nat.reduceBEq, Nat.reduceLeDiff, Nat.reduceLT, xf54_L0, ai, al, tx, nilA, d0]
          refine W_call (args := [tx f V w, ai b, ai j]) rfl (noRefs_3 (noRef_tx _ _ _) rfl rfl) hlf rfl (W_run 80 ?_)
          simp (maxSteps := 2000000) only [SA, Nat.reduceDiv, Nat.reduceSub, Nat.reduceAdd, Int.reduceLT, Int.reduceLE, Int.reduceToNat, Nat.reduceMul, Nat.reduceEqDiff, reduceCtorEq, Nat.reduceBEq, Nat.reduceLeDiff, Nat.reduceLT, ai, al, tx, nilA, d, hpP, hl1, hl2, hl3, hp2, hp3]
          refine W_frF [.rk 1004, .none, .none, .none, .none, .none, .none, .wk 1045, .none, .none, .none, .none, .none, .none, .wk 1052, .none, .any] (by kernel_rfl) (W_run 160 ?_)
          simp (maxSteps := 2000000) only [SA, Nat.reduceDiv, Nat.reduceSub, Nat.reduceAdd, Int.reduceLT, Int.reduceLE, Int.reduceToNat, Nat.reduceMul, Nat.reduceEqDiff, reduceCtorEq, Nat.reduceBEq, Nat.reduceLeDiff, Nat.reduceLT, ai, al, tx, nilA, cpG, hl1, hl2, hl3, hp2, hp3, Go.Proofs.Eng.elems, List.map_cons, List.map_nil, List.nil_append]
          refine W_callvR (kb' := 1000) (caps := cpG f V w vN vc) rfl call_put rfl hrun rfl (W_run 160 ?_)
          simp (maxSteps := 2000000) only [SA, Nat.reduceDiv, Nat.reduceSub, Nat.reduceAdd, Int.reduceLT, Int.reduceLE, Int.reduceToNat, Nat.reduceMul, Nat.reduceEqDiff, reduceCtorEq, Nat.reduceBEq, Nat.reduceLeDiff, Nat.reduceLT, ai, nilA, tx, al, hpP, wx]
          exact next _ _ _ _ _ _ _ _ _ _ _ _ _ _ _ _ _ _ _ _ _ _ _ _ _ _ _ _ _ _ _ _ _ _ _ _ _ _ _ _ _ _ _ _ _ _ _
      | cons x X =>
        cases Y with
        | nil => simp at hel hel2; omega
        | cons y Y =>
          have hX : X.length + 1 = E.length := by simpa using hel
          have hY : Y.length + 1 = E.length := by simpa using hel2
          have q1 : (X.length + 1 + 1) * 8 ≤ 100000000000000 := by omega
          have q2 : X.length + 1 + 1 ≤ 100000000000000 := by omega
          have q3 : (Y.length + 1 + 1) * 8 ≤ 100000000000000 := by omega
          have q4 : Y.length + 1 + 1 ≤ 100000000000000 := by omega
          have tk1 : List.take X.length (X.map ai) = X.map ai := List.take_of_length_le (by simp)
          have tk2 : List.take X.length (Y.map ai) = Y.map ai := List.take_of_length_le (by simp; omega)
          have eYX : Y.length = X.length := by omega
          obtain ⟨r, r', hrun⟩ := hih (.os 1045 (g + 1) (X.length + 1 + 1) 1 0 (X.length + 1 + 1)) (.os 1052 (g' + 1) (X.length + 1 + 1) 1 0 (X.length + 1 + 1)) (g + 1, some ⟨3, 1, ai x :: (X.map ai ++ [ai j])⟩) (g' + 1, some ⟨3, 1, ai y :: (Y.map ai ++ [ai (lf (pf w) V b j)])⟩) hP2 (by simp; omega) (by
            have := LS.b (key := 1045) (L := x :: X ++ [(j : Int)]) (g + 1) (by simp)
            simpa using this) (by
            have := LS.b (key := 1052) (L := y :: Y ++ [lf (pf w) V b j]) (g' + 1) (by simp)
            simpa [eYX] using this) hgd1
          have next := next r r'
          rw [← hX] at next ⊢
          simp only [dv, al, List.map_cons] at next ⊢
          refine W_loop (W_run 160 ?_)
          simp (maxSteps := 2000000) only [SA, Nat.reduceDiv, Nat.reduceSub, Nat.reduceAdd, Int.reduceLT, Int.reduceLE, Int.reduceToNat, Nat.reduceMul, Nat.reduceEqDiff, reduceCtorEq, Nat.reduceBEq, Nat.reduceLeDiff, Nat.reduceLT, xf54_L0, ai, tx, al, d0]
          refine W_call (args := [tx f V w, ai b, ai j]) rfl (noRefs_3 (noRef_tx _ _ _) rfl rfl) hlf rfl (W_run 80 ?_)
          simp (maxSteps := 2000000) only [SA, Nat.reduceDiv, Nat.reduceSub, Nat.reduceAdd, Int.reduceLT, Int.reduceLE, Int.reduceToNat, Nat.reduceMul, Nat.reduceEqDiff, reduceCtorEq, Nat.reduceBEq, Nat.reduceLeDiff, Nat.reduceLT, ai, tx, al, d, hpP, hl1, hl2, hl3, hp2, hp3]
          refine W_frF [.rk 1004, .none, .none, .none, .none, .none, .none, .wk 1045, .none, .none, .none, .none, .none, .none, .wk 1052, .none, .any] (by kernel_rfl) (W_run 160 ?_)
          simp (maxSteps := 2000000) only [SA, Nat.reduceDiv, Nat.reduceSub, Nat.reduceAdd, Int.reduceLT, Int.reduceLE, Int.reduceToNat, Nat.reduceMul, Nat.reduceEqDiff, reduceCtorEq, Nat.reduceBEq, Nat.reduceLeDiff, Nat.reduceLT, ai, tx, al, cpG, hl1, hl2, hl3, hp2, hp3, q1, q2, q3, q4, tk1, tk2, eYX, Go.Proofs.Eng.elems, Go.Proofs.Eng.fullOf, List.map_cons, List.map_nil, List.nil_append, ne_eq, not_false_eq_true]
          refine W_callvR (kb' := 1000) (caps := cpG f V w vN vc) rfl call_put rfl hrun rfl (W_run 160 ?_)
          simp (maxSteps := 2000000) only [SA, Nat.reduceDiv, Nat.reduceSub, Nat.reduceAdd, Int.reduceLT, Int.reduceLE, Int.reduceToNat, Nat.reduceMul, Nat.reduceEqDiff, reduceCtorEq, Nat.reduceBEq, Nat.reduceLeDiff, Nat.reduceLT, ai, tx, al, hpP, wx]
          exact next _ _ _ _ _ _ _ _ _ _ _ _ _ _ _ _ _ _ _ _ _ _ _ _ _ _ _ _ _ _ _ _ _ _ _ _ _ _ _ _ _ _ _ _ _ _ _
def PutG (f : Bool) (V : Int) (w : List Int) (vN : Nat) (vc : List AV) (hs : σ → Heap) (s : σ) (o : Out) (c : Cfg) : Prop := (o = .ret ∨ o = .normal) ∧ ∃ r r', c.η = hpP f V w vN vc hs s r r'
theorem PutG.run {f : Bool} {s : σ} {args : List AV} {η : Heap}
    (h : W Try.prog (RelU Try.prog xf) 1000 [.code xf54.body] (Go.Proofs.Eng.start xf54 args η) (PutG f V w vN vc hs s)) :
    ∃ r r', RunsR Try.prog xf 1000 54 args η (.tup []) (hpP f V w vN vc hs s r r') := by
  obtain ⟨o, c, h1, ho, r, r', e⟩ := h
  exact ⟨r, r', RunsR.ofW (fn := xf54) (by kernel_rfl) ⟨o, c, h1, ho, [], rfl, rfl, e.symm⟩⟩
theorem put_all (f : Bool) (hg : gX V w) (hv : Vis V w vN vc hs up gd) : ∀ (k b : Nat), w.length - b ≤ k → b ≤ w.length → PutP f V w vN vc hs up gd k b := by
  have n1 := hg.n1
  have n10 := hg.n10
  obtain ⟨hcl, hl1, hl2, hl3, hp2, hp3, hrn, hgm, hgs⟩ := hv
  have hv : Vis V w vN vc hs up gd := ⟨hcl, hl1, hl2, hl3, hp2, hp3, hrn, hgm, hgs⟩
  have fin : ∀ (k b : Nat), b = w.length → alE (pf w) V w.length k b = [[]] → PutP f V w vN vc hs up gd k b := by
    intro k b hbn hal E s l1 l2 r r' hP hEl h1 h2 hgd
    subst hbn
    rw [hal] at hgd ⊢
    have hE0 := hP.fin
    have hEne : E ≠ [] := fun h => by
      subst h
      have := hP.er []
      rw [List.append_nil, eE, eE, if_pos rfl] at this
      split at this
      · omega
      · cases this
    have hel : (nl E).length = E.length := nl_len E
    have hel2 : (lftL (pf w) V E).length = E.length := by unfold lftL; rw [List.length_map, spE_len]
    have e1 : ((w.length : Int) == (w.length : Int)) = true := by simp
    have hfo : fold up E s [[]] = up s E := by unfold fold; simp
    rw [hfo]
    cases h1 with
    | a r h => rw [h] at hel; exact absurd (List.length_eq_zero_iff.1 (by simpa using hel.symm)) hEne
    | b g h =>
      cases h2 with
      | a r h => rw [h] at hel2; exact absurd (List.length_eq_zero_iff.1 (by simpa using hel2.symm)) hEne
      | b g' h' =>
        have hrun := hrn s E (1, some ⟨81, 1, [.fn 54 (cpG f V w vN vc)]⟩) (g, none) (g', none) (hgm s 1 _ hgd (by simp)) hE0
        generalize up s E = s' at *
        generalize nl E = X at *
        generalize lftL (pf w) V E = Y at *
        refine PutG.run (W_giveC (t := 0) (giveT_row (k := 1045) (g := g) (e := 3) (s := 1) (xs := X.map ai) (n := X.length) rfl (hl2 s _) (by simp)) (W_giveC (t := 1) (giveT_row (k := 1052) (g := g') (e := 3) (s := 1) (xs := Y.map ai) (n := Y.length) rfl (by
          show Go.Proofs.Eng.look (Go.Proofs.Eng.putAt _ _ _) _ = _
          unfold hpP
          rw [hp2, hl3]; rfl) (by simp)) (W_run 120 ?_)))
        simp (maxSteps := 2000000) only [SA, Nat.reduceDiv, Nat.reduceSub, Nat.reduceAdd, Int.reduceLT, Int.reduceLE, Int.reduceToNat, Nat.reduceMul, Nat.reduceEqDiff, reduceCtorEq, Nat.reduceBEq, Nat.reduceLeDiff, Nat.reduceLT, xf54, ai, al, tx, hpP, cpG, hl1, hl2, hl3, hp2, hp3, e1, toData_os, toData_v, toData_ptr, toData_o, toData_sl, toData_ne, Go.Proofs.Eng.putAt, List.map_cons, List.map_nil]
        refine W_callvR (kb' := 1000) (caps := vc) rfl hcl rfl hrun rfl (W_run 120 ?_)
        simp (maxSteps := 2000000) only [SA, Nat.reduceDiv, Nat.reduceSub, Nat.reduceAdd, Int.reduceLT, Int.reduceLE, Int.reduceToNat, Nat.reduceMul, Nat.reduceEqDiff, reduceCtorEq, Nat.reduceBEq, Nat.reduceLeDiff, Nat.reduceLT, ai, hpP]
        exact W_ret1 (WX_pop (WX_nil ⟨.inl rfl, (g, none), (g', none), rfl⟩))
  intro k
  induction k with
  | zero => intro b hb1 hb2; exact fin 0 b (by omega) (alE_z _ _ _ _)
  | succ k ihk =>
    intro b hb1 hb2
    by_cases hbn : b = w.length
    · exact fin (k + 1) b hbn (by rw [hbn]; exact alE_n _ _ _ _)
    · intro E s l1 l2 r r' hP hEl h1 h2 hgd
      have hlt : b < w.length := by omega
      have e1 : ((b : Int) == (w.length : Int)) = false := by rw [beq_eq_false_iff_ne]; omega
      have wf : IntKind.i64.wrap ((b : Int) + 1) = ((b + 1 : Nat) : Int) := by rw [wrap_id (by omega) (by omega)]; simp
      have hih : ∀ j, b < j → j ≤ w.length → PutP f V w vN vc hs up gd k j := fun j a c => ihk j (by omega) c
      have hrec := alE_s (q := pf w) (V := V) (n := w.length) (k := k) (i := b) hbn
      rw [hrec] at hgd
      have hlp := put_loop f hg hv k b hlt E hP hEl (fold up E s (alE (pf w) V w.length (k + 1) b)) hih [] (PutG f V w vN vc hs (fold up E s (alE (pf w) V w.length (k + 1) b))) (fun r r' j j6 j7 j8 j11 j12 j13 j14 j15 j16 j17 j18 j19 j20 j21 j22 j23 j24 j25 j26 j27 j28 j29 j30 j31 j32 j33 j34 j35 j36 j37 j38 j39 j40 j41 j42 j43 j44 j45 j46 j47 j48 j49 j50 j51 j52 j53 j54 => W_done ⟨.inr rfl, r, r', rfl⟩) (w.length - b) (b + 1) (by omega) (by omega) s
      rw [← hrec] at hlp hgd
      have hel : (nl E).length = E.length := nl_len E
      have hel2 : (lftL (pf w) V E).length = E.length := by unfold lftL; rw [List.length_map, spE_len]
      generalize fold up E s (alE (pf w) V w.length (k + 1) b) = s' at *
      generalize nl E = X at *
      generalize lftL (pf w) V E = Y at *
      cases h1 with
      | a r h =>
        subst h
        cases h2 with
        | b g h => exact absurd (List.length_eq_zero_iff.1 (by rw [hel2, ← hel]; rfl)) h
        | a r' h =>
          subst h
          obtain ⟨g, o⟩ := r
          obtain ⟨g', o'⟩ := r'
          have hlp := hlp g o g' o' rfl hgd
          have hE0 : E.length = 0 := by simpa using hel.symm
          rw [hE0] at hlp
          simp only [dv] at hlp
          refine PutG.run (W_run 120 ?_)
          simp (maxSteps := 2000000) only [SA, Nat.reduceDiv, Nat.reduceSub, Nat.reduceAdd, Int.reduceLT, Int.reduceLE, Int.reduceToNat, Nat.reduceMul, Nat.reduceEqDiff, reduceCtorEq, Nat.reduceBEq, Nat.reduceLeDiff, Nat.reduceLT, xf54, ai, al, tx, nilA, cpG, e1, wf]
          exact W_alone (hlp _ _ _ _ _ _ _ _ _ _ _ _ _ _ _ _ _ _ _ _ _ _ _ _ _ _ _ _ _ _ _ _ _ _ _ _ _ _ _ _ _ _ _ _ _ _ _)
      | b g h =>
        cases h2 with
        | a r' h' => exact absurd (List.length_eq_zero_iff.1 (by rw [hel, ← hel2, h']; rfl)) h
        | b g' h' =>
          have hlp := hlp g none g' none rfl hgd
          cases X with
          | nil => exact absurd rfl h
          | cons x X =>
            cases Y with
            | nil => exact absurd rfl h'
            | cons y Y =>
              simp only [dv] at hlp
              rw [← hel] at hlp
              generalize hXX : x :: X = XX at *
              generalize hYY : y :: Y = YY at *
              refine PutG.run (W_giveC (t := 0) (giveT_row (k := 1045) (g := g) (e := 3) (s := 1) (xs := XX.map ai) (n := XX.length) rfl (hl2 s _) (by simp)) (W_giveC (t := 1) (giveT_row (k := 1052) (g := g') (e := 3) (s := 1) (xs := YY.map ai) (n := YY.length) rfl (by
                show Go.Proofs.Eng.look (Go.Proofs.Eng.putAt _ _ _) _ = _
                unfold hpP
                rw [hp2, hl3]; rfl) (by simp)) (W_run 120 ?_)))
              simp (maxSteps := 2000000) only [SA, Nat.reduceDiv, Nat.reduceSub, Nat.reduceAdd, Int.reduceLT, Int.reduceLE, Int.reduceToNat, Nat.reduceMul, Nat.reduceEqDiff, reduceCtorEq, Nat.reduceBEq, Nat.reduceLeDiff, Nat.reduceLT, xf54, ai, al, tx, hpP, cpG, hl1, hl2, hl3, hp2, hp3, e1, wf, toData_os, toData_v, toData_ptr, toData_o, toData_sl, toData_ne, Go.Proofs.Eng.putAt, List.map_cons, List.map_nil]
              exact W_alone (hlp _ _ _ _ _ _ _ _ _ _ _ _ _ _ _ _ _ _ _ _ _ _ _ _ _ _ _ _ _ _ _ _ _ _ _ _ _ _ _ _ _ _ _ _ _ _ _)
theorem each_run (f : Bool) (hg : gX V w) (hv : Vis V w vN vc hs up gd) (s : σ) (hgd : gd s (alE (pf w) V w.length w.length 0).length) (hn : ∀ v T, Go.Proofs.Eng.putAt (hs s ++ T) 1004 v = hs s ++ Go.Proofs.Eng.putAt T 1004 v)
    (hl : ∀ j, Go.Proofs.Eng.look (hs s) j = Go.Proofs.Eng.look (hs s ++ [(1004, (0, none)), (1045, (0, none)), (1052, (0, none))]) j) :
    ∃ r r', RunsR Try.prog xf 1000 30 [tx f V w, .fn vN vc] (hs s) (.tup []) (hpP f V w vN vc hs (fold up [] s (alE (pf w) V w.length w.length 0)) r r') := by
  obtain ⟨hcl, hl1, hl2, hl3, hp2, hp3, hrn, hgm, hgs⟩ := hv
  obtain ⟨r, r', hrun⟩ := put_all f hg ⟨hcl, hl1, hl2, hl3, hp2, hp3, hrn, hgm, hgs⟩ w.length 0 (by omega) (Nat.zero_le _) [] s nilA nilA (0, none) (0, none) (PreOk.nil _ _ _) (Nat.le_refl _) (.a _ rfl) (.a _ rfl) hgd
  refine ⟨r, r', RunsR.ofW (fn := xf30) (by kernel_rfl) (W_named hl (W_run 120 ?_))⟩
  generalize fold up [] s (alE (pf w) V w.length w.length 0) = s' at *
  simp (maxSteps := 2000000) only [SA, Nat.reduceDiv, Nat.reduceSub, Nat.reduceAdd, Int.reduceLT, Int.reduceLE, Int.reduceToNat, Nat.reduceMul, Nat.reduceEqDiff, reduceCtorEq, Nat.reduceBEq, Nat.reduceLeDiff, Nat.reduceLT, xf30, ai, al, tx, hl1, hn, List.map_cons, List.map_nil]
  refine W_callvR (kb' := 1000) (caps := cpG f V w vN vc) rfl call_put rfl hrun rfl (W_run 120 ?_)
  simp (maxSteps := 2000000) only [SA, Nat.reduceDiv, Nat.reduceSub, Nat.reduceAdd, Int.reduceLT, Int.reduceLE, Int.reduceToNat, Nat.reduceMul, Nat.reduceEqDiff, reduceCtorEq, Nat.reduceBEq, Nat.reduceLeDiff, Nat.reduceLT, ai, hpP]
  exact W_done ⟨.inr rfl, [], rfl, rfl, rfl⟩
end
end Go.Proofs.Ytdmffkknghianaa

set_option linter.unusedSimpArgs false
set_option linter.unusedVariables false
namespace Go.Proofs.Ytdmffkknghianaa
open Go Go.Proofs.Eng
set_option maxRecDepth 100000
set_option maxHeartbeats 1000000
structure Bs where
  F : Option (List Nat)
  l : Int
  m : Nat
def e0 : Bs := ⟨none, 0, 0⟩
def comb (s t : Bs) : Bs := if t.m = 0 then s else if s.m = 0 then t else if t.l < s.l then t else if t.l = s.l then ⟨s.F, s.l, s.m + t.m⟩ else s
theorem comb_e (s : Bs) : comb s e0 = s := by unfold comb; rw [if_pos (show e0.m = 0 from rfl)]
theorem comb_assoc (a b c : Bs) : comb (comb a b) c = comb a (comb b c) := by
  obtain ⟨aF, al, am⟩ := a
  obtain ⟨bF, bl, bm⟩ := b
  obtain ⟨cF, cl, cm⟩ := c
  unfold comb
  grind
def sg1 (c : Int) (x : List Nat) : Bs := ⟨some x, c, 1⟩
def FB (g : List Nat → Int) (s : Bs) (l : List (List Nat)) : Bs := l.foldl (fun s x => comb s (sg1 (g x) x)) s
theorem FB_comb (g : List Nat → Int) : ∀ (l : List (List Nat)) (s : Bs), FB g s l = comb s (FB g e0 l)
  | [], s => (comb_e s).symm
  | x :: l, s => by
    have h1 := FB_comb g l (comb s (sg1 (g x) x))
    have h2 := FB_comb g l (comb e0 (sg1 (g x) x))
    have e : comb e0 (sg1 (g x) x) = sg1 (g x) x := by unfold comb e0 sg1; simp
    show FB g (comb s (sg1 (g x) x)) l = comb s (FB g (comb e0 (sg1 (g x) x)) l)
    rw [h1, h2, e, comb_assoc]
theorem FB_append (g : List Nat → Int) (l l' : List (List Nat)) (s : Bs) : FB g s (l ++ l') = comb (FB g s l) (FB g e0 l') := by
  unfold FB
  rw [List.foldl_append]
  exact FB_comb g l' _
theorem FB_flat (g : List Nat → Int) (G : Nat → List (List Nat)) : ∀ (js : List Nat) (s : Bs), FB g s (js.flatMap G) = js.foldl (fun s j => comb s (FB g e0 (G j))) s
  | [], s => rfl
  | j :: js, s => by
    have h : FB g s ((j :: js).flatMap G) = FB g (FB g s (G j)) (js.flatMap G) := by rw [List.flatMap_cons]; unfold FB; rw [List.foldl_append]
    rw [h, FB_flat g G js, List.foldl_cons, FB_comb g (G j) s]
def shf (c : Int) (j : Nat) (s : Bs) : Bs := ⟨s.F.map (j :: ·), if s.m = 0 then 0 else c + s.l, s.m⟩
theorem shf_comb (c : Int) (j : Nat) (s t : Bs) : shf c j (comb s t) = comb (shf c j s) (shf c j t) := by
  obtain ⟨sF, sl, sm⟩ := s
  obtain ⟨tF, tl, tm⟩ := t
  unfold shf comb
  by_cases ht : tm = 0
  · simp [ht]
  by_cases hs : sm = 0
  · simp [ht, hs]
  have hst : ¬ (sm + tm = 0) := by omega
  by_cases h1 : tl < sl
  · have h2 : c + tl < c + sl := by omega
    simp [ht, hs, h1]
  · by_cases h2 : tl = sl
    · subst h2; simp [ht, hs, hst]
    · have h3 : ¬ c + tl < c + sl := by omega
      have h4 : ¬ c + tl = c + sl := by omega
      simp [ht, hs, h1, h2]
theorem FB_shf (g g' : List Nat → Int) (c : Int) (j : Nat) (hg : ∀ t, g (j :: t) = c + g' t) : ∀ (l : List (List Nat)), FB g e0 (l.map (j :: ·)) = shf c j (FB g' e0 l) := by
  have key : ∀ (l : List (List Nat)) (s : Bs), FB g (shf c j s) (l.map (j :: ·)) = shf c j (FB g' s l) := by
    intro l
    induction l with
    | nil => intro s; rfl
    | cons x l ih =>
      intro s
      show FB g (comb (shf c j s) (sg1 (g (j :: x)) (j :: x))) (l.map (j :: ·)) = shf c j (FB g' (comb s (sg1 (g' x) x)) l)
      have e : sg1 (g (j :: x)) (j :: x) = shf c j (sg1 (g' x) x) := by unfold sg1 shf; simp [hg]
      rw [e, ← shf_comb]
      exact ih _
  intro l
  have := key l e0
  have e : shf c j e0 = e0 := by unfold shf e0; simp
  rwa [e] at this
/-- groups in order: the first least one, and how many there are in all that have as little -/
theorem comb_groups (x : Nat → List Nat) (v : Nat → Int) (c : Nat → Nat) : ∀ (l P : List Nat) (m : Nat), FM (fun y => y ∈ P) v m → (∀ y z, y ∈ P → z ∈ l → y < z) → l.Pairwise (· < ·) → (∀ y, y ∈ l → 0 < c y) → ∀ k : Nat, 0 < k → (k : Int) = sumI (P.map fun j => if v j = v m then (c j : Int) else 0) →
    ∃ (m' k' : Nat), FM (fun y => y ∈ P ++ l) v m' ∧ (k' : Int) = sumI ((P ++ l).map fun j => if v j = v m' then (c j : Int) else 0) ∧ l.foldl (fun s j => comb s ⟨some (x j), v j, c j⟩) ⟨some (x m), v m, k⟩ = ⟨some (x m'), v m', k'⟩
  | [], P, m, h, _, _, _, k, hk, hs => ⟨m, k, h.congr (fun y => by simp) fun _ _ => rfl, by rw [List.append_nil]; exact hs, rfl⟩
  | y :: t, P, m, h, hlt, hpw, hc, k, hk, hs => by
    obtain ⟨p1, p2⟩ := List.pairwise_cons.1 hpw
    have hcy := hc y List.mem_cons_self
    have hmy := hlt m y h.mem List.mem_cons_self
    have cont : ∀ (m2 k2 : Nat), FM (fun z => z ∈ P ++ [y]) v m2 → 0 < k2 → (k2 : Int) = sumI ((P ++ [y]).map fun j => if v j = v m2 then (c j : Int) else 0) → comb ⟨some (x m), v m, k⟩ ⟨some (x y), v y, c y⟩ = ⟨some (x m2), v m2, k2⟩ →
        ∃ (m' k' : Nat), FM (fun z => z ∈ P ++ y :: t) v m' ∧ (k' : Int) = sumI ((P ++ y :: t).map fun j => if v j = v m' then (c j : Int) else 0) ∧ (y :: t).foldl (fun s j => comb s ⟨some (x j), v j, c j⟩) ⟨some (x m), v m, k⟩ = ⟨some (x m'), v m', k'⟩ := by
      intro m2 k2 h1 h2 h3 h4
      obtain ⟨m', k', a, b, d⟩ := comb_groups x v c t (P ++ [y]) m2 h1 (fun u z hu hz => by
        rcases List.mem_append.1 hu with q | q
        · exact hlt u z q (List.mem_cons_of_mem _ hz)
        · rw [List.mem_singleton.1 q]; exact p1 z hz) p2 (fun u hu => hc u (List.mem_cons_of_mem _ hu)) k2 h2 h3
      rw [List.append_assoc, List.singleton_append] at a b
      exact ⟨m', k', a, b, by rw [List.foldl_cons, h4]; exact d⟩
    have hcy0 : ¬ c y = 0 := by omega
    have hk0 : ¬ k = 0 := by omega
    rcases Int.lt_trichotomy (v y) (v m) with hlt2 | heq | hgt
    · refine cont y (c y) ⟨by simp, fun z hz => ?_, fun z hz hl => ?_⟩ hcy ?_ ?_
      · rcases List.mem_append.1 hz with q | q
        · have := h.le z q; omega
        · rw [List.mem_singleton.1 q]; exact Int.le_refl _
      · rcases List.mem_append.1 hz with q | q
        · have := h.le z q; omega
        · rw [List.mem_singleton.1 q] at hl; omega
      · rw [List.map_append, List.map_cons, List.map_nil, sumI_snoc, if_pos rfl]
        have hz : (P.map fun j => if v j = v y then (c j : Int) else 0) = P.map fun _ => (0 : Int) := List.map_congr_left fun j hj => by
          have := h.le j hj
          rw [if_neg (by omega)]
        rw [hz]
        have : ∀ P : List Nat, sumI (P.map fun _ => (0 : Int)) = 0 := fun P => by
          unfold sumI
          induction P with
          | nil => rfl
          | cons a P ih => simpa using ih
        rw [this]; omega
      · unfold comb; simp only [hcy0, hk0, if_false]; rw [if_pos hlt2]
    · refine cont m (k + c y) ⟨List.mem_append_left _ h.mem, fun z hz => ?_, fun z hz hl => ?_⟩ (by omega) ?_ ?_
      · rcases List.mem_append.1 hz with q | q
        · exact h.le z q
        · rw [List.mem_singleton.1 q]; omega
      · rcases List.mem_append.1 hz with q | q
        · exact h.lt z q hl
        · rw [List.mem_singleton.1 q] at hl; omega
      · rw [List.map_append, List.map_cons, List.map_nil, sumI_snoc, if_pos heq, ← hs]; omega
      · unfold comb; simp only [hcy0, hk0, if_false]; rw [if_neg (by omega), if_pos heq]
    · refine cont m k ⟨List.mem_append_left _ h.mem, fun z hz => ?_, fun z hz hl => ?_⟩ hk ?_ ?_
      · rcases List.mem_append.1 hz with q | q
        · exact h.le z q
        · rw [List.mem_singleton.1 q]; omega
      · rcases List.mem_append.1 hz with q | q
        · exact h.lt z q hl
        · rw [List.mem_singleton.1 q] at hl; omega
      · rw [List.map_append, List.map_cons, List.map_nil, sumI_snoc, if_neg (by omega), ← hs]; omega
      · unfold comb; simp only [hcy0, hk0, if_false]; rw [if_neg (by omega), if_neg (by omega)]
/-- what ends cost from a place on -/
def csF (q : Nat → Int) (V : Int) (n b : Nat) (E : List Nat) : Int := sumI ((spE b E).map fun p => cst q V n p.1 p.2)
theorem fold_add : ∀ (l : List Int) (x a : Int), (l.foldl (· + ·) (a + x)) = l.foldl (· + ·) a + x
  | [], x, a => rfl
  | y :: l, x, a => by simp only [List.foldl_cons]; rw [show a + x + y = a + y + x by omega]; exact fold_add l x (a + y)
theorem sumI_cons (x : Int) (l : List Int) : sumI (x :: l) = x + sumI l := by
  unfold sumI
  rw [List.foldl_cons, fold_add]; omega
theorem csF_cons (q : Nat → Int) (V : Int) (n b j : Nat) (t : List Nat) : csF q V n b (j :: t) = cst q V n b j + csF q V n j t := by
  unfold csF
  rw [spE, List.map_cons, sumI_cons]
theorem Ahead.pos {q : Nat → Int} {V : Int} {n : Nat} {L C : Nat → Int} {N : Nat → Nat} (hn : n ≤ 10) (h : Ahead q V n L C N) : ∀ k i, n - i ≤ k → i ≤ n → 1 ≤ C i := by
  intro k
  induction k with
  | zero => intro i h1 h2; have : i = n := by omega
            subst this; rw [h.cn]; omega
  | succ k ih =>
    intro i h1 h2
    by_cases e : i = n
    · subst e; rw [h.cn]; omega
    · obtain ⟨sl, sN, sc⟩ := h.st i (by omega)
      have hm := sN.mem
      have hNi := la_mem.1 hm
      have h1 := ih (N i) (by have := hm.1; omega) hm.2.1
      obtain ⟨A, B, hAB⟩ := List.append_of_mem hNi
      have e2 : C i = sumI ((la q V n i).map (cnF q V n L C i)) := sc
      rw [e2, hAB, List.map_append, List.map_cons]
      have hnn : ∀ l : List Nat, (∀ y, y ∈ l → y ∈ la q V n i) → 0 ≤ sumI (l.map (cnF q V n L C i)) := fun l hl => by
        induction l with
        | nil => exact Int.le_refl _
        | cons y l ihl =>
          rw [List.map_cons, sumI_cons]
          have := ihl fun z hz => hl z (List.mem_cons_of_mem _ hz)
          have hy := la_mem.2 (hl y List.mem_cons_self)
          have hcy := (h.cb hn (n - y) y (Nat.le_refl _) hy.2.1).1
          have hc : 0 ≤ cnF q V n L C i y := by unfold cnF; split <;> omega
          omega
      have hA := hnn A fun y hy => by rw [hAB]; exact List.mem_append_left _ hy
      have hB := hnn B fun y hy => by rw [hAB]; exact List.mem_append_right _ (List.mem_cons_of_mem _ hy)
      have happ : ∀ (l l' : List Int), sumI (l ++ l') = sumI l + sumI l' := fun l l' => by
        induction l with
        | nil => simp [sumI]
        | cons a l ih => rw [List.cons_append, sumI_cons, sumI_cons, ih]; omega
      rw [happ, sumI_cons]
      have : cnF q V n L C i (N i) = C (N i) := by unfold cnF; rw [if_pos sl.symm]
      omega
theorem way_stable {N : Nat → Nat} {n : Nat} (hN : ∀ i, i < n → i < N i ∧ N i ≤ n) : ∀ (k k' p : Nat), n - p ≤ k → n - p ≤ k' → p ≤ n → way N n k p = way N n k' p
  | 0, 0, p, _, _, _ => rfl
  | 0, k' + 1, p, h, _, hp => by rw [way, way, if_pos (by omega)]
  | k + 1, 0, p, _, h, hp => by rw [way, way, if_pos (by omega)]
  | k + 1, k' + 1, p, h, h', hp => by
    rw [way, way]
    by_cases e : p = n
    · rw [if_pos e, if_pos e]
    · rw [if_neg e, if_neg e]
      have := hN p (by omega)
      rw [way_stable hN k k' (N p) (by omega) (by omega) this.2]
/-- all that are tried: the first best ones, what they cost, and how many -/
theorem FB_all {q : Nat → Int} {V : Int} {n : Nat} (hp : Pos q n V) (hn : n ≤ 10) {L C : Nat → Int} {N : Nat → Nat} (hA : Ahead q V n L C N) : ∀ (k i : Nat), n - i ≤ k → i ≤ n → FB (csF q V n i) e0 (alE q V n k i) = ⟨some (way N n k i), L i, (C i).toNat⟩ := by
  have hend : FB (csF q V n n) e0 [[]] = ⟨some [], L n, (C n).toNat⟩ := by
    show comb e0 (sg1 (csF q V n n []) []) = _
    have : csF q V n n [] = 0 := rfl
    rw [this, hA.ln, hA.cn]; rfl
  intro k
  induction k with
  | zero =>
    intro i h1 h2
    have : i = n := by omega
    subst this
    rw [alE_z, way]; exact hend
  | succ k ih =>
    intro i h1 h2
    by_cases e : i = n
    · subst e; rw [alE_n, way, if_pos rfl]; exact hend
    · rw [alE_s e, way, if_neg e, FB_flat]
      obtain ⟨sl, sN, sc⟩ := hA.st i (by omega)
      have hgr : ∀ j, i < j → j ≤ n → FB (csF q V n i) e0 (alG q V n k i j) = if fit q V i j = true then ⟨some (j :: way N n k j), cst q V n i j + L j, (C j).toNat⟩ else e0 := fun j hj1 hj2 => by
        unfold alG
        split
        · rw [FB_shf (csF q V n i) (csF q V n j) (cst q V n i j) j (csF_cons q V n i j), ih j (by omega) hj2]
          have := hA.pos hn (n - j) j (Nat.le_refl _) hj2
          unfold shf
          simp only [Option.map_some]
          rw [if_neg (by omega)]
        · rfl
      -- only those that fit count
      have hfil : ∀ (js : List Nat), (∀ j, j ∈ js → i < j ∧ j ≤ n) → ∀ s, js.foldl (fun s j => comb s (FB (csF q V n i) e0 (alG q V n k i j))) s = (js.filter fun j => fit q V i j).foldl (fun s j => comb s ⟨some (j :: way N n k j), cst q V n i j + L j, (C j).toNat⟩) s := by
        intro js
        induction js with
        | nil => intro _ s; rfl
        | cons j js ihj =>
          intro hj s
          have hj1 := hj j List.mem_cons_self
          rw [List.foldl_cons, hgr j hj1.1 hj1.2, List.filter_cons]
          split
          · rw [List.foldl_cons]; exact ihj (fun z hz => hj z (List.mem_cons_of_mem _ hz)) _
          · rw [comb_e]; exact ihj (fun z hz => hj z (List.mem_cons_of_mem _ hz)) _
      rw [hfil _ fun j hj => by obtain ⟨a, ha, rfl⟩ := List.mem_range'.1 hj; omega]
      show (la q V n i).foldl _ _ = _
      have hla := la_ne hp (i := i) (by omega)
      have hup := la_up q V n i
      cases hl : la q V n i with
      | nil => exact absurd hl hla
      | cons y t =>
        have hall : ∀ z, z ∈ y :: t → i < z ∧ z ≤ n := fun z hz => by have := la_mem.2 (hl ▸ hz); exact ⟨this.1, this.2.1⟩
        have hcp : ∀ z, z ∈ y :: t → 0 < (C z).toNat := fun z hz => by have := hA.pos hn (n - z) z (Nat.le_refl _) (hall z hz).2; omega
        rw [hl] at hup
        obtain ⟨p1, p2⟩ := List.pairwise_cons.1 hup
        have hb : comb e0 ⟨some (y :: way N n k y), cst q V n i y + L y, (C y).toNat⟩ = ⟨some (y :: way N n k y), cst q V n i y + L y, (C y).toNat⟩ := by
          have := hcp y List.mem_cons_self
          unfold comb e0
          rw [if_neg (by show ¬ (C y).toNat = 0; omega), if_pos rfl]
        rw [List.foldl_cons, hb]
        obtain ⟨m', k', a, b, d⟩ := comb_groups (fun j => j :: way N n k j) (fun j => cst q V n i j + L j) (fun j => (C j).toNat) t [y] y ⟨by simp, fun z hz => by rw [List.mem_singleton.1 hz]; exact Int.le_refl _, fun z hz hlt => by rw [List.mem_singleton.1 hz] at hlt; omega⟩ (fun u z hu hz => by rw [List.mem_singleton.1 hu]; exact p1 z hz) p2 (fun z hz => hcp z (List.mem_cons_of_mem _ hz)) (C y).toNat (hcp y List.mem_cons_self) (by simp [sumI])
        rw [d]
        have hm : m' = N i := a.uniq (sN.congr (fun z => by rw [la_mem, hl]; simp) fun _ _ => rfl)
        subst hm
        have hk : (k' : Int) = C i := by
          rw [b, sc, hl]
          show sumI _ = sumI _
          congr 1
          refine List.map_congr_left fun j hj => ?_
          have hj2 := hA.pos hn (n - j) j (Nat.le_refl _) (hall j hj).2
          rw [← sl]
          split
          · omega
          · rfl
        have hk2 : k' = (C i).toNat := by omega
        rw [hk2, ← sl]
theorem alE_len {q : Nat → Int} {V : Int} {n : Nat} (hn : n ≤ 10) : ∀ (k i : Nat), n - i ≤ k → (alE q V n k i).length ≤ p11 (n - i) := by
  intro k
  induction k with
  | zero => intro i h; rw [alE_z]; have := p11_le (Nat.zero_le (n - i)); simpa [p11] using this
  | succ k ih =>
    intro i h
    by_cases e : i = n
    · subst e; rw [alE_n, Nat.sub_self]; decide
    · rw [alE_s e]
      have key : ∀ (js : List Nat) (B : Nat), (∀ j, j ∈ js → (alG q V n k i j).length ≤ B) → (js.flatMap (alG q V n k i)).length ≤ js.length * B := by
        intro js B
        induction js with
        | nil => intro _; simp
        | cons j js ihj =>
          intro hj
          rw [List.flatMap_cons, List.length_append, List.length_cons, Nat.succ_mul]
          have h1 := hj j List.mem_cons_self
          have h2 := ihj fun z hz => hj z (List.mem_cons_of_mem _ hz)
          omega
      by_cases hin : i < n
      · have := key (List.range' (i + 1) (n - i)) (p11 (n - i - 1)) fun j hj => by
          obtain ⟨a, ha, rfl⟩ := List.mem_range'.1 hj
          unfold alG
          split
          · rw [List.length_map]
            exact Nat.le_trans (ih (i + 1 + 1 * a) (by omega)) (p11_le (by omega))
          · exact Nat.zero_le _
        rw [List.length_range'] at this
        have h5 : p11 (n - i) = p11 (n - i - 1) * 11 := by rw [← p11_s, show n - i - 1 + 1 = n - i by omega]
        have h6 : (n - i) * p11 (n - i - 1) ≤ 11 * p11 (n - i - 1) := Nat.mul_le_mul_right _ (by omega)
        omega
      · have : n - i = 0 := by omega
        rw [this]; simp [List.range']
end Go.Proofs.Ytdmffkknghianaa

set_option linter.unusedSimpArgs false
set_option linter.unusedVariables false
namespace Go.Proofs.Ytdmffkknghianaa
open Go Go.Proofs.Eng
set_option maxRecDepth 100000
set_option maxHeartbeats 4000000
def sqL (l : List Int) : Int := sumI (l.map fun x => x * x)
theorem sqL_snoc (l : List Int) (x : Int) : sqL (l ++ [x]) = sqL l + x * x := by unfold sqL; rw [List.map_append, List.map_cons, List.map_nil, sumI_snoc]
theorem sq_le {x : Int} (h : 0 ≤ x ∧ x ≤ 41) : 0 ≤ x * x ∧ x * x ≤ 1681 := ⟨Int.mul_nonneg h.1 h.1, by
  calc x * x ≤ 41 * 41 := Int.mul_le_mul h.2 h.2 h.1 (by omega)
    _ = 1681 := by decide⟩
theorem sqL_b {l : List Int} (h : ∀ x, x ∈ l → 0 ≤ x ∧ x ≤ 41) : 0 ≤ sqL l ∧ sqL l ≤ 1681 * l.length := by
  have := sumI_b (b := 1681) (by omega) (l := l.map fun x => x * x) fun x hx => by
    obtain ⟨z, hz, rfl⟩ := List.mem_map.1 hx
    exact sq_le (h z hz)
  rw [List.length_map] at this; exact this
theorem sqs_loop (f : Bool) (l : List Int) (hn : l.length ≤ 100) (hb : ∀ x, x ∈ l → 0 ≤ x ∧ x ≤ 41) (K : List Fr) (Q : Out → Cfg → Prop)
    (hK : ∀ j1 j4 j5 j9 j10 j11 j12 j13 j14 j15 j16 j17 j18 : AV, W Try.prog (RelU Try.prog xf) 0 K ⟨((al f l) :: j1 :: (ai 0) :: (ai (sqL l)) :: j4 :: j5 :: (al f l) :: (ai l.length) :: (ai l.length) :: j9 :: j10 :: j11 :: j12 :: j13 :: j14 :: j15 :: j16 :: j17 :: j18 :: []), []⟩ Q) :
    ∀ (m k : Nat), k + m = l.length → ∀ j1 j4 j5 j9 j10 j11 j12 j13 j14 j15 j16 j17 j18 : AV, W Try.prog (RelU Try.prog xf) 0 (.code (.loop xf46_L0) :: .blk 0 :: .stop :: K) ⟨((al f l) :: j1 :: (ai 0) :: (ai (sqL (l.take k))) :: j4 :: j5 :: (al f l) :: (ai l.length) :: (ai k) :: j9 :: j10 :: j11 :: j12 :: j13 :: j14 :: j15 :: j16 :: j17 :: j18 :: []), []⟩ Q := by
  intro m
  induction m with
  | zero =>
    intro k hk j1 j4 j5 j9 j10 j11 j12 j13 j14 j15 j16 j17 j18
    have ek : k = l.length := by omega
    have h0 : decide (k < l.length) = false := decide_eq_false (by omega)
    rw [show l.take k = l from List.take_of_length_le (by omega)]
    refine W_loop (W_run 80 ?_)
    simp (maxSteps := 2000000) only [SA, Nat.reduceDiv, Nat.reduceSub, Nat.reduceAdd, Int.reduceLT, Int.reduceLE, Int.reduceToNat, Nat.reduceMul, Nat.reduceEqDiff, reduceCtorEq, Nat.reduceBEq, Nat.reduceLeDiff, Nat.reduceLT, xf46_L0, ai, al, lt_cast, h0]
    rw [ek]
    exact W_stop (hK _ _ _ _ _ _ _ _ _ _ _ _ _)
  | succ m ih =>
    intro k hk j1 j4 j5 j9 j10 j11 j12 j13 j14 j15 j16 j17 j18
    have hk1 : k < l.length := by omega
    have h0 : decide (k < l.length) = true := decide_eq_true hk1
    have hgt : (l.map ai)[k]? = some (ai (l.getD k 0)) := by rw [List.getElem?_map, getD_at hk1]; rfl
    have hx := sq_le (hb _ (getD_in (d := 0) hk1))
    have hs := sqL_b (l := l.take k) fun x hx => hb x (List.mem_of_mem_take hx)
    have hl : (l.take k).length = k := by rw [List.length_take]; omega
    have next := ih (k + 1) (by omega)
    rw [take_snoc (d := 0) hk1, sqL_snoc] at next
    generalize l.getD k 0 = x at *
    generalize sqL (l.take k) = s at *
    have wi : IntKind.i64.wrap ((k : Int) + 1) = ((k + 1 : Nat) : Int) := by rw [wrap_id (by omega) (by omega)]; simp
    have wx : IntKind.i64.wrap (x * x) = x * x := wrap_id (by omega) (by omega)
    have ws : IntKind.i64.wrap (s + x * x) = s + x * x := wrap_id (by omega) (by omega)
    refine W_loop (W_run 80 ?_)
    simp (maxSteps := 2000000) only [SA, Nat.reduceDiv, Nat.reduceSub, Nat.reduceAdd, Int.reduceLT, Int.reduceLE, Int.reduceToNat, Nat.reduceMul, Nat.reduceEqDiff, reduceCtorEq, Nat.reduceBEq, Nat.reduceLeDiff, Nat.reduceLT, xf46_L0, ai, al, lt_cast, h0, hgt, wi, wx, ws, Int.toNat_natCast]
    exact next _ _ _ _ _ _ _ _ _ _ _ _ _
theorem sqs_run (f : Bool) {l : List Int} (hn : l.length ≤ 100) (hb : ∀ x, x ∈ l → 0 ≤ x ∧ x ≤ 41) : Runs Try.prog xf 46 [al f l] (ai (sqL l)) := by
  have hL := fun K Q hK => sqs_loop f l hn hb K Q hK l.length 0 (by omega)
  have e : sqL (l.take 0) = 0 := rfl
  rw [e] at hL
  refine Runs.ofW (fn := xf46) 20 (by kernel_rfl) (W_run 80 ?_)
  simp (maxSteps := 2000000) only [SA, Nat.reduceDiv, Nat.reduceSub, Nat.reduceAdd, Int.reduceLT, Int.reduceLE, Int.reduceToNat, Nat.reduceMul, Nat.reduceEqDiff, reduceCtorEq, Nat.reduceBEq, Nat.reduceLeDiff, Nat.reduceLT, xf46, ai, al]
  refine W_alone (hL _ _ (fun j1 j4 j5 j9 j10 j11 j12 j13 j14 j15 j16 j17 j18 => W_run 80 ?_) _ _ _ _ _ _ _ _ _ _ _ _ _)
  simp (maxSteps := 2000000) only [SA, Nat.reduceDiv, Nat.reduceSub, Nat.reduceAdd, Int.reduceLT, Int.reduceLE, Int.reduceToNat, Nat.reduceMul, Nat.reduceEqDiff, reduceCtorEq, Nat.reduceBEq, Nat.reduceLeDiff, Nat.reduceLT, xf46_R0, ai]
  generalize sqL l = z
  exact W_ret1 (WX_nil ⟨.inl rfl, _, rfl, rfl⟩)
theorem sqs_cs {q : Nat → Int} {V : Int} {n : Nat} : ∀ (E : List Nat) (b : Nat), eE n b E = 0 → sqL (((spE b E).map fun p => lf q V p.1 p.2).take (E.length - 1)) = csF q V n b E
  | [], b, h => rfl
  | [e], b, h => by
    rw [eE] at h
    split at h
    · omega
    · split at h
      · omega
      · rw [eE] at h
        split at h
        · rename_i hn
          unfold csF
          rw [spE, spE, List.map_cons, List.map_nil]
          simp [sqL, sumI, cst, hn]
        · omega
  | e :: e2 :: t, b, h => by
    rw [eE] at h
    split at h
    · omega
    · split at h
      · omega
      · have ih := sqs_cs (q := q) (V := V) (e2 :: t) e h
        have hen : e ≠ n := fun hh => by
          rw [eE] at h
          split at h
          · omega
          · split at h <;> omega
        rw [csF_cons, ← ih, spE, List.map_cons, List.length_cons, List.length_cons, Nat.add_sub_cancel, Nat.add_sub_cancel, List.take_succ_cons]
        unfold sqL
        rw [List.map_cons, sumI_cons]
        have : cst q V n b e = lf q V b e * lf q V b e := by unfold cst sq; rw [if_neg hen]
        rw [this]
def bv : Option (List Nat) → AV
  | none => nilA
  | some E => al false (nl E)
def hsB (s : Bs) : Heap := [(2, (1, some ⟨25, 1, [bv s.F]⟩)), (3, (1, some ⟨3, 1, [ai s.l]⟩)), (4, (1, some ⟨3, 1, [ai s.m]⟩))]
def cpB : List AV := [.o 4 1 1 0 0, .o 3 1 1 0 0, .o 2 1 1 0 0]
def upB (q : Nat → Int) (V : Int) (n : Nat) (s : Bs) (E : List Nat) : Bs := comb s (sg1 (csF q V n 0 E) E)
def gdB (s : Bs) (k : Nat) : Prop := s.m + k ≤ 1000000000000
theorem best1_run {V : Int} {w : List Int} (hg : gX V w) (s : Bs) (E : List Nat) (p r r' : Nat × Option Ob) (hgd : gdB s 1) (hE : fE (pf w) V w.length E = 0) :
    RunsR Try.prog xf 1000 45 (al false (nl E) :: al false (lftL (pf w) V E) :: cpB) (hsB s ++ [(1004, p), (1045, r), (1052, r')]) (.tup []) (hsB (upB (pf w) V w.length s E) ++ [(1004, p), (1045, r), (1052, r')]) := by
  obtain ⟨hE0, hfit⟩ := fE_ok hE
  have hok := spE_ok E 0 hE0
  have n10 := hg.n10
  have hlb : ∀ x, x ∈ lftL (pf w) V E → 0 ≤ x ∧ x ≤ 41 := fun x hx => by
    obtain ⟨z, hz, rfl⟩ := List.mem_map.1 hx
    have h1 := hok z hz
    have h2 := lf_b hg.pos h1.1 h1.2
    have h3 := fit_iff.1 (List.all_eq_true.1 hfit z hz)
    have := hg.W1
    omega
  have hEne : 1 ≤ E.length := by
    cases E with
    | nil => rw [eE] at hE0; have := hg.n1; split at hE0 <;> omega
    | cons a t => simp
  have hel : (lftL (pf w) V E).length = E.length := by unfold lftL; rw [List.length_map, spE_len]
  have hEl : E.length ≤ w.length := by
    have : ∀ (E : List Nat) (b : Nat), eE w.length b E = 0 → b ≤ w.length → E.length + b ≤ w.length := by
      intro E
      induction E with
      | nil => intro b h hb; simpa using hb
      | cons e t ih =>
        intro b h hb
        rw [eE] at h
        split at h
        · omega
        · split at h
          · omega
          · have := ih e h (by omega)
            rw [List.length_cons]; omega
    have := this E 0 hE0 (Nat.zero_le _)
    omega
  have hsq := sqs_run false (l := (lftL (pf w) V E).take (E.length - 1)) (by rw [List.length_take]; omega) fun x hx => hlb x (List.mem_of_mem_take hx)
  have hcs := sqs_cs (q := pf w) (V := V) E 0 hE0
  rw [show sqL ((lftL (pf w) V E).take (E.length - 1)) = csF (pf w) V w.length 0 E from hcs] at hsq
  have hnl := nl_len E
  unfold upB
  unfold gdB at hgd
  obtain ⟨F, l, m⟩ := s
  simp only at hgd
  generalize csF (pf w) V w.length 0 E = c at *
  have wl : IntKind.i64.wrap ((E.length : Int) - 1) = ((E.length - 1 : Nat) : Int) := by rw [wrap_id (by omega) (by omega)]; omega
  have wm : IntKind.i64.wrap ((m : Int) + 1) = ((m + 1 : Nat) : Int) := by rw [wrap_id (by omega) (by omega)]; simp
  have q1 : E.length - 1 ≤ E.length := by omega
  have htk : ((lftL (pf w) V E).map ai).take (E.length - 1) = ((lftL (pf w) V E).take (E.length - 1)).map ai := by rw [List.map_take]
  generalize lftL (pf w) V E = Y at *
  refine RunsR.ofW (fn := xf45) (by kernel_rfl) (W_run 120 ?_)
  simp (maxSteps := 2000000) only [SA, Nat.reduceDiv, Nat.reduceSub, Nat.reduceAdd, Int.reduceLT, Int.reduceLE, Int.reduceToNat, Nat.reduceMul, Nat.reduceEqDiff, reduceCtorEq, Nat.reduceBEq, Nat.reduceLeDiff, Nat.reduceLT, xf45, ai, al, hsB, cpB, hel, wl, q1, htk, Go.Proofs.Eng.fullOf, Bool.false_and]
  refine W_call (args := [al false (Y.take (E.length - 1))]) rfl (noRefs_1 (noRef_al _ _)) hsq rfl (W_run 120 ?_)
  unfold comb sg1
  simp only [Nat.succ_ne_zero, if_false]
  by_cases hm : m = 0
  · have d1 : ((m : Int) == 0) = true := by simp [hm]
    rw [if_pos hm]
    cases F with
    | none =>
      simp (maxSteps := 2000000) only [SA, Nat.reduceDiv, Nat.reduceSub, Nat.reduceAdd, Int.reduceLT, Int.reduceLE, Int.reduceToNat, Nat.reduceMul, Nat.reduceEqDiff, reduceCtorEq, Nat.reduceBEq, Nat.reduceLeDiff, Nat.reduceLT, ai, al, bv, nilA, hsB, d1]
      exact W_done ⟨.inr rfl, [], rfl, rfl, rfl⟩
    | some F =>
      simp (maxSteps := 2000000) only [SA, Nat.reduceDiv, Nat.reduceSub, Nat.reduceAdd, Int.reduceLT, Int.reduceLE, Int.reduceToNat, Nat.reduceMul, Nat.reduceEqDiff, reduceCtorEq, Nat.reduceBEq, Nat.reduceLeDiff, Nat.reduceLT, ai, al, bv, hsB, d1]
      exact W_done ⟨.inr rfl, [], rfl, rfl, rfl⟩
  · have d1 : ((m : Int) == 0) = false := by rw [beq_eq_false_iff_ne]; omega
    rw [if_neg hm]
    by_cases hc : c < l
    · have d2 : decide (c < l) = true := decide_eq_true hc
      rw [if_pos hc]
      cases F with
      | none =>
        simp (maxSteps := 2000000) only [SA, Nat.reduceDiv, Nat.reduceSub, Nat.reduceAdd, Int.reduceLT, Int.reduceLE, Int.reduceToNat, Nat.reduceMul, Nat.reduceEqDiff, reduceCtorEq, Nat.reduceBEq, Nat.reduceLeDiff, Nat.reduceLT, ai, al, bv, nilA, hsB, d1, d2]
        exact W_done ⟨.inr rfl, [], rfl, rfl, rfl⟩
      | some F =>
        simp (maxSteps := 2000000) only [SA, Nat.reduceDiv, Nat.reduceSub, Nat.reduceAdd, Int.reduceLT, Int.reduceLE, Int.reduceToNat, Nat.reduceMul, Nat.reduceEqDiff, reduceCtorEq, Nat.reduceBEq, Nat.reduceLeDiff, Nat.reduceLT, ai, al, bv, hsB, d1, d2]
        exact W_done ⟨.inr rfl, [], rfl, rfl, rfl⟩
    · have d2 : decide (c < l) = false := decide_eq_false hc
      rw [if_neg hc]
      by_cases he : c = l
      · have d3 : (c == l) = true := by simp [he]
        rw [if_pos he]
        simp (maxSteps := 2000000) only [SA, Nat.reduceDiv, Nat.reduceSub, Nat.reduceAdd, Int.reduceLT, Int.reduceLE, Int.reduceToNat, Nat.reduceMul, Nat.reduceEqDiff, reduceCtorEq, Nat.reduceBEq, Nat.reduceLeDiff, Nat.reduceLT, ai, al, hsB, d1, d2, d3, wm]
        exact W_done ⟨.inr rfl, [], rfl, rfl, rfl⟩
      · have d3 : (c == l) = false := by rw [beq_eq_false_iff_ne]; exact he
        rw [if_neg he]
        simp (maxSteps := 2000000) only [SA, Nat.reduceDiv, Nat.reduceSub, Nat.reduceAdd, Int.reduceLT, Int.reduceLE, Int.reduceToNat, Nat.reduceMul, Nat.reduceEqDiff, reduceCtorEq, Nat.reduceBEq, Nat.reduceLeDiff, Nat.reduceLT, ai, al, hsB, d1, d2, d3]
        exact W_done ⟨.inr rfl, [], rfl, rfl, rfl⟩
theorem hsB_look (s : Bs) (T : List (Nat × Nat × Option Ob)) (j : Nat) (h : 1000 ≤ j) : Go.Proofs.Eng.look (hsB s ++ T) j = Go.Proofs.Eng.look T j := by
  unfold hsB
  simp only [List.cons_append, List.nil_append, Go.Proofs.Eng.look]
  rw [if_neg (by omega), if_neg (by omega), if_neg (by omega)]
theorem hsB_put (s : Bs) (T : List (Nat × Nat × Option Ob)) (j : Nat) (v : Nat × Option Ob) (h : 1000 ≤ j) : Go.Proofs.Eng.putAt (hsB s ++ T) j v = hsB s ++ Go.Proofs.Eng.putAt T j v := by
  unfold hsB
  simp only [List.cons_append, List.nil_append, Go.Proofs.Eng.putAt]
  rw [if_neg (by omega), if_neg (by omega), if_neg (by omega), if_neg (by omega), if_neg (by omega), if_neg (by omega)]
theorem visB {V : Int} {w : List Int} (hg : gX V w) : Vis V w 45 cpB hsB (upB (pf w) V w.length) gdB where
  call := by kernel_rfl
  l1 := fun s T => hsB_look s T 1004 (by omega)
  l2 := fun s T => hsB_look s T 1045 (by omega)
  l3 := fun s T => hsB_look s T 1052 (by omega)
  p2 := fun s T v => hsB_put s T 1045 v (by omega)
  p3 := fun s T v => hsB_put s T 1052 v (by omega)
  run := fun s E p r r' h1 h2 => best1_run hg s E p r r' h1 h2
  gm := fun s j k h1 h2 => by unfold gdB at *; omega
  gs := fun s k E h => by
    unfold gdB upB at *
    have : (comb s (sg1 (csF (pf w) V w.length 0 E) E)).m ≤ s.m + 1 := by
      unfold comb sg1
      simp only [Nat.succ_ne_zero, if_false]
      split
      · simp only; omega
      · split
        · simp only; omega
        · split
          · simp only; omega
          · omega
    omega
theorem three_look (a b c : Nat × Option Ob) (j : Nat) : Go.Proofs.Eng.look [(2, a), (3, b), (4, c)] j = Go.Proofs.Eng.look ([(2, a), (3, b), (4, c)] ++ [(1004, (0, none)), (1045, (0, none)), (1052, (0, none))]) j := by
  simp only [List.cons_append, List.nil_append, Go.Proofs.Eng.look]
  by_cases h2 : 2 = j
  · simp [h2]
  · by_cases h3 : 3 = j
    · simp [h2, h3]
    · by_cases h4 : 4 = j
      · simp [h2, h3, h4]
      · by_cases h5 : 1004 = j
        · subst h5; simp
        · by_cases h6 : 1045 = j
          · subst h6; simp
          · by_cases h7 : 1052 = j
            · subst h7; simp
            · simp [h2, h3, h4, h5, h6, h7]
theorem best_run {V : Int} {w : List Int} (hg : gX V w) (f : Bool) {L C : Nat → Int} {N : Nat → Nat} (hA : Ahead (pf w) V w.length L C N) :
    Runs Try.prog xf 13 [tx f V w] (.tup [al false (nl (way N w.length w.length 0)), ai (L 0), ai (C 0)]) := by
  have n10 := hg.n10
  have hlen := alE_len (q := pf w) (V := V) (n := w.length) n10 w.length 0 (by omega)
  have h10 := p11_10 (k := w.length - 0) (by omega)
  obtain ⟨r, r', hrun⟩ := each_run f hg (visB hg) e0 (by unfold gdB e0; simp only; omega) (fun v T => hsB_put e0 T 1004 v (by omega)) (fun j => three_look _ _ _ j)
  have hF := FB_all hg.pos n10 hA w.length 0 (by omega) (Nat.zero_le _)
  have hfold : fold (upB (pf w) V w.length) [] e0 (alE (pf w) V w.length w.length 0) = FB (csF (pf w) V w.length 0) e0 (alE (pf w) V w.length w.length 0) := by
    unfold fold FB upB
    simp only [List.nil_append]
  rw [hfold, hF] at hrun
  have hC := hA.pos n10 w.length 0 (by omega) (Nat.zero_le _)
  have hCn : ((C 0).toNat : Int) = C 0 := by omega
  unfold hpP hsB at hrun
  simp only [hCn] at hrun
  refine Runs.ofW (fn := xf13) 20 (by kernel_rfl) (W_run 120 ?_)
  simp (maxSteps := 2000000) only [SA, Nat.reduceDiv, Nat.reduceSub, Nat.reduceAdd, Int.reduceLT, Int.reduceLE, Int.reduceToNat, Nat.reduceMul, Nat.reduceEqDiff, reduceCtorEq, Nat.reduceBEq, Nat.reduceLeDiff, Nat.reduceLT, xf13, ai, al, tx, List.map_cons, List.map_nil]
  refine W_callR (kb' := 1000) (args := [tx f V w, .fn 45 cpB]) rfl hrun rfl (W_run 120 ?_)
  simp (maxSteps := 2000000) only [SA, Nat.reduceDiv, Nat.reduceSub, Nat.reduceAdd, Int.reduceLT, Int.reduceLE, Int.reduceToNat, Nat.reduceMul, Nat.reduceEqDiff, reduceCtorEq, Nat.reduceBEq, Nat.reduceLeDiff, Nat.reduceLT, ai, al, bv, List.cons_append, List.nil_append]
  refine W_frF [.rk 2, .rk 3, .rk 4, .wk 2, .wk 3, .wk 4] (by kernel_rfl) (W_run 120 ?_)
  simp (maxSteps := 2000000) only [SA, Nat.reduceDiv, Nat.reduceSub, Nat.reduceAdd, Int.reduceLT, Int.reduceLE, Int.reduceToNat, Nat.reduceMul, Nat.reduceEqDiff, reduceCtorEq, Nat.reduceBEq, Nat.reduceLeDiff, Nat.reduceLT, ai, al]
  exact W_ret1 (WX_nil ⟨.inl rfl, _, rfl, by
    show ([al false (nl (way N w.length w.length 0)), ai (L 0), ai (C 0)].mapM (reify _ 19)).map AV.tup = _
    rw [List.mapM_cons, List.mapM_cons, List.mapM_cons, reify_al]; rfl⟩)
end Go.Proofs.Ytdmffkknghianaa

