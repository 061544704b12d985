/-
  All ends are tried (the law's each), for any visit.
-/
import Derived.Test.YtdmffkknghianaaGC
import Derived.Test.YtdmffkknghianaaMr
set_option linter.unusedSimpArgs false
set_option linter.unusedVariables false
namespace Go.Proofs.Ytdmffkknghianaa
open Go Go.Proofs.Eng
set_option maxRecDepth 100000
set_option maxHeartbeats 4000000
mutual
def alE (q : Nat → Int) (V : Int) (n : Nat) : Nat → Nat → List (List Nat)
  | 0, _ => [[]]
  | k + 1, i => if i = n then [[]] else (List.range' (i + 1) (n - i)).flatMap fun j => if fit q V i j = true then (alE q V n k j).map (j :: ·) else []
end
def alG (q : Nat → Int) (V : Int) (n k i j : Nat) : List (List Nat) := if fit q V i j = true then (alE q V n k j).map (j :: ·) else []
theorem alE_z (q : Nat → Int) (V : Int) (n i : Nat) : alE q V n 0 i = [[]] := by rw [alE]
theorem alE_n (q : Nat → Int) (V : Int) (n k : Nat) : alE q V n (k + 1) n = [[]] := by rw [alE, if_pos rfl]
theorem alE_s {q : Nat → Int} {V : Int} {n k i : Nat} (h : i ≠ n) : alE q V n (k + 1) i = (List.range' (i + 1) (n - i)).flatMap (alG q V n k i) := by rw [alE, if_neg h]; rfl
/-- a visit: what it keeps, and what it needs -/
structure Vis {σ : Type} (V : Int) (w : List Int) (vN : Nat) (vc : List AV) (hs : σ → Heap) (up : σ → List Nat → σ) (gd : σ → Nat → Prop) : Prop where
  call : callable Try.prog vN = true
  l1 : ∀ s T, Go.Proofs.Eng.look (hs s ++ T) 1004 = Go.Proofs.Eng.look T 1004
  l2 : ∀ s T, Go.Proofs.Eng.look (hs s ++ T) 1045 = Go.Proofs.Eng.look T 1045
  l3 : ∀ s T, Go.Proofs.Eng.look (hs s ++ T) 1052 = Go.Proofs.Eng.look T 1052
  p2 : ∀ s T v, Go.Proofs.Eng.putAt (hs s ++ T) 1045 v = hs s ++ Go.Proofs.Eng.putAt T 1045 v
  p3 : ∀ s T v, Go.Proofs.Eng.putAt (hs s ++ T) 1052 v = hs s ++ Go.Proofs.Eng.putAt T 1052 v
  run : ∀ s E p r r', gd s 1 → fE (pf w) V w.length E = 0 → RunsR Try.prog xf 1000 vN (al false (nl E) :: al false (lftL (pf w) V E) :: vc) (hs s ++ [(1004, p), (1045, r), (1052, r')]) (.tup []) (hs (up s E) ++ [(1004, p), (1045, r), (1052, r')])
  gm : ∀ s j k, gd s k → j ≤ k → gd s j
  gs : ∀ s k E, gd s (k + 1) → gd (up s E) k
inductive LS (key : Nat) (L : List Int) : AV → Nat × Option Ob → Prop
  | a (r : Nat × Option Ob) (h : L = []) : LS key L nilA r
  | b (g : Nat) (h : L ≠ []) : LS key L (.os key g L.length 1 0 L.length) (g, some ⟨3, 1, L.map ai⟩)
def dv (L : List Int) : AV := match L with | [] => nilA | x :: t => al false (x :: t)
theorem toData_ne (g n s g' v s' lo m : Nat) (xs : List AV) : toData 1045 g n s xs (.os 1052 g' v s' lo m) = .os 1052 g' v s' lo m := by
  simp only [toData]
  rw [if_neg (fun h => by have := h.1; omega)]
theorem call_put : callable Try.prog 54 = true := by kernel_rfl
section
variable {σ : Type} {V : Int} {w : List Int} {vN : Nat} {vc : List AV} {hs : σ → Heap} {up : σ → List Nat → σ} {gd : σ → Nat → Prop}
def fold (up : σ → List Nat → σ) (L : List Nat) (s : σ) (l : List (List Nat)) : σ := l.foldl (fun s t => up s (L ++ t)) s
theorem fold_gd (hv : Vis V w vN vc hs up gd) (L : List Nat) : ∀ (l : List (List Nat)) (s : σ) (k : Nat), gd s (l.length + k) → gd (fold up L s l) k
  | [], s, k, h => by rw [List.length_nil, Nat.zero_add] at h; exact h
  | E :: l, s, k, h => by
    have h1 := hv.gs s (l.length + k) (L ++ E) (by rw [List.length_cons] at h; rwa [show l.length + k + 1 = l.length + 1 + k by omega])
    exact fold_gd hv L l _ k h1
def cpG (f : Bool) (V : Int) (w : List Int) (vN : Nat) (vc : List AV) : List AV := [.ptr (tx f V w), .ptr (.fn vN vc), .o 1004 1 1 0 0]
def hpP (f : Bool) (V : Int) (w : List Int) (vN : Nat) (vc : List AV) (hs : σ → Heap) (s : σ) (r r' : Nat × Option Ob) : Heap := hs s ++ [(1004, (1, some ⟨81, 1, [.fn 54 (cpG f V w vN vc)]⟩)), (1045, r), (1052, r')]
def PutP (f : Bool) (V : Int) (w : List Int) (vN : Nat) (vc : List AV) (hs : σ → Heap) (up : σ → List Nat → σ) (gd : σ → Nat → Prop) (k b : Nat) : Prop := ∀ (E : List Nat) (s : σ) (l1 l2 : AV) (r r' : Nat × Option Ob), PreOk (pf w) V w.length E b → E.length ≤ b → LS 1045 (nl E) l1 r → LS 1052 (lftL (pf w) V E) l2 r' → gd s (alE (pf w) V w.length k b).length →
  ∃ q q', RunsR Try.prog xf 1000 54 (l1 :: l2 :: ai b :: cpG f V w vN vc) (hpP f V w vN vc hs s r r') (.tup []) (hpP f V w vN vc hs (fold up E s (alE (pf w) V w.length k b)) q q')
theorem lftL_snoc {q : Nat → Int} {V : Int} {n : Nat} {E : List Nat} {b j : Nat} (h : PreOk q V n E b) : lftL q V (E ++ [j]) = lftL q V E ++ [lf q V b j] := by
  unfold lftL
  rw [h.sp, List.map_append]; rfl
theorem nl_snoc (E : List Nat) (j : Nat) : nl (E ++ [j]) = nl E ++ [(j : Int)] := by unfold nl; simp
theorem put_loop (f : Bool) (hg : gX V w) (hv : Vis V w vN vc hs up gd) (k b : Nat) (hb : b < w.length) (E : List Nat) (hP : PreOk (pf w) V w.length E b) (hEl : E.length ≤ b) (sF : σ) (ih : ∀ j, b < j → j ≤ w.length → PutP f V w vN vc hs up gd k j) (K : List Fr) (Q : Out → Cfg → Prop)
    (hK : ∀ (r r' : Nat × Option Ob) (j : Nat), ∀ j6 j7 j8 j11 j12 j13 j14 j15 j16 j17 j18 j19 j20 j21 j22 j23 j24 j25 j26 j27 j28 j29 j30 j31 j32 j33 j34 j35 j36 j37 j38 j39 j40 j41 j42 j43 j44 j45 j46 j47 j48 j49 j50 j51 j52 j53 j54 : AV, W Try.prog (RelU Try.prog xf) 1000 K ⟨((dv (nl E)) :: (dv (lftL (pf w) V E)) :: (ai b) :: (.ptr (tx f V w)) :: (.ptr (.fn vN vc)) :: (.o 1004 1 1 0 0) :: j6 :: j7 :: j8 :: (ai E.length) :: (ai j) :: j11 :: j12 :: j13 :: j14 :: j15 :: j16 :: j17 :: j18 :: j19 :: j20 :: j21 :: j22 :: j23 :: j24 :: j25 :: j26 :: j27 :: j28 :: j29 :: j30 :: j31 :: j32 :: j33 :: j34 :: j35 :: j36 :: j37 :: j38 :: j39 :: j40 :: j41 :: j42 :: j43 :: j44 :: j45 :: j46 :: j47 :: j48 :: j49 :: j50 :: j51 :: j52 :: j53 :: j54 :: []), hpP f V w vN vc hs sF r r'⟩ Q) :
    ∀ (m j : Nat), j + m = w.length + 1 → b < j → ∀ (s : σ) (g : Nat) (o : Option Ob) (g' : Nat) (o' : Option Ob), fold up E s ((List.range' j m).flatMap (alG (pf w) V w.length k b)) = sF → gd s ((List.range' j m).flatMap (alG (pf w) V w.length k b)).length →
      ∀ j6 j7 j8 j11 j12 j13 j14 j15 j16 j17 j18 j19 j20 j21 j22 j23 j24 j25 j26 j27 j28 j29 j30 j31 j32 j33 j34 j35 j36 j37 j38 j39 j40 j41 j42 j43 j44 j45 j46 j47 j48 j49 j50 j51 j52 j53 j54 : AV, W Try.prog (RelU Try.prog xf) 1000 (.code (.loop xf54_L0) :: .blk 0 :: .stop :: K) ⟨((dv (nl E)) :: (dv (lftL (pf w) V E)) :: (ai b) :: (.ptr (tx f V w)) :: (.ptr (.fn vN vc)) :: (.o 1004 1 1 0 0) :: j6 :: j7 :: j8 :: (ai E.length) :: (ai j) :: j11 :: j12 :: j13 :: j14 :: j15 :: j16 :: j17 :: j18 :: j19 :: j20 :: j21 :: j22 :: j23 :: j24 :: j25 :: j26 :: j27 :: j28 :: j29 :: j30 :: j31 :: j32 :: j33 :: j34 :: j35 :: j36 :: j37 :: j38 :: j39 :: j40 :: j41 :: j42 :: j43 :: j44 :: j45 :: j46 :: j47 :: j48 :: j49 :: j50 :: j51 :: j52 :: j53 :: j54 :: []), hpP f V w vN vc hs s (g, o) (g', o')⟩ Q := by
  have n10 := hg.n10
  obtain ⟨hcl, hl1, hl2, hl3, hp2, hp3, hrn, hgm, hgs⟩ := hv
  have hv : Vis V w vN vc hs up gd := ⟨hcl, hl1, hl2, hl3, hp2, hp3, hrn, hgm, hgs⟩
  intro m
  induction m with
  | zero =>
    intro j hj hbj s g o g' o' h1 h2 j6 j7 j8 j11 j12 j13 j14 j15 j16 j17 j18 j19 j20 j21 j22 j23 j24 j25 j26 j27 j28 j29 j30 j31 j32 j33 j34 j35 j36 j37 j38 j39 j40 j41 j42 j43 j44 j45 j46 j47 j48 j49 j50 j51 j52 j53 j54
    have d0 : decide ((j : Int) ≤ (w.length : Int)) = false := decide_eq_false (by omega)
    have hst : s = sF := h1
    subst hst
    have hK := hK (g, o) (g', o') j
    generalize dv (nl E) = dl at *
    generalize dv (lftL (pf w) V E) = dl2 at *
    refine W_loop (W_run 80 ?_)
    simp (maxSteps := 2000000) only [SA, Nat.reduceDiv, Nat.reduceSub, Nat.reduceAdd, Int.reduceLT, Int.reduceLE, Int.reduceToNat, Nat.reduceMul, Nat.reduceEqDiff, reduceCtorEq, Nat.reduceBEq, Nat.reduceLeDiff, Nat.reduceLT, xf54_L0, ai, al, tx, d0]
    exact W_stop (hK _ _ _ _ _ _ _ _ _ _ _ _ _ _ _ _ _ _ _ _ _ _ _ _ _ _ _ _ _ _ _ _ _ _ _ _ _ _ _ _ _ _ _ _ _ _ _)
  | succ m ihm =>
    intro j hj hbj s g o g' o' h1 h2 j6 j7 j8 j11 j12 j13 j14 j15 j16 j17 j18 j19 j20 j21 j22 j23 j24 j25 j26 j27 j28 j29 j30 j31 j32 j33 j34 j35 j36 j37 j38 j39 j40 j41 j42 j43 j44 j45 j46 j47 j48 j49 j50 j51 j52 j53 j54
    have d0 : decide ((j : Int) ≤ (w.length : Int)) = true := decide_eq_true (by omega)
    have wx : IntKind.i64.wrap ((j : Int) + 1) = ((j + 1 : Nat) : Int) := by rw [wrap_id (by omega) (by omega)]; simp
    have hlf := lleft_run hg f (i := b) (j := j) hbj (by omega)
    rw [List.range'_succ, List.flatMap_cons] at h1 h2
    cases hf : fit (pf w) V b j with
    | false =>
      have hcg : alG (pf w) V w.length k b j = [] := by unfold alG; rw [hf, if_neg (by simp)]
      rw [hcg, List.nil_append] at h1 h2
      have d : decide (0 ≤ lf (pf w) V b j) = false := decide_eq_false fun h => by rw [fit_iff.2 h] at hf; cases hf
      have next := ihm (j + 1) (by omega) (by omega) s g o g' o' h1 h2
      generalize dv (nl E) = dl at *
      generalize dv (lftL (pf w) V E) = dl2 at *
      refine W_loop (W_run 80 ?_)
      simp (maxSteps := 2000000) only [SA, Nat.reduceDiv, Nat.reduceSub, Nat.reduceAdd, Int.reduceLT, Int.reduceLE, Int.reduceToNat, Nat.reduceMul, Nat.reduceEqDiff, reduceCtorEq, Nat.reduceBEq, Nat.reduceLeDiff, Nat.reduceLT, xf54_L0, ai, al, tx, d0]
      refine W_call (args := [tx f V w, ai b, ai j]) rfl (noRefs_3 (noRef_tx _ _ _) rfl rfl) hlf rfl (W_run 80 ?_)
      simp (maxSteps := 2000000) only [SA, Nat.reduceDiv, Nat.reduceSub, Nat.reduceAdd, Int.reduceLT, Int.reduceLE, Int.reduceToNat, Nat.reduceMul, Nat.reduceEqDiff, reduceCtorEq, Nat.reduceBEq, Nat.reduceLeDiff, Nat.reduceLT, ai, al, tx, d, wx]
      exact next _ _ _ _ _ _ _ _ _ _ _ _ _ _ _ _ _ _ _ _ _ _ _ _ _ _ _ _ _ _ _ _ _ _ _ _ _ _ _ _ _ _ _ _ _ _ _
    | true =>
      have hcg : alG (pf w) V w.length k b j = (alE (pf w) V w.length k j).map (j :: ·) := by unfold alG; rw [hf, if_pos rfl]
      have d : decide (0 ≤ lf (pf w) V b j) = true := decide_eq_true (fit_iff.1 hf)
      rw [hcg, List.length_append, List.length_map] at h2
      have hfold : fold up E s ((alE (pf w) V w.length k j).map (j :: ·)) = fold up (E ++ [j]) s (alE (pf w) V w.length k j) := by
        unfold fold
        rw [List.foldl_map]
        simp only [List.append_assoc, List.cons_append, List.nil_append]
      have h1' : fold up E (fold up (E ++ [j]) s (alE (pf w) V w.length k j)) ((List.range' (j + 1) m).flatMap (alG (pf w) V w.length k b)) = sF := by
        rw [← hfold, ← h1, hcg]
        unfold fold
        rw [List.foldl_append]
      have hgd := fold_gd hv (E ++ [j]) (alE (pf w) V w.length k j) s _ h2
      have hih := ih j hbj (by omega) (E ++ [j]) s
      have next := fun r r' : Nat × Option Ob => ihm (j + 1) (by omega) (by omega) (fold up (E ++ [j]) s (alE (pf w) V w.length k j)) r.1 r.2 r'.1 r'.2 h1' hgd
      have hP2 := hP.step hbj (by omega) hf
      have hgd1 := hgm s _ _ h2 (Nat.le_add_right _ _)
      rw [nl_snoc, lftL_snoc hP] at hih
      have hel : (nl E).length = E.length := nl_len E
      have hel2 : (lftL (pf w) V E).length = E.length := by unfold lftL; rw [List.length_map, spE_len]
      generalize fold up (E ++ [j]) s (alE (pf w) V w.length k j) = s' at *
      generalize nl E = X at *
      generalize lftL (pf w) V E = Y at *
      cases X with
      | nil =>
        cases Y with
        | cons y Y => simp at hel hel2; omega
        | nil =>
          have hE0 : E.length = 0 := by simpa using hel.symm
          obtain ⟨r, r', hrun⟩ := hih (.os 1045 (g + 1) 1 1 0 1) (.os 1052 (g' + 1) 1 1 0 1) (g + 1, some ⟨3, 1, [ai j]⟩) (g' + 1, some ⟨3, 1, [ai (lf (pf w) V b j)]⟩) hP2 (by simp; omega) (.b (L := [(j : Int)]) (g + 1) (by simp)) (.b (L := [lf (pf w) V b j]) (g' + 1) (by simp)) hgd1
          have next := next r r'
          simp only [dv, hE0] at next ⊢
          refine W_loop (W_run 160 ?_)
          simp (maxSteps := 2000000) only [SA, Nat.reduceDiv, Nat.reduceSub, Nat.reduceAdd, Int.reduceLT, Int.reduceLE, Int.reduceToNat, Nat.reduceMul, Nat.reduceEqDiff, reduceCtorEq, Nat.reduceBEq, Nat.reduceLeDiff, Nat.reduceLT, xf54_L0, ai, al, tx, nilA, d0]
          refine W_call (args := [tx f V w, ai b, ai j]) rfl (noRefs_3 (noRef_tx _ _ _) rfl rfl) hlf rfl (W_run 80 ?_)
          simp (maxSteps := 2000000) only [SA, Nat.reduceDiv, Nat.reduceSub, Nat.reduceAdd, Int.reduceLT, Int.reduceLE, Int.reduceToNat, Nat.reduceMul, Nat.reduceEqDiff, reduceCtorEq, Nat.reduceBEq, Nat.reduceLeDiff, Nat.reduceLT, ai, al, tx, nilA, d, hpP, hl1, hl2, hl3, hp2, hp3]
          refine W_frF [.rk 1004, .none, .none, .none, .none, .none, .none, .wk 1045, .none, .none, .none, .none, .none, .none, .wk 1052, .none, .any] (by kernel_rfl) (W_run 160 ?_)
          simp (maxSteps := 2000000) only [SA, Nat.reduceDiv, Nat.reduceSub, Nat.reduceAdd, Int.reduceLT, Int.reduceLE, Int.reduceToNat, Nat.reduceMul, Nat.reduceEqDiff, reduceCtorEq, Nat.reduceBEq, Nat.reduceLeDiff, Nat.reduceLT, ai, al, tx, nilA, cpG, hl1, hl2, hl3, hp2, hp3, Go.Proofs.Eng.elems, List.map_cons, List.map_nil, List.nil_append]
          refine W_callvR (kb' := 1000) (caps := cpG f V w vN vc) rfl call_put rfl hrun rfl (W_run 160 ?_)
          simp (maxSteps := 2000000) only [SA, Nat.reduceDiv, Nat.reduceSub, Nat.reduceAdd, Int.reduceLT, Int.reduceLE, Int.reduceToNat, Nat.reduceMul, Nat.reduceEqDiff, reduceCtorEq, Nat.reduceBEq, Nat.reduceLeDiff, Nat.reduceLT, ai, nilA, tx, al, hpP, wx]
          exact next _ _ _ _ _ _ _ _ _ _ _ _ _ _ _ _ _ _ _ _ _ _ _ _ _ _ _ _ _ _ _ _ _ _ _ _ _ _ _ _ _ _ _ _ _ _ _
      | cons x X =>
        cases Y with
        | nil => simp at hel hel2; omega
        | cons y Y =>
          have hX : X.length + 1 = E.length := by simpa using hel
          have hY : Y.length + 1 = E.length := by simpa using hel2
          have q1 : (X.length + 1 + 1) * 8 ≤ 100000000000000 := by omega
          have q2 : X.length + 1 + 1 ≤ 100000000000000 := by omega
          have q3 : (Y.length + 1 + 1) * 8 ≤ 100000000000000 := by omega
          have q4 : Y.length + 1 + 1 ≤ 100000000000000 := by omega
          have tk1 : List.take X.length (X.map ai) = X.map ai := List.take_of_length_le (by simp)
          have tk2 : List.take X.length (Y.map ai) = Y.map ai := List.take_of_length_le (by simp; omega)
          have eYX : Y.length = X.length := by omega
          obtain ⟨r, r', hrun⟩ := hih (.os 1045 (g + 1) (X.length + 1 + 1) 1 0 (X.length + 1 + 1)) (.os 1052 (g' + 1) (X.length + 1 + 1) 1 0 (X.length + 1 + 1)) (g + 1, some ⟨3, 1, ai x :: (X.map ai ++ [ai j])⟩) (g' + 1, some ⟨3, 1, ai y :: (Y.map ai ++ [ai (lf (pf w) V b j)])⟩) hP2 (by simp; omega) (by
            have := LS.b (key := 1045) (L := x :: X ++ [(j : Int)]) (g + 1) (by simp)
            simpa using this) (by
            have := LS.b (key := 1052) (L := y :: Y ++ [lf (pf w) V b j]) (g' + 1) (by simp)
            simpa [eYX] using this) hgd1
          have next := next r r'
          rw [← hX] at next ⊢
          simp only [dv, al, List.map_cons] at next ⊢
          refine W_loop (W_run 160 ?_)
          simp (maxSteps := 2000000) only [SA, Nat.reduceDiv, Nat.reduceSub, Nat.reduceAdd, Int.reduceLT, Int.reduceLE, Int.reduceToNat, Nat.reduceMul, Nat.reduceEqDiff, reduceCtorEq, Nat.reduceBEq, Nat.reduceLeDiff, Nat.reduceLT, xf54_L0, ai, tx, al, d0]
          refine W_call (args := [tx f V w, ai b, ai j]) rfl (noRefs_3 (noRef_tx _ _ _) rfl rfl) hlf rfl (W_run 80 ?_)
          simp (maxSteps := 2000000) only [SA, Nat.reduceDiv, Nat.reduceSub, Nat.reduceAdd, Int.reduceLT, Int.reduceLE, Int.reduceToNat, Nat.reduceMul, Nat.reduceEqDiff, reduceCtorEq, Nat.reduceBEq, Nat.reduceLeDiff, Nat.reduceLT, ai, tx, al, d, hpP, hl1, hl2, hl3, hp2, hp3]
          refine W_frF [.rk 1004, .none, .none, .none, .none, .none, .none, .wk 1045, .none, .none, .none, .none, .none, .none, .wk 1052, .none, .any] (by kernel_rfl) (W_run 160 ?_)
          simp (maxSteps := 2000000) only [SA, Nat.reduceDiv, Nat.reduceSub, Nat.reduceAdd, Int.reduceLT, Int.reduceLE, Int.reduceToNat, Nat.reduceMul, Nat.reduceEqDiff, reduceCtorEq, Nat.reduceBEq, Nat.reduceLeDiff, Nat.reduceLT, ai, tx, al, cpG, hl1, hl2, hl3, hp2, hp3, q1, q2, q3, q4, tk1, tk2, eYX, Go.Proofs.Eng.elems, Go.Proofs.Eng.fullOf, List.map_cons, List.map_nil, List.nil_append, ne_eq, not_false_eq_true]
          refine W_callvR (kb' := 1000) (caps := cpG f V w vN vc) rfl call_put rfl hrun rfl (W_run 160 ?_)
          simp (maxSteps := 2000000) only [SA, Nat.reduceDiv, Nat.reduceSub, Nat.reduceAdd, Int.reduceLT, Int.reduceLE, Int.reduceToNat, Nat.reduceMul, Nat.reduceEqDiff, reduceCtorEq, Nat.reduceBEq, Nat.reduceLeDiff, Nat.reduceLT, ai, tx, al, hpP, wx]
          exact next _ _ _ _ _ _ _ _ _ _ _ _ _ _ _ _ _ _ _ _ _ _ _ _ _ _ _ _ _ _ _ _ _ _ _ _ _ _ _ _ _ _ _ _ _ _ _
def PutG (f : Bool) (V : Int) (w : List Int) (vN : Nat) (vc : List AV) (hs : σ → Heap) (s : σ) (o : Out) (c : Cfg) : Prop := (o = .ret ∨ o = .normal) ∧ ∃ r r', c.η = hpP f V w vN vc hs s r r'
theorem PutG.run {f : Bool} {s : σ} {args : List AV} {η : Heap}
    (h : W Try.prog (RelU Try.prog xf) 1000 [.code xf54.body] (Go.Proofs.Eng.start xf54 args η) (PutG f V w vN vc hs s)) :
    ∃ r r', RunsR Try.prog xf 1000 54 args η (.tup []) (hpP f V w vN vc hs s r r') := by
  obtain ⟨o, c, h1, ho, r, r', e⟩ := h
  exact ⟨r, r', RunsR.ofW (fn := xf54) (by kernel_rfl) ⟨o, c, h1, ho, [], rfl, rfl, e.symm⟩⟩
theorem put_all (f : Bool) (hg : gX V w) (hv : Vis V w vN vc hs up gd) : ∀ (k b : Nat), w.length - b ≤ k → b ≤ w.length → PutP f V w vN vc hs up gd k b := by
  have n1 := hg.n1
  have n10 := hg.n10
  obtain ⟨hcl, hl1, hl2, hl3, hp2, hp3, hrn, hgm, hgs⟩ := hv
  have hv : Vis V w vN vc hs up gd := ⟨hcl, hl1, hl2, hl3, hp2, hp3, hrn, hgm, hgs⟩
  have fin : ∀ (k b : Nat), b = w.length → alE (pf w) V w.length k b = [[]] → PutP f V w vN vc hs up gd k b := by
    intro k b hbn hal E s l1 l2 r r' hP hEl h1 h2 hgd
    subst hbn
    rw [hal] at hgd ⊢
    have hE0 := hP.fin
    have hEne : E ≠ [] := fun h => by
      subst h
      have := hP.er []
      rw [List.append_nil, eE, eE, if_pos rfl] at this
      split at this
      · omega
      · cases this
    have hel : (nl E).length = E.length := nl_len E
    have hel2 : (lftL (pf w) V E).length = E.length := by unfold lftL; rw [List.length_map, spE_len]
    have e1 : ((w.length : Int) == (w.length : Int)) = true := by simp
    have hfo : fold up E s [[]] = up s E := by unfold fold; simp
    rw [hfo]
    cases h1 with
    | a r h => rw [h] at hel; exact absurd (List.length_eq_zero_iff.1 (by simpa using hel.symm)) hEne
    | b g h =>
      cases h2 with
      | a r h => rw [h] at hel2; exact absurd (List.length_eq_zero_iff.1 (by simpa using hel2.symm)) hEne
      | b g' h' =>
        have hrun := hrn s E (1, some ⟨81, 1, [.fn 54 (cpG f V w vN vc)]⟩) (g, none) (g', none) (hgm s 1 _ hgd (by simp)) hE0
        generalize up s E = s' at *
        generalize nl E = X at *
        generalize lftL (pf w) V E = Y at *
        refine PutG.run (W_giveC (t := 0) (giveT_row (k := 1045) (g := g) (e := 3) (s := 1) (xs := X.map ai) (n := X.length) rfl (hl2 s _) (by simp)) (W_giveC (t := 1) (giveT_row (k := 1052) (g := g') (e := 3) (s := 1) (xs := Y.map ai) (n := Y.length) rfl (by
          show Go.Proofs.Eng.look (Go.Proofs.Eng.putAt _ _ _) _ = _
          unfold hpP
          rw [hp2, hl3]; rfl) (by simp)) (W_run 120 ?_)))
        simp (maxSteps := 2000000) only [SA, Nat.reduceDiv, Nat.reduceSub, Nat.reduceAdd, Int.reduceLT, Int.reduceLE, Int.reduceToNat, Nat.reduceMul, Nat.reduceEqDiff, reduceCtorEq, Nat.reduceBEq, Nat.reduceLeDiff, Nat.reduceLT, xf54, ai, al, tx, hpP, cpG, hl1, hl2, hl3, hp2, hp3, e1, toData_os, toData_v, toData_ptr, toData_o, toData_sl, toData_ne, Go.Proofs.Eng.putAt, List.map_cons, List.map_nil]
        refine W_callvR (kb' := 1000) (caps := vc) rfl hcl rfl hrun rfl (W_run 120 ?_)
        simp (maxSteps := 2000000) only [SA, Nat.reduceDiv, Nat.reduceSub, Nat.reduceAdd, Int.reduceLT, Int.reduceLE, Int.reduceToNat, Nat.reduceMul, Nat.reduceEqDiff, reduceCtorEq, Nat.reduceBEq, Nat.reduceLeDiff, Nat.reduceLT, ai, hpP]
        exact W_ret1 (WX_pop (WX_nil ⟨.inl rfl, (g, none), (g', none), rfl⟩))
  intro k
  induction k with
  | zero => intro b hb1 hb2; exact fin 0 b (by omega) (alE_z _ _ _ _)
  | succ k ihk =>
    intro b hb1 hb2
    by_cases hbn : b = w.length
    · exact fin (k + 1) b hbn (by rw [hbn]; exact alE_n _ _ _ _)
    · intro E s l1 l2 r r' hP hEl h1 h2 hgd
      have hlt : b < w.length := by omega
      have e1 : ((b : Int) == (w.length : Int)) = false := by rw [beq_eq_false_iff_ne]; omega
      have wf : IntKind.i64.wrap ((b : Int) + 1) = ((b + 1 : Nat) : Int) := by rw [wrap_id (by omega) (by omega)]; simp
      have hih : ∀ j, b < j → j ≤ w.length → PutP f V w vN vc hs up gd k j := fun j a c => ihk j (by omega) c
      have hrec := alE_s (q := pf w) (V := V) (n := w.length) (k := k) (i := b) hbn
      rw [hrec] at hgd
      have hlp := put_loop f hg hv k b hlt E hP hEl (fold up E s (alE (pf w) V w.length (k + 1) b)) hih [] (PutG f V w vN vc hs (fold up E s (alE (pf w) V w.length (k + 1) b))) (fun r r' j j6 j7 j8 j11 j12 j13 j14 j15 j16 j17 j18 j19 j20 j21 j22 j23 j24 j25 j26 j27 j28 j29 j30 j31 j32 j33 j34 j35 j36 j37 j38 j39 j40 j41 j42 j43 j44 j45 j46 j47 j48 j49 j50 j51 j52 j53 j54 => W_done ⟨.inr rfl, r, r', rfl⟩) (w.length - b) (b + 1) (by omega) (by omega) s
      rw [← hrec] at hlp hgd
      have hel : (nl E).length = E.length := nl_len E
      have hel2 : (lftL (pf w) V E).length = E.length := by unfold lftL; rw [List.length_map, spE_len]
      generalize fold up E s (alE (pf w) V w.length (k + 1) b) = s' at *
      generalize nl E = X at *
      generalize lftL (pf w) V E = Y at *
      cases h1 with
      | a r h =>
        subst h
        cases h2 with
        | b g h => exact absurd (List.length_eq_zero_iff.1 (by rw [hel2, ← hel]; rfl)) h
        | a r' h =>
          subst h
          obtain ⟨g, o⟩ := r
          obtain ⟨g', o'⟩ := r'
          have hlp := hlp g o g' o' rfl hgd
          have hE0 : E.length = 0 := by simpa using hel.symm
          rw [hE0] at hlp
          simp only [dv] at hlp
          refine PutG.run (W_run 120 ?_)
          simp (maxSteps := 2000000) only [SA, Nat.reduceDiv, Nat.reduceSub, Nat.reduceAdd, Int.reduceLT, Int.reduceLE, Int.reduceToNat, Nat.reduceMul, Nat.reduceEqDiff, reduceCtorEq, Nat.reduceBEq, Nat.reduceLeDiff, Nat.reduceLT, xf54, ai, al, tx, nilA, cpG, e1, wf]
          exact W_alone (hlp _ _ _ _ _ _ _ _ _ _ _ _ _ _ _ _ _ _ _ _ _ _ _ _ _ _ _ _ _ _ _ _ _ _ _ _ _ _ _ _ _ _ _ _ _ _ _)
      | b g h =>
        cases h2 with
        | a r' h' => exact absurd (List.length_eq_zero_iff.1 (by rw [hel, ← hel2, h']; rfl)) h
        | b g' h' =>
          have hlp := hlp g none g' none rfl hgd
          cases X with
          | nil => exact absurd rfl h
          | cons x X =>
            cases Y with
            | nil => exact absurd rfl h'
            | cons y Y =>
              simp only [dv] at hlp
              rw [← hel] at hlp
              generalize hXX : x :: X = XX at *
              generalize hYY : y :: Y = YY at *
              refine PutG.run (W_giveC (t := 0) (giveT_row (k := 1045) (g := g) (e := 3) (s := 1) (xs := XX.map ai) (n := XX.length) rfl (hl2 s _) (by simp)) (W_giveC (t := 1) (giveT_row (k := 1052) (g := g') (e := 3) (s := 1) (xs := YY.map ai) (n := YY.length) rfl (by
                show Go.Proofs.Eng.look (Go.Proofs.Eng.putAt _ _ _) _ = _
                unfold hpP
                rw [hp2, hl3]; rfl) (by simp)) (W_run 120 ?_)))
              simp (maxSteps := 2000000) only [SA, Nat.reduceDiv, Nat.reduceSub, Nat.reduceAdd, Int.reduceLT, Int.reduceLE, Int.reduceToNat, Nat.reduceMul, Nat.reduceEqDiff, reduceCtorEq, Nat.reduceBEq, Nat.reduceLeDiff, Nat.reduceLT, xf54, ai, al, tx, hpP, cpG, hl1, hl2, hl3, hp2, hp3, e1, wf, toData_os, toData_v, toData_ptr, toData_o, toData_sl, toData_ne, Go.Proofs.Eng.putAt, List.map_cons, List.map_nil]
              exact W_alone (hlp _ _ _ _ _ _ _ _ _ _ _ _ _ _ _ _ _ _ _ _ _ _ _ _ _ _ _ _ _ _ _ _ _ _ _ _ _ _ _ _ _ _ _ _ _ _ _)
theorem each_run (f : Bool) (hg : gX V w) (hv : Vis V w vN vc hs up gd) (s : σ) (hgd : gd s (alE (pf w) V w.length w.length 0).length) (hn : ∀ v T, Go.Proofs.Eng.putAt (hs s ++ T) 1004 v = hs s ++ Go.Proofs.Eng.putAt T 1004 v)
    (hl : ∀ j, Go.Proofs.Eng.look (hs s) j = Go.Proofs.Eng.look (hs s ++ [(1004, (0, none)), (1045, (0, none)), (1052, (0, none))]) j) :
    ∃ r r', RunsR Try.prog xf 1000 30 [tx f V w, .fn vN vc] (hs s) (.tup []) (hpP f V w vN vc hs (fold up [] s (alE (pf w) V w.length w.length 0)) r r') := by
  obtain ⟨hcl, hl1, hl2, hl3, hp2, hp3, hrn, hgm, hgs⟩ := hv
  obtain ⟨r, r', hrun⟩ := put_all f hg ⟨hcl, hl1, hl2, hl3, hp2, hp3, hrn, hgm, hgs⟩ w.length 0 (by omega) (Nat.zero_le _) [] s nilA nilA (0, none) (0, none) (PreOk.nil _ _ _) (Nat.le_refl _) (.a _ rfl) (.a _ rfl) hgd
  refine ⟨r, r', RunsR.ofW (fn := xf30) (by kernel_rfl) (W_named hl (W_run 120 ?_))⟩
  generalize fold up [] s (alE (pf w) V w.length w.length 0) = s' at *
  simp (maxSteps := 2000000) only [SA, Nat.reduceDiv, Nat.reduceSub, Nat.reduceAdd, Int.reduceLT, Int.reduceLE, Int.reduceToNat, Nat.reduceMul, Nat.reduceEqDiff, reduceCtorEq, Nat.reduceBEq, Nat.reduceLeDiff, Nat.reduceLT, xf30, ai, al, tx, hl1, hn, List.map_cons, List.map_nil]
  refine W_callvR (kb' := 1000) (caps := cpG f V w vN vc) rfl call_put rfl hrun rfl (W_run 120 ?_)
  simp (maxSteps := 2000000) only [SA, Nat.reduceDiv, Nat.reduceSub, Nat.reduceAdd, Int.reduceLT, Int.reduceLE, Int.reduceToNat, Nat.reduceMul, Nat.reduceEqDiff, reduceCtorEq, Nat.reduceBEq, Nat.reduceLeDiff, Nat.reduceLT, ai, hpP]
  exact W_done ⟨.inr rfl, [], rfl, rfl, rfl⟩
end
end Go.Proofs.Ytdmffkknghianaa

