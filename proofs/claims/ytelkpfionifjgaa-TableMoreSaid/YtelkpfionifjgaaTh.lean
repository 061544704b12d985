/-
  The walk through the plans within a table, whole; First, Count, Weight, and the list of the plans.
-/
import Derived.Test.YtelkpfionifjgaaTg
set_option linter.unusedSimpArgs false
set_option linter.unusedVariables false
namespace Go.Proofs.Ytelkpfionifjgaa
open Go Go.Proofs.Eng
set_option maxRecDepth 100000
set_option maxHeartbeats 2000000
def FromG (H : List (List Int) → Nat × Option Ob → Heap) (PF : List (List Int)) (o : Out) (c : Cfg) : Prop := (o = .ret ∨ o = .normal) ∧ ∃ r', c.η = H PF r'
theorem FromG.run {H : List (List Int) → Nat × Option Ob → Heap} {PF : List (List Int)} {args : List AV} {η : Heap}
    (h : W Try.prog (RelU Try.prog xf) 1000 [.code xf70.body] (Go.Proofs.Eng.start xf70 args η) (FromG H PF)) :
    ∃ r', RunsR Try.prog xf 1000 70 args η (.tup []) (H PF r') := by
  obtain ⟨o, c, h1, ho, r', e⟩ := h
  exact ⟨r', RunsR.ofW (fn := xf70) (by kernel_rfl) ⟨o, c, h1, ho, [], rfl, rfl, e.symm⟩⟩
theorem from_all {n : Nat} {T : List (List Int)} (hg : gT n T) {fN : Nat} {cs : List AV} {H : List (List Int) → Nat × Option Ob → Heap} (hv : Vis n fN cs H) : ∀ (k : Nat), FromT n T fN cs H k := by
  have hn4 := hg.n4
  have hn1 := hg.n1
  have hlen := hg.len
  have lT : ((T.map (al false)).length : Int) = (n : Int) := by rw [List.length_map, hlen]
  intro k
  induction k with
  | zero =>
    intro L P lav r hL hi hd hls hP hb
    have hLn : L.length = n := by omega
    have e1 : ((L.length : Int) == (T.length : Int)) = true := by rw [hlen, hLn]; simp
    cases hls with
    | a r h => subst h; simp at hLn; omega
    | b g h =>
      have hrun := hv.run P L g (by omega) hP ⟨hLn, hi, hd⟩
      have hpt := hv.pt P
      refine FromG.run (W_giveC (t := 1) (giveT_row (k := 1043) (g := g) (e := 3) (s := 1) (xs := L.map ai) (n := L.length) rfl (hv.lk _ _) (by simp)) (W_run 120 ?_))
      simp (maxSteps := 2000000) only [SA, Nat.reduceDiv, Nat.reduceSub, Nat.reduceAdd, Int.reduceLT, Int.reduceLE, Int.reduceToNat, Nat.reduceMul, Nat.reduceEqDiff, reduceCtorEq, Nat.reduceBEq, Nat.reduceLeDiff, Nat.reduceLT, xf70, ai, aT, wA, e1, hpt, toData_os, toData_v, toData_ptr, toData_o, toData_ag, List.map_cons, List.map_nil]
      refine W_callvR (kb' := 2000) (caps := cs) rfl hv.call rfl hrun rfl (W_run 120 ?_)
      simp (maxSteps := 2000000) only [SA, Nat.reduceDiv, Nat.reduceSub, Nat.reduceAdd, Int.reduceLT, Int.reduceLE, Int.reduceToNat, Nat.reduceMul, Nat.reduceEqDiff, reduceCtorEq, Nat.reduceBEq, Nat.reduceLeDiff, Nat.reduceLT, ai]
      exact W_ret1 (WX_pop (WX_nil ⟨.inl rfl, (g, none), rfl⟩))
  | succ k ih =>
    intro L P lav r hL hi hd hls hP hb
    have e1 : ((L.length : Int) == (T.length : Int)) = false := by rw [beq_eq_false_iff_ne, hlen]; omega
    have hrec := ext_succ n T k L
    have hlp := frm_loop hg hv k L hL hi hd (P ++ ext n T (k + 1) L) (by rw [List.length_append]; exact hb) ih [] (FromG H (P ++ ext n T (k + 1) L)) (fun r' x j3 j5 j6 j7 j8 j9 j10 j11 j12 j13 j14 j15 j16 j17 j18 j21 j22 j23 j24 j25 j26 j27 j28 j29 j30 j31 j32 j33 j34 j35 j36 j37 j38 j39 j40 j41 j42 j43 j44 j45 => W_done ⟨.inr rfl, r', rfl⟩) n 0 (by omega) P
    rw [← hrec] at hlp
    cases hls with
    | a r h =>
      subst h
      obtain ⟨g, o⟩ := r
      have hlp := hlp g o rfl hP
      simp only [dv, wA] at hlp
      have e2 : ((0 : Int) == (T.length : Int)) = false := e1
      refine FromG.run (W_run 120 ?_)
      simp (maxSteps := 2000000) only [SA, Nat.reduceDiv, Nat.reduceSub, Nat.reduceAdd, Int.reduceLT, Int.reduceLE, Int.reduceToNat, Nat.reduceMul, Nat.reduceEqDiff, reduceCtorEq, Nat.reduceBEq, Nat.reduceLeDiff, Nat.reduceLT, xf70, ai, aT, nilA, wA, e2]
      rw [hlen]
      exact W_alone (hlp _ _ _ _ _ _ _ _ _ _ _ _ _ _ _ _ _ _ _ _ _ _ _ _ _ _ _ _ _ _ _ _ _ _ _ _ _ _ _ _)
    | b g h =>
      have hlp := hlp g none rfl hP
      have hpt := hv.pt P
      refine FromG.run (W_giveC (t := 1) (giveT_row (k := 1043) (g := g) (e := 3) (s := 1) (xs := L.map ai) (n := L.length) rfl (hv.lk _ _) (by simp)) (W_run 120 ?_))
      cases L with
      | nil => exact absurd rfl h
      | cons y t =>
        simp only [dv, wA] at hlp
        generalize hLL : y :: t = L at *
        simp (maxSteps := 2000000) only [SA, Nat.reduceDiv, Nat.reduceSub, Nat.reduceAdd, Int.reduceLT, Int.reduceLE, Int.reduceToNat, Nat.reduceMul, Nat.reduceEqDiff, reduceCtorEq, Nat.reduceBEq, Nat.reduceLeDiff, Nat.reduceLT, xf70, ai, aT, wA, e1, hpt, toData_os, toData_v, toData_ptr, toData_o, toData_ag, List.map_cons, List.map_nil]
        rw [hlen]
        exact W_alone (hlp _ _ _ _ _ _ _ _ _ _ _ _ _ _ _ _ _ _ _ _ _ _ _ _ _ _ _ _ _ _ _ _ _ _ _ _ _ _ _ _)
theorem walk_run {n : Nat} {T : List (List Int)} (hg : gT n T) {fN : Nat} {cs : List AV} {H : List (List Int) → Nat × Option Ob → Heap} (hv : Vis n fN cs H) (r : Nat × Option Ob) :
    ∃ r', RunsR Try.prog xf 1000 70 [wA T fN cs, nilA] (H [] r) (.tup []) (H (withP n T) r') := by
  have := from_all hg hv n [] [] nilA r (by simp) (fun c hc => by cases hc) List.nodup_nil (.a r rfl) (fun q hq => by cases hq) (by
    have := withP_len (T := T) hg.n4
    unfold withP at this
    simp; omega)
  exact this
/-! ### Count -/
def hCt (P : List (List Int)) (r : Nat × Option Ob) : Heap := [(5, (1, some ⟨3, 1, [ai P.length]⟩)), (1043, r)]
theorem vis_count (n : Nat) : Vis n 69 [.o 5 1 1 0 0] hCt where
  call := by kernel_rfl
  lk := fun P r => rfl
  pt := fun P r q => rfl
  run := fun P p g hl hP hp => by
    have w1 : IntKind.i64.wrap ((P.length : Int) + 1) = (P.length : Int) + 1 := by rw [wrap_id (by omega) (by omega)]
    have e1 : ((P ++ [p]).length : Int) = (P.length : Int) + 1 := by simp
    refine RunsR.ofW (fn := xf69) (by kernel_rfl) (W_run 120 ?_)
    simp (maxSteps := 2000000) only [SA, Nat.reduceDiv, Nat.reduceSub, Nat.reduceAdd, Int.reduceLT, Int.reduceLE, Int.reduceToNat, Nat.reduceMul, Nat.reduceEqDiff, reduceCtorEq, Nat.reduceBEq, Nat.reduceLeDiff, Nat.reduceLT, xf69, ai, hCt, w1, e1]
    exact W_done ⟨.inr rfl, [], rfl, rfl, rfl⟩
theorem named1043 (j : Nat) : Go.Proofs.Eng.look [] j = Go.Proofs.Eng.look [(1043, (0, (none : Option Ob)))] j := by
  simp only [Go.Proofs.Eng.look]
  by_cases h2 : 1043 = j
  · subst h2; simp
  · simp [h2]
/-- how many plans are within a table -/
def cntP (n : Nat) (T : List (List Int)) : Nat := (withP n T).length
theorem noRefs_T (T : List (List Int)) : noRefs [aT T] = true := noRefs_1 (noRef_T T)
theorem count_run {n : Nat} {T : List (List Int)} (hg : gT n T) : Runs Try.prog xf 34 [aT T] (.tup [ai (cntP n T), ai 0]) := by
  have n00 : ((0 : Int) != 0) = false := rfl
  obtain ⟨r', hrun⟩ := walk_run hg (vis_count n) (0, none)
  refine Runs.ofW (fn := xf34) 20 (by kernel_rfl) (W_named named1043 (W_run 80 ?_))
  simp (maxSteps := 2000000) only [SA, Nat.reduceDiv, Nat.reduceSub, Nat.reduceAdd, Int.reduceLT, Int.reduceLE, Int.reduceToNat, Nat.reduceMul, Nat.reduceEqDiff, reduceCtorEq, Nat.reduceBEq, Nat.reduceLeDiff, Nat.reduceLT, xf34, ai, aT]
  refine W_call (args := [aT T]) rfl (noRefs_T T) (check_run hg) rfl (W_run 80 ?_)
  simp (maxSteps := 2000000) only [SA, Nat.reduceDiv, Nat.reduceSub, Nat.reduceAdd, Int.reduceLT, Int.reduceLE, Int.reduceToNat, Nat.reduceMul, Nat.reduceEqDiff, reduceCtorEq, Nat.reduceBEq, Nat.reduceLeDiff, Nat.reduceLT, ai, aT, n00, Go.Proofs.Eng.fillA, List.map_cons, List.map_nil]
  refine W_callR (kb' := 1000) (args := [wA T 69 [.o 5 1 1 0 0], nilA]) rfl hrun rfl (W_run 80 ?_)
  simp (maxSteps := 2000000) only [SA, Nat.reduceDiv, Nat.reduceSub, Nat.reduceAdd, Int.reduceLT, Int.reduceLE, Int.reduceToNat, Nat.reduceMul, Nat.reduceEqDiff, reduceCtorEq, Nat.reduceBEq, Nat.reduceLeDiff, Nat.reduceLT, ai, aT, hCt]
  exact W_ret1 (WX_nil ⟨.inl rfl, _, rfl, rfl⟩)
/-! ### Weight -/
def sumW (T : List (List Int)) (P : List (List Int)) : Int := sumI (P.map (wgt T))
theorem sumW_b {n : Nat} {T : List (List Int)} (hg : gT n T) {P : List (List Int)} (hP : ∀ q, q ∈ P → okP n q) : 0 ≤ sumW T P ∧ sumW T P ≤ 6561 * P.length := by
  have := sumI_b (l := P.map (wgt T)) (b := 6561) (by omega) fun x hx => by
    obtain ⟨p, hp, rfl⟩ := List.mem_map.1 hx
    obtain ⟨h1, h2, _⟩ := hP p hp
    exact wgt_b hg h2 (by omega)
  rw [List.length_map] at this
  exact this
def hWt (T : List (List Int)) (P : List (List Int)) (r : Nat × Option Ob) : Heap := [(5, (1, some ⟨3, 1, [ai (sumW T P)]⟩)), (1043, r)]
theorem vis_weight {n : Nat} {T : List (List Int)} (hg : gT n T) : Vis n 73 [.o 5 1 1 0 0, .ptr (aT T)] (hWt T) where
  call := by kernel_rfl
  lk := fun P r => rfl
  pt := fun P r q => rfl
  run := fun P p g hl hP hp => by
    obtain ⟨h1, h2, h3⟩ := hp
    have hn4 := hg.n4
    have hb := sumW_b hg hP
    have hw := wgt_b hg h2 (by omega)
    have hnu := nums_run hg false h2 (by omega)
    have hpr := product_run (l := nums T p) (by rw [nums_len]; omega) (nums_mem hg h2 (by omega))
    have e1 : sumW T (P ++ [p]) = sumW T P + wgt T p := by unfold sumW; rw [List.map_append, List.map_cons, List.map_nil, sumI_snoc]
    have w1 : IntKind.i64.wrap (sumW T P + prI (nums T p)) = sumW T P + prI (nums T p) := by
      have hw2 : 0 ≤ prI (nums T p) ∧ prI (nums T p) ≤ 6561 := hw
      rw [wrap_id (by omega) (by omega)]
    have e2 : hWt T (P ++ [p]) (g, none) = [(5, (1, some ⟨3, 1, [ai (sumW T P + prI (nums T p))]⟩)), (1043, (g, none))] := by
      unfold hWt; rw [e1]; rfl
    rw [e2]
    refine RunsR.ofW (fn := xf73) (by kernel_rfl) (W_run 120 ?_)
    simp (maxSteps := 2000000) only [SA, Nat.reduceDiv, Nat.reduceSub, Nat.reduceAdd, Int.reduceLT, Int.reduceLE, Int.reduceToNat, Nat.reduceMul, Nat.reduceEqDiff, reduceCtorEq, Nat.reduceBEq, Nat.reduceLeDiff, Nat.reduceLT, xf73, ai, al, aT, hWt]
    refine W_call (args := [aT T, al false p]) rfl (noRefs_2 (noRef_T T) (noRef_al _ _)) hnu (noRef_al _ _) (W_run 120 ?_)
    simp (maxSteps := 2000000) only [SA, Nat.reduceDiv, Nat.reduceSub, Nat.reduceAdd, Int.reduceLT, Int.reduceLE, Int.reduceToNat, Nat.reduceMul, Nat.reduceEqDiff, reduceCtorEq, Nat.reduceBEq, Nat.reduceLeDiff, Nat.reduceLT, ai, al, aT]
    refine W_call (args := [al false (nums T p)]) rfl (noRefs_1 (noRef_al _ _)) hpr rfl (W_run 120 ?_)
    simp (maxSteps := 2000000) only [SA, Nat.reduceDiv, Nat.reduceSub, Nat.reduceAdd, Int.reduceLT, Int.reduceLE, Int.reduceToNat, Nat.reduceMul, Nat.reduceEqDiff, reduceCtorEq, Nat.reduceBEq, Nat.reduceLeDiff, Nat.reduceLT, ai, al, aT, w1]
    exact W_done ⟨.inr rfl, [], rfl, rfl, rfl⟩
/-- the weight of a table -/
def wgtT (n : Nat) (T : List (List Int)) : Int := sumW T (withP n T)
theorem weight_run {n : Nat} {T : List (List Int)} (hg : gT n T) : Runs Try.prog xf 36 [aT T] (.tup [ai (wgtT n T), ai 0]) := by
  have n00 : ((0 : Int) != 0) = false := rfl
  obtain ⟨r', hrun⟩ := walk_run hg (vis_weight hg) (0, none)
  refine Runs.ofW (fn := xf36) 20 (by kernel_rfl) (W_named named1043 (W_run 80 ?_))
  simp (maxSteps := 2000000) only [SA, Nat.reduceDiv, Nat.reduceSub, Nat.reduceAdd, Int.reduceLT, Int.reduceLE, Int.reduceToNat, Nat.reduceMul, Nat.reduceEqDiff, reduceCtorEq, Nat.reduceBEq, Nat.reduceLeDiff, Nat.reduceLT, xf36, ai, aT]
  refine W_call (args := [aT T]) rfl (noRefs_T T) (check_run hg) rfl (W_run 80 ?_)
  simp (maxSteps := 2000000) only [SA, Nat.reduceDiv, Nat.reduceSub, Nat.reduceAdd, Int.reduceLT, Int.reduceLE, Int.reduceToNat, Nat.reduceMul, Nat.reduceEqDiff, reduceCtorEq, Nat.reduceBEq, Nat.reduceLeDiff, Nat.reduceLT, ai, aT, n00, Go.Proofs.Eng.fillA, List.map_cons, List.map_nil]
  refine W_callR (kb' := 1000) (args := [wA T 73 [.o 5 1 1 0 0, .ptr (aT T)], nilA]) rfl hrun rfl (W_run 80 ?_)
  simp (maxSteps := 2000000) only [SA, Nat.reduceDiv, Nat.reduceSub, Nat.reduceAdd, Int.reduceLT, Int.reduceLE, Int.reduceToNat, Nat.reduceMul, Nat.reduceEqDiff, reduceCtorEq, Nat.reduceBEq, Nat.reduceLeDiff, Nat.reduceLT, ai, aT, hWt]
  exact W_ret1 (WX_nil ⟨.inl rfl, _, rfl, rfl⟩)
/-! ### the list of the plans -/
def hPw (P : List (List Int)) (r : Nat × Option Ob) : Heap :=
  match P with
  | [] => [(3, (1, some ⟨26, 1, [.sl 1 true []]⟩)), (1043, r)]
  | p :: t => [(3, (1, some ⟨26, 1, [.os 2006 1 (t.length + 1) 1 0 (t.length + 1)]⟩)), (1043, r), (2006, (1, some ⟨37, 1, al false p :: t.map (al false)⟩))]
theorem vis_plans (n : Nat) : Vis n 78 [.o 3 1 1 0 0] hPw where
  call := by kernel_rfl
  lk := fun P r => by cases P <;> rfl
  pt := fun P r q => by cases P <;> rfl
  run := fun P p g hl hP hp => by
    refine RunsR.ofW (fn := xf78) (by kernel_rfl) (W_run 120 ?_)
    cases P with
    | nil =>
      simp (maxSteps := 2000000) only [SA, Nat.reduceDiv, Nat.reduceSub, Nat.reduceAdd, Int.reduceLT, Int.reduceLE, Int.reduceToNat, Nat.reduceMul, Nat.reduceEqDiff, reduceCtorEq, Nat.reduceBEq, Nat.reduceLeDiff, Nat.reduceLT, xf78, ai, al, hPw, Go.Proofs.Eng.elems, List.map_cons, List.map_nil, ne_eq, not_false_eq_true]
      exact W_done ⟨.inr rfl, [], rfl, rfl, rfl⟩
    | cons q t =>
      have hl2 : t.length + 1 ≤ 1000 := hl
      have q1 : (t.length + 1 + 1) * 24 ≤ 100000000000000 := by omega
      have q2 : t.length + 1 + 1 ≤ 100000000000000 := by omega
      have e2 : hPw (q :: t ++ [p]) (g, none) = [(3, (1, some ⟨26, 1, [.os 2006 1 (t.length + 1 + 1) 1 0 (t.length + 1 + 1)]⟩)), (1043, (g, none)), (2006, (1, some ⟨37, 1, al false q :: (t.map (al false) ++ [al false p])⟩))] := by
        show hPw (q :: (t ++ [p])) (g, none) = _
        simp only [hPw, List.length_append, List.map_append, List.length_cons, List.length_nil, List.map_cons, List.map_nil]
      rw [e2]
      simp (maxSteps := 2000000) only [SA, Nat.reduceDiv, Nat.reduceSub, Nat.reduceAdd, Int.reduceLT, Int.reduceLE, Int.reduceToNat, Nat.reduceMul, Nat.reduceEqDiff, reduceCtorEq, Nat.reduceBEq, Nat.reduceLeDiff, Nat.reduceLT, xf78, ai, al, hPw, q1, q2, Go.Proofs.Eng.elems, List.map_cons, List.map_nil, ne_eq, not_false_eq_true]
      exact W_done ⟨.inr rfl, [], rfl, rfl, rfl⟩
theorem reify_TT {η : Heap} {k g e : Nat} {l : List (List Int)} (hk : Go.Proofs.Eng.look η k = (g, some ⟨e, 1, l.map (al false)⟩)) : reify η 20 (.os k g l.length 1 0 l.length) = some (aT l) :=
  reify_os (fun a => reify_isL (.inl ⟨false, rfl⟩) η 16) hk
/-- the list of the plans as it is returned -/
def plv (P : List (List Int)) : AV := match P with | [] => .sl 1 true [] | p :: t => aT (p :: t)
theorem pw_run {n : Nat} {T : List (List Int)} (hg : gT n T) : Runs Try.prog xf 56 [aT T] (plv (withP n T)) := by
  obtain ⟨r', hrun⟩ := walk_run hg (vis_plans n) (0, none)
  refine Runs.ofW (fn := xf56) 20 (by kernel_rfl) (W_named named1043 (W_run 80 ?_))
  simp (maxSteps := 2000000) only [SA, Nat.reduceDiv, Nat.reduceSub, Nat.reduceAdd, Int.reduceLT, Int.reduceLE, Int.reduceToNat, Nat.reduceMul, Nat.reduceEqDiff, reduceCtorEq, Nat.reduceBEq, Nat.reduceLeDiff, Nat.reduceLT, xf56, ai, aT, Go.Proofs.Eng.fillA, List.map_cons, List.map_nil]
  refine W_callR (kb' := 1000) (args := [wA T 78 [.o 3 1 1 0 0], nilA]) rfl hrun rfl (W_run 80 ?_)
  generalize withP n T = P at *
  cases P with
  | nil =>
    simp (maxSteps := 2000000) only [SA, Nat.reduceDiv, Nat.reduceSub, Nat.reduceAdd, Int.reduceLT, Int.reduceLE, Int.reduceToNat, Nat.reduceMul, Nat.reduceEqDiff, reduceCtorEq, Nat.reduceBEq, Nat.reduceLeDiff, Nat.reduceLT, ai, aT, hPw]
    exact W_ret1 (WX_nil ⟨.inl rfl, _, rfl, rfl⟩)
  | cons p t =>
    simp (maxSteps := 2000000) only [SA, Nat.reduceDiv, Nat.reduceSub, Nat.reduceAdd, Int.reduceLT, Int.reduceLE, Int.reduceToNat, Nat.reduceMul, Nat.reduceEqDiff, reduceCtorEq, Nat.reduceBEq, Nat.reduceLeDiff, Nat.reduceLT, ai, aT, hPw]
    exact W_ret1 (WX_nil ⟨.inl rfl, _, rfl, reify_TT (l := p :: t) (e := 37) rfl⟩)
theorem noRef_plv (P : List (List Int)) : noRef (plv P) = true := by
  cases P with
  | nil => rfl
  | cons p t => exact noRef_T _
theorem first_run {n : Nat} {T : List (List Int)} (hg : gT n T) : Runs Try.prog xf 33 [aT T] (match withP n T with | [] => .tup [nilA, ai 12] | p :: _ => .tup [al false p, ai 0]) := by
  have n00 : ((0 : Int) != 0) = false := rfl
  have hpw := pw_run hg
  refine Runs.ofW (fn := xf33) 20 (by kernel_rfl) (W_run 80 ?_)
  simp (maxSteps := 2000000) only [SA, Nat.reduceDiv, Nat.reduceSub, Nat.reduceAdd, Int.reduceLT, Int.reduceLE, Int.reduceToNat, Nat.reduceMul, Nat.reduceEqDiff, reduceCtorEq, Nat.reduceBEq, Nat.reduceLeDiff, Nat.reduceLT, xf33, ai, aT]
  refine W_call (args := [aT T]) rfl (noRefs_T T) (check_run hg) rfl (W_run 80 ?_)
  simp (maxSteps := 2000000) only [SA, Nat.reduceDiv, Nat.reduceSub, Nat.reduceAdd, Int.reduceLT, Int.reduceLE, Int.reduceToNat, Nat.reduceMul, Nat.reduceEqDiff, reduceCtorEq, Nat.reduceBEq, Nat.reduceLeDiff, Nat.reduceLT, ai, aT, n00]
  refine W_call (args := [aT T]) rfl (noRefs_T T) hpw (noRef_plv _) (W_run 80 ?_)
  generalize withP n T = P at *
  cases P with
  | nil =>
    have e0 : (((0 : Nat) : Int) == 0) = true := rfl
    simp (maxSteps := 2000000) only [SA, Nat.reduceDiv, Nat.reduceSub, Nat.reduceAdd, Int.reduceLT, Int.reduceLE, Int.reduceToNat, Nat.reduceMul, Nat.reduceEqDiff, reduceCtorEq, Nat.reduceBEq, Nat.reduceLeDiff, Nat.reduceLT, ai, aT, plv, nilA, e0]
    exact W_ret1 (WX_pop (WX_nil ⟨.inl rfl, _, rfl, rfl⟩))
  | cons p t =>
    have e0 : (((t.length + 1 : Nat) : Int) == 0) = false := by rw [beq_eq_false_iff_ne]; omega
    simp (maxSteps := 2000000) only [SA, Nat.reduceDiv, Nat.reduceSub, Nat.reduceAdd, Int.reduceLT, Int.reduceLE, Int.reduceToNat, Nat.reduceMul, Nat.reduceEqDiff, reduceCtorEq, Nat.reduceBEq, Nat.reduceLeDiff, Nat.reduceLT, ai, aT, plv, e0, List.map_cons]
    exact W_ret1 (WX_nil ⟨.inl rfl, _, rfl, by show ([al false p, ai 0].mapM (reify _ 19)).map AV.tup = _; rw [List.mapM_cons, reify_isL (.inl ⟨false, rfl⟩) _ 16]; rfl⟩)
end Go.Proofs.Ytelkpfionifjgaa

