/-
  TableMore: a greater number; what it does to weights.
-/
import Derived.Test.YtkbeaheladmeiaaQE
import Derived.Test.YtkbeaheladmeiaaPcV
import Derived.Test.YtkbeaheladmeiaaQD
set_option linter.unusedSimpArgs false
set_option linter.unusedVariables false
namespace Go.Proofs.Ytkbeaheladmeiaa
open Go Go.Proofs.Eng
set_option maxRecDepth 100000
set_option maxHeartbeats 4000000
theorem sumI_cons (x : Int) (l : List Int) : sumI (x :: l) = x + sumI l := by
  have key : ∀ (l : List Int) (a : Int), l.foldl (· + ·) a = a + l.foldl (· + ·) 0 := by
    intro l
    induction l with
    | nil => intro a; simp
    | cons y t ih => intro a; rw [List.foldl_cons, List.foldl_cons, ih (a + y), ih (0 + y)]; omega
  unfold sumI
  rw [List.foldl_cons, key l (0 + x)]; omega
theorem sum_filter {T : List (List Int)} : ∀ (l : List (List Int)), (∀ p, p ∈ l → 0 ≤ wgt T p) → sumW T (l.filter fun p => decide (0 < wgt T p)) = sumW T l
  | [], _ => rfl
  | p :: t, h => by
    have ih := sum_filter t fun q hq => h q (List.mem_cons_of_mem _ hq)
    have hp := h p List.mem_cons_self
    unfold sumW at ih ⊢
    rw [List.filter_cons]
    split
    · rw [List.map_cons, List.map_cons, sumI_cons, sumI_cons, ih]
    · rename_i hd
      have : wgt T p = 0 := by
        have hd : ¬ 0 < wgt T p := by simpa using hd
        omega
      rw [List.map_cons, sumI_cons, ih, this]; omega
theorem wgtT_pl {n : Nat} {T : List (List Int)} (hg : gT n T) : wgtT n T = sumW T (plL n) := by
  unfold wgtT
  rw [withP_eq hg]
  refine sum_filter _ fun p hp => ?_
  obtain ⟨l1, l2, _⟩ := plL_len hg.n1 hg.n4 p hp
  exact (wgt_b hg l2 (by omega)).1
/-- one number made greater -/
theorem set_get {α : Type} {l : List α} {i j : Nat} {a d : α} (h : i < l.length) : (l.set i a).getD j d = if i = j then a else l.getD j d := by
  rw [List.getD_eq_getElem?_getD, List.getElem?_set, List.getD_eq_getElem?_getD]
  by_cases e : i = j
  · subst e; simp [h]
  · simp [e]
theorem fk64 (η : Heap) (d : Nat) : freeK η 64 d = match (lookF η d).2 with
  | some _ => freeK η 63 (d + 100000)
  | none => d := rfl
theorem fk63 (η : Heap) (d : Nat) : freeK η 63 d = match (lookF η d).2 with
  | some _ => freeK η 62 (d + 100000)
  | none => d := rfl
theorem fk62 (η : Heap) (d : Nat) : freeK η 62 d = match (lookF η d).2 with
  | some _ => freeK η 61 (d + 100000)
  | none => d := rfl
theorem fk61 (η : Heap) (d : Nat) : freeK η 61 d = match (lookF η d).2 with
  | some _ => freeK η 60 (d + 100000)
  | none => d := rfl
theorem fk60 (η : Heap) (d : Nat) : freeK η 60 d = match (lookF η d).2 with
  | some _ => freeK η 59 (d + 100000)
  | none => d := rfl
theorem emp_1 : RunsR Try.prog xf 1000 19 [ai 1] [] (.os 1011 1 1 1 0 1) [(1009, (1, some ⟨3, 1, [.v (.int .i64 0)]⟩)), (1011, (1, some ⟨37, 1, [.os 1009 1 1 1 0 1]⟩))] := by
  have w0 : IntKind.i64.wrap (0 + 1) = 1 := rfl
  refine RunsR.ofW (fn := xf19) (by kernel_rfl) (W_run 80 ?_)
  simp (maxSteps := 2000000) only [SA, Nat.reduceDiv, Nat.reduceSub, Nat.reduceAdd, Int.reduceLT, Int.reduceLE, Int.reduceToNat, Nat.reduceMul, Nat.reduceEqDiff, reduceCtorEq, Nat.reduceBEq, Nat.reduceLeDiff, Nat.reduceLT, xf19, ai, nilA]
  refine W_loop (W_run 120 ?_)
  simp (maxSteps := 2000000) only [SA, Nat.reduceDiv, Nat.reduceSub, Nat.reduceAdd, Int.reduceLT, Int.reduceLE, Int.reduceToNat, Nat.reduceMul, Nat.reduceEqDiff, reduceCtorEq, Nat.reduceBEq, Nat.reduceLeDiff, Nat.reduceLT, xf19_L0, ai, nilA, w0, fk64, fk63, fk62, fk61, fk60, Go.Proofs.Eng.elems, List.map_cons, List.map_nil]
  refine W_loop (W_run 120 ?_)
  simp (maxSteps := 2000000) only [SA, Nat.reduceDiv, Nat.reduceSub, Nat.reduceAdd, Int.reduceLT, Int.reduceLE, Int.reduceToNat, Nat.reduceMul, Nat.reduceEqDiff, reduceCtorEq, Nat.reduceBEq, Nat.reduceLeDiff, Nat.reduceLT, xf19_L0, xf19_R0, ai, nilA]
  exact W_ret1 (WX_nil ⟨.inl rfl, _, rfl, rfl, rfl⟩)
theorem emp_2 : RunsR Try.prog xf 1000 19 [ai 2] [] (.os 1011 1 2 1 0 2) [(1009, (1, some ⟨3, 1, [.v (.int .i64 0), .v (.int .i64 0)]⟩)), (1011, (1, some ⟨37, 1, [.os 1009 1 2 1 0 2, .os 101009 1 2 1 0 2]⟩)), (101009, (1, some ⟨3, 1, [.v (.int .i64 0), .v (.int .i64 0)]⟩))] := by
  have w0 : IntKind.i64.wrap (0 + 1) = 1 := rfl
  have w1 : IntKind.i64.wrap (1 + 1) = 2 := rfl
  refine RunsR.ofW (fn := xf19) (by kernel_rfl) (W_run 80 ?_)
  simp (maxSteps := 2000000) only [SA, Nat.reduceDiv, Nat.reduceSub, Nat.reduceAdd, Int.reduceLT, Int.reduceLE, Int.reduceToNat, Nat.reduceMul, Nat.reduceEqDiff, reduceCtorEq, Nat.reduceBEq, Nat.reduceLeDiff, Nat.reduceLT, xf19, ai, nilA]
  refine W_loop (W_run 120 ?_)
  simp (maxSteps := 2000000) only [SA, Nat.reduceDiv, Nat.reduceSub, Nat.reduceAdd, Int.reduceLT, Int.reduceLE, Int.reduceToNat, Nat.reduceMul, Nat.reduceEqDiff, reduceCtorEq, Nat.reduceBEq, Nat.reduceLeDiff, Nat.reduceLT, xf19_L0, ai, nilA, w0, w1, fk64, fk63, fk62, fk61, fk60, Go.Proofs.Eng.elems, List.map_cons, List.map_nil]
  refine W_loop (W_run 120 ?_)
  simp (maxSteps := 2000000) only [SA, Nat.reduceDiv, Nat.reduceSub, Nat.reduceAdd, Int.reduceLT, Int.reduceLE, Int.reduceToNat, Nat.reduceMul, Nat.reduceEqDiff, reduceCtorEq, Nat.reduceBEq, Nat.reduceLeDiff, Nat.reduceLT, xf19_L0, ai, nilA, w0, w1, fk64, fk63, fk62, fk61, fk60, Go.Proofs.Eng.elems, List.map_cons, List.map_nil]
  refine W_loop (W_run 120 ?_)
  simp (maxSteps := 2000000) only [SA, Nat.reduceDiv, Nat.reduceSub, Nat.reduceAdd, Int.reduceLT, Int.reduceLE, Int.reduceToNat, Nat.reduceMul, Nat.reduceEqDiff, reduceCtorEq, Nat.reduceBEq, Nat.reduceLeDiff, Nat.reduceLT, xf19_L0, xf19_R0, ai, nilA]
  exact W_ret1 (WX_nil ⟨.inl rfl, _, rfl, rfl, rfl⟩)
theorem emp_3 : RunsR Try.prog xf 1000 19 [ai 3] [] (.os 1011 1 3 1 0 3) [(1009, (1, some ⟨3, 1, [.v (.int .i64 0), .v (.int .i64 0), .v (.int .i64 0)]⟩)), (1011, (1, some ⟨37, 1, [.os 1009 1 3 1 0 3, .os 101009 1 3 1 0 3, .os 201009 1 3 1 0 3]⟩)), (101009, (1, some ⟨3, 1, [.v (.int .i64 0), .v (.int .i64 0), .v (.int .i64 0)]⟩)), (201009, (1, some ⟨3, 1, [.v (.int .i64 0), .v (.int .i64 0), .v (.int .i64 0)]⟩))] := by
  have w0 : IntKind.i64.wrap (0 + 1) = 1 := rfl
  have w1 : IntKind.i64.wrap (1 + 1) = 2 := rfl
  have w2 : IntKind.i64.wrap (2 + 1) = 3 := rfl
  refine RunsR.ofW (fn := xf19) (by kernel_rfl) (W_run 80 ?_)
  simp (maxSteps := 2000000) only [SA, Nat.reduceDiv, Nat.reduceSub, Nat.reduceAdd, Int.reduceLT, Int.reduceLE, Int.reduceToNat, Nat.reduceMul, Nat.reduceEqDiff, reduceCtorEq, Nat.reduceBEq, Nat.reduceLeDiff, Nat.reduceLT, xf19, ai, nilA]
  refine W_loop (W_run 120 ?_)
  simp (maxSteps := 2000000) only [SA, Nat.reduceDiv, Nat.reduceSub, Nat.reduceAdd, Int.reduceLT, Int.reduceLE, Int.reduceToNat, Nat.reduceMul, Nat.reduceEqDiff, reduceCtorEq, Nat.reduceBEq, Nat.reduceLeDiff, Nat.reduceLT, xf19_L0, ai, nilA, w0, w1, w2, fk64, fk63, fk62, fk61, fk60, Go.Proofs.Eng.elems, List.map_cons, List.map_nil]
  refine W_loop (W_run 120 ?_)
  simp (maxSteps := 2000000) only [SA, Nat.reduceDiv, Nat.reduceSub, Nat.reduceAdd, Int.reduceLT, Int.reduceLE, Int.reduceToNat, Nat.reduceMul, Nat.reduceEqDiff, reduceCtorEq, Nat.reduceBEq, Nat.reduceLeDiff, Nat.reduceLT, xf19_L0, ai, nilA, w0, w1, w2, fk64, fk63, fk62, fk61, fk60, Go.Proofs.Eng.elems, List.map_cons, List.map_nil]
  refine W_loop (W_run 120 ?_)
  simp (maxSteps := 2000000) only [SA, Nat.reduceDiv, Nat.reduceSub, Nat.reduceAdd, Int.reduceLT, Int.reduceLE, Int.reduceToNat, Nat.reduceMul, Nat.reduceEqDiff, reduceCtorEq, Nat.reduceBEq, Nat.reduceLeDiff, Nat.reduceLT, xf19_L0, ai, nilA, w0, w1, w2, fk64, fk63, fk62, fk61, fk60, Go.Proofs.Eng.elems, List.map_cons, List.map_nil]
  refine W_loop (W_run 120 ?_)
  simp (maxSteps := 2000000) only [SA, Nat.reduceDiv, Nat.reduceSub, Nat.reduceAdd, Int.reduceLT, Int.reduceLE, Int.reduceToNat, Nat.reduceMul, Nat.reduceEqDiff, reduceCtorEq, Nat.reduceBEq, Nat.reduceLeDiff, Nat.reduceLT, xf19_L0, xf19_R0, ai, nilA]
  exact W_ret1 (WX_nil ⟨.inl rfl, _, rfl, rfl, rfl⟩)
theorem emp_4 : RunsR Try.prog xf 1000 19 [ai 4] [] (.os 1011 1 4 1 0 4) [(1009, (1, some ⟨3, 1, [.v (.int .i64 0), .v (.int .i64 0), .v (.int .i64 0), .v (.int .i64 0)]⟩)), (1011, (1, some ⟨37, 1, [.os 1009 1 4 1 0 4, .os 101009 1 4 1 0 4, .os 201009 1 4 1 0 4, .os 301009 1 4 1 0 4]⟩)), (101009, (1, some ⟨3, 1, [.v (.int .i64 0), .v (.int .i64 0), .v (.int .i64 0), .v (.int .i64 0)]⟩)), (201009, (1, some ⟨3, 1, [.v (.int .i64 0), .v (.int .i64 0), .v (.int .i64 0), .v (.int .i64 0)]⟩)), (301009, (1, some ⟨3, 1, [.v (.int .i64 0), .v (.int .i64 0), .v (.int .i64 0), .v (.int .i64 0)]⟩))] := by
  have w0 : IntKind.i64.wrap (0 + 1) = 1 := rfl
  have w1 : IntKind.i64.wrap (1 + 1) = 2 := rfl
  have w2 : IntKind.i64.wrap (2 + 1) = 3 := rfl
  have w3 : IntKind.i64.wrap (3 + 1) = 4 := rfl
  refine RunsR.ofW (fn := xf19) (by kernel_rfl) (W_run 80 ?_)
  simp (maxSteps := 2000000) only [SA, Nat.reduceDiv, Nat.reduceSub, Nat.reduceAdd, Int.reduceLT, Int.reduceLE, Int.reduceToNat, Nat.reduceMul, Nat.reduceEqDiff, reduceCtorEq, Nat.reduceBEq, Nat.reduceLeDiff, Nat.reduceLT, xf19, ai, nilA]
  refine W_loop (W_run 120 ?_)
  simp (maxSteps := 2000000) only [SA, Nat.reduceDiv, Nat.reduceSub, Nat.reduceAdd, Int.reduceLT, Int.reduceLE, Int.reduceToNat, Nat.reduceMul, Nat.reduceEqDiff, reduceCtorEq, Nat.reduceBEq, Nat.reduceLeDiff, Nat.reduceLT, xf19_L0, ai, nilA, w0, w1, w2, w3, fk64, fk63, fk62, fk61, fk60, Go.Proofs.Eng.elems, List.map_cons, List.map_nil]
  refine W_loop (W_run 120 ?_)
  simp (maxSteps := 2000000) only [SA, Nat.reduceDiv, Nat.reduceSub, Nat.reduceAdd, Int.reduceLT, Int.reduceLE, Int.reduceToNat, Nat.reduceMul, Nat.reduceEqDiff, reduceCtorEq, Nat.reduceBEq, Nat.reduceLeDiff, Nat.reduceLT, xf19_L0, ai, nilA, w0, w1, w2, w3, fk64, fk63, fk62, fk61, fk60, Go.Proofs.Eng.elems, List.map_cons, List.map_nil]
  refine W_loop (W_run 120 ?_)
  simp (maxSteps := 2000000) only [SA, Nat.reduceDiv, Nat.reduceSub, Nat.reduceAdd, Int.reduceLT, Int.reduceLE, Int.reduceToNat, Nat.reduceMul, Nat.reduceEqDiff, reduceCtorEq, Nat.reduceBEq, Nat.reduceLeDiff, Nat.reduceLT, xf19_L0, ai, nilA, w0, w1, w2, w3, fk64, fk63, fk62, fk61, fk60, Go.Proofs.Eng.elems, List.map_cons, List.map_nil]
  refine W_loop (W_run 120 ?_)
  simp (maxSteps := 2000000) only [SA, Nat.reduceDiv, Nat.reduceSub, Nat.reduceAdd, Int.reduceLT, Int.reduceLE, Int.reduceToNat, Nat.reduceMul, Nat.reduceEqDiff, reduceCtorEq, Nat.reduceBEq, Nat.reduceLeDiff, Nat.reduceLT, xf19_L0, ai, nilA, w0, w1, w2, w3, fk64, fk63, fk62, fk61, fk60, Go.Proofs.Eng.elems, List.map_cons, List.map_nil]
  refine W_loop (W_run 120 ?_)
  simp (maxSteps := 2000000) only [SA, Nat.reduceDiv, Nat.reduceSub, Nat.reduceAdd, Int.reduceLT, Int.reduceLE, Int.reduceToNat, Nat.reduceMul, Nat.reduceEqDiff, reduceCtorEq, Nat.reduceBEq, Nat.reduceLeDiff, Nat.reduceLT, xf19_L0, xf19_R0, ai, nilA]
  exact W_ret1 (WX_nil ⟨.inl rfl, _, rfl, rfl, rfl⟩)
end Go.Proofs.Ytkbeaheladmeiaa

set_option linter.unusedSimpArgs false
set_option linter.unusedVariables false
namespace Go.Proofs.Ytkbeaheladmeiaa
open Go Go.Proofs.Eng
set_option maxRecDepth 100000
set_option maxHeartbeats 4000000
theorem tog_loop (f : Bool) (l : List Int) (hn : l.length ≤ 100) (hb : ∀ x, x ∈ l → 0 ≤ x ∧ x ≤ 1000) (K : List Fr) (Q : Out → Cfg → Prop)
    (hK : ∀ j1 j2 j4 j5 j9 j10 j11 j12 j13 j14 j15 j16 : AV, W Try.prog (RelU Try.prog xf) 0 K ⟨((al f l) :: j1 :: j2 :: (ai (sumI l)) :: j4 :: j5 :: (al f l) :: (ai l.length) :: (ai l.length) :: j9 :: j10 :: j11 :: j12 :: j13 :: j14 :: j15 :: j16 :: []), []⟩ Q) :
    ∀ (k i : Nat), i + k = l.length → ∀ j1 j2 j4 j5 j9 j10 j11 j12 j13 j14 j15 j16 : AV, W Try.prog (RelU Try.prog xf) 0 (.code (.loop xf53_L0) :: .blk 0 :: .stop :: K) ⟨((al f l) :: j1 :: j2 :: (ai (sumI (l.take i))) :: j4 :: j5 :: (al f l) :: (ai l.length) :: (ai i) :: j9 :: j10 :: j11 :: j12 :: j13 :: j14 :: j15 :: j16 :: []), []⟩ Q := by
  intro k
  induction k with
  | zero =>
    intro i hi j1 j2 j4 j5 j9 j10 j11 j12 j13 j14 j15 j16
    have : i = l.length := by omega
    subst this
    have h0 : decide (l.length < l.length) = false := by simp
    rw [List.take_length]
    refine W_loop (W_run 80 ?_)
    simp (maxSteps := 2000000) only [SA, Nat.reduceDiv, Nat.reduceSub, Nat.reduceAdd, Int.reduceLT, Int.reduceLE, Int.reduceToNat, Nat.reduceMul, Nat.reduceEqDiff, reduceCtorEq, Nat.reduceBEq, Nat.reduceLeDiff, Nat.reduceLT, xf53_L0, ai, al, lt_cast, h0]
    exact W_stop (hK _ _ _ _ _ _ _ _ _ _ _ _)
  | succ k ih =>
    intro i hi j1 j2 j4 j5 j9 j10 j11 j12 j13 j14 j15 j16
    have h1 : i < l.length := by omega
    have h0 : decide (i < l.length) = true := decide_eq_true h1
    have hx := hb _ (getD_mem (d := 0) h1)
    have hs := sumI_b (l := l.take i) (b := 1000) (by omega) fun x hx => hb x (List.mem_of_mem_take hx)
    have hll : (l.take i).length ≤ 100 := by rw [List.length_take]; omega
    have hnx : sumI (l.take (i + 1)) = sumI (l.take i) + l.getD i 0 := by rw [take_snoc (d := 0) h1, sumI_snoc]
    have next := ih (i + 1) (by omega)
    rw [hnx] at next
    have hga := get_al h1
    generalize l.getD i 0 = x at *
    refine W_loop (W_run 80 ?_)
    simp (maxSteps := 2000000) only [SA, Nat.reduceDiv, Nat.reduceSub, Nat.reduceAdd, Int.reduceLT, Int.reduceLE, Int.reduceToNat, Nat.reduceMul, Nat.reduceEqDiff, reduceCtorEq, Nat.reduceBEq, Nat.reduceLeDiff, Nat.reduceLT, xf53_L0, ai, al, lt_cast, h0, hga]
    rw [wrap_id (z := sumI (l.take i) + x) (by omega) (by omega), wrap_id (z := (i : Int) + 1) (by omega) (by omega)]
    exact next _ _ _ _ _ _ _ _ _ _ _ _
theorem tog_run (f : Bool) {l : List Int} (hn : l.length ≤ 100) (hb : ∀ x, x ∈ l → 0 ≤ x ∧ x ≤ 1000) : Runs Try.prog xf 53 [al f l] (ai (sumI l)) := by
  refine Runs.ofW (fn := xf53) 20 (by kernel_rfl) (W_run 80 ?_)
  simp (maxSteps := 2000000) only [SA, Nat.reduceDiv, Nat.reduceSub, Nat.reduceAdd, Int.reduceLT, Int.reduceLE, Int.reduceToNat, Nat.reduceMul, Nat.reduceEqDiff, reduceCtorEq, Nat.reduceBEq, Nat.reduceLeDiff, Nat.reduceLT, xf53, ai, al]
  refine W_alone (tog_loop f l hn hb _ _ (fun j1 j2 j4 j5 j9 j10 j11 j12 j13 j14 j15 j16 => W_run 80 ?_) l.length 0 (by omega) _ _ _ _ _ _ _ _ _ _ _ _)
  simp (maxSteps := 2000000) only [SA, Nat.reduceDiv, Nat.reduceSub, Nat.reduceAdd, Int.reduceLT, Int.reduceLE, Int.reduceToNat, Nat.reduceMul, Nat.reduceEqDiff, reduceCtorEq, Nat.reduceBEq, Nat.reduceLeDiff, Nat.reduceLT, xf53_R0, ai, al]
  exact W_ret1 (WX_nil ⟨.inl rfl, _, rfl, rfl⟩)
theorem growT_run (N : Nat) (h1 : 1 ≤ N) (hN : N ≤ 1000) : RunsR Try.prog xf 1000 77 [nilA, ai N] [] (.os 1022 1 N 1 0 0) [(1022, (1, some ⟨37, 1, List.replicate N nilA⟩))] := by
  have d0 : decide ((N : Int) < 0) = false := decide_eq_false (by omega)
  have d1 : decide ((0 : Int) < (N : Int)) = true := decide_eq_true (by omega)
  have w0 : IntKind.i64.wrap (0 - 0) = 0 := rfl
  have w1 : IntKind.i64.wrap ((N : Int) - 0) = (N : Int) := by rw [wrap_id (by omega) (by omega)]; omega
  have p0 : (0 : Int) < (N : Int) := by omega
  have q1 : (N : Int) * 24 ≤ 1000000000000 := by omega
  have q2 : (N : Int) ≤ 1000000000000 := by omega
  refine RunsR.ofW (fn := xf77) (by kernel_rfl) (W_run 120 ?_)
  simp (maxSteps := 2000000) only [SA, Nat.reduceDiv, Nat.reduceSub, Nat.reduceAdd, Int.reduceLT, Int.reduceLE, Int.reduceToNat, Nat.reduceMul, Nat.reduceEqDiff, reduceCtorEq, Nat.reduceBEq, Nat.reduceLeDiff, Nat.reduceLT, xf77, ai, nilA, stF_capS, stF_appz, d0, d1, w0, w1, p0, q1, q2]
  exact W_ret1 (WX_nil ⟨.inl rfl, _, rfl, rfl, rfl⟩)
theorem cat2_run {A B : List (List Int)} (ha : 1 ≤ A.length) (hal : A.length ≤ 100) (hbl : B.length ≤ 100) (hb : 1 ≤ B.length) : Runs Try.prog xf 54 [.sl 1 true [aT A, aT B]] (aT (A ++ B)) := by
  have w01 : IntKind.i64.wrap (0 + 1) = 1 := rfl
  have w11 : IntKind.i64.wrap (1 + 1) = 2 := rfl
  have wA : IntKind.i64.wrap (0 + (A.length : Int)) = (A.length : Int) := by rw [wrap_id (by omega) (by omega)]; omega
  have wB : IntKind.i64.wrap ((A.length : Int) + (B.length : Int)) = ((A.length + B.length : Nat) : Int) := by rw [wrap_id (by omega) (by omega)]; omega
  have dA : decide ((A.length : Int) < 0) = false := decide_eq_false (by omega)
  have dB : decide (((A.length + B.length : Nat) : Int) < 0) = false := decide_eq_false (by omega)
  have hgr := growT_run (A.length + B.length) (by omega) (by omega)
  have e1 : (0 = A.length + B.length) = False := eq_false (by omega)
  have e2 : (A.length = A.length + B.length) = False := eq_false (by omega)
  have i1 : A.length ≤ A.length + B.length := by omega
  have t1 : List.drop A.length (List.replicate (A.length + B.length) nilA) = List.replicate B.length nilA := by rw [List.drop_replicate]; congr 1; omega
  have t2 : List.take A.length (A.map (al false) ++ List.replicate B.length nilA) = A.map (al false) := List.take_left' (by simp)
  have t3 : List.drop (A.length + B.length) (A.map (al false) ++ List.replicate B.length nilA) = [] := List.drop_eq_nil_of_le (by simp)
  have lA : (A.map (al false) ++ List.replicate B.length nilA).length = A.length + B.length := by simp
  refine Runs.ofW (fn := xf54) 20 (by kernel_rfl) (W_run 120 ?_)
  simp (maxSteps := 2000000) only [SA, Nat.reduceDiv, Nat.reduceSub, Nat.reduceAdd, Int.reduceLT, Int.reduceLE, Int.reduceToNat, Nat.reduceMul, Nat.reduceEqDiff, reduceCtorEq, Nat.reduceBEq, Nat.reduceLeDiff, Nat.reduceLT, xf54, ai, aT, nilA]
  refine W_loop (W_run 120 ?_)
  simp (maxSteps := 2000000) only [SA, Nat.reduceDiv, Nat.reduceSub, Nat.reduceAdd, Int.reduceLT, Int.reduceLE, Int.reduceToNat, Nat.reduceMul, Nat.reduceEqDiff, reduceCtorEq, Nat.reduceBEq, Nat.reduceLeDiff, Nat.reduceLT, xf54_L0, ai, aT, wA, dA, w01]
  refine W_loop (W_run 120 ?_)
  simp (maxSteps := 2000000) only [SA, Nat.reduceDiv, Nat.reduceSub, Nat.reduceAdd, Int.reduceLT, Int.reduceLE, Int.reduceToNat, Nat.reduceMul, Nat.reduceEqDiff, reduceCtorEq, Nat.reduceBEq, Nat.reduceLeDiff, Nat.reduceLT, xf54_L0, ai, aT, wB, dB, w11]
  refine W_loop (W_run 120 ?_)
  simp (maxSteps := 2000000) only [SA, Nat.reduceDiv, Nat.reduceSub, Nat.reduceAdd, Int.reduceLT, Int.reduceLE, Int.reduceToNat, Nat.reduceMul, Nat.reduceEqDiff, reduceCtorEq, Nat.reduceBEq, Nat.reduceLeDiff, Nat.reduceLT, xf54_L0, xf54_R0, xf54_R1, ai, aT, nilA]
  refine W_callR (kb' := 1000) (args := [nilA, ai ((A.length + B.length : Nat) : Int)]) rfl hgr rfl (W_run 120 ?_)
  simp (maxSteps := 2000000) only [SA, Nat.reduceDiv, Nat.reduceSub, Nat.reduceAdd, Int.reduceLT, Int.reduceLE, Int.reduceToNat, Nat.reduceMul, Nat.reduceEqDiff, reduceCtorEq, Nat.reduceBEq, Nat.reduceLeDiff, Nat.reduceLT, xf54_R0, xf54_R1, ai, aT]
  refine W_loop (W_run 120 ?_)
  simp (maxSteps := 2000000) only [SA, Nat.reduceDiv, Nat.reduceSub, Nat.reduceAdd, Int.reduceLT, Int.reduceLE, Int.reduceToNat, Nat.reduceMul, Nat.reduceEqDiff, reduceCtorEq, Nat.reduceBEq, Nat.reduceLeDiff, Nat.reduceLT, xf54_L1, ai, aT, e1, i1, t1, w01, Go.Proofs.Eng.elems, List.length_replicate, false_and]
  refine W_loop (W_run 120 ?_)
  simp (maxSteps := 2000000) only [SA, Nat.reduceDiv, Nat.reduceSub, Nat.reduceAdd, Int.reduceLT, Int.reduceLE, Int.reduceToNat, Nat.reduceMul, Nat.reduceEqDiff, reduceCtorEq, Nat.reduceBEq, Nat.reduceLeDiff, Nat.reduceLT, xf54_L1, ai, aT, e2, t2, t3, lA, w11, Go.Proofs.Eng.elems, List.length_replicate, false_and, and_false]
  refine W_loop (W_run 120 ?_)
  simp (maxSteps := 2000000) only [SA, Nat.reduceDiv, Nat.reduceSub, Nat.reduceAdd, Int.reduceLT, Int.reduceLE, Int.reduceToNat, Nat.reduceMul, Nat.reduceEqDiff, reduceCtorEq, Nat.reduceBEq, Nat.reduceLeDiff, Nat.reduceLT, xf54_L1, xf54_R0, xf54_R1, ai, aT]
  refine W_ret1 (WX_nil ⟨.inl rfl, _, rfl, ?_⟩)
  have h := reify_TT (η := [(1022, (1, some ⟨37, 1, (A ++ B).map (al false)⟩))]) (k := 1022) (g := 1) (e := 37) (l := A ++ B) rfl
  rw [List.length_append, List.map_append] at h
  exact h
theorem zer_1 : RunsR Try.prog xf 1000 61 [ai 1] [] (.os 1006 1 1 1 0 1) [(1006, (1, some ⟨37, 1, [.os 1014 1 1 1 0 1]⟩)), (1014, (1, some ⟨3, 1, [.v (.int .i64 0)]⟩))] := by
  have w0 : IntKind.i64.wrap (0 + 1) = 1 := rfl
  refine RunsR.ofW (fn := xf61) (by kernel_rfl) (W_run 80 ?_)
  simp (maxSteps := 2000000) only [SA, Nat.reduceDiv, Nat.reduceSub, Nat.reduceAdd, Int.reduceLT, Int.reduceLE, Int.reduceToNat, Nat.reduceMul, Nat.reduceEqDiff, reduceCtorEq, Nat.reduceBEq, Nat.reduceLeDiff, Nat.reduceLT, xf61, ai, nilA, fk64, fk63, fk62, fk61, fk60]
  refine W_loop (W_run 120 ?_)
  simp (maxSteps := 2000000) only [SA, Nat.reduceDiv, Nat.reduceSub, Nat.reduceAdd, Int.reduceLT, Int.reduceLE, Int.reduceToNat, Nat.reduceMul, Nat.reduceEqDiff, reduceCtorEq, Nat.reduceBEq, Nat.reduceLeDiff, Nat.reduceLT, xf61_L0, ai, nilA, w0, fk64, fk63, fk62, fk61, fk60]
  refine W_loop (W_run 120 ?_)
  simp (maxSteps := 2000000) only [SA, Nat.reduceDiv, Nat.reduceSub, Nat.reduceAdd, Int.reduceLT, Int.reduceLE, Int.reduceToNat, Nat.reduceMul, Nat.reduceEqDiff, reduceCtorEq, Nat.reduceBEq, Nat.reduceLeDiff, Nat.reduceLT, xf61_L0, xf61_R0, ai, nilA]
  exact W_ret1 (WX_nil ⟨.inl rfl, _, rfl, rfl, rfl⟩)
theorem zer_2 : RunsR Try.prog xf 1000 61 [ai 2] [] (.os 1006 1 2 1 0 2) [(1006, (1, some ⟨37, 1, [.os 1014 1 2 1 0 2, .os 101014 1 2 1 0 2]⟩)), (1014, (1, some ⟨3, 1, [.v (.int .i64 0), .v (.int .i64 0)]⟩)), (101014, (1, some ⟨3, 1, [.v (.int .i64 0), .v (.int .i64 0)]⟩))] := by
  have w0 : IntKind.i64.wrap (0 + 1) = 1 := rfl
  have w1 : IntKind.i64.wrap (1 + 1) = 2 := rfl
  refine RunsR.ofW (fn := xf61) (by kernel_rfl) (W_run 80 ?_)
  simp (maxSteps := 2000000) only [SA, Nat.reduceDiv, Nat.reduceSub, Nat.reduceAdd, Int.reduceLT, Int.reduceLE, Int.reduceToNat, Nat.reduceMul, Nat.reduceEqDiff, reduceCtorEq, Nat.reduceBEq, Nat.reduceLeDiff, Nat.reduceLT, xf61, ai, nilA, fk64, fk63, fk62, fk61, fk60]
  refine W_loop (W_run 120 ?_)
  simp (maxSteps := 2000000) only [SA, Nat.reduceDiv, Nat.reduceSub, Nat.reduceAdd, Int.reduceLT, Int.reduceLE, Int.reduceToNat, Nat.reduceMul, Nat.reduceEqDiff, reduceCtorEq, Nat.reduceBEq, Nat.reduceLeDiff, Nat.reduceLT, xf61_L0, ai, nilA, w0, w1, fk64, fk63, fk62, fk61, fk60]
  refine W_loop (W_run 120 ?_)
  simp (maxSteps := 2000000) only [SA, Nat.reduceDiv, Nat.reduceSub, Nat.reduceAdd, Int.reduceLT, Int.reduceLE, Int.reduceToNat, Nat.reduceMul, Nat.reduceEqDiff, reduceCtorEq, Nat.reduceBEq, Nat.reduceLeDiff, Nat.reduceLT, xf61_L0, ai, nilA, w0, w1, fk64, fk63, fk62, fk61, fk60]
  refine W_loop (W_run 120 ?_)
  simp (maxSteps := 2000000) only [SA, Nat.reduceDiv, Nat.reduceSub, Nat.reduceAdd, Int.reduceLT, Int.reduceLE, Int.reduceToNat, Nat.reduceMul, Nat.reduceEqDiff, reduceCtorEq, Nat.reduceBEq, Nat.reduceLeDiff, Nat.reduceLT, xf61_L0, xf61_R0, ai, nilA]
  exact W_ret1 (WX_nil ⟨.inl rfl, _, rfl, rfl, rfl⟩)
theorem zer_3 : RunsR Try.prog xf 1000 61 [ai 3] [] (.os 1006 1 3 1 0 3) [(1006, (1, some ⟨37, 1, [.os 1014 1 3 1 0 3, .os 101014 1 3 1 0 3, .os 201014 1 3 1 0 3]⟩)), (1014, (1, some ⟨3, 1, [.v (.int .i64 0), .v (.int .i64 0), .v (.int .i64 0)]⟩)), (101014, (1, some ⟨3, 1, [.v (.int .i64 0), .v (.int .i64 0), .v (.int .i64 0)]⟩)), (201014, (1, some ⟨3, 1, [.v (.int .i64 0), .v (.int .i64 0), .v (.int .i64 0)]⟩))] := by
  have w0 : IntKind.i64.wrap (0 + 1) = 1 := rfl
  have w1 : IntKind.i64.wrap (1 + 1) = 2 := rfl
  have w2 : IntKind.i64.wrap (2 + 1) = 3 := rfl
  refine RunsR.ofW (fn := xf61) (by kernel_rfl) (W_run 80 ?_)
  simp (maxSteps := 2000000) only [SA, Nat.reduceDiv, Nat.reduceSub, Nat.reduceAdd, Int.reduceLT, Int.reduceLE, Int.reduceToNat, Nat.reduceMul, Nat.reduceEqDiff, reduceCtorEq, Nat.reduceBEq, Nat.reduceLeDiff, Nat.reduceLT, xf61, ai, nilA, fk64, fk63, fk62, fk61, fk60]
  refine W_loop (W_run 120 ?_)
  simp (maxSteps := 2000000) only [SA, Nat.reduceDiv, Nat.reduceSub, Nat.reduceAdd, Int.reduceLT, Int.reduceLE, Int.reduceToNat, Nat.reduceMul, Nat.reduceEqDiff, reduceCtorEq, Nat.reduceBEq, Nat.reduceLeDiff, Nat.reduceLT, xf61_L0, ai, nilA, w0, w1, w2, fk64, fk63, fk62, fk61, fk60]
  refine W_loop (W_run 120 ?_)
  simp (maxSteps := 2000000) only [SA, Nat.reduceDiv, Nat.reduceSub, Nat.reduceAdd, Int.reduceLT, Int.reduceLE, Int.reduceToNat, Nat.reduceMul, Nat.reduceEqDiff, reduceCtorEq, Nat.reduceBEq, Nat.reduceLeDiff, Nat.reduceLT, xf61_L0, ai, nilA, w0, w1, w2, fk64, fk63, fk62, fk61, fk60]
  refine W_loop (W_run 120 ?_)
  simp (maxSteps := 2000000) only [SA, Nat.reduceDiv, Nat.reduceSub, Nat.reduceAdd, Int.reduceLT, Int.reduceLE, Int.reduceToNat, Nat.reduceMul, Nat.reduceEqDiff, reduceCtorEq, Nat.reduceBEq, Nat.reduceLeDiff, Nat.reduceLT, xf61_L0, ai, nilA, w0, w1, w2, fk64, fk63, fk62, fk61, fk60]
  refine W_loop (W_run 120 ?_)
  simp (maxSteps := 2000000) only [SA, Nat.reduceDiv, Nat.reduceSub, Nat.reduceAdd, Int.reduceLT, Int.reduceLE, Int.reduceToNat, Nat.reduceMul, Nat.reduceEqDiff, reduceCtorEq, Nat.reduceBEq, Nat.reduceLeDiff, Nat.reduceLT, xf61_L0, xf61_R0, ai, nilA]
  exact W_ret1 (WX_nil ⟨.inl rfl, _, rfl, rfl, rfl⟩)
theorem zer_4 : RunsR Try.prog xf 1000 61 [ai 4] [] (.os 1006 1 4 1 0 4) [(1006, (1, some ⟨37, 1, [.os 1014 1 4 1 0 4, .os 101014 1 4 1 0 4, .os 201014 1 4 1 0 4, .os 301014 1 4 1 0 4]⟩)), (1014, (1, some ⟨3, 1, [.v (.int .i64 0), .v (.int .i64 0), .v (.int .i64 0), .v (.int .i64 0)]⟩)), (101014, (1, some ⟨3, 1, [.v (.int .i64 0), .v (.int .i64 0), .v (.int .i64 0), .v (.int .i64 0)]⟩)), (201014, (1, some ⟨3, 1, [.v (.int .i64 0), .v (.int .i64 0), .v (.int .i64 0), .v (.int .i64 0)]⟩)), (301014, (1, some ⟨3, 1, [.v (.int .i64 0), .v (.int .i64 0), .v (.int .i64 0), .v (.int .i64 0)]⟩))] := by
  have w0 : IntKind.i64.wrap (0 + 1) = 1 := rfl
  have w1 : IntKind.i64.wrap (1 + 1) = 2 := rfl
  have w2 : IntKind.i64.wrap (2 + 1) = 3 := rfl
  have w3 : IntKind.i64.wrap (3 + 1) = 4 := rfl
  refine RunsR.ofW (fn := xf61) (by kernel_rfl) (W_run 80 ?_)
  simp (maxSteps := 2000000) only [SA, Nat.reduceDiv, Nat.reduceSub, Nat.reduceAdd, Int.reduceLT, Int.reduceLE, Int.reduceToNat, Nat.reduceMul, Nat.reduceEqDiff, reduceCtorEq, Nat.reduceBEq, Nat.reduceLeDiff, Nat.reduceLT, xf61, ai, nilA, fk64, fk63, fk62, fk61, fk60]
  refine W_loop (W_run 120 ?_)
  simp (maxSteps := 2000000) only [SA, Nat.reduceDiv, Nat.reduceSub, Nat.reduceAdd, Int.reduceLT, Int.reduceLE, Int.reduceToNat, Nat.reduceMul, Nat.reduceEqDiff, reduceCtorEq, Nat.reduceBEq, Nat.reduceLeDiff, Nat.reduceLT, xf61_L0, ai, nilA, w0, w1, w2, w3, fk64, fk63, fk62, fk61, fk60]
  refine W_loop (W_run 120 ?_)
  simp (maxSteps := 2000000) only [SA, Nat.reduceDiv, Nat.reduceSub, Nat.reduceAdd, Int.reduceLT, Int.reduceLE, Int.reduceToNat, Nat.reduceMul, Nat.reduceEqDiff, reduceCtorEq, Nat.reduceBEq, Nat.reduceLeDiff, Nat.reduceLT, xf61_L0, ai, nilA, w0, w1, w2, w3, fk64, fk63, fk62, fk61, fk60]
  refine W_loop (W_run 120 ?_)
  simp (maxSteps := 2000000) only [SA, Nat.reduceDiv, Nat.reduceSub, Nat.reduceAdd, Int.reduceLT, Int.reduceLE, Int.reduceToNat, Nat.reduceMul, Nat.reduceEqDiff, reduceCtorEq, Nat.reduceBEq, Nat.reduceLeDiff, Nat.reduceLT, xf61_L0, ai, nilA, w0, w1, w2, w3, fk64, fk63, fk62, fk61, fk60]
  refine W_loop (W_run 120 ?_)
  simp (maxSteps := 2000000) only [SA, Nat.reduceDiv, Nat.reduceSub, Nat.reduceAdd, Int.reduceLT, Int.reduceLE, Int.reduceToNat, Nat.reduceMul, Nat.reduceEqDiff, reduceCtorEq, Nat.reduceBEq, Nat.reduceLeDiff, Nat.reduceLT, xf61_L0, ai, nilA, w0, w1, w2, w3, fk64, fk63, fk62, fk61, fk60]
  refine W_loop (W_run 120 ?_)
  simp (maxSteps := 2000000) only [SA, Nat.reduceDiv, Nat.reduceSub, Nat.reduceAdd, Int.reduceLT, Int.reduceLE, Int.reduceToNat, Nat.reduceMul, Nat.reduceEqDiff, reduceCtorEq, Nat.reduceBEq, Nat.reduceLeDiff, Nat.reduceLT, xf61_L0, xf61_R0, ai, nilA]
  exact W_ret1 (WX_nil ⟨.inl rfl, _, rfl, rfl, rfl⟩)
end Go.Proofs.Ytkbeaheladmeiaa

set_option linter.unusedSimpArgs false
set_option linter.unusedVariables false
namespace Go.Proofs.Ytkbeaheladmeiaa
open Go Go.Proofs.Eng
set_option maxRecDepth 100000
set_option maxHeartbeats 4000000
/-- the columns of a table -/
def colT (n : Nat) (T : List (List Int)) : List (List Int) := (List.range n).map fun c => (List.range n).map fun r => cel T r c
theorem col_1 {R0 : List Int} (hg : gT 1 [R0]) : Runs Try.prog xf 55 [aT [R0]] (aT (colT 1 [R0])) := by
  have l0 : R0.length = 1 := hg.row R0 (by simp)
  have g00 := get_al (l := R0) (i := 0) (by omega)
  have w0 : IntKind.i64.wrap (0 + 1) = 1 := rfl
  refine Runs.ofW (fn := xf55) 20 (by kernel_rfl) (W_run 80 ?_)
  simp (maxSteps := 2000000) only [SA, Nat.reduceDiv, Nat.reduceSub, Nat.reduceAdd, Int.reduceLT, Int.reduceLE, Int.reduceToNat, Nat.reduceMul, Nat.reduceEqDiff, reduceCtorEq, Nat.reduceBEq, Nat.reduceLeDiff, Nat.reduceLT, xf55, ai, aT, nilA, List.map_cons, List.map_nil]
  refine W_callR (kb' := 1000) (args := [ai 1]) rfl zer_1 rfl (W_run 120 ?_)
  simp (maxSteps := 2000000) only [SA, Nat.reduceDiv, Nat.reduceSub, Nat.reduceAdd, Int.reduceLT, Int.reduceLE, Int.reduceToNat, Nat.reduceMul, Nat.reduceEqDiff, reduceCtorEq, Nat.reduceBEq, Nat.reduceLeDiff, Nat.reduceLT, ai]
  refine W_loop (W_run 120 ?_)
  simp (maxSteps := 2000000) only [SA, Nat.reduceDiv, Nat.reduceSub, Nat.reduceAdd, Int.reduceLT, Int.reduceLE, Int.reduceToNat, Nat.reduceMul, Nat.reduceEqDiff, reduceCtorEq, Nat.reduceBEq, Nat.reduceLeDiff, Nat.reduceLT, xf55_L1, ai, w0]
  refine W_loop (W_run 120 ?_)
  simp (maxSteps := 2000000) only [SA, Nat.reduceDiv, Nat.reduceSub, Nat.reduceAdd, Int.reduceLT, Int.reduceLE, Int.reduceToNat, Nat.reduceMul, Nat.reduceEqDiff, reduceCtorEq, Nat.reduceBEq, Nat.reduceLeDiff, Nat.reduceLT, xf55_L0, ai, al, g00, w0]
  refine W_loop (W_run 120 ?_)
  simp (maxSteps := 2000000) only [SA, Nat.reduceDiv, Nat.reduceSub, Nat.reduceAdd, Int.reduceLT, Int.reduceLE, Int.reduceToNat, Nat.reduceMul, Nat.reduceEqDiff, reduceCtorEq, Nat.reduceBEq, Nat.reduceLeDiff, Nat.reduceLT, xf55_L0, xf55_R0, ai, w0]
  refine W_loop (W_run 120 ?_)
  simp (maxSteps := 2000000) only [SA, Nat.reduceDiv, Nat.reduceSub, Nat.reduceAdd, Int.reduceLT, Int.reduceLE, Int.reduceToNat, Nat.reduceMul, Nat.reduceEqDiff, reduceCtorEq, Nat.reduceBEq, Nat.reduceLeDiff, Nat.reduceLT, xf55_L1, xf55_R0, xf55_R1, ai]
  exact W_ret1 (WX_nil ⟨.inl rfl, _, rfl, rfl⟩)
theorem col_2 {R0 R1 : List Int} (hg : gT 2 [R0, R1]) : Runs Try.prog xf 55 [aT [R0, R1]] (aT (colT 2 [R0, R1])) := by
  have l0 : R0.length = 2 := hg.row R0 (by simp)
  have l1 : R1.length = 2 := hg.row R1 (by simp)
  have g00 := get_al (l := R0) (i := 0) (by omega)
  have g01 := get_al (l := R0) (i := 1) (by omega)
  have g10 := get_al (l := R1) (i := 0) (by omega)
  have g11 := get_al (l := R1) (i := 1) (by omega)
  have w0 : IntKind.i64.wrap (0 + 1) = 1 := rfl
  have w1 : IntKind.i64.wrap (1 + 1) = 2 := rfl
  refine Runs.ofW (fn := xf55) 20 (by kernel_rfl) (W_run 80 ?_)
  simp (maxSteps := 2000000) only [SA, Nat.reduceDiv, Nat.reduceSub, Nat.reduceAdd, Int.reduceLT, Int.reduceLE, Int.reduceToNat, Nat.reduceMul, Nat.reduceEqDiff, reduceCtorEq, Nat.reduceBEq, Nat.reduceLeDiff, Nat.reduceLT, xf55, ai, aT, nilA, List.map_cons, List.map_nil]
  refine W_callR (kb' := 1000) (args := [ai 2]) rfl zer_2 rfl (W_run 120 ?_)
  simp (maxSteps := 2000000) only [SA, Nat.reduceDiv, Nat.reduceSub, Nat.reduceAdd, Int.reduceLT, Int.reduceLE, Int.reduceToNat, Nat.reduceMul, Nat.reduceEqDiff, reduceCtorEq, Nat.reduceBEq, Nat.reduceLeDiff, Nat.reduceLT, ai]
  refine W_loop (W_run 120 ?_)
  simp (maxSteps := 2000000) only [SA, Nat.reduceDiv, Nat.reduceSub, Nat.reduceAdd, Int.reduceLT, Int.reduceLE, Int.reduceToNat, Nat.reduceMul, Nat.reduceEqDiff, reduceCtorEq, Nat.reduceBEq, Nat.reduceLeDiff, Nat.reduceLT, xf55_L1, ai, w0, w1]
  refine W_loop (W_run 120 ?_)
  simp (maxSteps := 2000000) only [SA, Nat.reduceDiv, Nat.reduceSub, Nat.reduceAdd, Int.reduceLT, Int.reduceLE, Int.reduceToNat, Nat.reduceMul, Nat.reduceEqDiff, reduceCtorEq, Nat.reduceBEq, Nat.reduceLeDiff, Nat.reduceLT, xf55_L0, ai, al, g00, w0, w1]
  refine W_loop (W_run 120 ?_)
  simp (maxSteps := 2000000) only [SA, Nat.reduceDiv, Nat.reduceSub, Nat.reduceAdd, Int.reduceLT, Int.reduceLE, Int.reduceToNat, Nat.reduceMul, Nat.reduceEqDiff, reduceCtorEq, Nat.reduceBEq, Nat.reduceLeDiff, Nat.reduceLT, xf55_L0, ai, al, g01, w0, w1]
  refine W_loop (W_run 120 ?_)
  simp (maxSteps := 2000000) only [SA, Nat.reduceDiv, Nat.reduceSub, Nat.reduceAdd, Int.reduceLT, Int.reduceLE, Int.reduceToNat, Nat.reduceMul, Nat.reduceEqDiff, reduceCtorEq, Nat.reduceBEq, Nat.reduceLeDiff, Nat.reduceLT, xf55_L0, xf55_R0, ai, w0, w1]
  refine W_loop (W_run 120 ?_)
  simp (maxSteps := 2000000) only [SA, Nat.reduceDiv, Nat.reduceSub, Nat.reduceAdd, Int.reduceLT, Int.reduceLE, Int.reduceToNat, Nat.reduceMul, Nat.reduceEqDiff, reduceCtorEq, Nat.reduceBEq, Nat.reduceLeDiff, Nat.reduceLT, xf55_L1, ai, w0, w1]
  refine W_loop (W_run 120 ?_)
  simp (maxSteps := 2000000) only [SA, Nat.reduceDiv, Nat.reduceSub, Nat.reduceAdd, Int.reduceLT, Int.reduceLE, Int.reduceToNat, Nat.reduceMul, Nat.reduceEqDiff, reduceCtorEq, Nat.reduceBEq, Nat.reduceLeDiff, Nat.reduceLT, xf55_L0, ai, al, g10, w0, w1]
  refine W_loop (W_run 120 ?_)
  simp (maxSteps := 2000000) only [SA, Nat.reduceDiv, Nat.reduceSub, Nat.reduceAdd, Int.reduceLT, Int.reduceLE, Int.reduceToNat, Nat.reduceMul, Nat.reduceEqDiff, reduceCtorEq, Nat.reduceBEq, Nat.reduceLeDiff, Nat.reduceLT, xf55_L0, ai, al, g11, w0, w1]
  refine W_loop (W_run 120 ?_)
  simp (maxSteps := 2000000) only [SA, Nat.reduceDiv, Nat.reduceSub, Nat.reduceAdd, Int.reduceLT, Int.reduceLE, Int.reduceToNat, Nat.reduceMul, Nat.reduceEqDiff, reduceCtorEq, Nat.reduceBEq, Nat.reduceLeDiff, Nat.reduceLT, xf55_L0, xf55_R0, ai, w0, w1]
  refine W_loop (W_run 120 ?_)
  simp (maxSteps := 2000000) only [SA, Nat.reduceDiv, Nat.reduceSub, Nat.reduceAdd, Int.reduceLT, Int.reduceLE, Int.reduceToNat, Nat.reduceMul, Nat.reduceEqDiff, reduceCtorEq, Nat.reduceBEq, Nat.reduceLeDiff, Nat.reduceLT, xf55_L1, xf55_R0, xf55_R1, ai]
  exact W_ret1 (WX_nil ⟨.inl rfl, _, rfl, rfl⟩)
theorem col_3 {R0 R1 R2 : List Int} (hg : gT 3 [R0, R1, R2]) : Runs Try.prog xf 55 [aT [R0, R1, R2]] (aT (colT 3 [R0, R1, R2])) := by
  have l0 : R0.length = 3 := hg.row R0 (by simp)
  have l1 : R1.length = 3 := hg.row R1 (by simp)
  have l2 : R2.length = 3 := hg.row R2 (by simp)
  have g00 := get_al (l := R0) (i := 0) (by omega)
  have g01 := get_al (l := R0) (i := 1) (by omega)
  have g02 := get_al (l := R0) (i := 2) (by omega)
  have g10 := get_al (l := R1) (i := 0) (by omega)
  have g11 := get_al (l := R1) (i := 1) (by omega)
  have g12 := get_al (l := R1) (i := 2) (by omega)
  have g20 := get_al (l := R2) (i := 0) (by omega)
  have g21 := get_al (l := R2) (i := 1) (by omega)
  have g22 := get_al (l := R2) (i := 2) (by omega)
  have w0 : IntKind.i64.wrap (0 + 1) = 1 := rfl
  have w1 : IntKind.i64.wrap (1 + 1) = 2 := rfl
  have w2 : IntKind.i64.wrap (2 + 1) = 3 := rfl
  refine Runs.ofW (fn := xf55) 20 (by kernel_rfl) (W_run 80 ?_)
  simp (maxSteps := 2000000) only [SA, Nat.reduceDiv, Nat.reduceSub, Nat.reduceAdd, Int.reduceLT, Int.reduceLE, Int.reduceToNat, Nat.reduceMul, Nat.reduceEqDiff, reduceCtorEq, Nat.reduceBEq, Nat.reduceLeDiff, Nat.reduceLT, xf55, ai, aT, nilA, List.map_cons, List.map_nil]
  refine W_callR (kb' := 1000) (args := [ai 3]) rfl zer_3 rfl (W_run 120 ?_)
  simp (maxSteps := 2000000) only [SA, Nat.reduceDiv, Nat.reduceSub, Nat.reduceAdd, Int.reduceLT, Int.reduceLE, Int.reduceToNat, Nat.reduceMul, Nat.reduceEqDiff, reduceCtorEq, Nat.reduceBEq, Nat.reduceLeDiff, Nat.reduceLT, ai]
  refine W_loop (W_run 120 ?_)
  simp (maxSteps := 2000000) only [SA, Nat.reduceDiv, Nat.reduceSub, Nat.reduceAdd, Int.reduceLT, Int.reduceLE, Int.reduceToNat, Nat.reduceMul, Nat.reduceEqDiff, reduceCtorEq, Nat.reduceBEq, Nat.reduceLeDiff, Nat.reduceLT, xf55_L1, ai, w0, w1, w2]
  refine W_loop (W_run 120 ?_)
  simp (maxSteps := 2000000) only [SA, Nat.reduceDiv, Nat.reduceSub, Nat.reduceAdd, Int.reduceLT, Int.reduceLE, Int.reduceToNat, Nat.reduceMul, Nat.reduceEqDiff, reduceCtorEq, Nat.reduceBEq, Nat.reduceLeDiff, Nat.reduceLT, xf55_L0, ai, al, g00, w0, w1, w2]
  refine W_loop (W_run 120 ?_)
  simp (maxSteps := 2000000) only [SA, Nat.reduceDiv, Nat.reduceSub, Nat.reduceAdd, Int.reduceLT, Int.reduceLE, Int.reduceToNat, Nat.reduceMul, Nat.reduceEqDiff, reduceCtorEq, Nat.reduceBEq, Nat.reduceLeDiff, Nat.reduceLT, xf55_L0, ai, al, g01, w0, w1, w2]
  refine W_loop (W_run 120 ?_)
  simp (maxSteps := 2000000) only [SA, Nat.reduceDiv, Nat.reduceSub, Nat.reduceAdd, Int.reduceLT, Int.reduceLE, Int.reduceToNat, Nat.reduceMul, Nat.reduceEqDiff, reduceCtorEq, Nat.reduceBEq, Nat.reduceLeDiff, Nat.reduceLT, xf55_L0, ai, al, g02, w0, w1, w2]
  refine W_loop (W_run 120 ?_)
  simp (maxSteps := 2000000) only [SA, Nat.reduceDiv, Nat.reduceSub, Nat.reduceAdd, Int.reduceLT, Int.reduceLE, Int.reduceToNat, Nat.reduceMul, Nat.reduceEqDiff, reduceCtorEq, Nat.reduceBEq, Nat.reduceLeDiff, Nat.reduceLT, xf55_L0, xf55_R0, ai, w0, w1, w2]
  refine W_loop (W_run 120 ?_)
  simp (maxSteps := 2000000) only [SA, Nat.reduceDiv, Nat.reduceSub, Nat.reduceAdd, Int.reduceLT, Int.reduceLE, Int.reduceToNat, Nat.reduceMul, Nat.reduceEqDiff, reduceCtorEq, Nat.reduceBEq, Nat.reduceLeDiff, Nat.reduceLT, xf55_L1, ai, w0, w1, w2]
  refine W_loop (W_run 120 ?_)
  simp (maxSteps := 2000000) only [SA, Nat.reduceDiv, Nat.reduceSub, Nat.reduceAdd, Int.reduceLT, Int.reduceLE, Int.reduceToNat, Nat.reduceMul, Nat.reduceEqDiff, reduceCtorEq, Nat.reduceBEq, Nat.reduceLeDiff, Nat.reduceLT, xf55_L0, ai, al, g10, w0, w1, w2]
  refine W_loop (W_run 120 ?_)
  simp (maxSteps := 2000000) only [SA, Nat.reduceDiv, Nat.reduceSub, Nat.reduceAdd, Int.reduceLT, Int.reduceLE, Int.reduceToNat, Nat.reduceMul, Nat.reduceEqDiff, reduceCtorEq, Nat.reduceBEq, Nat.reduceLeDiff, Nat.reduceLT, xf55_L0, ai, al, g11, w0, w1, w2]
  refine W_loop (W_run 120 ?_)
  simp (maxSteps := 2000000) only [SA, Nat.reduceDiv, Nat.reduceSub, Nat.reduceAdd, Int.reduceLT, Int.reduceLE, Int.reduceToNat, Nat.reduceMul, Nat.reduceEqDiff, reduceCtorEq, Nat.reduceBEq, Nat.reduceLeDiff, Nat.reduceLT, xf55_L0, ai, al, g12, w0, w1, w2]
  refine W_loop (W_run 120 ?_)
  simp (maxSteps := 2000000) only [SA, Nat.reduceDiv, Nat.reduceSub, Nat.reduceAdd, Int.reduceLT, Int.reduceLE, Int.reduceToNat, Nat.reduceMul, Nat.reduceEqDiff, reduceCtorEq, Nat.reduceBEq, Nat.reduceLeDiff, Nat.reduceLT, xf55_L0, xf55_R0, ai, w0, w1, w2]
  refine W_loop (W_run 120 ?_)
  simp (maxSteps := 2000000) only [SA, Nat.reduceDiv, Nat.reduceSub, Nat.reduceAdd, Int.reduceLT, Int.reduceLE, Int.reduceToNat, Nat.reduceMul, Nat.reduceEqDiff, reduceCtorEq, Nat.reduceBEq, Nat.reduceLeDiff, Nat.reduceLT, xf55_L1, ai, w0, w1, w2]
  refine W_loop (W_run 120 ?_)
  simp (maxSteps := 2000000) only [SA, Nat.reduceDiv, Nat.reduceSub, Nat.reduceAdd, Int.reduceLT, Int.reduceLE, Int.reduceToNat, Nat.reduceMul, Nat.reduceEqDiff, reduceCtorEq, Nat.reduceBEq, Nat.reduceLeDiff, Nat.reduceLT, xf55_L0, ai, al, g20, w0, w1, w2]
  refine W_loop (W_run 120 ?_)
  simp (maxSteps := 2000000) only [SA, Nat.reduceDiv, Nat.reduceSub, Nat.reduceAdd, Int.reduceLT, Int.reduceLE, Int.reduceToNat, Nat.reduceMul, Nat.reduceEqDiff, reduceCtorEq, Nat.reduceBEq, Nat.reduceLeDiff, Nat.reduceLT, xf55_L0, ai, al, g21, w0, w1, w2]
  refine W_loop (W_run 120 ?_)
  simp (maxSteps := 2000000) only [SA, Nat.reduceDiv, Nat.reduceSub, Nat.reduceAdd, Int.reduceLT, Int.reduceLE, Int.reduceToNat, Nat.reduceMul, Nat.reduceEqDiff, reduceCtorEq, Nat.reduceBEq, Nat.reduceLeDiff, Nat.reduceLT, xf55_L0, ai, al, g22, w0, w1, w2]
  refine W_loop (W_run 120 ?_)
  simp (maxSteps := 2000000) only [SA, Nat.reduceDiv, Nat.reduceSub, Nat.reduceAdd, Int.reduceLT, Int.reduceLE, Int.reduceToNat, Nat.reduceMul, Nat.reduceEqDiff, reduceCtorEq, Nat.reduceBEq, Nat.reduceLeDiff, Nat.reduceLT, xf55_L0, xf55_R0, ai, w0, w1, w2]
  refine W_loop (W_run 120 ?_)
  simp (maxSteps := 2000000) only [SA, Nat.reduceDiv, Nat.reduceSub, Nat.reduceAdd, Int.reduceLT, Int.reduceLE, Int.reduceToNat, Nat.reduceMul, Nat.reduceEqDiff, reduceCtorEq, Nat.reduceBEq, Nat.reduceLeDiff, Nat.reduceLT, xf55_L1, xf55_R0, xf55_R1, ai]
  exact W_ret1 (WX_nil ⟨.inl rfl, _, rfl, rfl⟩)
theorem col_4 {R0 R1 R2 R3 : List Int} (hg : gT 4 [R0, R1, R2, R3]) : Runs Try.prog xf 55 [aT [R0, R1, R2, R3]] (aT (colT 4 [R0, R1, R2, R3])) := by
  have l0 : R0.length = 4 := hg.row R0 (by simp)
  have l1 : R1.length = 4 := hg.row R1 (by simp)
  have l2 : R2.length = 4 := hg.row R2 (by simp)
  have l3 : R3.length = 4 := hg.row R3 (by simp)
  have g00 := get_al (l := R0) (i := 0) (by omega)
  have g01 := get_al (l := R0) (i := 1) (by omega)
  have g02 := get_al (l := R0) (i := 2) (by omega)
  have g03 := get_al (l := R0) (i := 3) (by omega)
  have g10 := get_al (l := R1) (i := 0) (by omega)
  have g11 := get_al (l := R1) (i := 1) (by omega)
  have g12 := get_al (l := R1) (i := 2) (by omega)
  have g13 := get_al (l := R1) (i := 3) (by omega)
  have g20 := get_al (l := R2) (i := 0) (by omega)
  have g21 := get_al (l := R2) (i := 1) (by omega)
  have g22 := get_al (l := R2) (i := 2) (by omega)
  have g23 := get_al (l := R2) (i := 3) (by omega)
  have g30 := get_al (l := R3) (i := 0) (by omega)
  have g31 := get_al (l := R3) (i := 1) (by omega)
  have g32 := get_al (l := R3) (i := 2) (by omega)
  have g33 := get_al (l := R3) (i := 3) (by omega)
  have w0 : IntKind.i64.wrap (0 + 1) = 1 := rfl
  have w1 : IntKind.i64.wrap (1 + 1) = 2 := rfl
  have w2 : IntKind.i64.wrap (2 + 1) = 3 := rfl
  have w3 : IntKind.i64.wrap (3 + 1) = 4 := rfl
  refine Runs.ofW (fn := xf55) 20 (by kernel_rfl) (W_run 80 ?_)
  simp (maxSteps := 2000000) only [SA, Nat.reduceDiv, Nat.reduceSub, Nat.reduceAdd, Int.reduceLT, Int.reduceLE, Int.reduceToNat, Nat.reduceMul, Nat.reduceEqDiff, reduceCtorEq, Nat.reduceBEq, Nat.reduceLeDiff, Nat.reduceLT, xf55, ai, aT, nilA, List.map_cons, List.map_nil]
  refine W_callR (kb' := 1000) (args := [ai 4]) rfl zer_4 rfl (W_run 120 ?_)
  simp (maxSteps := 2000000) only [SA, Nat.reduceDiv, Nat.reduceSub, Nat.reduceAdd, Int.reduceLT, Int.reduceLE, Int.reduceToNat, Nat.reduceMul, Nat.reduceEqDiff, reduceCtorEq, Nat.reduceBEq, Nat.reduceLeDiff, Nat.reduceLT, ai]
  refine W_loop (W_run 120 ?_)
  simp (maxSteps := 2000000) only [SA, Nat.reduceDiv, Nat.reduceSub, Nat.reduceAdd, Int.reduceLT, Int.reduceLE, Int.reduceToNat, Nat.reduceMul, Nat.reduceEqDiff, reduceCtorEq, Nat.reduceBEq, Nat.reduceLeDiff, Nat.reduceLT, xf55_L1, ai, w0, w1, w2, w3]
  refine W_loop (W_run 120 ?_)
  simp (maxSteps := 2000000) only [SA, Nat.reduceDiv, Nat.reduceSub, Nat.reduceAdd, Int.reduceLT, Int.reduceLE, Int.reduceToNat, Nat.reduceMul, Nat.reduceEqDiff, reduceCtorEq, Nat.reduceBEq, Nat.reduceLeDiff, Nat.reduceLT, xf55_L0, ai, al, g00, w0, w1, w2, w3]
  refine W_loop (W_run 120 ?_)
  simp (maxSteps := 2000000) only [SA, Nat.reduceDiv, Nat.reduceSub, Nat.reduceAdd, Int.reduceLT, Int.reduceLE, Int.reduceToNat, Nat.reduceMul, Nat.reduceEqDiff, reduceCtorEq, Nat.reduceBEq, Nat.reduceLeDiff, Nat.reduceLT, xf55_L0, ai, al, g01, w0, w1, w2, w3]
  refine W_loop (W_run 120 ?_)
  simp (maxSteps := 2000000) only [SA, Nat.reduceDiv, Nat.reduceSub, Nat.reduceAdd, Int.reduceLT, Int.reduceLE, Int.reduceToNat, Nat.reduceMul, Nat.reduceEqDiff, reduceCtorEq, Nat.reduceBEq, Nat.reduceLeDiff, Nat.reduceLT, xf55_L0, ai, al, g02, w0, w1, w2, w3]
  refine W_loop (W_run 120 ?_)
  simp (maxSteps := 2000000) only [SA, Nat.reduceDiv, Nat.reduceSub, Nat.reduceAdd, Int.reduceLT, Int.reduceLE, Int.reduceToNat, Nat.reduceMul, Nat.reduceEqDiff, reduceCtorEq, Nat.reduceBEq, Nat.reduceLeDiff, Nat.reduceLT, xf55_L0, ai, al, g03, w0, w1, w2, w3]
  refine W_loop (W_run 120 ?_)
  simp (maxSteps := 2000000) only [SA, Nat.reduceDiv, Nat.reduceSub, Nat.reduceAdd, Int.reduceLT, Int.reduceLE, Int.reduceToNat, Nat.reduceMul, Nat.reduceEqDiff, reduceCtorEq, Nat.reduceBEq, Nat.reduceLeDiff, Nat.reduceLT, xf55_L0, xf55_R0, ai, w0, w1, w2, w3]
  refine W_loop (W_run 120 ?_)
  simp (maxSteps := 2000000) only [SA, Nat.reduceDiv, Nat.reduceSub, Nat.reduceAdd, Int.reduceLT, Int.reduceLE, Int.reduceToNat, Nat.reduceMul, Nat.reduceEqDiff, reduceCtorEq, Nat.reduceBEq, Nat.reduceLeDiff, Nat.reduceLT, xf55_L1, ai, w0, w1, w2, w3]
  refine W_loop (W_run 120 ?_)
  simp (maxSteps := 2000000) only [SA, Nat.reduceDiv, Nat.reduceSub, Nat.reduceAdd, Int.reduceLT, Int.reduceLE, Int.reduceToNat, Nat.reduceMul, Nat.reduceEqDiff, reduceCtorEq, Nat.reduceBEq, Nat.reduceLeDiff, Nat.reduceLT, xf55_L0, ai, al, g10, w0, w1, w2, w3]
  refine W_loop (W_run 120 ?_)
  simp (maxSteps := 2000000) only [SA, Nat.reduceDiv, Nat.reduceSub, Nat.reduceAdd, Int.reduceLT, Int.reduceLE, Int.reduceToNat, Nat.reduceMul, Nat.reduceEqDiff, reduceCtorEq, Nat.reduceBEq, Nat.reduceLeDiff, Nat.reduceLT, xf55_L0, ai, al, g11, w0, w1, w2, w3]
  refine W_loop (W_run 120 ?_)
  simp (maxSteps := 2000000) only [SA, Nat.reduceDiv, Nat.reduceSub, Nat.reduceAdd, Int.reduceLT, Int.reduceLE, Int.reduceToNat, Nat.reduceMul, Nat.reduceEqDiff, reduceCtorEq, Nat.reduceBEq, Nat.reduceLeDiff, Nat.reduceLT, xf55_L0, ai, al, g12, w0, w1, w2, w3]
  refine W_loop (W_run 120 ?_)
  simp (maxSteps := 2000000) only [SA, Nat.reduceDiv, Nat.reduceSub, Nat.reduceAdd, Int.reduceLT, Int.reduceLE, Int.reduceToNat, Nat.reduceMul, Nat.reduceEqDiff, reduceCtorEq, Nat.reduceBEq, Nat.reduceLeDiff, Nat.reduceLT, xf55_L0, ai, al, g13, w0, w1, w2, w3]
  refine W_loop (W_run 120 ?_)
  simp (maxSteps := 2000000) only [SA, Nat.reduceDiv, Nat.reduceSub, Nat.reduceAdd, Int.reduceLT, Int.reduceLE, Int.reduceToNat, Nat.reduceMul, Nat.reduceEqDiff, reduceCtorEq, Nat.reduceBEq, Nat.reduceLeDiff, Nat.reduceLT, xf55_L0, xf55_R0, ai, w0, w1, w2, w3]
  refine W_loop (W_run 120 ?_)
  simp (maxSteps := 2000000) only [SA, Nat.reduceDiv, Nat.reduceSub, Nat.reduceAdd, Int.reduceLT, Int.reduceLE, Int.reduceToNat, Nat.reduceMul, Nat.reduceEqDiff, reduceCtorEq, Nat.reduceBEq, Nat.reduceLeDiff, Nat.reduceLT, xf55_L1, ai, w0, w1, w2, w3]
  refine W_loop (W_run 120 ?_)
  simp (maxSteps := 2000000) only [SA, Nat.reduceDiv, Nat.reduceSub, Nat.reduceAdd, Int.reduceLT, Int.reduceLE, Int.reduceToNat, Nat.reduceMul, Nat.reduceEqDiff, reduceCtorEq, Nat.reduceBEq, Nat.reduceLeDiff, Nat.reduceLT, xf55_L0, ai, al, g20, w0, w1, w2, w3]
  refine W_loop (W_run 120 ?_)
  simp (maxSteps := 2000000) only [SA, Nat.reduceDiv, Nat.reduceSub, Nat.reduceAdd, Int.reduceLT, Int.reduceLE, Int.reduceToNat, Nat.reduceMul, Nat.reduceEqDiff, reduceCtorEq, Nat.reduceBEq, Nat.reduceLeDiff, Nat.reduceLT, xf55_L0, ai, al, g21, w0, w1, w2, w3]
  refine W_loop (W_run 120 ?_)
  simp (maxSteps := 2000000) only [SA, Nat.reduceDiv, Nat.reduceSub, Nat.reduceAdd, Int.reduceLT, Int.reduceLE, Int.reduceToNat, Nat.reduceMul, Nat.reduceEqDiff, reduceCtorEq, Nat.reduceBEq, Nat.reduceLeDiff, Nat.reduceLT, xf55_L0, ai, al, g22, w0, w1, w2, w3]
  refine W_loop (W_run 120 ?_)
  simp (maxSteps := 2000000) only [SA, Nat.reduceDiv, Nat.reduceSub, Nat.reduceAdd, Int.reduceLT, Int.reduceLE, Int.reduceToNat, Nat.reduceMul, Nat.reduceEqDiff, reduceCtorEq, Nat.reduceBEq, Nat.reduceLeDiff, Nat.reduceLT, xf55_L0, ai, al, g23, w0, w1, w2, w3]
  refine W_loop (W_run 120 ?_)
  simp (maxSteps := 2000000) only [SA, Nat.reduceDiv, Nat.reduceSub, Nat.reduceAdd, Int.reduceLT, Int.reduceLE, Int.reduceToNat, Nat.reduceMul, Nat.reduceEqDiff, reduceCtorEq, Nat.reduceBEq, Nat.reduceLeDiff, Nat.reduceLT, xf55_L0, xf55_R0, ai, w0, w1, w2, w3]
  refine W_loop (W_run 120 ?_)
  simp (maxSteps := 2000000) only [SA, Nat.reduceDiv, Nat.reduceSub, Nat.reduceAdd, Int.reduceLT, Int.reduceLE, Int.reduceToNat, Nat.reduceMul, Nat.reduceEqDiff, reduceCtorEq, Nat.reduceBEq, Nat.reduceLeDiff, Nat.reduceLT, xf55_L1, ai, w0, w1, w2, w3]
  refine W_loop (W_run 120 ?_)
  simp (maxSteps := 2000000) only [SA, Nat.reduceDiv, Nat.reduceSub, Nat.reduceAdd, Int.reduceLT, Int.reduceLE, Int.reduceToNat, Nat.reduceMul, Nat.reduceEqDiff, reduceCtorEq, Nat.reduceBEq, Nat.reduceLeDiff, Nat.reduceLT, xf55_L0, ai, al, g30, w0, w1, w2, w3]
  refine W_loop (W_run 120 ?_)
  simp (maxSteps := 2000000) only [SA, Nat.reduceDiv, Nat.reduceSub, Nat.reduceAdd, Int.reduceLT, Int.reduceLE, Int.reduceToNat, Nat.reduceMul, Nat.reduceEqDiff, reduceCtorEq, Nat.reduceBEq, Nat.reduceLeDiff, Nat.reduceLT, xf55_L0, ai, al, g31, w0, w1, w2, w3]
  refine W_loop (W_run 120 ?_)
  simp (maxSteps := 2000000) only [SA, Nat.reduceDiv, Nat.reduceSub, Nat.reduceAdd, Int.reduceLT, Int.reduceLE, Int.reduceToNat, Nat.reduceMul, Nat.reduceEqDiff, reduceCtorEq, Nat.reduceBEq, Nat.reduceLeDiff, Nat.reduceLT, xf55_L0, ai, al, g32, w0, w1, w2, w3]
  refine W_loop (W_run 120 ?_)
  simp (maxSteps := 2000000) only [SA, Nat.reduceDiv, Nat.reduceSub, Nat.reduceAdd, Int.reduceLT, Int.reduceLE, Int.reduceToNat, Nat.reduceMul, Nat.reduceEqDiff, reduceCtorEq, Nat.reduceBEq, Nat.reduceLeDiff, Nat.reduceLT, xf55_L0, ai, al, g33, w0, w1, w2, w3]
  refine W_loop (W_run 120 ?_)
  simp (maxSteps := 2000000) only [SA, Nat.reduceDiv, Nat.reduceSub, Nat.reduceAdd, Int.reduceLT, Int.reduceLE, Int.reduceToNat, Nat.reduceMul, Nat.reduceEqDiff, reduceCtorEq, Nat.reduceBEq, Nat.reduceLeDiff, Nat.reduceLT, xf55_L0, xf55_R0, ai, w0, w1, w2, w3]
  refine W_loop (W_run 120 ?_)
  simp (maxSteps := 2000000) only [SA, Nat.reduceDiv, Nat.reduceSub, Nat.reduceAdd, Int.reduceLT, Int.reduceLE, Int.reduceToNat, Nat.reduceMul, Nat.reduceEqDiff, reduceCtorEq, Nat.reduceBEq, Nat.reduceLeDiff, Nat.reduceLT, xf55_L1, xf55_R0, xf55_R1, ai]
  exact W_ret1 (WX_nil ⟨.inl rfl, _, rfl, rfl⟩)
theorem col_run {n : Nat} {T : List (List Int)} (hg : gT n T) : Runs Try.prog xf 55 [aT T] (aT (colT n T)) := by
  have hn1 := hg.n1
  have hn4 := hg.n4
  have hl := hg.len
  rcases (by omega : n = 1 ∨ n = 2 ∨ n = 3 ∨ n = 4) with rfl | rfl | rfl | rfl
  · match T, hl with
    | [R0], _ => exact col_1 hg
  · match T, hl with
    | [R0, R1], _ => exact col_2 hg
  · match T, hl with
    | [R0, R1, R2], _ => exact col_3 hg
  · match T, hl with
    | [R0, R1, R2, R3], _ => exact col_4 hg
end Go.Proofs.Ytkbeaheladmeiaa

set_option linter.unusedSimpArgs false
set_option linter.unusedVariables false
namespace Go.Proofs.Ytkbeaheladmeiaa
open Go Go.Proofs.Eng
set_option maxRecDepth 100000
set_option maxHeartbeats 4000000
theorem cel_colT {n : Nat} {T : List (List Int)} {r c : Nat} (hr : r < n) (hc : c < n) : cel (colT n T) c r = cel T r c := by
  unfold colT
  show (((List.range n).map fun c => (List.range n).map fun r => cel T r c).getD c []).getD r 0 = _
  rw [List.getD_eq_getElem?_getD (l := (List.range n).map _), List.getElem?_map, List.getElem?_range hc]
  show ((List.range n).map fun r => cel T r c).getD r 0 = _
  rw [List.getD_eq_getElem?_getD, List.getElem?_map, List.getElem?_range hr]; rfl
theorem gT_col {n : Nat} {T : List (List Int)} (hg : gT n T) : gT n (colT n T) where
  len := by unfold colT; simp
  n1 := hg.n1
  n4 := hg.n4
  row := fun R hR => by
    obtain ⟨c, _, rfl⟩ := List.mem_map.1 hR
    simp
  cel := fun R hR x hx => by
    obtain ⟨c, hc, rfl⟩ := List.mem_map.1 hR
    obtain ⟨r, hr, rfl⟩ := List.mem_map.1 hx
    exact hg.b (List.mem_range.1 hr) (List.mem_range.1 hc)
def evB (n : Nat) (T : List (List Int)) : Bool := (T ++ colT n T).all fun R => decide (sumI R = sumI (T.getD 0 []))
/-- what Even returns -/
def evE (n : Nat) (T : List (List Int)) : AV := if evB n T = true then .tup [ai (sumI (T.getD 0 [])), ai 0] else .tup [ai 0, ai 17]
theorem ev_loop (T L : List (List Int)) (s0 : Int) (hL : L.length ≤ 100) (hb : ∀ R, R ∈ L → R.length ≤ 100 ∧ ∀ x, x ∈ R → 0 ≤ x ∧ x ≤ 1000) (K : List Fr) (Q : Out → Cfg → Prop)
    (hK : (L.all fun R => decide (sumI R = s0)) = true → ∀ j1 j4 j6 j7 j8 j9 j10 j11 j12 j13 j14 j15 j16 j17 j18 j19 j20 j24 j25 j26 j27 j28 j29 j30 j31 j32 : AV, W Try.prog (RelU Try.prog xf) 0 K ⟨((aT T) :: j1 :: (ai 0) :: (ai 0) :: j4 :: (ai s0) :: j6 :: j7 :: j8 :: j9 :: j10 :: j11 :: j12 :: j13 :: j14 :: j15 :: j16 :: j17 :: j18 :: j19 :: j20 :: (aT L) :: (ai L.length) :: (ai L.length) :: j24 :: j25 :: j26 :: j27 :: j28 :: j29 :: j30 :: j31 :: j32 :: []), []⟩ Q)
    (hR : (L.all fun R => decide (sumI R = s0)) = false → ∀ (i : Nat), ∀ j1 j4 j6 j7 j8 j9 j10 j11 j12 j13 j14 j15 j16 j17 j18 j19 j20 j24 j25 j26 j27 j28 j29 j30 j31 j32 : AV, WX Try.prog (RelU Try.prog xf) 0 K .ret ⟨((aT T) :: j1 :: (ai 0) :: (ai 17) :: j4 :: (ai s0) :: j6 :: j7 :: j8 :: j9 :: j10 :: j11 :: j12 :: j13 :: j14 :: j15 :: j16 :: j17 :: j18 :: j19 :: j20 :: (aT L) :: (ai L.length) :: (ai i) :: j24 :: j25 :: j26 :: j27 :: j28 :: j29 :: j30 :: j31 :: j32 :: []), []⟩ Q) :
    ∀ (k i : Nat), i + k = L.length → ((L.take i).all fun R => decide (sumI R = s0)) = true → ∀ j1 j4 j6 j7 j8 j9 j10 j11 j12 j13 j14 j15 j16 j17 j18 j19 j20 j24 j25 j26 j27 j28 j29 j30 j31 j32 : AV, W Try.prog (RelU Try.prog xf) 0 (.code (.loop xf13_L0) :: .blk 0 :: .stop :: K) ⟨((aT T) :: j1 :: (ai 0) :: (ai 0) :: j4 :: (ai s0) :: j6 :: j7 :: j8 :: j9 :: j10 :: j11 :: j12 :: j13 :: j14 :: j15 :: j16 :: j17 :: j18 :: j19 :: j20 :: (aT L) :: (ai L.length) :: (ai i) :: j24 :: j25 :: j26 :: j27 :: j28 :: j29 :: j30 :: j31 :: j32 :: []), []⟩ Q := by
  intro k
  induction k with
  | zero =>
    intro i hi ha j1 j4 j6 j7 j8 j9 j10 j11 j12 j13 j14 j15 j16 j17 j18 j19 j20 j24 j25 j26 j27 j28 j29 j30 j31 j32
    have : i = L.length := by omega
    subst this
    have h0 : decide (L.length < L.length) = false := by simp
    rw [List.take_length] at ha
    refine W_loop (W_run 80 ?_)
    simp (maxSteps := 2000000) only [SA, Nat.reduceDiv, Nat.reduceSub, Nat.reduceAdd, Int.reduceLT, Int.reduceLE, Int.reduceToNat, Nat.reduceMul, Nat.reduceEqDiff, reduceCtorEq, Nat.reduceBEq, Nat.reduceLeDiff, Nat.reduceLT, xf13_L0, ai, aT, lt_cast, h0]
    exact W_stop (hK ha _ _ _ _ _ _ _ _ _ _ _ _ _ _ _ _ _ _ _ _ _ _ _ _ _ _)
  | succ k ih =>
    intro i hi ha j1 j4 j6 j7 j8 j9 j10 j11 j12 j13 j14 j15 j16 j17 j18 j19 j20 j24 j25 j26 j27 j28 j29 j30 j31 j32
    have h1 : i < L.length := by omega
    have h0 : decide (i < L.length) = true := decide_eq_true h1
    have hget := get_T h1
    obtain ⟨b1, b2⟩ := hb _ (getD_mem (d := []) h1)
    have htr := tog_run false b1 b2
    have hnx : ((L.take (i + 1)).all fun R => decide (sumI R = s0)) = decide (sumI (L.getD i []) = s0) := by
      rw [all_take (d := []) h1, ha, Bool.true_and]
    have hbad := fun h => all_bad (p := fun R => decide (sumI R = s0)) (d := []) h1 h
    have wi : IntKind.i64.wrap ((i : Int) + 1) = ((i + 1 : Nat) : Int) := by rw [wrap_id (by omega) (by omega)]; simp
    have next := ih (i + 1) (by omega)
    have hret := fun h => hR h i
    generalize L.getD i [] = R at *
    refine W_loop (W_run 80 ?_)
    simp (maxSteps := 2000000) only [SA, Nat.reduceDiv, Nat.reduceSub, Nat.reduceAdd, Int.reduceLT, Int.reduceLE, Int.reduceToNat, Nat.reduceMul, Nat.reduceEqDiff, reduceCtorEq, Nat.reduceBEq, Nat.reduceLeDiff, Nat.reduceLT, xf13_L0, ai, aT, al, lt_cast, h0, hget]
    refine W_call (args := [al false R]) rfl (noRefs_1 (noRef_al _ _)) htr rfl (W_run 80 ?_)
    by_cases he : sumI R = s0
    · have e1 : (sumI R != s0) = false := by rw [he]; simp
      have next := next (by rw [hnx]; exact decide_eq_true he)
      simp (maxSteps := 2000000) only [SA, Nat.reduceDiv, Nat.reduceSub, Nat.reduceAdd, Int.reduceLT, Int.reduceLE, Int.reduceToNat, Nat.reduceMul, Nat.reduceEqDiff, reduceCtorEq, Nat.reduceBEq, Nat.reduceLeDiff, Nat.reduceLT, ai, e1, wi]
      exact next _ _ _ _ _ _ _ _ _ _ _ _ _ _ _ _ _ _ _ _ _ _ _ _ _ _
    · have e1 : (sumI R != s0) = true := by rw [bne_iff_ne]; exact he
      have hret := hret (hbad (decide_eq_false he))
      simp (maxSteps := 2000000) only [SA, Nat.reduceDiv, Nat.reduceSub, Nat.reduceAdd, Int.reduceLT, Int.reduceLE, Int.reduceToNat, Nat.reduceMul, Nat.reduceEqDiff, reduceCtorEq, Nat.reduceBEq, Nat.reduceLeDiff, Nat.reduceLT, ai, e1]
      exact W_ret1 (WX_pop (hret _ _ _ _ _ _ _ _ _ _ _ _ _ _ _ _ _ _ _ _ _ _ _ _ _ _))
theorem even_run {n : Nat} {T : List (List Int)} (hg : gT n T) : Runs Try.prog xf 13 [aT T] (evE n T) := by
  have n00 : ((0 : Int) != 0) = false := rfl
  have hn1 := hg.n1
  have hn4 := hg.n4
  have hlen := hg.len
  have hgc := gT_col hg
  have hlc := hgc.len
  have hget := get_T (T := T) (i := 0) (by omega)
  have h0m := getD_mem (l := T) (i := 0) (d := []) (by omega)
  have h0l := hg.row _ h0m
  have h0b := hg.cel _ h0m
  have ht0 := tog_run false (l := T.getD 0 []) (by omega) fun x hx => by have := h0b x hx; omega
  have hcat := cat2_run (A := T) (B := colT n T) (by omega) (by omega) (by omega) (by omega)
  have hcol := col_run hg
  have hall : ∀ R, R ∈ T ++ colT n T → R.length ≤ 100 ∧ ∀ x, x ∈ R → 0 ≤ x ∧ x ≤ 1000 := fun R hR => by
    rcases List.mem_append.1 hR with q | q
    · exact ⟨by rw [hg.row R q]; omega, fun x hx => by have := hg.cel R q x hx; omega⟩
    · exact ⟨by rw [hgc.row R q]; omega, fun x hx => by have := hgc.cel R q x hx; omega⟩
  have hLl : (T ++ colT n T).length ≤ 100 := by rw [List.length_append]; omega
  have hev : evB n T = ((T ++ colT n T).all fun R => decide (sumI R = sumI (T.getD 0 []))) := rfl
  have hE : evE n T = if evB n T = true then .tup [ai (sumI (T.getD 0 [])), ai 0] else .tup [ai 0, ai 17] := rfl
  rw [hE]
  have hnt := noRef_T (T ++ colT n T)
  have hlp := ev_loop T (T ++ colT n T) (sumI (T.getD 0 [])) hLl hall
  rw [← hev] at hlp
  generalize hR0 : T.getD 0 [] = R0 at *
  generalize T ++ colT n T = L at *
  refine Runs.ofW (fn := xf13) 20 (by kernel_rfl) (W_run 120 ?_)
  simp (maxSteps := 2000000) only [SA, Nat.reduceDiv, Nat.reduceSub, Nat.reduceAdd, Int.reduceLT, Int.reduceLE, Int.reduceToNat, Nat.reduceMul, Nat.reduceEqDiff, reduceCtorEq, Nat.reduceBEq, Nat.reduceLeDiff, Nat.reduceLT, xf13, ai, aT]
  refine W_call (args := [aT T]) rfl (noRefs_T T) (check_run hg) rfl (W_run 120 ?_)
  simp (maxSteps := 2000000) only [SA, Nat.reduceDiv, Nat.reduceSub, Nat.reduceAdd, Int.reduceLT, Int.reduceLE, Int.reduceToNat, Nat.reduceMul, Nat.reduceEqDiff, reduceCtorEq, Nat.reduceBEq, Nat.reduceLeDiff, Nat.reduceLT, ai, al, aT, n00, hget]
  refine W_call (args := [al false R0]) rfl (noRefs_1 (noRef_al _ _)) ht0 rfl (W_run 120 ?_)
  simp (maxSteps := 2000000) only [SA, Nat.reduceDiv, Nat.reduceSub, Nat.reduceAdd, Int.reduceLT, Int.reduceLE, Int.reduceToNat, Nat.reduceMul, Nat.reduceEqDiff, reduceCtorEq, Nat.reduceBEq, Nat.reduceLeDiff, Nat.reduceLT, ai, al, aT]
  refine W_call (args := [aT T]) rfl (noRefs_T T) hcol (noRef_T _) (W_run 120 ?_)
  simp (maxSteps := 2000000) only [SA, Nat.reduceDiv, Nat.reduceSub, Nat.reduceAdd, Int.reduceLT, Int.reduceLE, Int.reduceToNat, Nat.reduceMul, Nat.reduceEqDiff, reduceCtorEq, Nat.reduceBEq, Nat.reduceLeDiff, Nat.reduceLT, ai, al, aT, List.map_cons, List.map_nil]
  refine W_call (args := [.sl 1 true [aT T, aT (colT n T)]]) rfl (noRefs_1 (noRefs_2 (noRef_T _) (noRef_T _))) hcat hnt (W_run 120 ?_)
  simp (maxSteps := 2000000) only [SA, Nat.reduceDiv, Nat.reduceSub, Nat.reduceAdd, Int.reduceLT, Int.reduceLE, Int.reduceToNat, Nat.reduceMul, Nat.reduceEqDiff, reduceCtorEq, Nat.reduceBEq, Nat.reduceLeDiff, Nat.reduceLT, ai, al, aT]
  refine W_alone (hlp _ _ (fun ha j1 j4 j6 j7 j8 j9 j10 j11 j12 j13 j14 j15 j16 j17 j18 j19 j20 j24 j25 j26 j27 j28 j29 j30 j31 j32 => W_run 80 ?_) (fun ha i j1 j4 j6 j7 j8 j9 j10 j11 j12 j13 j14 j15 j16 j17 j18 j19 j20 j24 j25 j26 j27 j28 j29 j30 j31 j32 => ?_) L.length 0 (by omega) rfl _ _ _ _ _ _ _ _ _ _ _ _ _ _ _ _ _ _ _ _ _ _ _ _ _ _)
  · simp (maxSteps := 2000000) only [SA, Nat.reduceDiv, Nat.reduceSub, Nat.reduceAdd, Int.reduceLT, Int.reduceLE, Int.reduceToNat, Nat.reduceMul, Nat.reduceEqDiff, reduceCtorEq, Nat.reduceBEq, Nat.reduceLeDiff, Nat.reduceLT, xf13_R0, ai]
    rw [if_pos ha]
    exact W_ret1 (WX_nil ⟨.inl rfl, _, rfl, rfl⟩)
  · rw [if_neg (by rw [ha]; simp)]
    exact WX_pop (WX_nil ⟨.inl rfl, _, rfl, rfl⟩)
/-! ### added -/
/-- a table of n rows whose numbers are within bounds -/
structure shT (n : Nat) (b : Int) (T : List (List Int)) : Prop where
  len : T.length = n
  row : ∀ r, r ∈ T → r.length = n
  cel : ∀ r, r ∈ T → ∀ x, x ∈ r → -b ≤ x ∧ x ≤ b
theorem shT.rowlen {n : Nat} {b : Int} {T : List (List Int)} (h : shT n b T) {r : Nat} (hr : r < n) : (T.getD r []).length = n := h.row _ (getD_mem (by rw [h.len]; exact hr))
theorem shT.b {n : Nat} {b : Int} {T : List (List Int)} (h : shT n b T) {r c : Nat} (hr : r < n) (hc : c < n) : -b ≤ Go.Proofs.Ytkbeaheladmeiaa.cel T r c ∧ Go.Proofs.Ytkbeaheladmeiaa.cel T r c ≤ b :=
  h.cel _ (getD_mem (by rw [h.len]; exact hr)) _ (getD_mem (by rw [h.rowlen hr]; exact hc))
def addR (T : List (List Int)) (p : List Int) (z : Int) (r : Nat) : List Int := (T.getD r []).set (p.getD r 0).toNat (cel T r (p.getD r 0).toNat + z)
def addK (T : List (List Int)) (p : List Int) (z : Int) (k : Nat) : List (List Int) := (List.range k).map (addR T p z)
/-- a number added at the places of a plan -/
def addT (T : List (List Int)) (p : List Int) (z : Int) : List (List Int) := addK T p z p.length
theorem addK_succ (T : List (List Int)) (p : List Int) (z : Int) (k : Nat) : addK T p z (k + 1) = addK T p z k ++ [addR T p z k] := by
  unfold addK; rw [List.range_succ, List.map_append]; rfl
theorem addK_len (T : List (List Int)) (p : List Int) (z : Int) (k : Nat) : (addK T p z k).length = k := by unfold addK; simp
theorem shT_add {n : Nat} {b : Int} {T : List (List Int)} (h : shT n b T) {p : List Int} (hp : okP n p) {z d : Int} (hz : -d ≤ z ∧ z ≤ d) (hb : 0 ≤ b) : shT n (b + d) (addT T p z) where
  len := by unfold addT; rw [addK_len]; exact hp.1
  row := fun R hR => by
    obtain ⟨r, hr, rfl⟩ := List.mem_map.1 hR
    have hr := List.mem_range.1 hr
    unfold addR
    rw [List.length_set]
    exact h.rowlen (by have := hp.1; omega)
  cel := fun R hR x hx => by
    obtain ⟨r, hr, rfl⟩ := List.mem_map.1 hR
    have hr := List.mem_range.1 hr
    have hn := hp.1
    have hc := hp.2.1 _ (getD_mem (d := 0) (l := p) (i := r) hr)
    unfold addR at hx
    rcases List.mem_or_eq_of_mem_set hx with q | rfl
    · have := h.cel _ (getD_mem (by rw [h.len]; omega)) x q; omega
    · have := h.b (r := r) (c := (p.getD r 0).toNat) (by omega) (by omega); omega
def hA (g : Nat) (o : Option Ob) (m : List (List Int)) : Heap := [(11, (1, some ⟨37, 1, m.map (al false)⟩)), (1043, (g, o))]
theorem add_loop {n : Nat} {b : Int} {T : List (List Int)} (hs : shT n b T) (hb : b ≤ 100000) {p : List Int} (hp : okP n p) (hn4 : n ≤ 4) {z : Int} (hz : -100000 ≤ z ∧ z ≤ 100000) (K : List Fr) (Q : Out → Cfg → Prop)
    (hK : ∀ (g : Nat), ∀ j3 j4 j5 j6 j8 j9 j10 j11 j15 j16 j17 j18 j19 j20 j21 j22 j23 j24 j25 j26 j27 j28 j29 j30 j31 j32 j33 j34 j35 j36 : AV, W Try.prog (RelU Try.prog xf) 0 K ⟨((aT T) :: (al false p) :: (ai z) :: j3 :: j4 :: j5 :: j6 :: (.os 11 1 p.length 1 0 p.length) :: j8 :: j9 :: j10 :: j11 :: (al false p) :: (ai p.length) :: (ai p.length) :: j15 :: j16 :: j17 :: j18 :: j19 :: j20 :: j21 :: j22 :: j23 :: j24 :: j25 :: j26 :: j27 :: j28 :: j29 :: j30 :: j31 :: j32 :: j33 :: j34 :: j35 :: j36 :: []), hA g none (addT T p z)⟩ Q) :
    ∀ (k i : Nat), i + k = p.length → ∀ (g : Nat), ∀ j3 j4 j5 j6 j8 j9 j10 j11 j15 j16 j17 j18 j19 j20 j21 j22 j23 j24 j25 j26 j27 j28 j29 j30 j31 j32 j33 j34 j35 j36 : AV, W Try.prog (RelU Try.prog xf) 0 (.code (.loop xf59_L0) :: .blk 0 :: .stop :: K) ⟨((aT T) :: (al false p) :: (ai z) :: j3 :: j4 :: j5 :: j6 :: (.os 11 1 i 1 0 i) :: j8 :: j9 :: j10 :: j11 :: (al false p) :: (ai p.length) :: (ai i) :: j15 :: j16 :: j17 :: j18 :: j19 :: j20 :: j21 :: j22 :: j23 :: j24 :: j25 :: j26 :: j27 :: j28 :: j29 :: j30 :: j31 :: j32 :: j33 :: j34 :: j35 :: j36 :: []), hA g none (addK T p z i)⟩ Q := by
  intro k
  induction k with
  | zero =>
    intro i hi g j3 j4 j5 j6 j8 j9 j10 j11 j15 j16 j17 j18 j19 j20 j21 j22 j23 j24 j25 j26 j27 j28 j29 j30 j31 j32 j33 j34 j35 j36
    have : i = p.length := by omega
    subst this
    have h0 : decide (p.length < p.length) = false := by simp
    have hK := hK g
    unfold addT at hK
    generalize hA g none (addK T p z p.length) = hh at *
    refine W_loop (W_run 80 ?_)
    simp (maxSteps := 2000000) only [SA, Nat.reduceDiv, Nat.reduceSub, Nat.reduceAdd, Int.reduceLT, Int.reduceLE, Int.reduceToNat, Nat.reduceMul, Nat.reduceEqDiff, reduceCtorEq, Nat.reduceBEq, Nat.reduceLeDiff, Nat.reduceLT, xf59_L0, ai, al, aT, lt_cast, h0]
    exact W_stop (hK _ _ _ _ _ _ _ _ _ _ _ _ _ _ _ _ _ _ _ _ _ _ _ _ _ _ _ _ _ _)
  | succ k ih =>
    intro i hi g j3 j4 j5 j6 j8 j9 j10 j11 j15 j16 j17 j18 j19 j20 j21 j22 j23 j24 j25 j26 j27 j28 j29 j30 j31 j32 j33 j34 j35 j36
    have h1 : i < p.length := by omega
    have h0 : decide (i < p.length) = true := decide_eq_true h1
    have hpn := hp.1
    have hc := hp.2.1 _ (getD_mem (d := 0) h1)
    have hget := get_T (T := T) (i := i) (by rw [hs.len]; omega)
    have hrl := hs.rowlen (r := i) (by omega)
    have hcb := hs.b (r := i) (c := (p.getD i 0).toNat) (by omega) (by omega)
    have wi : IntKind.i64.wrap ((i : Int) + 1) = ((i + 1 : Nat) : Int) := by rw [wrap_id (by omega) (by omega)]; simp
    have next := ih (i + 1) (by omega) (g + 1)
    have hga := get_al h1
    have hadd : addR T p z i = (T.getD i []).set (p.getD i 0).toNat (cel T i (p.getD i 0).toNat + z) := rfl
    have hcel : cel T i (p.getD i 0).toNat = (T.getD i []).getD (p.getD i 0).toNat 0 := rfl
    rw [addK_succ, hadd] at next
    have hkl := addK_len T p z i
    generalize p.getD i 0 = c at *
    generalize T.getD i [] = R at *
    generalize cel T i c.toNat = y at *
    generalize addK T p z i = m at *
    have hgc := get_al (l := R) (i := c.toNat) (by omega)
    rw [← hcel] at hgc
    have hc0 := hc.1
    have hcR : c < (R.length : Int) := by omega
    have wz : IntKind.i64.wrap (y + z) = y + z := wrap_id (by omega) (by omega)
    have hset : (R.map ai).set c.toNat (.v (.int .i64 (y + z))) = (R.set c.toNat (y + z)).map ai := by rw [List.map_set]; rfl
    have q1 : (i + 1) * 24 ≤ 100000000000000 := by omega
    have q2 : i + 1 ≤ 100000000000000 := by omega
    have hcln := clone_run false R (by omega) (hA g none m) g none rfl
    unfold hA at next hcln ⊢
    rw [List.map_append] at next
    refine W_loop (W_run 80 ?_)
    simp (maxSteps := 2000000) only [SA, Nat.reduceDiv, Nat.reduceSub, Nat.reduceAdd, Int.reduceLT, Int.reduceLE, Int.reduceToNat, Nat.reduceMul, Nat.reduceEqDiff, reduceCtorEq, Nat.reduceBEq, Nat.reduceLeDiff, Nat.reduceLT, xf59_L0, ai, al, aT, lt_cast, h0, hga, hget]
    refine W_callR (kb' := 1038) (args := [al false R]) rfl hcln rfl (W_run 11 ?_)
    simp (maxSteps := 2000000) only [SA, Nat.reduceDiv, Nat.reduceSub, Nat.reduceAdd, Int.reduceLT, Int.reduceLE, Int.reduceToNat, Nat.reduceMul, Nat.reduceEqDiff, reduceCtorEq, Nat.reduceBEq, Nat.reduceLeDiff, Nat.reduceLT, ai, al, aT, hc0, hcR, hgc, wz, hset]
    refine W_giveC (t := 10) (giveT_row (k := 1043) (g := g + 1) (e := 3) (s := 1) (xs := (R.set c.toNat (y + z)).map ai) (n := R.length) rfl rfl (by simp)) (W_run 80 ?_)
    have hto : ∀ (g v s : Nat) (xs : List AV) (a b c d e : Nat), toData 1043 g v s xs (.os 11 a b c d e) = .os 11 a b c d e := fun _ _ _ _ _ _ _ _ _ => toData_other (by decide)
    simp (maxSteps := 2000000) only [SA, Nat.reduceDiv, Nat.reduceSub, Nat.reduceAdd, Int.reduceLT, Int.reduceLE, Int.reduceToNat, Nat.reduceMul, Nat.reduceEqDiff, reduceCtorEq, Nat.reduceBEq, Nat.reduceLeDiff, Nat.reduceLT, ai, al, aT, hto, toData_os, toData_v, toData_sl, toData_ptr, hkl, q1, q2, wi, Go.Proofs.Eng.elems, List.map_cons, List.map_nil, List.length_map]
    exact next _ _ _ _ _ _ _ _ _ _ _ _ _ _ _ _ _ _ _ _ _ _ _ _ _ _ _ _ _ _
theorem named11 {q : Nat × Option Ob} (j : Nat) : Go.Proofs.Eng.look [(11, q)] j = Go.Proofs.Eng.look [(11, q), (1043, (0, (none : Option Ob)))] j := by
  simp only [Go.Proofs.Eng.look]
  by_cases h : 11 = j
  · simp [h]
  · by_cases h2 : 1043 = j
    · subst h2; simp
    · simp [h, h2]
theorem added_run {n : Nat} {b : Int} {T : List (List Int)} (hs : shT n b T) (hb : b ≤ 100000) {p : List Int} (hp : okP n p) (hn4 : n ≤ 4) {z : Int} (hz : -100000 ≤ z ∧ z ≤ 100000) : Runs Try.prog xf 59 [aT T, al false p, ai z] (aT (addT T p z)) := by
  refine Runs.ofW (fn := xf59) 20 (by kernel_rfl) (W_run 80 ?_)
  simp (maxSteps := 2000000) only [SA, Nat.reduceDiv, Nat.reduceSub, Nat.reduceAdd, Int.reduceLT, Int.reduceLE, Int.reduceToNat, Nat.reduceMul, Nat.reduceEqDiff, reduceCtorEq, Nat.reduceBEq, Nat.reduceLeDiff, Nat.reduceLT, xf59, ai, al, aT, List.map_nil]
  refine W_alone (W_named named11 (add_loop hs hb hp hn4 hz _ _ (fun g j3 j4 j5 j6 j8 j9 j10 j11 j15 j16 j17 j18 j19 j20 j21 j22 j23 j24 j25 j26 j27 j28 j29 j30 j31 j32 j33 j34 j35 j36 => W_run 80 ?_) p.length 0 (by omega) 0 _ _ _ _ _ _ _ _ _ _ _ _ _ _ _ _ _ _ _ _ _ _ _ _ _ _ _ _ _ _))
  simp (maxSteps := 2000000) only [SA, Nat.reduceDiv, Nat.reduceSub, Nat.reduceAdd, Int.reduceLT, Int.reduceLE, Int.reduceToNat, Nat.reduceMul, Nat.reduceEqDiff, reduceCtorEq, Nat.reduceBEq, Nat.reduceLeDiff, Nat.reduceLT, xf59_R0, ai, hA]
  refine W_ret1 (WX_nil ⟨.inl rfl, _, rfl, ?_⟩)
  have h := reify_TT (η := hA g none (addT T p z)) (k := 11) (g := 1) (e := 37) (l := addT T p z) rfl
  have hl : (addT T p z).length = p.length := addK_len _ _ _ _
  rw [hl] at h
  exact h
end Go.Proofs.Ytkbeaheladmeiaa

set_option linter.unusedSimpArgs false
set_option linter.unusedVariables false
namespace Go.Proofs.Ytkbeaheladmeiaa
open Go Go.Proofs.Eng
set_option maxRecDepth 100000
set_option maxHeartbeats 4000000
/-! ### Sum -/
def zerT (n : Nat) : List (List Int) := (List.range n).map fun _ => List.replicate n 0
theorem zer_sh (n : Nat) : shT n 0 (zerT n) where
  len := by unfold zerT; simp
  row := fun R hR => by obtain ⟨c, _, rfl⟩ := List.mem_map.1 hR; simp
  cel := fun R hR x hx => by
    obtain ⟨c, _, rfl⟩ := List.mem_map.1 hR
    have := List.eq_of_mem_replicate hx
    omega
def addS (T : List (List Int)) (S : List (List Int × Int)) : List (List Int) := S.foldl (fun T s => addT T s.1 s.2) T
end Go.Proofs.Ytkbeaheladmeiaa

set_option linter.unusedSimpArgs false
set_option linter.unusedVariables false
namespace Go.Proofs.Ytkbeaheladmeiaa
open Go Go.Proofs.Eng
set_option maxRecDepth 100000
set_option maxHeartbeats 4000000
theorem sumI_nil : sumI [] = 0 := rfl
theorem sumI_set : ∀ (l : List Int) (i : Nat) (z : Int), i < l.length → sumI (l.set i (l.getD i 0 + z)) = sumI l + z
  | [], _, _, h => by simp at h
  | x :: l, 0, z, _ => by
    show sumI ((x + z) :: l) = _
    rw [sumI_cons, sumI_cons]; omega
  | x :: l, i + 1, z, h => by
    have ih := sumI_set l i z (by simpa using h)
    show sumI (x :: l.set i (l.getD i 0 + z)) = _
    rw [sumI_cons, sumI_cons, ih]; omega
theorem sum_ite (f : Nat → Int) (P : Nat → Bool) (z : Int) : ∀ l : List Nat, sumI (l.map fun r => f r + if P r = true then z else 0) = sumI (l.map f) + z * (l.filter P).length
  | [] => by simp [sumI]
  | x :: l => by
    have ih := sum_ite f P z l
    rw [List.map_cons, List.map_cons, sumI_cons, sumI_cons, ih, List.filter_cons]
    cases P x with
    | true => simp only [if_true, List.length_cons]; rw [show ((((l.filter P).length + 1 : Nat)) : Int) = ((l.filter P).length : Int) + 1 by omega, Int.mul_add]; omega
    | false => simp only [Bool.false_eq_true, if_false]; omega
theorem add_get {T : List (List Int)} {p : List Int} {z : Int} {r : Nat} (hr : r < p.length) : (addT T p z).getD r [] = addR T p z r := by
  unfold addT addK
  rw [List.getD_eq_getElem?_getD, List.getElem?_map, List.getElem?_range hr]; rfl
theorem cel_add {n : Nat} {b : Int} {T : List (List Int)} (hs : shT n b T) {p : List Int} (hp : okP n p) {z : Int} {r c : Nat} (hr : r < n) (hc : c < n) : cel (addT T p z) r c = cel T r c + if decide ((p.getD r 0).toNat = c) = true then z else 0 := by
  have hc2 := hp.2.1 _ (getD_mem (d := 0) (l := p) (i := r) (by have := hp.1; omega))
  show ((addT T p z).getD r []).getD c 0 = _
  rw [add_get (by have := hp.1; omega)]
  unfold addR
  rw [set_get (by rw [hs.rowlen hr]; omega)]
  by_cases e : (p.getD r 0).toNat = c
  · rw [if_pos e, decide_eq_true e, if_pos rfl, e]
  · rw [if_neg e, decide_eq_false e, if_neg (by simp)]; show cel T r c = _; omega
theorem plan_cnt {n : Nat} (h1 : 1 ≤ n) (h4 : n ≤ 4) : ∀ p, p ∈ plL n → ∀ c, c < n → ((List.range n).filter fun r => decide ((p.getD r 0).toNat = c)).length = 1 := by
  match n, h1, h4 with
  | 1, _, _ | 2, _, _ | 3, _, _ | 4, _, _ => decide +kernel
/-- all rows and all columns have this sum -/
structure EvT (n : Nat) (T : List (List Int)) (k : Int) : Prop where
  row : ∀ r, r < n → sumI (T.getD r []) = k
  col : ∀ c, c < n → sumI ((List.range n).map fun r => cel T r c) = k
theorem ev_add {n : Nat} {b k z : Int} {T : List (List Int)} (hs : shT n b T) (h1 : 1 ≤ n) (h4 : n ≤ 4) (he : EvT n T k) {p : List Int} (hp : p ∈ plL n) : EvT n (addT T p z) (k + z) where
  row := fun r hr => by
    have hok := plL_len h1 h4 p hp
    have hc2 := hok.2.1 _ (getD_mem (d := 0) (l := p) (i := r) (by have := hok.1; omega))
    rw [add_get (by have := hok.1; omega)]
    unfold addR
    show sumI ((T.getD r []).set _ ((T.getD r []).getD (p.getD r 0).toNat 0 + z)) = _
    rw [sumI_set _ _ _ (by rw [hs.rowlen hr]; omega), he.row r hr]
  col := fun c hc => by
    have hok := plL_len h1 h4 p hp
    have e : ((List.range n).map fun r => cel (addT T p z) r c) = (List.range n).map fun r => cel T r c + if decide ((p.getD r 0).toNat = c) = true then z else 0 :=
      List.map_congr_left fun r hr => cel_add hs hok (List.mem_range.1 hr) hc
    rw [e, sum_ite (fun r => cel T r c) (fun r => decide ((p.getD r 0).toNat = c)), he.col c hc, plan_cnt h1 h4 p hp c hc]
    omega
theorem ev_zer {n : Nat} (h4 : n ≤ 4) : EvT n (zerT n) 0 := by
  match n, h4 with
  | 0, _ => exact ⟨fun r h => by omega, fun c h => by omega⟩
  | 1, _ | 2, _ | 3, _ | 4, _ => exact ⟨by decide +kernel, by decide +kernel⟩
theorem evB_of {n : Nat} {T : List (List Int)} {k : Int} (hn : 1 ≤ n) (hl : T.length = n) (he : EvT n T k) : evB n T = true ∧ sumI (T.getD 0 []) = k := by
  have h0 := he.row 0 (by omega)
  refine ⟨?_, h0⟩
  unfold evB
  rw [h0, List.all_eq_true]
  intro R hR
  rw [decide_eq_true_eq]
  rcases List.mem_append.1 hR with q | q
  · obtain ⟨i, hi, rfl⟩ := List.getElem_of_mem q
    have := he.row i (by omega)
    rw [List.getD_eq_getElem?_getD, List.getElem?_eq_getElem hi] at this
    exact this
  · obtain ⟨c, hc, rfl⟩ := List.mem_map.1 q
    exact he.col c (List.mem_range.1 hc)
structure MI (n : Nat) (T : List (List Int)) (m : Int) : Prop where
  le : ∀ r c, r < n → c < n → cel T r c ≤ m
  nn : 0 ≤ m
  wit : m = 0 ∨ ∃ r c, r < n ∧ c < n ∧ m ≤ cel T r c
theorem flat_mem {n : Nat} {b : Int} {T : List (List Int)} (hs : shT n b T) {x : Int} : x ∈ T.flatten ↔ ∃ r c, r < n ∧ c < n ∧ cel T r c = x := by
  rw [List.mem_flatten]
  constructor
  · rintro ⟨R, hR, hx⟩
    obtain ⟨i, hi, rfl⟩ := List.getElem_of_mem hR
    obtain ⟨j, hj, rfl⟩ := List.getElem_of_mem hx
    have hin : i < n := by rw [← hs.len]; exact hi
    refine ⟨i, j, hin, by rw [← hs.row _ hR]; exact hj, ?_⟩
    unfold cel
    rw [List.getD_eq_getElem?_getD (l := T), List.getElem?_eq_getElem hi]
    show T[i].getD j 0 = _
    rw [List.getD_eq_getElem?_getD, List.getElem?_eq_getElem hj]; rfl
  · rintro ⟨r, c, hr, hc, rfl⟩
    exact ⟨T.getD r [], getD_mem (by rw [hs.len]; exact hr), getD_mem (by rw [hs.rowlen hr]; exact hc)⟩
/-! ### alike -/
theorem alk_loop (T : List (List Int)) (hl : T.length ≤ 100) (hr : ∀ R, R ∈ T → R.length ≤ 100) (K : List Fr) (Q : Out → Cfg → Prop)
    (hK : ∀ j2 j3 j6 j7 j8 j9 j10 j11 j12 j13 j14 j15 j16 j17 j18 j19 j20 j21 j22 j23 j24 j25 j26 : AV, W Try.prog (RelU Try.prog xf) 0 K ⟨((aT T) :: (aT T) :: j2 :: j3 :: (ab false) :: (ai T.length) :: j6 :: j7 :: j8 :: j9 :: j10 :: j11 :: j12 :: j13 :: j14 :: j15 :: j16 :: j17 :: j18 :: j19 :: j20 :: j21 :: j22 :: j23 :: j24 :: j25 :: j26 :: []), []⟩ Q) :
    ∀ (k i : Nat), i + k = T.length → ∀ j2 j3 j6 j7 j8 j9 j10 j11 j12 j13 j14 j15 j16 j17 j18 j19 j20 j21 j22 j23 j24 j25 j26 : AV, W Try.prog (RelU Try.prog xf) 0 (.code (.loop xf27_L0) :: .blk 0 :: .stop :: K) ⟨((aT T) :: (aT T) :: j2 :: j3 :: (ab false) :: (ai i) :: j6 :: j7 :: j8 :: j9 :: j10 :: j11 :: j12 :: j13 :: j14 :: j15 :: j16 :: j17 :: j18 :: j19 :: j20 :: j21 :: j22 :: j23 :: j24 :: j25 :: j26 :: []), []⟩ Q := by
  intro k
  induction k with
  | zero =>
    intro i hi j2 j3 j6 j7 j8 j9 j10 j11 j12 j13 j14 j15 j16 j17 j18 j19 j20 j21 j22 j23 j24 j25 j26
    have : i = T.length := by omega
    subst this
    have h0 : decide (T.length < T.length) = false := by simp
    refine W_loop (W_run 80 ?_)
    simp (maxSteps := 2000000) only [SA, Nat.reduceDiv, Nat.reduceSub, Nat.reduceAdd, Int.reduceLT, Int.reduceLE, Int.reduceToNat, Nat.reduceMul, Nat.reduceEqDiff, reduceCtorEq, Nat.reduceBEq, Nat.reduceLeDiff, Nat.reduceLT, xf27_L0, ai, aT, lt_cast, h0]
    exact W_stop (hK _ _ _ _ _ _ _ _ _ _ _ _ _ _ _ _ _ _ _ _ _ _ _)
  | succ k ih =>
    intro i hi j2 j3 j6 j7 j8 j9 j10 j11 j12 j13 j14 j15 j16 j17 j18 j19 j20 j21 j22 j23 j24 j25 j26
    have h1 : i < T.length := by omega
    have h0 : decide (i < T.length) = true := decide_eq_true h1
    have hget := get_T h1
    have hrl := hr _ (getD_mem (d := []) h1)
    have wi : IntKind.i64.wrap ((i : Int) + 1) = ((i + 1 : Nat) : Int) := by rw [wrap_id (by omega) (by omega)]; simp
    have next := ih (i + 1) (by omega)
    generalize T.getD i [] = R at *
    have hsm := same_al false false R hrl
    refine W_loop (W_run 80 ?_)
    simp (maxSteps := 2000000) only [SA, Nat.reduceDiv, Nat.reduceSub, Nat.reduceAdd, Int.reduceLT, Int.reduceLE, Int.reduceToNat, Nat.reduceMul, Nat.reduceEqDiff, reduceCtorEq, Nat.reduceBEq, Nat.reduceLeDiff, Nat.reduceLT, xf27_L0, ai, aT, al, lt_cast, h0, hget]
    refine W_call (args := [al false R, al false R]) rfl (noRefs_2 (noRef_al _ _) (noRef_al _ _)) hsm rfl (W_run 80 ?_)
    simp (maxSteps := 2000000) only [SA, Nat.reduceDiv, Nat.reduceSub, Nat.reduceAdd, Int.reduceLT, Int.reduceLE, Int.reduceToNat, Nat.reduceMul, Nat.reduceEqDiff, reduceCtorEq, Nat.reduceBEq, Nat.reduceLeDiff, Nat.reduceLT, ai, ab, wi]
    exact next _ _ _ _ _ _ _ _ _ _ _ _ _ _ _ _ _ _ _ _ _ _ _
theorem alike_run {T : List (List Int)} (hl : T.length ≤ 100) (hr : ∀ R, R ∈ T → R.length ≤ 100) : Runs Try.prog xf 27 [aT T, aT T] (ab true) := by
  have e : ((T.length : Int) != (T.length : Int)) = false := by simp
  refine Runs.ofW (fn := xf27) 20 (by kernel_rfl) (W_run 80 ?_)
  simp (maxSteps := 2000000) only [SA, Nat.reduceDiv, Nat.reduceSub, Nat.reduceAdd, Int.reduceLT, Int.reduceLE, Int.reduceToNat, Nat.reduceMul, Nat.reduceEqDiff, reduceCtorEq, Nat.reduceBEq, Nat.reduceLeDiff, Nat.reduceLT, xf27, ai, aT, ab, e]
  refine W_alone (alk_loop T hl hr _ _ (fun j2 j3 j6 j7 j8 j9 j10 j11 j12 j13 j14 j15 j16 j17 j18 j19 j20 j21 j22 j23 j24 j25 j26 => W_run 80 ?_) T.length 0 (by omega) _ _ _ _ _ _ _ _ _ _ _ _ _ _ _ _ _ _ _ _ _ _ _)
  simp (maxSteps := 2000000) only [SA, Nat.reduceDiv, Nat.reduceSub, Nat.reduceAdd, Int.reduceLT, Int.reduceLE, Int.reduceToNat, Nat.reduceMul, Nat.reduceEqDiff, reduceCtorEq, Nat.reduceBEq, Nat.reduceLeDiff, Nat.reduceLT, xf27_R0, ai, ab]
  exact W_ret1 (WX_nil ⟨.inl rfl, _, rfl, rfl⟩)
end Go.Proofs.Ytkbeaheladmeiaa

set_option linter.unusedSimpArgs false
set_option linter.unusedVariables false
namespace Go.Proofs.Ytkbeaheladmeiaa
open Go Go.Proofs.Eng
set_option maxRecDepth 100000
set_option maxHeartbeats 4000000
structure AI (n : Nat) (S : List (List Int × Int)) (W : List (List Int)) (sm m : Int) : Prop where
  good : ∀ s, s ∈ S → s.1 ∈ plL n ∧ 1 ≤ s.2 ∧ s.2 ≤ 4
  eq : W = addS (zerT n) S
  sh : shT n (4 * S.length) W
  ev : EvT n W sm
  mi : MI n W m
  sb : 0 ≤ sm ∧ sm ≤ 4 * S.length
  mb : m ≤ 4 * S.length
theorem reify_osX {η : Heap} {n k g e s m : Nat} {xs : List AV} (hm : xs.length = m) (hk : Go.Proofs.Eng.look η k = (g, some ⟨e, s, xs⟩)) : reify η (n + 1) (.os k g m s 0 m) = (xs.mapM (elemR (reify η n))).map (AV.sl s false) := by
  simp only [reify, hk]
  rw [if_pos (by simp [hm]), List.drop_zero, List.take_of_length_le (by omega)]
end Go.Proofs.Ytkbeaheladmeiaa

