/-
  Clones of lists of numbers; Grow at the examples of the chapter.
-/
import Derived.Test.YtdmffkknghianaaTa
set_option linter.unusedSimpArgs false
set_option linter.unusedVariables false
namespace Go.Proofs.Ytdmffkknghianaa
open Go Go.Proofs.Eng
set_option maxRecDepth 100000
set_option maxHeartbeats 4000000
theorem orders_mx : Try.prog.follows .mixedOrders = true := by kernel_rfl
theorem putAt_twice (l : Heap) (k : Nat) (r q : Nat × Option Ob) : Go.Proofs.Eng.putAt (Go.Proofs.Eng.putAt l k r) k q = Go.Proofs.Eng.putAt l k q := by
  induction l with
  | nil => simp [Go.Proofs.Eng.putAt]
  | cons p l ih =>
    obtain ⟨a, b⟩ := p
    simp only [Go.Proofs.Eng.putAt]
    by_cases h1 : a = k
    · rw [if_pos h1, if_pos h1]
      simp only [Go.Proofs.Eng.putAt]
      rw [if_pos h1]
    · rw [if_neg h1, if_neg h1]
      by_cases h2 : k < a
      · rw [if_pos h2, if_pos h2]
        simp only [Go.Proofs.Eng.putAt, if_true]
      · rw [if_neg h2, if_neg h2]
        simp only [Go.Proofs.Eng.putAt]
        rw [if_neg h1, if_neg h2, ih]
/-- a list cloned, whatever other rows there are -/
theorem cloneI_run (f : Bool) (l : List Int) (hn : l.length ≤ 100) (η : Heap) (hη : Go.Proofs.Eng.look η 1005 = (0, none)) :
    RunsR Try.prog xf 1000 23 [al f l] η (.os 1005 1 l.length 1 0 l.length) (Go.Proofs.Eng.putAt η 1005 (1, some ⟨3, 1, l.map ai⟩)) := by
  have q1 : l.length * 8 ≤ 100000000000000 := by omega
  have q2 : l.length ≤ 100000000000000 := by omega
  refine RunsR.ofW (fn := xf23) (by kernel_rfl) (W_run 80 ?_)
  simp (maxSteps := 2000000) only [SA, Nat.reduceDiv, Nat.reduceSub, Nat.reduceAdd, Int.reduceLT, Int.reduceLE, Int.reduceToNat, Nat.reduceMul, Nat.reduceEqDiff, reduceCtorEq, Nat.reduceBEq, Nat.reduceLeDiff, Nat.reduceLT, xf23, ai, al, nilA, hη, q1, q2, look_putAt, putAt_twice, Go.Proofs.Eng.elems, List.map_cons, List.map_nil, List.nil_append, Nat.add_zero]
  exact W_ret1 (WX_nil ⟨.inl rfl, _, rfl, rfl, rfl⟩)
def frL (f : Nat) : Bool := [68, 71, 66].contains f
def mmL : Memo := ⟨[], [], []⟩
theorem mmL_ok : MemoOK Try.prog xf mmL := ⟨all_none, all_none, all_none⟩
theorem lg_0 : Runs Try.prog xf 33 [.ag [ai 6, al true [3, 2, 2, 5]], al true [1, 3, 4], ai 1, ai 2] (.tup [al false [1, 2, 3, 4], ai 3, ai 0]) := by
  have w4 : IntKind.i64.wrap 4 = 4 := rfl
  have n00 : ((0 : Int) != 0) = false := rfl
  refine Runs.ofW (fn := xf33) 20 (by kernel_rfl) (W_run 80 ?_)
  simp (maxSteps := 2000000) only [SA, Nat.reduceDiv, Nat.reduceSub, Nat.reduceAdd, Int.reduceLT, Int.reduceLE, Int.reduceToNat, Nat.reduceMul, Nat.reduceEqDiff, reduceCtorEq, Nat.reduceBEq, Nat.reduceLeDiff, Nat.reduceLT, xf33, ai, al]
  refine W_call (args := [.ag [ai 6, al true [3, 2, 2, 5]], al true [1, 3, 4]]) rfl rfl (Runs.execM (r := ai 0) (fr := frL) (fuel := 10000) mmL_ok 40 (by kernel_rfl)) rfl (W_run 80 ?_)
  simp (maxSteps := 2000000) only [SA, Nat.reduceDiv, Nat.reduceSub, Nat.reduceAdd, Int.reduceLT, Int.reduceLE, Int.reduceToNat, Nat.reduceMul, Nat.reduceEqDiff, reduceCtorEq, Nat.reduceBEq, Nat.reduceLeDiff, Nat.reduceLT, ai, al, n00, w4, Int.reduceAdd, Int.reduceLT, Int.reduceLE, List.map_cons, List.map_nil]
  refine W_frF [.none, .none, .none, .none, .wk 1005, .none, .wk 12, .wk 12] (by kernel_rfl) (W_run 80 ?_)
  simp (maxSteps := 2000000) only [SA, Nat.reduceDiv, Nat.reduceSub, Nat.reduceAdd, Int.reduceLT, Int.reduceLE, Int.reduceToNat, Nat.reduceMul, Nat.reduceEqDiff, reduceCtorEq, Nat.reduceBEq, Nat.reduceLeDiff, Nat.reduceLT, ai, al, List.map_cons, List.map_nil]
  refine W_callU (k0 := 1005) (args := [al true [3, 2, 2, 5]]) rfl (fun η hη => (cloneI_run true [3, 2, 2, 5] (by decide) η (hη.trans rfl)).pureR orders_mx xf_ok) rfl (W_run 80 ?_)
  simp (maxSteps := 2000000) only [SA, Nat.reduceDiv, Nat.reduceSub, Nat.reduceAdd, Int.reduceLT, Int.reduceLE, Int.reduceToNat, Nat.reduceMul, Nat.reduceEqDiff, reduceCtorEq, Nat.reduceBEq, Nat.reduceLeDiff, Nat.reduceLT, ai, al, w4, Int.reduceAdd, List.map_cons, List.map_nil, Go.Proofs.Eng.fillA]
  refine W_call (args := [al true [1, 3, 4], .fn 56 [.ptr (ai 1)]]) rfl rfl (Runs.execM (r := ai 1) (fr := frL) (fuel := 10000) mmL_ok 40 (by kernel_rfl)) rfl (W_run 80 ?_)
  simp (maxSteps := 2000000) only [SA, Nat.reduceDiv, Nat.reduceSub, Nat.reduceAdd, Int.reduceLT, Int.reduceLE, Int.reduceToNat, Nat.reduceMul, Nat.reduceEqDiff, reduceCtorEq, Nat.reduceBEq, Nat.reduceLeDiff, Nat.reduceLT, ai, al, List.map_cons, List.map_nil]
  refine W_fresh (fuel := 20) (args := [.ag [ai 6, .os 1005 1 4 1 0 4], al true [1, 3, 4], ai 1]) (args' := [.ag [ai 6, al false [3, 4, 2, 5]], al true [1, 3, 4], ai 1]) rfl rfl (RunsN.execM (r := .tup [al false [1, 2, 3, 4], ai 3]) (fr := frL) (fuel := 10000) mmL_ok 40 (by kernel_rfl)) rfl rfl (W_run 80 ?_)
  simp (maxSteps := 2000000) only [SA, Nat.reduceDiv, Nat.reduceSub, Nat.reduceAdd, Int.reduceLT, Int.reduceLE, Int.reduceToNat, Nat.reduceMul, Nat.reduceEqDiff, reduceCtorEq, Nat.reduceBEq, Nat.reduceLeDiff, Nat.reduceLT, ai, al, List.map_cons, List.map_nil]
  exact W_ret1 (WX_nil ⟨.inl rfl, _, rfl, rfl⟩)
theorem lg_1 : Runs Try.prog xf 33 [.ag [ai 6, al true [3, 2, 2, 5]], al true [1, 3, 4], ai 1, ai 1] (.tup [al false [1, 3, 4], ai 1, ai 0]) := by
  have w4 : IntKind.i64.wrap 3 = 3 := rfl
  have n00 : ((0 : Int) != 0) = false := rfl
  refine Runs.ofW (fn := xf33) 20 (by kernel_rfl) (W_run 80 ?_)
  simp (maxSteps := 2000000) only [SA, Nat.reduceDiv, Nat.reduceSub, Nat.reduceAdd, Int.reduceLT, Int.reduceLE, Int.reduceToNat, Nat.reduceMul, Nat.reduceEqDiff, reduceCtorEq, Nat.reduceBEq, Nat.reduceLeDiff, Nat.reduceLT, xf33, ai, al]
  refine W_call (args := [.ag [ai 6, al true [3, 2, 2, 5]], al true [1, 3, 4]]) rfl rfl (Runs.execM (r := ai 0) (fr := frL) (fuel := 10000) mmL_ok 40 (by kernel_rfl)) rfl (W_run 80 ?_)
  simp (maxSteps := 2000000) only [SA, Nat.reduceDiv, Nat.reduceSub, Nat.reduceAdd, Int.reduceLT, Int.reduceLE, Int.reduceToNat, Nat.reduceMul, Nat.reduceEqDiff, reduceCtorEq, Nat.reduceBEq, Nat.reduceLeDiff, Nat.reduceLT, ai, al, n00, w4, Int.reduceAdd, Int.reduceLT, Int.reduceLE, List.map_cons, List.map_nil]
  refine W_frF [.none, .none, .none, .none, .wk 1005, .none, .wk 12, .wk 12] (by kernel_rfl) (W_run 80 ?_)
  simp (maxSteps := 2000000) only [SA, Nat.reduceDiv, Nat.reduceSub, Nat.reduceAdd, Int.reduceLT, Int.reduceLE, Int.reduceToNat, Nat.reduceMul, Nat.reduceEqDiff, reduceCtorEq, Nat.reduceBEq, Nat.reduceLeDiff, Nat.reduceLT, ai, al, List.map_cons, List.map_nil]
  refine W_callU (k0 := 1005) (args := [al true [3, 2, 2, 5]]) rfl (fun η hη => (cloneI_run true [3, 2, 2, 5] (by decide) η (hη.trans rfl)).pureR orders_mx xf_ok) rfl (W_run 80 ?_)
  simp (maxSteps := 2000000) only [SA, Nat.reduceDiv, Nat.reduceSub, Nat.reduceAdd, Int.reduceLT, Int.reduceLE, Int.reduceToNat, Nat.reduceMul, Nat.reduceEqDiff, reduceCtorEq, Nat.reduceBEq, Nat.reduceLeDiff, Nat.reduceLT, ai, al, w4, Int.reduceAdd, List.map_cons, List.map_nil, Go.Proofs.Eng.fillA]
  refine W_call (args := [al true [1, 3, 4], .fn 56 [.ptr (ai 1)]]) rfl rfl (Runs.execM (r := ai 1) (fr := frL) (fuel := 10000) mmL_ok 40 (by kernel_rfl)) rfl (W_run 80 ?_)
  simp (maxSteps := 2000000) only [SA, Nat.reduceDiv, Nat.reduceSub, Nat.reduceAdd, Int.reduceLT, Int.reduceLE, Int.reduceToNat, Nat.reduceMul, Nat.reduceEqDiff, reduceCtorEq, Nat.reduceBEq, Nat.reduceLeDiff, Nat.reduceLT, ai, al, List.map_cons, List.map_nil]
  refine W_fresh (fuel := 20) (args := [.ag [ai 6, .os 1005 1 4 1 0 4], al true [1, 3, 4], ai 1]) (args' := [.ag [ai 6, al false [3, 3, 2, 5]], al true [1, 3, 4], ai 1]) rfl rfl (RunsN.execM (r := .tup [al false [1, 3, 4], ai 1]) (fr := frL) (fuel := 10000) mmL_ok 40 (by kernel_rfl)) rfl rfl (W_run 80 ?_)
  simp (maxSteps := 2000000) only [SA, Nat.reduceDiv, Nat.reduceSub, Nat.reduceAdd, Int.reduceLT, Int.reduceLE, Int.reduceToNat, Nat.reduceMul, Nat.reduceEqDiff, reduceCtorEq, Nat.reduceBEq, Nat.reduceLeDiff, Nat.reduceLT, ai, al, List.map_cons, List.map_nil]
  exact W_ret1 (WX_nil ⟨.inl rfl, _, rfl, rfl⟩)
theorem lg_2 : Runs Try.prog xf 33 [.ag [ai 6, al true [3, 2, 2, 5]], al true [1, 3, 4], ai 3, ai 1] (.tup [al false [1, 3, 4], ai 2, ai 0]) := by
  have w4 : IntKind.i64.wrap 6 = 6 := rfl
  have n00 : ((0 : Int) != 0) = false := rfl
  refine Runs.ofW (fn := xf33) 20 (by kernel_rfl) (W_run 80 ?_)
  simp (maxSteps := 2000000) only [SA, Nat.reduceDiv, Nat.reduceSub, Nat.reduceAdd, Int.reduceLT, Int.reduceLE, Int.reduceToNat, Nat.reduceMul, Nat.reduceEqDiff, reduceCtorEq, Nat.reduceBEq, Nat.reduceLeDiff, Nat.reduceLT, xf33, ai, al]
  refine W_call (args := [.ag [ai 6, al true [3, 2, 2, 5]], al true [1, 3, 4]]) rfl rfl (Runs.execM (r := ai 0) (fr := frL) (fuel := 10000) mmL_ok 40 (by kernel_rfl)) rfl (W_run 80 ?_)
  simp (maxSteps := 2000000) only [SA, Nat.reduceDiv, Nat.reduceSub, Nat.reduceAdd, Int.reduceLT, Int.reduceLE, Int.reduceToNat, Nat.reduceMul, Nat.reduceEqDiff, reduceCtorEq, Nat.reduceBEq, Nat.reduceLeDiff, Nat.reduceLT, ai, al, n00, w4, Int.reduceAdd, Int.reduceLT, Int.reduceLE, List.map_cons, List.map_nil]
  refine W_frF [.none, .none, .none, .none, .wk 1005, .none, .wk 12, .wk 12] (by kernel_rfl) (W_run 80 ?_)
  simp (maxSteps := 2000000) only [SA, Nat.reduceDiv, Nat.reduceSub, Nat.reduceAdd, Int.reduceLT, Int.reduceLE, Int.reduceToNat, Nat.reduceMul, Nat.reduceEqDiff, reduceCtorEq, Nat.reduceBEq, Nat.reduceLeDiff, Nat.reduceLT, ai, al, List.map_cons, List.map_nil]
  refine W_callU (k0 := 1005) (args := [al true [3, 2, 2, 5]]) rfl (fun η hη => (cloneI_run true [3, 2, 2, 5] (by decide) η (hη.trans rfl)).pureR orders_mx xf_ok) rfl (W_run 80 ?_)
  simp (maxSteps := 2000000) only [SA, Nat.reduceDiv, Nat.reduceSub, Nat.reduceAdd, Int.reduceLT, Int.reduceLE, Int.reduceToNat, Nat.reduceMul, Nat.reduceEqDiff, reduceCtorEq, Nat.reduceBEq, Nat.reduceLeDiff, Nat.reduceLT, ai, al, w4, Int.reduceAdd, List.map_cons, List.map_nil, Go.Proofs.Eng.fillA]
  refine W_call (args := [al true [1, 3, 4], .fn 56 [.ptr (ai 3)]]) rfl rfl (Runs.execM (r := ai 2) (fr := frL) (fuel := 10000) mmL_ok 40 (by kernel_rfl)) rfl (W_run 80 ?_)
  simp (maxSteps := 2000000) only [SA, Nat.reduceDiv, Nat.reduceSub, Nat.reduceAdd, Int.reduceLT, Int.reduceLE, Int.reduceToNat, Nat.reduceMul, Nat.reduceEqDiff, reduceCtorEq, Nat.reduceBEq, Nat.reduceLeDiff, Nat.reduceLT, ai, al, List.map_cons, List.map_nil]
  refine W_fresh (fuel := 20) (args := [.ag [ai 6, .os 1005 1 4 1 0 4], al true [1, 3, 4], ai 2]) (args' := [.ag [ai 6, al false [3, 2, 2, 6]], al true [1, 3, 4], ai 2]) rfl rfl (RunsN.execM (r := .tup [al false [1, 3, 4], ai 2]) (fr := frL) (fuel := 10000) mmL_ok 40 (by kernel_rfl)) rfl rfl (W_run 80 ?_)
  simp (maxSteps := 2000000) only [SA, Nat.reduceDiv, Nat.reduceSub, Nat.reduceAdd, Int.reduceLT, Int.reduceLE, Int.reduceToNat, Nat.reduceMul, Nat.reduceEqDiff, reduceCtorEq, Nat.reduceBEq, Nat.reduceLeDiff, Nat.reduceLT, ai, al, List.map_cons, List.map_nil]
  exact W_ret1 (WX_nil ⟨.inl rfl, _, rfl, rfl⟩)
theorem lg_3 : Runs Try.prog xf 33 [.ag [ai 10, al true [3, 3, 4, 2, 5]], al true [2, 4, 5], ai 0, ai 4] (.tup [al false [1, 3, 5], ai 2, ai 0]) := by
  have w4 : IntKind.i64.wrap 7 = 7 := rfl
  have n00 : ((0 : Int) != 0) = false := rfl
  refine Runs.ofW (fn := xf33) 20 (by kernel_rfl) (W_run 80 ?_)
  simp (maxSteps := 2000000) only [SA, Nat.reduceDiv, Nat.reduceSub, Nat.reduceAdd, Int.reduceLT, Int.reduceLE, Int.reduceToNat, Nat.reduceMul, Nat.reduceEqDiff, reduceCtorEq, Nat.reduceBEq, Nat.reduceLeDiff, Nat.reduceLT, xf33, ai, al]
  refine W_call (args := [.ag [ai 10, al true [3, 3, 4, 2, 5]], al true [2, 4, 5]]) rfl rfl (Runs.execM (r := ai 0) (fr := frL) (fuel := 10000) mmL_ok 40 (by kernel_rfl)) rfl (W_run 80 ?_)
  simp (maxSteps := 2000000) only [SA, Nat.reduceDiv, Nat.reduceSub, Nat.reduceAdd, Int.reduceLT, Int.reduceLE, Int.reduceToNat, Nat.reduceMul, Nat.reduceEqDiff, reduceCtorEq, Nat.reduceBEq, Nat.reduceLeDiff, Nat.reduceLT, ai, al, n00, w4, Int.reduceAdd, Int.reduceLT, Int.reduceLE, List.map_cons, List.map_nil]
  refine W_frF [.none, .none, .none, .none, .wk 1005, .none, .wk 12, .wk 12] (by kernel_rfl) (W_run 80 ?_)
  simp (maxSteps := 2000000) only [SA, Nat.reduceDiv, Nat.reduceSub, Nat.reduceAdd, Int.reduceLT, Int.reduceLE, Int.reduceToNat, Nat.reduceMul, Nat.reduceEqDiff, reduceCtorEq, Nat.reduceBEq, Nat.reduceLeDiff, Nat.reduceLT, ai, al, List.map_cons, List.map_nil]
  refine W_callU (k0 := 1005) (args := [al true [3, 3, 4, 2, 5]]) rfl (fun η hη => (cloneI_run true [3, 3, 4, 2, 5] (by decide) η (hη.trans rfl)).pureR orders_mx xf_ok) rfl (W_run 80 ?_)
  simp (maxSteps := 2000000) only [SA, Nat.reduceDiv, Nat.reduceSub, Nat.reduceAdd, Int.reduceLT, Int.reduceLE, Int.reduceToNat, Nat.reduceMul, Nat.reduceEqDiff, reduceCtorEq, Nat.reduceBEq, Nat.reduceLeDiff, Nat.reduceLT, ai, al, w4, Int.reduceAdd, List.map_cons, List.map_nil, Go.Proofs.Eng.fillA]
  refine W_call (args := [al true [2, 4, 5], .fn 56 [.ptr (ai 0)]]) rfl rfl (Runs.execM (r := ai 0) (fr := frL) (fuel := 10000) mmL_ok 40 (by kernel_rfl)) rfl (W_run 80 ?_)
  simp (maxSteps := 2000000) only [SA, Nat.reduceDiv, Nat.reduceSub, Nat.reduceAdd, Int.reduceLT, Int.reduceLE, Int.reduceToNat, Nat.reduceMul, Nat.reduceEqDiff, reduceCtorEq, Nat.reduceBEq, Nat.reduceLeDiff, Nat.reduceLT, ai, al, List.map_cons, List.map_nil]
  refine W_fresh (fuel := 20) (args := [.ag [ai 10, .os 1005 1 5 1 0 5], al true [2, 4, 5], ai 0]) (args' := [.ag [ai 10, al false [7, 3, 4, 2, 5]], al true [2, 4, 5], ai 0]) rfl rfl (RunsN.execM (r := .tup [al false [1, 3, 5], ai 2]) (fr := frL) (fuel := 10000) mmL_ok 40 (by kernel_rfl)) rfl rfl (W_run 80 ?_)
  simp (maxSteps := 2000000) only [SA, Nat.reduceDiv, Nat.reduceSub, Nat.reduceAdd, Int.reduceLT, Int.reduceLE, Int.reduceToNat, Nat.reduceMul, Nat.reduceEqDiff, reduceCtorEq, Nat.reduceBEq, Nat.reduceLeDiff, Nat.reduceLT, ai, al, List.map_cons, List.map_nil]
  exact W_ret1 (WX_nil ⟨.inl rfl, _, rfl, rfl⟩)
end Go.Proofs.Ytdmffkknghianaa

