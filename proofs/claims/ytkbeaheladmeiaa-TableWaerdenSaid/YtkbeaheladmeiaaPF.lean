/-
  TableMore: a greater number; what it does to weights.
-/
import Derived.Test.YtkbeaheladmeiaaPE
import Derived.Test.YtkbeaheladmeiaaPcV
import Derived.Test.YtkbeaheladmeiaaPD
set_option linter.unusedSimpArgs false
set_option linter.unusedVariables false
namespace Go.Proofs.Ytkbeaheladmeiaa
open Go Go.Proofs.Eng
set_option maxRecDepth 100000
set_option maxHeartbeats 4000000
theorem sumI_cons (x : Int) (l : List Int) : sumI (x :: l) = x + sumI l := by
  have key : ∀ (l : List Int) (a : Int), l.foldl (· + ·) a = a + l.foldl (· + ·) 0 := by
    intro l
    induction l with
    | nil => intro a; simp
    | cons y t ih => intro a; rw [List.foldl_cons, List.foldl_cons, ih (a + y), ih (0 + y)]; omega
  unfold sumI
  rw [List.foldl_cons, key l (0 + x)]; omega
theorem sum_filter {T : List (List Int)} : ∀ (l : List (List Int)), (∀ p, p ∈ l → 0 ≤ wgt T p) → sumW T (l.filter fun p => decide (0 < wgt T p)) = sumW T l
  | [], _ => rfl
  | p :: t, h => by
    have ih := sum_filter t fun q hq => h q (List.mem_cons_of_mem _ hq)
    have hp := h p List.mem_cons_self
    unfold sumW at ih ⊢
    rw [List.filter_cons]
    split
    · rw [List.map_cons, List.map_cons, sumI_cons, sumI_cons, ih]
    · rename_i hd
      have : wgt T p = 0 := by
        have hd : ¬ 0 < wgt T p := by simpa using hd
        omega
      rw [List.map_cons, sumI_cons, ih, this]; omega
theorem wgtT_pl {n : Nat} {T : List (List Int)} (hg : gT n T) : wgtT n T = sumW T (plL n) := by
  unfold wgtT
  rw [withP_eq hg]
  refine sum_filter _ fun p hp => ?_
  obtain ⟨l1, l2, _⟩ := plL_len hg.n1 hg.n4 p hp
  exact (wgt_b hg l2 (by omega)).1
/-- one number made greater -/
theorem set_get {α : Type} {l : List α} {i j : Nat} {a d : α} (h : i < l.length) : (l.set i a).getD j d = if i = j then a else l.getD j d := by
  rw [List.getD_eq_getElem?_getD, List.getElem?_set, List.getD_eq_getElem?_getD]
  by_cases e : i = j
  · subst e; simp [h]
  · simp [e]
theorem fk64 (η : Heap) (d : Nat) : freeK η 64 d = match (lookF η d).2 with
  | some _ => freeK η 63 (d + 100000)
  | none => d := rfl
theorem fk63 (η : Heap) (d : Nat) : freeK η 63 d = match (lookF η d).2 with
  | some _ => freeK η 62 (d + 100000)
  | none => d := rfl
theorem fk62 (η : Heap) (d : Nat) : freeK η 62 d = match (lookF η d).2 with
  | some _ => freeK η 61 (d + 100000)
  | none => d := rfl
theorem fk61 (η : Heap) (d : Nat) : freeK η 61 d = match (lookF η d).2 with
  | some _ => freeK η 60 (d + 100000)
  | none => d := rfl
theorem fk60 (η : Heap) (d : Nat) : freeK η 60 d = match (lookF η d).2 with
  | some _ => freeK η 59 (d + 100000)
  | none => d := rfl
theorem emp_1 : RunsR Try.prog xf 1000 19 [ai 1] [] (.os 1011 1 1 1 0 1) [(1009, (1, some ⟨3, 1, [.v (.int .i64 0)]⟩)), (1011, (1, some ⟨37, 1, [.os 1009 1 1 1 0 1]⟩))] := by
  have w0 : IntKind.i64.wrap (0 + 1) = 1 := rfl
  refine RunsR.ofW (fn := xf19) (by kernel_rfl) (W_run 80 ?_)
  simp (maxSteps := 2000000) only [SA, Nat.reduceDiv, Nat.reduceSub, Nat.reduceAdd, Int.reduceLT, Int.reduceLE, Int.reduceToNat, Nat.reduceMul, Nat.reduceEqDiff, reduceCtorEq, Nat.reduceBEq, Nat.reduceLeDiff, Nat.reduceLT, xf19, ai, nilA]
  refine W_loop (W_run 120 ?_)
  simp (maxSteps := 2000000) only [SA, Nat.reduceDiv, Nat.reduceSub, Nat.reduceAdd, Int.reduceLT, Int.reduceLE, Int.reduceToNat, Nat.reduceMul, Nat.reduceEqDiff, reduceCtorEq, Nat.reduceBEq, Nat.reduceLeDiff, Nat.reduceLT, xf19_L0, ai, nilA, w0, fk64, fk63, fk62, fk61, fk60, Go.Proofs.Eng.elems, List.map_cons, List.map_nil]
  refine W_loop (W_run 120 ?_)
  simp (maxSteps := 2000000) only [SA, Nat.reduceDiv, Nat.reduceSub, Nat.reduceAdd, Int.reduceLT, Int.reduceLE, Int.reduceToNat, Nat.reduceMul, Nat.reduceEqDiff, reduceCtorEq, Nat.reduceBEq, Nat.reduceLeDiff, Nat.reduceLT, xf19_L0, xf19_R0, ai, nilA]
  exact W_ret1 (WX_nil ⟨.inl rfl, _, rfl, rfl, rfl⟩)
theorem emp_2 : RunsR Try.prog xf 1000 19 [ai 2] [] (.os 1011 1 2 1 0 2) [(1009, (1, some ⟨3, 1, [.v (.int .i64 0), .v (.int .i64 0)]⟩)), (1011, (1, some ⟨37, 1, [.os 1009 1 2 1 0 2, .os 101009 1 2 1 0 2]⟩)), (101009, (1, some ⟨3, 1, [.v (.int .i64 0), .v (.int .i64 0)]⟩))] := by
  have w0 : IntKind.i64.wrap (0 + 1) = 1 := rfl
  have w1 : IntKind.i64.wrap (1 + 1) = 2 := rfl
  refine RunsR.ofW (fn := xf19) (by kernel_rfl) (W_run 80 ?_)
  simp (maxSteps := 2000000) only [SA, Nat.reduceDiv, Nat.reduceSub, Nat.reduceAdd, Int.reduceLT, Int.reduceLE, Int.reduceToNat, Nat.reduceMul, Nat.reduceEqDiff, reduceCtorEq, Nat.reduceBEq, Nat.reduceLeDiff, Nat.reduceLT, xf19, ai, nilA]
  refine W_loop (W_run 120 ?_)
  simp (maxSteps := 2000000) only [SA, Nat.reduceDiv, Nat.reduceSub, Nat.reduceAdd, Int.reduceLT, Int.reduceLE, Int.reduceToNat, Nat.reduceMul, Nat.reduceEqDiff, reduceCtorEq, Nat.reduceBEq, Nat.reduceLeDiff, Nat.reduceLT, xf19_L0, ai, nilA, w0, w1, fk64, fk63, fk62, fk61, fk60, Go.Proofs.Eng.elems, List.map_cons, List.map_nil]
  refine W_loop (W_run 120 ?_)
  simp (maxSteps := 2000000) only [SA, Nat.reduceDiv, Nat.reduceSub, Nat.reduceAdd, Int.reduceLT, Int.reduceLE, Int.reduceToNat, Nat.reduceMul, Nat.reduceEqDiff, reduceCtorEq, Nat.reduceBEq, Nat.reduceLeDiff, Nat.reduceLT, xf19_L0, ai, nilA, w0, w1, fk64, fk63, fk62, fk61, fk60, Go.Proofs.Eng.elems, List.map_cons, List.map_nil]
  refine W_loop (W_run 120 ?_)
  simp (maxSteps := 2000000) only [SA, Nat.reduceDiv, Nat.reduceSub, Nat.reduceAdd, Int.reduceLT, Int.reduceLE, Int.reduceToNat, Nat.reduceMul, Nat.reduceEqDiff, reduceCtorEq, Nat.reduceBEq, Nat.reduceLeDiff, Nat.reduceLT, xf19_L0, xf19_R0, ai, nilA]
  exact W_ret1 (WX_nil ⟨.inl rfl, _, rfl, rfl, rfl⟩)
theorem emp_3 : RunsR Try.prog xf 1000 19 [ai 3] [] (.os 1011 1 3 1 0 3) [(1009, (1, some ⟨3, 1, [.v (.int .i64 0), .v (.int .i64 0), .v (.int .i64 0)]⟩)), (1011, (1, some ⟨37, 1, [.os 1009 1 3 1 0 3, .os 101009 1 3 1 0 3, .os 201009 1 3 1 0 3]⟩)), (101009, (1, some ⟨3, 1, [.v (.int .i64 0), .v (.int .i64 0), .v (.int .i64 0)]⟩)), (201009, (1, some ⟨3, 1, [.v (.int .i64 0), .v (.int .i64 0), .v (.int .i64 0)]⟩))] := by
  have w0 : IntKind.i64.wrap (0 + 1) = 1 := rfl
  have w1 : IntKind.i64.wrap (1 + 1) = 2 := rfl
  have w2 : IntKind.i64.wrap (2 + 1) = 3 := rfl
  refine RunsR.ofW (fn := xf19) (by kernel_rfl) (W_run 80 ?_)
  simp (maxSteps := 2000000) only [SA, Nat.reduceDiv, Nat.reduceSub, Nat.reduceAdd, Int.reduceLT, Int.reduceLE, Int.reduceToNat, Nat.reduceMul, Nat.reduceEqDiff, reduceCtorEq, Nat.reduceBEq, Nat.reduceLeDiff, Nat.reduceLT, xf19, ai, nilA]
  refine W_loop (W_run 120 ?_)
  simp (maxSteps := 2000000) only [SA, Nat.reduceDiv, Nat.reduceSub, Nat.reduceAdd, Int.reduceLT, Int.reduceLE, Int.reduceToNat, Nat.reduceMul, Nat.reduceEqDiff, reduceCtorEq, Nat.reduceBEq, Nat.reduceLeDiff, Nat.reduceLT, xf19_L0, ai, nilA, w0, w1, w2, fk64, fk63, fk62, fk61, fk60, Go.Proofs.Eng.elems, List.map_cons, List.map_nil]
  refine W_loop (W_run 120 ?_)
  simp (maxSteps := 2000000) only [SA, Nat.reduceDiv, Nat.reduceSub, Nat.reduceAdd, Int.reduceLT, Int.reduceLE, Int.reduceToNat, Nat.reduceMul, Nat.reduceEqDiff, reduceCtorEq, Nat.reduceBEq, Nat.reduceLeDiff, Nat.reduceLT, xf19_L0, ai, nilA, w0, w1, w2, fk64, fk63, fk62, fk61, fk60, Go.Proofs.Eng.elems, List.map_cons, List.map_nil]
  refine W_loop (W_run 120 ?_)
  simp (maxSteps := 2000000) only [SA, Nat.reduceDiv, Nat.reduceSub, Nat.reduceAdd, Int.reduceLT, Int.reduceLE, Int.reduceToNat, Nat.reduceMul, Nat.reduceEqDiff, reduceCtorEq, Nat.reduceBEq, Nat.reduceLeDiff, Nat.reduceLT, xf19_L0, ai, nilA, w0, w1, w2, fk64, fk63, fk62, fk61, fk60, Go.Proofs.Eng.elems, List.map_cons, List.map_nil]
  refine W_loop (W_run 120 ?_)
  simp (maxSteps := 2000000) only [SA, Nat.reduceDiv, Nat.reduceSub, Nat.reduceAdd, Int.reduceLT, Int.reduceLE, Int.reduceToNat, Nat.reduceMul, Nat.reduceEqDiff, reduceCtorEq, Nat.reduceBEq, Nat.reduceLeDiff, Nat.reduceLT, xf19_L0, xf19_R0, ai, nilA]
  exact W_ret1 (WX_nil ⟨.inl rfl, _, rfl, rfl, rfl⟩)
theorem emp_4 : RunsR Try.prog xf 1000 19 [ai 4] [] (.os 1011 1 4 1 0 4) [(1009, (1, some ⟨3, 1, [.v (.int .i64 0), .v (.int .i64 0), .v (.int .i64 0), .v (.int .i64 0)]⟩)), (1011, (1, some ⟨37, 1, [.os 1009 1 4 1 0 4, .os 101009 1 4 1 0 4, .os 201009 1 4 1 0 4, .os 301009 1 4 1 0 4]⟩)), (101009, (1, some ⟨3, 1, [.v (.int .i64 0), .v (.int .i64 0), .v (.int .i64 0), .v (.int .i64 0)]⟩)), (201009, (1, some ⟨3, 1, [.v (.int .i64 0), .v (.int .i64 0), .v (.int .i64 0), .v (.int .i64 0)]⟩)), (301009, (1, some ⟨3, 1, [.v (.int .i64 0), .v (.int .i64 0), .v (.int .i64 0), .v (.int .i64 0)]⟩))] := by
  have w0 : IntKind.i64.wrap (0 + 1) = 1 := rfl
  have w1 : IntKind.i64.wrap (1 + 1) = 2 := rfl
  have w2 : IntKind.i64.wrap (2 + 1) = 3 := rfl
  have w3 : IntKind.i64.wrap (3 + 1) = 4 := rfl
  refine RunsR.ofW (fn := xf19) (by kernel_rfl) (W_run 80 ?_)
  simp (maxSteps := 2000000) only [SA, Nat.reduceDiv, Nat.reduceSub, Nat.reduceAdd, Int.reduceLT, Int.reduceLE, Int.reduceToNat, Nat.reduceMul, Nat.reduceEqDiff, reduceCtorEq, Nat.reduceBEq, Nat.reduceLeDiff, Nat.reduceLT, xf19, ai, nilA]
  refine W_loop (W_run 120 ?_)
  simp (maxSteps := 2000000) only [SA, Nat.reduceDiv, Nat.reduceSub, Nat.reduceAdd, Int.reduceLT, Int.reduceLE, Int.reduceToNat, Nat.reduceMul, Nat.reduceEqDiff, reduceCtorEq, Nat.reduceBEq, Nat.reduceLeDiff, Nat.reduceLT, xf19_L0, ai, nilA, w0, w1, w2, w3, fk64, fk63, fk62, fk61, fk60, Go.Proofs.Eng.elems, List.map_cons, List.map_nil]
  refine W_loop (W_run 120 ?_)
  simp (maxSteps := 2000000) only [SA, Nat.reduceDiv, Nat.reduceSub, Nat.reduceAdd, Int.reduceLT, Int.reduceLE, Int.reduceToNat, Nat.reduceMul, Nat.reduceEqDiff, reduceCtorEq, Nat.reduceBEq, Nat.reduceLeDiff, Nat.reduceLT, xf19_L0, ai, nilA, w0, w1, w2, w3, fk64, fk63, fk62, fk61, fk60, Go.Proofs.Eng.elems, List.map_cons, List.map_nil]
  refine W_loop (W_run 120 ?_)
  simp (maxSteps := 2000000) only [SA, Nat.reduceDiv, Nat.reduceSub, Nat.reduceAdd, Int.reduceLT, Int.reduceLE, Int.reduceToNat, Nat.reduceMul, Nat.reduceEqDiff, reduceCtorEq, Nat.reduceBEq, Nat.reduceLeDiff, Nat.reduceLT, xf19_L0, ai, nilA, w0, w1, w2, w3, fk64, fk63, fk62, fk61, fk60, Go.Proofs.Eng.elems, List.map_cons, List.map_nil]
  refine W_loop (W_run 120 ?_)
  simp (maxSteps := 2000000) only [SA, Nat.reduceDiv, Nat.reduceSub, Nat.reduceAdd, Int.reduceLT, Int.reduceLE, Int.reduceToNat, Nat.reduceMul, Nat.reduceEqDiff, reduceCtorEq, Nat.reduceBEq, Nat.reduceLeDiff, Nat.reduceLT, xf19_L0, ai, nilA, w0, w1, w2, w3, fk64, fk63, fk62, fk61, fk60, Go.Proofs.Eng.elems, List.map_cons, List.map_nil]
  refine W_loop (W_run 120 ?_)
  simp (maxSteps := 2000000) only [SA, Nat.reduceDiv, Nat.reduceSub, Nat.reduceAdd, Int.reduceLT, Int.reduceLE, Int.reduceToNat, Nat.reduceMul, Nat.reduceEqDiff, reduceCtorEq, Nat.reduceBEq, Nat.reduceLeDiff, Nat.reduceLT, xf19_L0, xf19_R0, ai, nilA]
  exact W_ret1 (WX_nil ⟨.inl rfl, _, rfl, rfl, rfl⟩)
end Go.Proofs.Ytkbeaheladmeiaa

set_option linter.unusedSimpArgs false
set_option linter.unusedVariables false
namespace Go.Proofs.Ytkbeaheladmeiaa
open Go Go.Proofs.Eng
set_option maxRecDepth 100000
set_option maxHeartbeats 4000000
end Go.Proofs.Ytkbeaheladmeiaa

set_option linter.unusedSimpArgs false
set_option linter.unusedVariables false
namespace Go.Proofs.Ytkbeaheladmeiaa
open Go Go.Proofs.Eng
set_option maxRecDepth 100000
set_option maxHeartbeats 4000000
/-- the columns of a table -/
def colT (n : Nat) (T : List (List Int)) : List (List Int) := (List.range n).map fun c => (List.range n).map fun r => cel T r c
end Go.Proofs.Ytkbeaheladmeiaa

set_option linter.unusedSimpArgs false
set_option linter.unusedVariables false
namespace Go.Proofs.Ytkbeaheladmeiaa
open Go Go.Proofs.Eng
set_option maxRecDepth 100000
set_option maxHeartbeats 4000000
theorem cel_colT {n : Nat} {T : List (List Int)} {r c : Nat} (hr : r < n) (hc : c < n) : cel (colT n T) c r = cel T r c := by
  unfold colT
  show (((List.range n).map fun c => (List.range n).map fun r => cel T r c).getD c []).getD r 0 = _
  rw [List.getD_eq_getElem?_getD (l := (List.range n).map _), List.getElem?_map, List.getElem?_range hc]
  show ((List.range n).map fun r => cel T r c).getD r 0 = _
  rw [List.getD_eq_getElem?_getD, List.getElem?_map, List.getElem?_range hr]; rfl
theorem gT_col {n : Nat} {T : List (List Int)} (hg : gT n T) : gT n (colT n T) where
  len := by unfold colT; simp
  n1 := hg.n1
  n4 := hg.n4
  row := fun R hR => by
    obtain ⟨c, _, rfl⟩ := List.mem_map.1 hR
    simp
  cel := fun R hR x hx => by
    obtain ⟨c, hc, rfl⟩ := List.mem_map.1 hR
    obtain ⟨r, hr, rfl⟩ := List.mem_map.1 hx
    exact hg.b (List.mem_range.1 hr) (List.mem_range.1 hc)
def evB (n : Nat) (T : List (List Int)) : Bool := (T ++ colT n T).all fun R => decide (sumI R = sumI (T.getD 0 []))
/-- what Even returns -/
def evE (n : Nat) (T : List (List Int)) : AV := if evB n T = true then .tup [ai (sumI (T.getD 0 [])), ai 0] else .tup [ai 0, ai 17]
/-! ### added -/
/-- a table of n rows whose numbers are within bounds -/
structure shT (n : Nat) (b : Int) (T : List (List Int)) : Prop where
  len : T.length = n
  row : ∀ r, r ∈ T → r.length = n
  cel : ∀ r, r ∈ T → ∀ x, x ∈ r → -b ≤ x ∧ x ≤ b
theorem shT.rowlen {n : Nat} {b : Int} {T : List (List Int)} (h : shT n b T) {r : Nat} (hr : r < n) : (T.getD r []).length = n := h.row _ (getD_mem (by rw [h.len]; exact hr))
theorem shT.b {n : Nat} {b : Int} {T : List (List Int)} (h : shT n b T) {r c : Nat} (hr : r < n) (hc : c < n) : -b ≤ Go.Proofs.Ytkbeaheladmeiaa.cel T r c ∧ Go.Proofs.Ytkbeaheladmeiaa.cel T r c ≤ b :=
  h.cel _ (getD_mem (by rw [h.len]; exact hr)) _ (getD_mem (by rw [h.rowlen hr]; exact hc))
def addR (T : List (List Int)) (p : List Int) (z : Int) (r : Nat) : List Int := (T.getD r []).set (p.getD r 0).toNat (cel T r (p.getD r 0).toNat + z)
def addK (T : List (List Int)) (p : List Int) (z : Int) (k : Nat) : List (List Int) := (List.range k).map (addR T p z)
/-- a number added at the places of a plan -/
def addT (T : List (List Int)) (p : List Int) (z : Int) : List (List Int) := addK T p z p.length
theorem addK_len (T : List (List Int)) (p : List Int) (z : Int) (k : Nat) : (addK T p z k).length = k := by unfold addK; simp
theorem shT_add {n : Nat} {b : Int} {T : List (List Int)} (h : shT n b T) {p : List Int} (hp : okP n p) {z d : Int} (hz : -d ≤ z ∧ z ≤ d) (hb : 0 ≤ b) : shT n (b + d) (addT T p z) where
  len := by unfold addT; rw [addK_len]; exact hp.1
  row := fun R hR => by
    obtain ⟨r, hr, rfl⟩ := List.mem_map.1 hR
    have hr := List.mem_range.1 hr
    unfold addR
    rw [List.length_set]
    exact h.rowlen (by have := hp.1; omega)
  cel := fun R hR x hx => by
    obtain ⟨r, hr, rfl⟩ := List.mem_map.1 hR
    have hr := List.mem_range.1 hr
    have hn := hp.1
    have hc := hp.2.1 _ (getD_mem (d := 0) (l := p) (i := r) hr)
    unfold addR at hx
    rcases List.mem_or_eq_of_mem_set hx with q | rfl
    · have := h.cel _ (getD_mem (by rw [h.len]; omega)) x q; omega
    · have := h.b (r := r) (c := (p.getD r 0).toNat) (by omega) (by omega); omega
def hA (g : Nat) (o : Option Ob) (m : List (List Int)) : Heap := [(11, (1, some ⟨37, 1, m.map (al false)⟩)), (1043, (g, o))]
end Go.Proofs.Ytkbeaheladmeiaa

set_option linter.unusedSimpArgs false
set_option linter.unusedVariables false
namespace Go.Proofs.Ytkbeaheladmeiaa
open Go Go.Proofs.Eng
set_option maxRecDepth 100000
set_option maxHeartbeats 4000000
/-! ### Sum -/
def zerT (n : Nat) : List (List Int) := (List.range n).map fun _ => List.replicate n 0
theorem zer_sh (n : Nat) : shT n 0 (zerT n) where
  len := by unfold zerT; simp
  row := fun R hR => by obtain ⟨c, _, rfl⟩ := List.mem_map.1 hR; simp
  cel := fun R hR x hx => by
    obtain ⟨c, _, rfl⟩ := List.mem_map.1 hR
    have := List.eq_of_mem_replicate hx
    omega
def addS (T : List (List Int)) (S : List (List Int × Int)) : List (List Int) := S.foldl (fun T s => addT T s.1 s.2) T
end Go.Proofs.Ytkbeaheladmeiaa

set_option linter.unusedSimpArgs false
set_option linter.unusedVariables false
namespace Go.Proofs.Ytkbeaheladmeiaa
open Go Go.Proofs.Eng
set_option maxRecDepth 100000
set_option maxHeartbeats 4000000
theorem sumI_nil : sumI [] = 0 := rfl
theorem sumI_set : ∀ (l : List Int) (i : Nat) (z : Int), i < l.length → sumI (l.set i (l.getD i 0 + z)) = sumI l + z
  | [], _, _, h => by simp at h
  | x :: l, 0, z, _ => by
    show sumI ((x + z) :: l) = _
    rw [sumI_cons, sumI_cons]; omega
  | x :: l, i + 1, z, h => by
    have ih := sumI_set l i z (by simpa using h)
    show sumI (x :: l.set i (l.getD i 0 + z)) = _
    rw [sumI_cons, sumI_cons, ih]; omega
theorem sum_ite (f : Nat → Int) (P : Nat → Bool) (z : Int) : ∀ l : List Nat, sumI (l.map fun r => f r + if P r = true then z else 0) = sumI (l.map f) + z * (l.filter P).length
  | [] => by simp [sumI]
  | x :: l => by
    have ih := sum_ite f P z l
    rw [List.map_cons, List.map_cons, sumI_cons, sumI_cons, ih, List.filter_cons]
    cases P x with
    | true => simp only [if_true, List.length_cons]; rw [show ((((l.filter P).length + 1 : Nat)) : Int) = ((l.filter P).length : Int) + 1 by omega, Int.mul_add]; omega
    | false => simp only [Bool.false_eq_true, if_false]; omega
theorem add_get {T : List (List Int)} {p : List Int} {z : Int} {r : Nat} (hr : r < p.length) : (addT T p z).getD r [] = addR T p z r := by
  unfold addT addK
  rw [List.getD_eq_getElem?_getD, List.getElem?_map, List.getElem?_range hr]; rfl
theorem cel_add {n : Nat} {b : Int} {T : List (List Int)} (hs : shT n b T) {p : List Int} (hp : okP n p) {z : Int} {r c : Nat} (hr : r < n) (hc : c < n) : cel (addT T p z) r c = cel T r c + if decide ((p.getD r 0).toNat = c) = true then z else 0 := by
  have hc2 := hp.2.1 _ (getD_mem (d := 0) (l := p) (i := r) (by have := hp.1; omega))
  show ((addT T p z).getD r []).getD c 0 = _
  rw [add_get (by have := hp.1; omega)]
  unfold addR
  rw [set_get (by rw [hs.rowlen hr]; omega)]
  by_cases e : (p.getD r 0).toNat = c
  · rw [if_pos e, decide_eq_true e, if_pos rfl, e]
  · rw [if_neg e, decide_eq_false e, if_neg (by simp)]; show cel T r c = _; omega
theorem plan_cnt {n : Nat} (h1 : 1 ≤ n) (h4 : n ≤ 4) : ∀ p, p ∈ plL n → ∀ c, c < n → ((List.range n).filter fun r => decide ((p.getD r 0).toNat = c)).length = 1 := by
  match n, h1, h4 with
  | 1, _, _ | 2, _, _ | 3, _, _ | 4, _, _ => decide +kernel
/-- all rows and all columns have this sum -/
structure EvT (n : Nat) (T : List (List Int)) (k : Int) : Prop where
  row : ∀ r, r < n → sumI (T.getD r []) = k
  col : ∀ c, c < n → sumI ((List.range n).map fun r => cel T r c) = k
theorem ev_add {n : Nat} {b k z : Int} {T : List (List Int)} (hs : shT n b T) (h1 : 1 ≤ n) (h4 : n ≤ 4) (he : EvT n T k) {p : List Int} (hp : p ∈ plL n) : EvT n (addT T p z) (k + z) where
  row := fun r hr => by
    have hok := plL_len h1 h4 p hp
    have hc2 := hok.2.1 _ (getD_mem (d := 0) (l := p) (i := r) (by have := hok.1; omega))
    rw [add_get (by have := hok.1; omega)]
    unfold addR
    show sumI ((T.getD r []).set _ ((T.getD r []).getD (p.getD r 0).toNat 0 + z)) = _
    rw [sumI_set _ _ _ (by rw [hs.rowlen hr]; omega), he.row r hr]
  col := fun c hc => by
    have hok := plL_len h1 h4 p hp
    have e : ((List.range n).map fun r => cel (addT T p z) r c) = (List.range n).map fun r => cel T r c + if decide ((p.getD r 0).toNat = c) = true then z else 0 :=
      List.map_congr_left fun r hr => cel_add hs hok (List.mem_range.1 hr) hc
    rw [e, sum_ite (fun r => cel T r c) (fun r => decide ((p.getD r 0).toNat = c)), he.col c hc, plan_cnt h1 h4 p hp c hc]
    omega
theorem ev_zer {n : Nat} (h4 : n ≤ 4) : EvT n (zerT n) 0 := by
  match n, h4 with
  | 0, _ => exact ⟨fun r h => by omega, fun c h => by omega⟩
  | 1, _ | 2, _ | 3, _ | 4, _ => exact ⟨by decide +kernel, by decide +kernel⟩
theorem evB_of {n : Nat} {T : List (List Int)} {k : Int} (hn : 1 ≤ n) (hl : T.length = n) (he : EvT n T k) : evB n T = true ∧ sumI (T.getD 0 []) = k := by
  have h0 := he.row 0 (by omega)
  refine ⟨?_, h0⟩
  unfold evB
  rw [h0, List.all_eq_true]
  intro R hR
  rw [decide_eq_true_eq]
  rcases List.mem_append.1 hR with q | q
  · obtain ⟨i, hi, rfl⟩ := List.getElem_of_mem q
    have := he.row i (by omega)
    rw [List.getD_eq_getElem?_getD, List.getElem?_eq_getElem hi] at this
    exact this
  · obtain ⟨c, hc, rfl⟩ := List.mem_map.1 q
    exact he.col c (List.mem_range.1 hc)
structure MI (n : Nat) (T : List (List Int)) (m : Int) : Prop where
  le : ∀ r c, r < n → c < n → cel T r c ≤ m
  nn : 0 ≤ m
  wit : m = 0 ∨ ∃ r c, r < n ∧ c < n ∧ m ≤ cel T r c
theorem flat_mem {n : Nat} {b : Int} {T : List (List Int)} (hs : shT n b T) {x : Int} : x ∈ T.flatten ↔ ∃ r c, r < n ∧ c < n ∧ cel T r c = x := by
  rw [List.mem_flatten]
  constructor
  · rintro ⟨R, hR, hx⟩
    obtain ⟨i, hi, rfl⟩ := List.getElem_of_mem hR
    obtain ⟨j, hj, rfl⟩ := List.getElem_of_mem hx
    have hin : i < n := by rw [← hs.len]; exact hi
    refine ⟨i, j, hin, by rw [← hs.row _ hR]; exact hj, ?_⟩
    unfold cel
    rw [List.getD_eq_getElem?_getD (l := T), List.getElem?_eq_getElem hi]
    show T[i].getD j 0 = _
    rw [List.getD_eq_getElem?_getD, List.getElem?_eq_getElem hj]; rfl
  · rintro ⟨r, c, hr, hc, rfl⟩
    exact ⟨T.getD r [], getD_mem (by rw [hs.len]; exact hr), getD_mem (by rw [hs.rowlen hr]; exact hc)⟩
/-! ### alike -/
end Go.Proofs.Ytkbeaheladmeiaa

set_option linter.unusedSimpArgs false
set_option linter.unusedVariables false
namespace Go.Proofs.Ytkbeaheladmeiaa
open Go Go.Proofs.Eng
set_option maxRecDepth 100000
set_option maxHeartbeats 4000000
structure AI (n : Nat) (S : List (List Int × Int)) (W : List (List Int)) (sm m : Int) : Prop where
  good : ∀ s, s ∈ S → s.1 ∈ plL n ∧ 1 ≤ s.2 ∧ s.2 ≤ 4
  eq : W = addS (zerT n) S
  sh : shT n (4 * S.length) W
  ev : EvT n W sm
  mi : MI n W m
  sb : 0 ≤ sm ∧ sm ≤ 4 * S.length
  mb : m ≤ 4 * S.length
theorem reify_osX {η : Heap} {n k g e s m : Nat} {xs : List AV} (hm : xs.length = m) (hk : Go.Proofs.Eng.look η k = (g, some ⟨e, s, xs⟩)) : reify η (n + 1) (.os k g m s 0 m) = (xs.mapM (elemR (reify η n))).map (AV.sl s false) := by
  simp only [reify, hk]
  rw [if_pos (by simp [hm]), List.drop_zero, List.take_of_length_le (by omega)]
end Go.Proofs.Ytkbeaheladmeiaa

