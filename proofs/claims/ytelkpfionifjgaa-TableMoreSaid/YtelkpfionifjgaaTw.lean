/-
  TableMore: a greater number; what it does to weights.
-/
import Derived.Test.YtelkpfionifjgaaTp
import Derived.Test.YtelkpfionifjgaaPcV
import Derived.Test.YtelkpfionifjgaaTi
set_option linter.unusedSimpArgs false
set_option linter.unusedVariables false
namespace Go.Proofs.Ytelkpfionifjgaa
open Go Go.Proofs.Eng
set_option maxRecDepth 100000
set_option maxHeartbeats 4000000
theorem prI_mono {T S : List (List Int)} {p : List Int} : ∀ (k : Nat), (∀ r, r < k → 0 ≤ cel T r (p.getD r 0).toNat ∧ cel T r (p.getD r 0).toNat ≤ cel S r (p.getD r 0).toNat) → 0 ≤ prI (numsK T p k) ∧ prI (numsK T p k) ≤ prI (numsK S p k)
  | 0, _ => by simp [numsK, prI]
  | k + 1, h => by
    have ih := prI_mono k fun r hr => h r (by omega)
    have hk := h k (by omega)
    rw [numsK_succ, numsK_succ, prI_snoc, prI_snoc]
    refine ⟨Int.mul_nonneg ih.1 hk.1, ?_⟩
    exact Int.mul_le_mul ih.2 hk.2 hk.1 (Int.le_trans ih.1 ih.2)
/-- a table with numbers at least as great -/
def leT (n : Nat) (T S : List (List Int)) : Prop := ∀ r c, r < n → c < n → cel T r c ≤ cel S r c
theorem wgt_mono {n : Nat} {T S : List (List Int)} (hg : gT n T) (hl : leT n T S) {p : List Int} (hp : okP n p) : wgt T p ≤ wgt S p := by
  obtain ⟨l1, l2, _⟩ := hp
  exact (prI_mono (T := T) (S := S) (p := p) p.length fun r hr => by
    have hc := l2 _ (getD_mem (d := 0) hr)
    exact ⟨(hg.b (by omega) (by omega)).1, hl r _ (by omega) (by omega)⟩).2
theorem filter_mono {α : Type} {p q : α → Bool} : ∀ (l : List α), (∀ x, x ∈ l → p x = true → q x = true) → (l.filter p).length ≤ (l.filter q).length
  | [], _ => Nat.le_refl _
  | x :: t, h => by
    have ih := filter_mono t fun y hy => h y (List.mem_cons_of_mem _ hy)
    have hx := h x List.mem_cons_self
    rw [List.filter_cons, List.filter_cons]
    cases hp : p x <;> cases hq : q x <;> simp only [if_true, if_false, List.length_cons, Bool.false_eq_true]
    · exact ih
    · omega
    · rw [hx hp] at hq; cases hq
    · omega
theorem cnt_mono {n : Nat} {T S : List (List Int)} (hg : gT n T) (hs : gT n S) (hl : leT n T S) : cntP n T ≤ cntP n S := by
  unfold cntP
  rw [withP_eq hg, withP_eq hs]
  refine filter_mono _ fun p hp h => ?_
  have := wgt_mono hg hl (plL_len hg.n1 hg.n4 p hp)
  have h := of_decide_eq_true h
  exact decide_eq_true (by omega)
theorem sumI_cons (x : Int) (l : List Int) : sumI (x :: l) = x + sumI l := by
  have key : ∀ (l : List Int) (a : Int), l.foldl (· + ·) a = a + l.foldl (· + ·) 0 := by
    intro l
    induction l with
    | nil => intro a; simp
    | cons y t ih => intro a; rw [List.foldl_cons, List.foldl_cons, ih (a + y), ih (0 + y)]; omega
  unfold sumI
  rw [List.foldl_cons, key l (0 + x)]; omega
theorem sum_filter {T : List (List Int)} : ∀ (l : List (List Int)), (∀ p, p ∈ l → 0 ≤ wgt T p) → sumW T (l.filter fun p => decide (0 < wgt T p)) = sumW T l
  | [], _ => rfl
  | p :: t, h => by
    have ih := sum_filter t fun q hq => h q (List.mem_cons_of_mem _ hq)
    have hp := h p List.mem_cons_self
    unfold sumW at ih ⊢
    rw [List.filter_cons]
    split
    · rw [List.map_cons, List.map_cons, sumI_cons, sumI_cons, ih]
    · rename_i hd
      have : wgt T p = 0 := by
        have hd : ¬ 0 < wgt T p := by simpa using hd
        omega
      rw [List.map_cons, sumI_cons, ih, this]; omega
theorem sum_mono {T S : List (List Int)} : ∀ (l : List (List Int)), (∀ p, p ∈ l → wgt T p ≤ wgt S p) → sumW T l ≤ sumW S l
  | [], _ => Int.le_refl _
  | p :: t, h => by
    have ih := sum_mono t fun q hq => h q (List.mem_cons_of_mem _ hq)
    have hp := h p List.mem_cons_self
    unfold sumW at ih ⊢
    rw [List.map_cons, List.map_cons, sumI_cons, sumI_cons]; omega
theorem wgtT_pl {n : Nat} {T : List (List Int)} (hg : gT n T) : wgtT n T = sumW T (plL n) := by
  unfold wgtT
  rw [withP_eq hg]
  refine sum_filter _ fun p hp => ?_
  obtain ⟨l1, l2, _⟩ := plL_len hg.n1 hg.n4 p hp
  exact (wgt_b hg l2 (by omega)).1
theorem wgtT_mono {n : Nat} {T S : List (List Int)} (hg : gT n T) (hs : gT n S) (hl : leT n T S) : wgtT n T ≤ wgtT n S := by
  rw [wgtT_pl hg, wgtT_pl hs]
  exact sum_mono _ fun p hp => wgt_mono hg hl (plL_len hg.n1 hg.n4 p hp)
/-- one number made greater -/
theorem set_get {α : Type} {l : List α} {i j : Nat} {a d : α} (h : i < l.length) : (l.set i a).getD j d = if i = j then a else l.getD j d := by
  rw [List.getD_eq_getElem?_getD, List.getElem?_set, List.getD_eq_getElem?_getD]
  by_cases e : i = j
  · subst e; simp [h]
  · simp [e]
theorem cel_set {n : Nat} {T : List (List Int)} (hg : gT n T) {r c r' c' : Nat} (hr : r < n) (hc : c < n) (v : Int) : cel (T.set r ((T.getD r []).set c v)) r' c' = if r = r' ∧ c = c' then v else cel T r' c' := by
  unfold cel
  rw [set_get (by rw [hg.len]; exact hr)]
  by_cases e : r = r'
  · subst e
    rw [if_pos rfl, set_get (by rw [hg.rowlen hr]; exact hc)]
    by_cases e2 : c = c'
    · rw [if_pos e2, if_pos ⟨rfl, e2⟩]
    · rw [if_neg e2, if_neg (fun q => e2 q.2)]
  · rw [if_neg e, if_neg (fun q => e q.1)]
theorem gT_set {n : Nat} {T : List (List Int)} (hg : gT n T) {r c : Nat} (hr : r < n) (hc : c < n) {v : Int} (hv : 0 ≤ v ∧ v ≤ 9) : gT n (T.set r ((T.getD r []).set c v)) where
  len := by rw [List.length_set]; exact hg.len
  n1 := hg.n1
  n4 := hg.n4
  row := fun R hR => by
    rcases List.mem_or_eq_of_mem_set hR with q | rfl
    · exact hg.row R q
    · rw [List.length_set]; exact hg.rowlen hr
  cel := fun R hR x hx => by
    rcases List.mem_or_eq_of_mem_set hR with q | rfl
    · exact hg.cel R q x hx
    · rcases List.mem_or_eq_of_mem_set hx with q | rfl
      · exact hg.cel _ (getD_mem (by rw [hg.len]; exact hr)) x q
      · exact hv
theorem leT_set {n : Nat} {T : List (List Int)} (hg : gT n T) {r c : Nat} (hr : r < n) (hc : c < n) {v : Int} (hv : cel T r c ≤ v) : leT n T (T.set r ((T.getD r []).set c v)) := fun r' c' _ _ => by
  rw [cel_set hg hr hc]
  split
  · rename_i q; rw [← q.1, ← q.2]; exact hv
  · exact Int.le_refl _
theorem reify_rw {η : Heap} {k e m : Nat} {R : List Int} (hm : R.length = m) (hk : Go.Proofs.Eng.look η k = (1, some ⟨e, 1, R.map ai⟩)) : elemR (reify η 19) (.os k 1 m 1 0 m) = some (al false R) := by
  subst hm
  exact reify_os (n := 18) (elem_ai η 17) hk
theorem map_all (R : List Int) : (R.map ai).all one = true := by
  rw [List.all_eq_true]; intro x hx; obtain ⟨z, _, rfl⟩ := List.mem_map.1 hx; rfl
def QM (o : Out) (c : Cfg) : Prop := (o = .ret ∨ o = .normal) ∧ ∃ rs, xf9.results.mapM (resOf Try.prog c) = some rs ∧ reify c.η 20 (retOf rs) = some (.v (.bool true))
theorem fk64 (η : Heap) (d : Nat) : freeK η 64 d = match (lookF η d).2 with
  | some _ => freeK η 63 (d + 100000)
  | none => d := rfl
theorem fk63 (η : Heap) (d : Nat) : freeK η 63 d = match (lookF η d).2 with
  | some _ => freeK η 62 (d + 100000)
  | none => d := rfl
theorem fk62 (η : Heap) (d : Nat) : freeK η 62 d = match (lookF η d).2 with
  | some _ => freeK η 61 (d + 100000)
  | none => d := rfl
theorem fk61 (η : Heap) (d : Nat) : freeK η 61 d = match (lookF η d).2 with
  | some _ => freeK η 60 (d + 100000)
  | none => d := rfl
theorem fk60 (η : Heap) (d : Nat) : freeK η 60 d = match (lookF η d).2 with
  | some _ => freeK η 59 (d + 100000)
  | none => d := rfl
theorem emp_1 : RunsR Try.prog xf 1000 19 [ai 1] [] (.os 1011 1 1 1 0 1) [(1009, (1, some ⟨3, 1, [.v (.int .i64 0)]⟩)), (1011, (1, some ⟨37, 1, [.os 1009 1 1 1 0 1]⟩))] := by
  have w0 : IntKind.i64.wrap (0 + 1) = 1 := rfl
  refine RunsR.ofW (fn := xf19) (by kernel_rfl) (W_run 80 ?_)
  simp (maxSteps := 2000000) only [SA, Nat.reduceDiv, Nat.reduceSub, Nat.reduceAdd, Int.reduceLT, Int.reduceLE, Int.reduceToNat, Nat.reduceMul, Nat.reduceEqDiff, reduceCtorEq, Nat.reduceBEq, Nat.reduceLeDiff, Nat.reduceLT, xf19, ai, nilA]
  refine W_loop (W_run 120 ?_)
  simp (maxSteps := 2000000) only [SA, Nat.reduceDiv, Nat.reduceSub, Nat.reduceAdd, Int.reduceLT, Int.reduceLE, Int.reduceToNat, Nat.reduceMul, Nat.reduceEqDiff, reduceCtorEq, Nat.reduceBEq, Nat.reduceLeDiff, Nat.reduceLT, xf19_L0, ai, nilA, w0, fk64, fk63, fk62, fk61, fk60, Go.Proofs.Eng.elems, List.map_cons, List.map_nil]
  refine W_loop (W_run 120 ?_)
  simp (maxSteps := 2000000) only [SA, Nat.reduceDiv, Nat.reduceSub, Nat.reduceAdd, Int.reduceLT, Int.reduceLE, Int.reduceToNat, Nat.reduceMul, Nat.reduceEqDiff, reduceCtorEq, Nat.reduceBEq, Nat.reduceLeDiff, Nat.reduceLT, xf19_L0, xf19_R0, ai, nilA]
  exact W_ret1 (WX_nil ⟨.inl rfl, _, rfl, rfl, rfl⟩)
theorem emp_2 : RunsR Try.prog xf 1000 19 [ai 2] [] (.os 1011 1 2 1 0 2) [(1009, (1, some ⟨3, 1, [.v (.int .i64 0), .v (.int .i64 0)]⟩)), (1011, (1, some ⟨37, 1, [.os 1009 1 2 1 0 2, .os 101009 1 2 1 0 2]⟩)), (101009, (1, some ⟨3, 1, [.v (.int .i64 0), .v (.int .i64 0)]⟩))] := by
  have w0 : IntKind.i64.wrap (0 + 1) = 1 := rfl
  have w1 : IntKind.i64.wrap (1 + 1) = 2 := rfl
  refine RunsR.ofW (fn := xf19) (by kernel_rfl) (W_run 80 ?_)
  simp (maxSteps := 2000000) only [SA, Nat.reduceDiv, Nat.reduceSub, Nat.reduceAdd, Int.reduceLT, Int.reduceLE, Int.reduceToNat, Nat.reduceMul, Nat.reduceEqDiff, reduceCtorEq, Nat.reduceBEq, Nat.reduceLeDiff, Nat.reduceLT, xf19, ai, nilA]
  refine W_loop (W_run 120 ?_)
  simp (maxSteps := 2000000) only [SA, Nat.reduceDiv, Nat.reduceSub, Nat.reduceAdd, Int.reduceLT, Int.reduceLE, Int.reduceToNat, Nat.reduceMul, Nat.reduceEqDiff, reduceCtorEq, Nat.reduceBEq, Nat.reduceLeDiff, Nat.reduceLT, xf19_L0, ai, nilA, w0, w1, fk64, fk63, fk62, fk61, fk60, Go.Proofs.Eng.elems, List.map_cons, List.map_nil]
  refine W_loop (W_run 120 ?_)
  simp (maxSteps := 2000000) only [SA, Nat.reduceDiv, Nat.reduceSub, Nat.reduceAdd, Int.reduceLT, Int.reduceLE, Int.reduceToNat, Nat.reduceMul, Nat.reduceEqDiff, reduceCtorEq, Nat.reduceBEq, Nat.reduceLeDiff, Nat.reduceLT, xf19_L0, ai, nilA, w0, w1, fk64, fk63, fk62, fk61, fk60, Go.Proofs.Eng.elems, List.map_cons, List.map_nil]
  refine W_loop (W_run 120 ?_)
  simp (maxSteps := 2000000) only [SA, Nat.reduceDiv, Nat.reduceSub, Nat.reduceAdd, Int.reduceLT, Int.reduceLE, Int.reduceToNat, Nat.reduceMul, Nat.reduceEqDiff, reduceCtorEq, Nat.reduceBEq, Nat.reduceLeDiff, Nat.reduceLT, xf19_L0, xf19_R0, ai, nilA]
  exact W_ret1 (WX_nil ⟨.inl rfl, _, rfl, rfl, rfl⟩)
theorem emp_3 : RunsR Try.prog xf 1000 19 [ai 3] [] (.os 1011 1 3 1 0 3) [(1009, (1, some ⟨3, 1, [.v (.int .i64 0), .v (.int .i64 0), .v (.int .i64 0)]⟩)), (1011, (1, some ⟨37, 1, [.os 1009 1 3 1 0 3, .os 101009 1 3 1 0 3, .os 201009 1 3 1 0 3]⟩)), (101009, (1, some ⟨3, 1, [.v (.int .i64 0), .v (.int .i64 0), .v (.int .i64 0)]⟩)), (201009, (1, some ⟨3, 1, [.v (.int .i64 0), .v (.int .i64 0), .v (.int .i64 0)]⟩))] := by
  have w0 : IntKind.i64.wrap (0 + 1) = 1 := rfl
  have w1 : IntKind.i64.wrap (1 + 1) = 2 := rfl
  have w2 : IntKind.i64.wrap (2 + 1) = 3 := rfl
  refine RunsR.ofW (fn := xf19) (by kernel_rfl) (W_run 80 ?_)
  simp (maxSteps := 2000000) only [SA, Nat.reduceDiv, Nat.reduceSub, Nat.reduceAdd, Int.reduceLT, Int.reduceLE, Int.reduceToNat, Nat.reduceMul, Nat.reduceEqDiff, reduceCtorEq, Nat.reduceBEq, Nat.reduceLeDiff, Nat.reduceLT, xf19, ai, nilA]
  refine W_loop (W_run 120 ?_)
  simp (maxSteps := 2000000) only [SA, Nat.reduceDiv, Nat.reduceSub, Nat.reduceAdd, Int.reduceLT, Int.reduceLE, Int.reduceToNat, Nat.reduceMul, Nat.reduceEqDiff, reduceCtorEq, Nat.reduceBEq, Nat.reduceLeDiff, Nat.reduceLT, xf19_L0, ai, nilA, w0, w1, w2, fk64, fk63, fk62, fk61, fk60, Go.Proofs.Eng.elems, List.map_cons, List.map_nil]
  refine W_loop (W_run 120 ?_)
  simp (maxSteps := 2000000) only [SA, Nat.reduceDiv, Nat.reduceSub, Nat.reduceAdd, Int.reduceLT, Int.reduceLE, Int.reduceToNat, Nat.reduceMul, Nat.reduceEqDiff, reduceCtorEq, Nat.reduceBEq, Nat.reduceLeDiff, Nat.reduceLT, xf19_L0, ai, nilA, w0, w1, w2, fk64, fk63, fk62, fk61, fk60, Go.Proofs.Eng.elems, List.map_cons, List.map_nil]
  refine W_loop (W_run 120 ?_)
  simp (maxSteps := 2000000) only [SA, Nat.reduceDiv, Nat.reduceSub, Nat.reduceAdd, Int.reduceLT, Int.reduceLE, Int.reduceToNat, Nat.reduceMul, Nat.reduceEqDiff, reduceCtorEq, Nat.reduceBEq, Nat.reduceLeDiff, Nat.reduceLT, xf19_L0, ai, nilA, w0, w1, w2, fk64, fk63, fk62, fk61, fk60, Go.Proofs.Eng.elems, List.map_cons, List.map_nil]
  refine W_loop (W_run 120 ?_)
  simp (maxSteps := 2000000) only [SA, Nat.reduceDiv, Nat.reduceSub, Nat.reduceAdd, Int.reduceLT, Int.reduceLE, Int.reduceToNat, Nat.reduceMul, Nat.reduceEqDiff, reduceCtorEq, Nat.reduceBEq, Nat.reduceLeDiff, Nat.reduceLT, xf19_L0, xf19_R0, ai, nilA]
  exact W_ret1 (WX_nil ⟨.inl rfl, _, rfl, rfl, rfl⟩)
theorem emp_4 : RunsR Try.prog xf 1000 19 [ai 4] [] (.os 1011 1 4 1 0 4) [(1009, (1, some ⟨3, 1, [.v (.int .i64 0), .v (.int .i64 0), .v (.int .i64 0), .v (.int .i64 0)]⟩)), (1011, (1, some ⟨37, 1, [.os 1009 1 4 1 0 4, .os 101009 1 4 1 0 4, .os 201009 1 4 1 0 4, .os 301009 1 4 1 0 4]⟩)), (101009, (1, some ⟨3, 1, [.v (.int .i64 0), .v (.int .i64 0), .v (.int .i64 0), .v (.int .i64 0)]⟩)), (201009, (1, some ⟨3, 1, [.v (.int .i64 0), .v (.int .i64 0), .v (.int .i64 0), .v (.int .i64 0)]⟩)), (301009, (1, some ⟨3, 1, [.v (.int .i64 0), .v (.int .i64 0), .v (.int .i64 0), .v (.int .i64 0)]⟩))] := by
  have w0 : IntKind.i64.wrap (0 + 1) = 1 := rfl
  have w1 : IntKind.i64.wrap (1 + 1) = 2 := rfl
  have w2 : IntKind.i64.wrap (2 + 1) = 3 := rfl
  have w3 : IntKind.i64.wrap (3 + 1) = 4 := rfl
  refine RunsR.ofW (fn := xf19) (by kernel_rfl) (W_run 80 ?_)
  simp (maxSteps := 2000000) only [SA, Nat.reduceDiv, Nat.reduceSub, Nat.reduceAdd, Int.reduceLT, Int.reduceLE, Int.reduceToNat, Nat.reduceMul, Nat.reduceEqDiff, reduceCtorEq, Nat.reduceBEq, Nat.reduceLeDiff, Nat.reduceLT, xf19, ai, nilA]
  refine W_loop (W_run 120 ?_)
  simp (maxSteps := 2000000) only [SA, Nat.reduceDiv, Nat.reduceSub, Nat.reduceAdd, Int.reduceLT, Int.reduceLE, Int.reduceToNat, Nat.reduceMul, Nat.reduceEqDiff, reduceCtorEq, Nat.reduceBEq, Nat.reduceLeDiff, Nat.reduceLT, xf19_L0, ai, nilA, w0, w1, w2, w3, fk64, fk63, fk62, fk61, fk60, Go.Proofs.Eng.elems, List.map_cons, List.map_nil]
  refine W_loop (W_run 120 ?_)
  simp (maxSteps := 2000000) only [SA, Nat.reduceDiv, Nat.reduceSub, Nat.reduceAdd, Int.reduceLT, Int.reduceLE, Int.reduceToNat, Nat.reduceMul, Nat.reduceEqDiff, reduceCtorEq, Nat.reduceBEq, Nat.reduceLeDiff, Nat.reduceLT, xf19_L0, ai, nilA, w0, w1, w2, w3, fk64, fk63, fk62, fk61, fk60, Go.Proofs.Eng.elems, List.map_cons, List.map_nil]
  refine W_loop (W_run 120 ?_)
  simp (maxSteps := 2000000) only [SA, Nat.reduceDiv, Nat.reduceSub, Nat.reduceAdd, Int.reduceLT, Int.reduceLE, Int.reduceToNat, Nat.reduceMul, Nat.reduceEqDiff, reduceCtorEq, Nat.reduceBEq, Nat.reduceLeDiff, Nat.reduceLT, xf19_L0, ai, nilA, w0, w1, w2, w3, fk64, fk63, fk62, fk61, fk60, Go.Proofs.Eng.elems, List.map_cons, List.map_nil]
  refine W_loop (W_run 120 ?_)
  simp (maxSteps := 2000000) only [SA, Nat.reduceDiv, Nat.reduceSub, Nat.reduceAdd, Int.reduceLT, Int.reduceLE, Int.reduceToNat, Nat.reduceMul, Nat.reduceEqDiff, reduceCtorEq, Nat.reduceBEq, Nat.reduceLeDiff, Nat.reduceLT, xf19_L0, ai, nilA, w0, w1, w2, w3, fk64, fk63, fk62, fk61, fk60, Go.Proofs.Eng.elems, List.map_cons, List.map_nil]
  refine W_loop (W_run 120 ?_)
  simp (maxSteps := 2000000) only [SA, Nat.reduceDiv, Nat.reduceSub, Nat.reduceAdd, Int.reduceLT, Int.reduceLE, Int.reduceToNat, Nat.reduceMul, Nat.reduceEqDiff, reduceCtorEq, Nat.reduceBEq, Nat.reduceLeDiff, Nat.reduceLT, xf19_L0, xf19_R0, ai, nilA]
  exact W_ret1 (WX_nil ⟨.inl rfl, _, rfl, rfl, rfl⟩)
end Go.Proofs.Ytelkpfionifjgaa

