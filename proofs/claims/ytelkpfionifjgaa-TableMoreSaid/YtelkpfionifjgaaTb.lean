/-
  slices.Index and slices.Contains of numbers, and of pairs of numbers.
-/
import Derived.Test.YtelkpfionifjgaaTa
set_option linter.unusedSimpArgs false
set_option linter.unusedVariables false
namespace Go.Proofs.Ytelkpfionifjgaa
open Go Go.Proofs.Eng
set_option maxRecDepth 100000
variable {R : Rel}
/-- the first place of an element, or -1 -/
def fidx {α : Type} [DecidableEq α] (l : List α) (p : α) : Int := if p ∈ l then (l.idxOf p : Int) else -1
theorem fidx_at {α : Type} [DecidableEq α] {l : List α} {p d : α} {i : Nat} (h : i < l.length) (hn : p ∉ l.take i) (he : l.getD i d = p) : fidx l p = i := by
  have e : l.getD i d = l[i] := by rw [List.getD_eq_getElem?_getD, List.getElem?_eq_getElem h]; rfl
  have hm : p ∈ l := by rw [← he, e]; exact List.getElem_mem h
  unfold fidx
  rw [if_pos hm]
  congr 1
  have h1 : l.idxOf p ≤ i := by
    rcases Nat.lt_or_ge i (l.idxOf p) with q | q
    · exact absurd (by rw [← he, e] : l[i] = p) (by have := List.not_of_lt_findIdx (p := (· == p)) q; simpa using this)
    · exact q
  have h2 : ¬ l.idxOf p < i := fun q => hn (by
    have hlt : l.idxOf p < l.length := List.idxOf_lt_length_of_mem hm
    have : l[l.idxOf p] = p := List.getElem_idxOf hlt
    rw [← this]
    exact List.mem_take_iff_getElem.2 ⟨l.idxOf p, by omega, by simp⟩)
  omega
theorem take_not {α : Type} [DecidableEq α] {l : List α} {p d : α} {i : Nat} (h : i < l.length) (hn : p ∉ l.take i) (he : l.getD i d ≠ p) : p ∉ l.take (i + 1) := by
  have e : l.getD i d = l[i] := by rw [List.getD_eq_getElem?_getD, List.getElem?_eq_getElem h]; rfl
  rw [← List.take_append_getElem h, List.mem_append]
  rintro (q | q)
  · exact hn q
  · rw [List.mem_singleton, ← e] at q; exact he q.symm
/-- whether an element is there -/
def memD {α : Type} [DecidableEq α] (l : List α) (p : α) : Bool := decide (0 ≤ fidx l p)
theorem memD_iff {α : Type} [DecidableEq α] {l : List α} {p : α} : memD l p = true ↔ p ∈ l := by
  unfold memD fidx
  by_cases h : p ∈ l
  · rw [if_pos h]; simp [h]
  · rw [if_neg h]; simp [h]
theorem idx1_loop (full : Bool) (l : List Int) (p : Int) (K : List Fr) (Q : Out → Cfg → Prop) (hn : l.length ≤ 100000) (x2 x3 x4 : AV)
    (hK : p ∉ l → ∀ j5 j9 j10 j11 j12 j13 j14 j15 j16 j17 j18 : AV, W Try.prog R 0 K ⟨[al full l, ai p, x2, x3, x4, j5, al full l, ai l.length, ai l.length, j9, j10, j11, j12, j13, j14, j15, j16, j17, j18], []⟩ Q)
    (hR : ∀ (j8 : AV), ∀ j5 j9 j10 j11 j12 j13 j14 j15 j16 j17 j18 : AV, WX Try.prog R 0 K .ret ⟨[al full l, ai p, x2, x3, ai (fidx l p), j5, al full l, ai l.length, j8, j9, j10, j11, j12, j13, j14, j15, j16, j17, j18], []⟩ Q) :
    ∀ (m i : Nat), i + m = l.length → p ∉ l.take i → ∀ j5 j9 j10 j11 j12 j13 j14 j15 j16 j17 j18 : AV, W Try.prog R 0 (.code (.loop xf76_L0) :: .blk 0 :: .stop :: K) ⟨[al full l, ai p, x2, x3, x4, j5, al full l, ai l.length, ai i, j9, j10, j11, j12, j13, j14, j15, j16, j17, j18], []⟩ Q := by
  intro m
  induction m with
  | zero =>
    intro i hi ha j5 j9 j10 j11 j12 j13 j14 j15 j16 j17 j18
    have : i = l.length := by omega
    subst this
    rw [List.take_length] at ha
    have h0 : decide (l.length < l.length) = false := by simp
    refine W_loop (W_run 60 ?_)
    simp (maxSteps := 2000000) only [SA, Nat.reduceDiv, Nat.reduceSub, Nat.reduceAdd, Int.reduceLT, Int.reduceLE, Int.reduceToNat, Nat.reduceMul, Nat.reduceEqDiff, reduceCtorEq, Nat.reduceBEq, Nat.reduceLeDiff, Nat.reduceLT, xf76_L0, ai, al, lt_cast, h0]
    exact W_stop (hK ha _ _ _ _ _ _ _ _ _ _ _)
  | succ m ih =>
    intro i hi ha j5 j9 j10 j11 j12 j13 j14 j15 j16 j17 j18
    have h1 : i < l.length := by omega
    have h0 : decide (i < l.length) = true := decide_eq_true h1
    refine W_loop (W_run 60 ?_)
    by_cases h2 : l.getD i 0 = p
    · have hf := fidx_at h1 ha h2
      have he : (p == l.getD i 0) = true := by rw [h2]; simp
      simp (maxSteps := 2000000) only [SA, Nat.reduceDiv, Nat.reduceSub, Nat.reduceAdd, Int.reduceLT, Int.reduceLE, Int.reduceToNat, Nat.reduceMul, Nat.reduceEqDiff, reduceCtorEq, Nat.reduceBEq, Nat.reduceLeDiff, Nat.reduceLT, xf76_L0, ai, al, lt_cast, h0, get_al h1, he]
      have := hR (ai i) (ai i) (ab true) (ai i) (ai p) (al full l) (ai i) (.ptr (ai (l.getD i 0))) (ai (l.getD i 0)) (ab true) (ai i) j18
      rw [hf] at this
      exact W_ret1 (WX_pop this)
    · have hf := take_not h1 ha h2
      have he : (p == l.getD i 0) = false := by rw [beq_eq_false_iff_ne]; exact fun e => h2 e.symm
      simp (maxSteps := 2000000) only [SA, Nat.reduceDiv, Nat.reduceSub, Nat.reduceAdd, Int.reduceLT, Int.reduceLE, Int.reduceToNat, Nat.reduceMul, Nat.reduceEqDiff, reduceCtorEq, Nat.reduceBEq, Nat.reduceLeDiff, Nat.reduceLT, xf76_L0, ai, al, lt_cast, h0, get_al h1, he]
      rw [wrap_id (by omega) (by omega)]
      exact ih (i + 1) (by omega) hf _ _ _ _ _ _ _ _ _ _ _
theorem idx1_run (full : Bool) (l : List Int) (p : Int) (hn : l.length ≤ 100000) : Runs Try.prog xf 76 [al full l, ai p] (ai (fidx l p)) := by
  refine Runs.ofW (fn := xf76) 20 (by kernel_rfl) (W_run 60 ?_)
  simp (maxSteps := 2000000) only [SA, Nat.reduceDiv, Nat.reduceSub, Nat.reduceAdd, Int.reduceLT, Int.reduceLE, Int.reduceToNat, Nat.reduceMul, Nat.reduceEqDiff, reduceCtorEq, Nat.reduceBEq, Nat.reduceLeDiff, Nat.reduceLT, xf76, ai, al]
  refine W_alone (idx1_loop full l p _ _ hn _ _ _ (fun hp => ?_) (fun j8 => ?_) l.length 0 (by omega) (by simp) _ _ _ _ _ _ _ _ _ _ _)
  · intros
    refine W_run 60 ?_
    simp (maxSteps := 2000000) only [SA, Nat.reduceDiv, Nat.reduceSub, Nat.reduceAdd, Int.reduceLT, Int.reduceLE, Int.reduceToNat, Nat.reduceMul, Nat.reduceEqDiff, reduceCtorEq, Nat.reduceBEq, Nat.reduceLeDiff, Nat.reduceLT, xf76_R0, ai, al]
    exact W_ret1 (WX_nil ⟨.inl rfl, _, rfl, by unfold fidx; rw [if_neg hp]; rfl⟩)
  · intros
    exact WX_pop (WX_nil ⟨.inl rfl, _, rfl, rfl⟩)
theorem idx1_has (full : Bool) (l : List Int) (p : Int) (hn : l.length ≤ 100000) : Runs Try.prog xf 43 [al full l, ai p] (ab (memD l p)) := by
  refine Runs.ofW (fn := xf43) 20 (by kernel_rfl) (W_run 60 ?_)
  simp (maxSteps := 2000000) only [SA, Nat.reduceDiv, Nat.reduceSub, Nat.reduceAdd, Int.reduceLT, Int.reduceLE, Int.reduceToNat, Nat.reduceMul, Nat.reduceEqDiff, reduceCtorEq, Nat.reduceBEq, Nat.reduceLeDiff, Nat.reduceLT, xf43, ai, al]
  refine W_call (args := [al full l, ai p]) rfl (by exact noRefs_of fun x hx => by simp only [List.mem_cons, List.not_mem_nil, or_false] at hx; rcases hx with rfl | rfl <;> first | exact noRef_al _ _ | rfl) (idx1_run full l p hn) rfl (W_run 60 ?_)
  simp (maxSteps := 2000000) only [SA, Nat.reduceDiv, Nat.reduceSub, Nat.reduceAdd, Int.reduceLT, Int.reduceLE, Int.reduceToNat, Nat.reduceMul, Nat.reduceEqDiff, reduceCtorEq, Nat.reduceBEq, Nat.reduceLeDiff, Nat.reduceLT, ai]
  exact W_ret1 (WX_nil ⟨.inl rfl, _, rfl, rfl⟩)
/-- the greatest of numbers -/
def mxF : List Int → Int
  | [] => 0
  | x :: t => t.foldl mx2 x
theorem mxF_take {l : List Int} {i : Nat} (h : i < l.length) (h0 : 0 < i) : mxF (l.take (i + 1)) = mx2 (mxF (l.take i)) (l.getD i 0) := by
  have e : l.getD i 0 = l[i] := by rw [List.getD_eq_getElem?_getD, List.getElem?_eq_getElem h]; rfl
  rw [e, ← List.take_append_getElem h]
  cases l with
  | nil => simp at h
  | cons x t =>
    obtain ⟨j, rfl⟩ : ∃ j, i = j + 1 := ⟨i - 1, by omega⟩
    simp only [List.take_succ_cons, List.cons_append, mxF, List.foldl_append, List.foldl_cons, List.foldl_nil]
theorem mx_ge {l : List Int} : ∀ {a : Int}, a ≤ l.foldl mx2 a ∧ ∀ x, x ∈ l → x ≤ l.foldl mx2 a := by
  induction l with
  | nil => intro a; exact ⟨Int.le_refl _, fun x h => by cases h⟩
  | cons y l ih =>
    intro a
    obtain ⟨h1, h2⟩ := ih (a := mx2 a y)
    have h3 : a ≤ mx2 a y ∧ y ≤ mx2 a y := by unfold mx2; split <;> omega
    refine ⟨Int.le_trans h3.1 h1, fun x hx => ?_⟩
    rcases List.mem_cons.1 hx with rfl | hx
    · exact Int.le_trans h3.2 h1
    · exact h2 x hx
theorem mx_le {l : List Int} {b : Int} : ∀ {a : Int}, a ≤ b → (∀ x, x ∈ l → x ≤ b) → l.foldl mx2 a ≤ b := by
  induction l with
  | nil => intro a h _; exact h
  | cons y l ih =>
    intro a h1 h2
    exact ih (by unfold mx2; split; exact h2 y List.mem_cons_self; exact h1) fun x hx => h2 x (List.mem_cons_of_mem _ hx)
theorem mxF_le {l : List Int} {b : Int} (h : l ≠ []) : mxF l ≤ b ↔ ∀ x, x ∈ l → x ≤ b := by
  cases l with
  | nil => exact absurd rfl h
  | cons y l =>
    refine ⟨fun q x hx => ?_, fun q => mx_le (q y List.mem_cons_self) fun x hx => q x (List.mem_cons_of_mem _ hx)⟩
    have := mx_ge (l := l) (a := y)
    rcases List.mem_cons.1 hx with rfl | hx
    · exact Int.le_trans this.1 q
    · exact Int.le_trans (this.2 x hx) q
theorem max_loop (full : Bool) (l : List Int) (K : List Fr) (Q : Out → Cfg → Prop) (hn : l.length ≤ 100000)
    (hK : ∀ j1 j2 j5 j6 j7 j8 j9 j10 j11 j12 j13 j14 j15 j16 j17 j18 j19 j20 j21 j22 j23 j24 : AV, W Try.prog (RelU Try.prog xf) 0 K ⟨((al full l) :: j1 :: j2 :: (ai (mxF l)) :: (ai l.length) :: j5 :: j6 :: j7 :: j8 :: j9 :: j10 :: j11 :: j12 :: j13 :: j14 :: j15 :: j16 :: j17 :: j18 :: j19 :: j20 :: j21 :: j22 :: j23 :: j24 :: []), []⟩ Q) :
    ∀ (k i : Nat), i + k = l.length → 0 < i → ∀ j1 j2 j5 j6 j7 j8 j9 j10 j11 j12 j13 j14 j15 j16 j17 j18 j19 j20 j21 j22 j23 j24 : AV, W Try.prog (RelU Try.prog xf) 0 (.code (.loop xf63_L0) :: .blk 0 :: .stop :: K) ⟨((al full l) :: j1 :: j2 :: (ai (mxF (l.take i))) :: (ai i) :: j5 :: j6 :: j7 :: j8 :: j9 :: j10 :: j11 :: j12 :: j13 :: j14 :: j15 :: j16 :: j17 :: j18 :: j19 :: j20 :: j21 :: j22 :: j23 :: j24 :: []), []⟩ Q := by
  intro k
  induction k with
  | zero =>
    intro i hi hc j1 j2 j5 j6 j7 j8 j9 j10 j11 j12 j13 j14 j15 j16 j17 j18 j19 j20 j21 j22 j23 j24
    have : i = l.length := by omega
    subst this
    have h0 : decide (l.length < l.length) = false := by simp
    refine W_loop (W_run 80 ?_)
    simp (maxSteps := 2000000) only [SA, Nat.reduceDiv, Nat.reduceSub, Nat.reduceAdd, Int.reduceLT, Int.reduceLE, Int.reduceToNat, Nat.reduceMul, Nat.reduceEqDiff, reduceCtorEq, Nat.reduceBEq, Nat.reduceLeDiff, Nat.reduceLT, xf63_L0, ai, al, lt_cast, h0]
    rw [List.take_length]
    exact W_stop (hK _ _ _ _ _ _ _ _ _ _ _ _ _ _ _ _ _ _ _ _ _ _)
  | succ k ih =>
    intro i hi hc j1 j2 j5 j6 j7 j8 j9 j10 j11 j12 j13 j14 j15 j16 j17 j18 j19 j20 j21 j22 j23 j24
    have h1 : i < l.length := by omega
    have h0 : decide (i < l.length) = true := decide_eq_true h1
    refine W_loop (W_run 80 ?_)
    simp (maxSteps := 2000000) only [SA, Nat.reduceDiv, Nat.reduceSub, Nat.reduceAdd, Int.reduceLT, Int.reduceLE, Int.reduceToNat, Nat.reduceMul, Nat.reduceEqDiff, reduceCtorEq, Nat.reduceBEq, Nat.reduceLeDiff, Nat.reduceLT, xf63_L0, ai, al, lt_cast, h0, get_al h1, raw_max, opA, argT, Option.elim, rawK]
    rw [← mxF_take h1 hc, wrap_id (by omega) (by omega)]
    exact ih (i + 1) (by omega) (by omega) _ _ _ _ _ _ _ _ _ _ _ _ _ _ _ _ _ _ _ _ _ _
theorem max_run (full : Bool) (l : List Int) (h : 0 < l.length) (hn : l.length ≤ 100000) : Runs Try.prog xf 63 [al full l] (ai (mxF l)) := by
  refine Runs.ofW (fn := xf63) 20 (by kernel_rfl) (W_run 80 ?_)
  have h1 : decide ((l.length : Int) < 1) = false := decide_eq_false (by omega)
  have g := get_al h
  have e : l.getD 0 0 = mxF (l.take 1) := by cases l with | nil => simp at h | cons x t => rfl
  simp (maxSteps := 2000000) only [SA, Nat.reduceDiv, Nat.reduceSub, Nat.reduceAdd, Int.reduceLT, Int.reduceLE, Int.reduceToNat, Nat.reduceMul, Nat.reduceEqDiff, reduceCtorEq, Nat.reduceBEq, Nat.reduceLeDiff, Nat.reduceLT, xf63, ai, al, h1, g]
  rw [e]
  refine W_alone (max_loop full l _ _ hn (fun j1 j2 j5 j6 j7 j8 j9 j10 j11 j12 j13 j14 j15 j16 j17 j18 j19 j20 j21 j22 j23 j24 => W_run 80 ?_) (l.length - 1) 1 (by omega) (by omega) _ _ _ _ _ _ _ _ _ _ _ _ _ _ _ _ _ _ _ _ _ _)
  simp (maxSteps := 2000000) only [SA, Nat.reduceDiv, Nat.reduceSub, Nat.reduceAdd, Int.reduceLT, Int.reduceLE, Int.reduceToNat, Nat.reduceMul, Nat.reduceEqDiff, reduceCtorEq, Nat.reduceBEq, Nat.reduceLeDiff, Nat.reduceLT, xf63_R0, ai, al]
  exact W_ret1 (WX_nil ⟨.inl rfl, _, rfl, rfl⟩)
/-- the smallest of numbers -/
def mnF : List Int → Int
  | [] => 0
  | x :: t => t.foldl mn2 x
theorem mnF_take {l : List Int} {i : Nat} (h : i < l.length) (h0 : 0 < i) : mnF (l.take (i + 1)) = mn2 (mnF (l.take i)) (l.getD i 0) := by
  have e : l.getD i 0 = l[i] := by rw [List.getD_eq_getElem?_getD, List.getElem?_eq_getElem h]; rfl
  rw [e, ← List.take_append_getElem h]
  cases l with
  | nil => simp at h
  | cons x t =>
    obtain ⟨j, rfl⟩ : ∃ j, i = j + 1 := ⟨i - 1, by omega⟩
    simp only [List.take_succ_cons, List.cons_append, mnF, List.foldl_append, List.foldl_cons, List.foldl_nil]
theorem mn_ge {l : List Int} {b : Int} : ∀ {a : Int}, b ≤ a → (∀ x, x ∈ l → b ≤ x) → b ≤ l.foldl mn2 a := by
  induction l with
  | nil => intro a h _; exact h
  | cons y l ih =>
    intro a h1 h2
    exact ih (by unfold mn2; split; exact h2 y List.mem_cons_self; exact h1) fun x hx => h2 x (List.mem_cons_of_mem _ hx)
theorem mn_le {l : List Int} : ∀ {a : Int}, l.foldl mn2 a ≤ a ∧ ∀ x, x ∈ l → l.foldl mn2 a ≤ x := by
  induction l with
  | nil => intro a; exact ⟨Int.le_refl _, fun x h => by cases h⟩
  | cons y l ih =>
    intro a
    obtain ⟨h1, h2⟩ := ih (a := mn2 a y)
    have h3 : mn2 a y ≤ a ∧ mn2 a y ≤ y := by unfold mn2; split <;> omega
    refine ⟨Int.le_trans h1 h3.1, fun x hx => ?_⟩
    rcases List.mem_cons.1 hx with rfl | hx
    · exact Int.le_trans h1 h3.2
    · exact h2 x hx
theorem mnF_ge {l : List Int} {b : Int} (h : l ≠ []) (hb : ∀ x, x ∈ l → b ≤ x) : b ≤ mnF l := by
  cases l with
  | nil => exact absurd rfl h
  | cons y l => exact mn_ge (hb y List.mem_cons_self) fun x hx => hb x (List.mem_cons_of_mem _ hx)
theorem mnF_le {l : List Int} {x : Int} (hx : x ∈ l) : mnF l ≤ x := by
  cases l with
  | nil => cases hx
  | cons y l =>
    have := mn_le (l := l) (a := y)
    rcases List.mem_cons.1 hx with rfl | hx
    · exact this.1
    · exact this.2 x hx
theorem mnF_mem {l : List Int} (h : l ≠ []) : mnF l ∈ l := by
  cases l with
  | nil => exact absurd rfl h
  | cons y l =>
    have key : ∀ (l : List Int) (a : Int), l.foldl mn2 a = a ∨ l.foldl mn2 a ∈ l := by
      intro l
      induction l with
      | nil => intro a; exact .inl rfl
      | cons z l ih =>
        intro a
        rcases ih (mn2 a z) with q | q
        · have : mn2 a z = a ∨ mn2 a z = z := by unfold mn2; split <;> simp
          rcases this with e | e
          · left; rw [List.foldl_cons, q, e]
          · right; rw [List.foldl_cons, q, e]; exact List.mem_cons_self
        · right; exact List.mem_cons_of_mem _ q
    rcases key l y with q | q
    · show l.foldl mn2 y ∈ _; rw [q]; exact List.mem_cons_self
    · exact List.mem_cons_of_mem _ q
theorem min_loop (full : Bool) (l : List Int) (K : List Fr) (Q : Out → Cfg → Prop) (hn : l.length ≤ 100000)
    (hK : ∀ j1 j2 j5 j6 j7 j8 j9 j10 j11 j12 j13 j14 j15 j16 j17 j18 j19 j20 j21 j22 j23 j24 : AV, W Try.prog (RelU Try.prog xf) 0 K ⟨((al full l) :: j1 :: j2 :: (ai (mnF l)) :: (ai l.length) :: j5 :: j6 :: j7 :: j8 :: j9 :: j10 :: j11 :: j12 :: j13 :: j14 :: j15 :: j16 :: j17 :: j18 :: j19 :: j20 :: j21 :: j22 :: j23 :: j24 :: []), []⟩ Q) :
    ∀ (k i : Nat), i + k = l.length → 0 < i → ∀ j1 j2 j5 j6 j7 j8 j9 j10 j11 j12 j13 j14 j15 j16 j17 j18 j19 j20 j21 j22 j23 j24 : AV, W Try.prog (RelU Try.prog xf) 0 (.code (.loop xf57_L0) :: .blk 0 :: .stop :: K) ⟨((al full l) :: j1 :: j2 :: (ai (mnF (l.take i))) :: (ai i) :: j5 :: j6 :: j7 :: j8 :: j9 :: j10 :: j11 :: j12 :: j13 :: j14 :: j15 :: j16 :: j17 :: j18 :: j19 :: j20 :: j21 :: j22 :: j23 :: j24 :: []), []⟩ Q := by
  intro k
  induction k with
  | zero =>
    intro i hi hc j1 j2 j5 j6 j7 j8 j9 j10 j11 j12 j13 j14 j15 j16 j17 j18 j19 j20 j21 j22 j23 j24
    have : i = l.length := by omega
    subst this
    have h0 : decide (l.length < l.length) = false := by simp
    refine W_loop (W_run 80 ?_)
    simp (maxSteps := 2000000) only [SA, Nat.reduceDiv, Nat.reduceSub, Nat.reduceAdd, Int.reduceLT, Int.reduceLE, Int.reduceToNat, Nat.reduceMul, Nat.reduceEqDiff, reduceCtorEq, Nat.reduceBEq, Nat.reduceLeDiff, Nat.reduceLT, xf57_L0, ai, al, lt_cast, h0]
    rw [List.take_length]
    exact W_stop (hK _ _ _ _ _ _ _ _ _ _ _ _ _ _ _ _ _ _ _ _ _ _)
  | succ k ih =>
    intro i hi hc j1 j2 j5 j6 j7 j8 j9 j10 j11 j12 j13 j14 j15 j16 j17 j18 j19 j20 j21 j22 j23 j24
    have h1 : i < l.length := by omega
    have h0 : decide (i < l.length) = true := decide_eq_true h1
    refine W_loop (W_run 80 ?_)
    simp (maxSteps := 2000000) only [SA, Nat.reduceDiv, Nat.reduceSub, Nat.reduceAdd, Int.reduceLT, Int.reduceLE, Int.reduceToNat, Nat.reduceMul, Nat.reduceEqDiff, reduceCtorEq, Nat.reduceBEq, Nat.reduceLeDiff, Nat.reduceLT, xf57_L0, ai, al, lt_cast, h0, get_al h1, raw_min, opA, argT, Option.elim, rawK]
    rw [← mnF_take h1 hc, wrap_id (by omega) (by omega)]
    exact ih (i + 1) (by omega) (by omega) _ _ _ _ _ _ _ _ _ _ _ _ _ _ _ _ _ _ _ _ _ _
theorem min_run (full : Bool) (l : List Int) (h : 0 < l.length) (hn : l.length ≤ 100000) : Runs Try.prog xf 57 [al full l] (ai (mnF l)) := by
  refine Runs.ofW (fn := xf57) 20 (by kernel_rfl) (W_run 80 ?_)
  have h1 : decide ((l.length : Int) < 1) = false := decide_eq_false (by omega)
  have g := get_al h
  have e : l.getD 0 0 = mnF (l.take 1) := by cases l with | nil => simp at h | cons x t => rfl
  simp (maxSteps := 2000000) only [SA, Nat.reduceDiv, Nat.reduceSub, Nat.reduceAdd, Int.reduceLT, Int.reduceLE, Int.reduceToNat, Nat.reduceMul, Nat.reduceEqDiff, reduceCtorEq, Nat.reduceBEq, Nat.reduceLeDiff, Nat.reduceLT, xf57, ai, al, h1, g]
  rw [e]
  refine W_alone (min_loop full l _ _ hn (fun j1 j2 j5 j6 j7 j8 j9 j10 j11 j12 j13 j14 j15 j16 j17 j18 j19 j20 j21 j22 j23 j24 => W_run 80 ?_) (l.length - 1) 1 (by omega) (by omega) _ _ _ _ _ _ _ _ _ _ _ _ _ _ _ _ _ _ _ _ _ _)
  simp (maxSteps := 2000000) only [SA, Nat.reduceDiv, Nat.reduceSub, Nat.reduceAdd, Int.reduceLT, Int.reduceLE, Int.reduceToNat, Nat.reduceMul, Nat.reduceEqDiff, reduceCtorEq, Nat.reduceBEq, Nat.reduceLeDiff, Nat.reduceLT, xf57_R0, ai, al]
  exact W_ret1 (WX_nil ⟨.inl rfl, _, rfl, rfl⟩)
end Go.Proofs.Ytelkpfionifjgaa

