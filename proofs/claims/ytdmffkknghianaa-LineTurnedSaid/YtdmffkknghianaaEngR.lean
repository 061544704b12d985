/-
  The runner with a memo: calls that are proved already are not run again.
-/
import Derived.Test.YtdmffkknghianaaEngQ
set_option linter.unusedSimpArgs false
set_option linter.unusedVariables false
namespace Go.Proofs.Eng
open Go
def beqL {α : Type} (q : α → α → Bool) : List α → List α → Bool
  | [], [] => true
  | x :: xs, y :: ys => match q x y with | true => beqL q xs ys | false => false
  | _, _ => false
def beqV : Value → Value → Bool
  | .int k a, .int k' b => match decide (k = k') with | true => decide (a = b) | false => false
  | .bool a, .bool b => match a, b with | true, true => true | false, false => true | _, _ => false
  | .slice none 0 0, .slice none 0 0 => true
  | .nilIface, .nilIface => true
  | .nilFunc, .nilFunc => true
  | .pointer none, .pointer none => true
  | .map none, .map none => true
  | .string a, .string b => decide (a.data.toList = b.data.toList)
  | _, _ => false
def beqA : Nat → AV → AV → Bool
  | n + 1, .any, .any => true
  | n + 1, .v a, .v b => beqV a b
  | n + 1, .sl s f xs, .sl s' f' ys => match Nat.beq s s', f, f' with
    | true, true, true => beqL (beqA n) xs ys
    | true, false, false => beqL (beqA n) xs ys
    | _, _, _ => false
  | n + 1, .ag xs, .ag ys => beqL (beqA n) xs ys
  | n + 1, .tup xs, .tup ys => beqL (beqA n) xs ys
  | n + 1, .ptr x, .ptr y => beqA n x y
  | n + 1, .ifc t x, .ifc t' y => match Nat.beq t t' with | true => beqA n x y | false => false
  | n + 1, .fn t x, .fn t' y => match Nat.beq t t' with | true => beqL (beqA n) x y | false => false
  | n + 1, .bm t x, .bm t' y => match Nat.beq t t' with | true => beqL (beqA n) x y | false => false
  | n + 1, .o a b c d e, .o a' b' c' d' e' => match Nat.beq a a', Nat.beq b b', Nat.beq c c', Nat.beq d d', Nat.beq e e' with
    | true, true, true, true, true => true
    | _, _, _, _, _ => false
  | n + 1, .os a b c d e f, .os a' b' c' d' e' f' => match Nat.beq a a', Nat.beq b b', Nat.beq c c', Nat.beq d d', Nat.beq e e', Nat.beq f f' with
    | true, true, true, true, true, true => true
    | _, _, _, _, _, _ => false
  | n + 1, .mp a b, .mp a' b' => match Nat.beq a a' with | true => Nat.beq b b' | false => false
  | n + 1, .it a b, .it a' b' => match Nat.beq a a' with | true => Nat.beq b b' | false => false
  | _, _, _ => false
theorem beqL_ok {α : Type} {q : α → α → Bool} (h : ∀ x y, q x y = true → x = y) : ∀ (xs ys : List α), beqL q xs ys = true → xs = ys
  | [], [], _ => rfl
  | x :: xs, y :: ys, e => by
    simp only [beqL] at e
    split at e <;> try (cases e; done)
    rename_i h1
    rw [h x y h1, beqL_ok h xs ys e]
  | [], _ :: _, e => by cases e
  | _ :: _, [], e => by cases e
theorem beqV_ok : ∀ (x y : Value), beqV x y = true → x = y := by
  intro x y h
  unfold beqV at h
  split at h
  · split at h <;> try (cases h; done)
    rename_i h1
    rw [of_decide_eq_true h1, of_decide_eq_true h]
  · split at h <;> first | rfl | (cases h; done)
  · rfl
  · rfl
  · rfl
  · rfl
  · rfl
  · rename_i x y; have := of_decide_eq_true h; rw [ByteArray.ext (Array.toList_inj.1 this)]
  · cases h
theorem beqA_ok : ∀ (n : Nat) (x y : AV), beqA n x y = true → x = y := by
  intro n
  induction n with
  | zero => intro x y h; unfold beqA at h; cases h
  | succ n ih =>
    intro x y h
    unfold beqA at h
    split at h <;> try (cases h; done)
    · rfl
    · rw [beqV_ok _ _ h]
    · cases ‹n + 1 = Nat.succ _›
      split at h <;> try (cases h; done)
      · rename_i h1
        rw [Nat.eq_of_beq_eq_true h1, beqL_ok ih _ _ h]
      · rename_i h1
        rw [Nat.eq_of_beq_eq_true h1, beqL_ok ih _ _ h]
    · cases ‹n + 1 = Nat.succ _›
      rw [beqL_ok ih _ _ h]
    · cases ‹n + 1 = Nat.succ _›
      rw [beqL_ok ih _ _ h]
    · cases ‹n + 1 = Nat.succ _›
      rw [ih _ _ h]
    · cases ‹n + 1 = Nat.succ _›
      split at h <;> try (cases h; done)
      rename_i h1
      rw [Nat.eq_of_beq_eq_true h1, ih _ _ h]
    · cases ‹n + 1 = Nat.succ _›
      split at h <;> try (cases h; done)
      rename_i h1
      rw [Nat.eq_of_beq_eq_true h1, beqL_ok ih _ _ h]
    · cases ‹n + 1 = Nat.succ _›
      split at h <;> try (cases h; done)
      rename_i h1
      rw [Nat.eq_of_beq_eq_true h1, beqL_ok ih _ _ h]
    · split at h <;> try (cases h; done)
      rename_i h1 h2 h3 h4 h5
      rw [Nat.eq_of_beq_eq_true h1, Nat.eq_of_beq_eq_true h2, Nat.eq_of_beq_eq_true h3, Nat.eq_of_beq_eq_true h4, Nat.eq_of_beq_eq_true h5]
    · split at h <;> try (cases h; done)
      rename_i h1 h2 h3 h4 h5 h6
      rw [Nat.eq_of_beq_eq_true h1, Nat.eq_of_beq_eq_true h2, Nat.eq_of_beq_eq_true h3, Nat.eq_of_beq_eq_true h4, Nat.eq_of_beq_eq_true h5, Nat.eq_of_beq_eq_true h6]
    · split at h <;> try (cases h; done)
      rename_i h1
      rw [Nat.eq_of_beq_eq_true h1, Nat.eq_of_beq_eq_true h]
    · split at h <;> try (cases h; done)
      rename_i h1
      rw [Nat.eq_of_beq_eq_true h1, Nat.eq_of_beq_eq_true h]
/-- heaps -/
def beqR : Nat × (Nat × Option Ob) → Nat × (Nat × Option Ob) → Bool
  | (k, g, none), (k', g', none) => match Nat.beq k k' with | true => Nat.beq g g' | false => false
  | (k, g, some ⟨e, s, xs⟩), (k', g', some ⟨e', s', ys⟩) => match Nat.beq k k', Nat.beq g g', Nat.beq e e', Nat.beq s s' with
    | true, true, true, true => beqL (beqA 20) xs ys
    | _, _, _, _ => false
  | _, _ => false
theorem beqR_ok (x y : Nat × (Nat × Option Ob)) (h : beqR x y = true) : x = y := by
  unfold beqR at h
  split at h
  · split at h <;> try (cases h; done)
    rename_i h1
    rw [Nat.eq_of_beq_eq_true h1, Nat.eq_of_beq_eq_true h]
  · split at h <;> try (cases h; done)
    rename_i h1 h2 h3 h4
    rw [Nat.eq_of_beq_eq_true h1, Nat.eq_of_beq_eq_true h2, Nat.eq_of_beq_eq_true h3, Nat.eq_of_beq_eq_true h4, beqL_ok (beqA_ok 20) _ _ h]
  · cases h
/-- a run with references that is proved -/
structure QE where
  kb : Nat
  f : Nat
  args : List AV
  η : Heap
  r : AV
  η' : Heap
def findQ (kb f : Nat) (args : List AV) (η : Heap) : List QE → Option (AV × Heap)
  | [] => none
  | e :: l => match Nat.beq e.f f, Nat.beq e.kb kb with
    | true, true => match beqL (beqA 20) e.args args with
      | true => match beqL beqR e.η η with
        | true => some (e.r, e.η')
        | false => findQ kb f args η l
      | false => findQ kb f args η l
    | _, _ => findQ kb f args η l
theorem findQ_ok {kb f : Nat} {args : List AV} {η : Heap} {r : AV} {η' : Heap} {Q : Nat → Nat → List AV → Heap → AV → Heap → Prop} : ∀ (l : List QE), (∀ e, e ∈ l → Q e.kb e.f e.args e.η e.r e.η') → findQ kb f args η l = some (r, η') → Q kb f args η r η'
  | [], _, h => by cases h
  | e :: l, hl, h => by
    have hrest := findQ_ok (kb := kb) (f := f) (args := args) (η := η) (r := r) (η' := η') l (fun e he => hl e (List.mem_cons_of_mem _ he))
    unfold findQ at h
    split at h
    · rename_i h1 h2
      split at h
      · rename_i h3
        split at h
        · rename_i h4
          injection h with h; injection h with e1 e2
          have := hl e List.mem_cons_self
          rw [Nat.eq_of_beq_eq_true h1, Nat.eq_of_beq_eq_true h2, beqL_ok (beqA_ok 20) _ _ h3, beqL_ok beqR_ok _ _ h4, e1, e2] at this
          exact this
        · exact hrest h
      · exact hrest h
    · exact hrest h
def find (f : Nat) (args : List AV) : List (Nat × List AV × AV) → Option AV
  | [] => none
  | e :: l => match Nat.beq e.1 f with
    | true => match beqL (beqA 20) e.2.1 args with
      | true => some e.2.2
      | false => find f args l
    | false => find f args l
theorem find_ok {f : Nat} {args : List AV} {r : AV} {Q : Nat → List AV → AV → Prop} : ∀ (l : List (Nat × List AV × AV)), (∀ e, e ∈ l → Q e.1 e.2.1 e.2.2) → find f args l = some r → Q f args r
  | [], _, h => by cases h
  | e :: l, hl, h => by
    unfold find at h
    split at h
    · rename_i h1
      split at h
      · rename_i h2
        injection h with h
        have := hl e List.mem_cons_self
        rw [Nat.eq_of_beq_eq_true h1, beqL_ok (beqA_ok 20) _ _ h2, h] at this
        exact this
      · exact find_ok l (fun e he => hl e (List.mem_cons_of_mem _ he)) h
    · exact find_ok l (fun e he => hl e (List.mem_cons_of_mem _ he)) h
def memoP (m : List (Nat × List AV × AV)) (base : CallP) : CallP := fun f args => match find f args m with
  | some r => some r
  | none => base f args
def memoQ (m : List QE) (base : CallQ) : CallQ := fun kb f args η => match findQ kb f args η m with
  | some r => some r
  | none => base kb f args η
/-- runs that are proved: on plain data, with results that are new, with references -/
structure Memo where
  p : List (Nat × List AV × AV)
  n : List (Nat × List AV × AV)
  q : List QE
structure MemoOK (P : Program) (xf : Nat → Option XFunc) (m : Memo) : Prop where
  p : ∀ e, e ∈ m.p → Runs P xf e.1 e.2.1 e.2.2
  n : ∀ e, e ∈ m.n → RunsN P xf e.1 e.2.1 e.2.2
  q : ∀ e, e ∈ m.q → RunsR P xf e.kb e.f e.args e.η e.r e.η'
def execM (P : Program) (xf : Nat → Option XFunc) (fr : Nat → Bool) (fuel : Nat) (m : Memo) (n : Nat) : Cs :=
  Nat.rec (motive := fun _ => Cs) ⟨memoP m.p fun _ _ => none, memoP m.n fun _ _ => none, memoQ m.q fun _ _ _ _ => none, fr⟩ (fun _ ih => ⟨memoP m.p (execP1 P xf fuel ih), memoP m.n (execN1 P xf fuel ih), memoQ m.q (execQ1 P xf fuel ih), fr⟩) n
section
variable {P : Program} {xf : Nat → Option XFunc} {fr : Nat → Bool} {fuel : Nat} {m : Memo}
theorem memoP_ok {Q : Nat → List AV → AV → Prop} {m : List (Nat × List AV × AV)} (hm : ∀ e, e ∈ m → Q e.1 e.2.1 e.2.2) (base : CallP) (hb : ∀ f args r, base f args = some r → Q f args r) (f : Nat) (args : List AV) (r : AV) (h : memoP m base f args = some r) : Q f args r := by
  unfold memoP at h
  split at h
  · rename_i r' h1
    injection h with h; subst h
    exact find_ok (Q := Q) m hm h1
  · exact hb _ _ _ h
theorem memoQ_ok {Q : Nat → Nat → List AV → Heap → AV → Heap → Prop} {m : List QE} (hm : ∀ e, e ∈ m → Q e.kb e.f e.args e.η e.r e.η') (base : CallQ) (hb : ∀ kb f args η r η', base kb f args η = some (r, η') → Q kb f args η r η') (kb f : Nat) (args : List AV) (η : Heap) (r : AV) (η' : Heap) (h : memoQ m base kb f args η = some (r, η')) : Q kb f args η r η' := by
  unfold memoQ at h
  split at h
  · rename_i r' h1
    injection h with h; subst h
    exact findQ_ok (Q := Q) m hm h1
  · exact hb _ _ _ _ _ _ h
theorem execM_ok (hm : MemoOK P xf m) : ∀ n, CallOK (execM P xf fr fuel m n) (RelU P xf) := by
  intro n
  induction n with
  | zero => exact ⟨memoP_ok (Q := Runs P xf) hm.p _ (fun f args r h => by cases h), memoQ_ok (Q := RunsR P xf) hm.q _ (fun kb f args η r η' h => by cases h), memoP_ok (Q := RunsN P xf) hm.n _ (fun f args r h => by cases h)⟩
  | succ n ih =>
    refine ⟨memoP_ok (Q := Runs P xf) hm.p _ fun f args r h => ?_, memoQ_ok (Q := RunsR P xf) hm.q _ fun kb f args η r η' h => ?_, memoP_ok (Q := RunsN P xf) hm.n _ fun f args r h => ?_⟩
    · have h' : execP1 P xf fuel (execM P xf fr fuel m n) f args = some r := h
      unfold execP1 at h'
      split at h' <;> try (cases h'; done)
      rename_i fn hfn
      split at h' <;> try (cases h'; done)
      rename_i o c hoc
      split at h' <;> try (cases h'; done)
      rename_i rs ho hrs
      exact Runs.of hfn (execC_ok ih _ _ _ _ _ hoc) (retB_ok ho) hrs h'
    · have h' : execQ1 P xf fuel (execM P xf fr fuel m n) kb f args η = some (r, η') := h
      unfold execQ1 at h'
      split at h' <;> try (cases h'; done)
      rename_i fn hfn
      split at h' <;> try (cases h'; done)
      rename_i o c hoc
      split at h' <;> try (cases h'; done)
      rename_i rs ho hrs
      injection h' with h'; injection h' with e1 e2; subst e1; subst e2
      exact RunsR.of hfn (execC_ok ih _ _ _ _ _ hoc) (retB_ok ho) hrs
    · have h' : execN1 P xf fuel (execM P xf fr fuel m n) f args = some r := h
      unfold execN1 at h'
      split at h' <;> try (cases h'; done)
      rename_i fn hfn
      split at h' <;> try (cases h'; done)
      rename_i o c hoc
      split at h' <;> try (cases h'; done)
      rename_i rs ho hrs
      exact RunsN.of hfn (execC_ok ih _ _ _ _ _ hoc) (retB_ok ho) hrs h'
/-- what is computed over a memo of runs is a run -/
theorem Runs.execM (hm : MemoOK P xf m) {f : Nat} {args : List AV} {r : AV} (n : Nat) (h : (Eng.execM P xf fr fuel m n).p f args = some r) : Runs P xf f args r :=
  (execM_ok hm n).p f args r h
theorem RunsN.execM (hm : MemoOK P xf m) {f : Nat} {args : List AV} {r : AV} (n : Nat) (h : (Eng.execM P xf fr fuel m n).n f args = some r) : RunsN P xf f args r :=
  (execM_ok hm n).n f args r h
theorem RunsR.execM (hm : MemoOK P xf m) {kb f : Nat} {args : List AV} {η : Heap} {r : AV} {η' : Heap} (n : Nat) (h : (Eng.execM P xf fr fuel m n).q kb f args η = some (r, η')) : RunsR P xf kb f args η r η' :=
  (execM_ok hm n).q kb f args η r η' h
theorem all_none {α : Type} {Q : α → Prop} : ∀ e, e ∈ ([] : List α) → Q e := fun _ h => by cases h
theorem all_more {α : Type} {Q : α → Prop} {a : α} {l : List α} (h : Q a) (hl : ∀ e, e ∈ l → Q e) : ∀ e, e ∈ a :: l → Q e := fun e he => by
  rcases List.mem_cons.1 he with rfl | he
  · exact h
  · exact hl e he
end
end Go.Proofs.Eng
