/-
  The runner with a memo: calls that are proved already are not run again.
-/
import Derived.Test.YtmljpnmaijakiaaEngQ
set_option linter.unusedSimpArgs false
set_option linter.unusedVariables false
namespace Go.Proofs.Eng
open Go
def beqL {α : Type} (q : α → α → Bool) : List α → List α → Bool
  | [], [] => true
  | x :: xs, y :: ys => match q x y with | true => beqL q xs ys | false => false
  | _, _ => false
def beqV : Value → Value → Bool
  | .int k a, .int k' b => match decide (k = k') with | true => decide (a = b) | false => false
  | .bool a, .bool b => match a, b with | true, true => true | false, false => true | _, _ => false
  | _, _ => false
def beqA : Nat → AV → AV → Bool
  | n + 1, .v a, .v b => beqV a b
  | n + 1, .sl s f xs, .sl s' f' ys => match Nat.beq s s', f, f' with
    | true, true, true => beqL (beqA n) xs ys
    | true, false, false => beqL (beqA n) xs ys
    | _, _, _ => false
  | n + 1, .ag xs, .ag ys => beqL (beqA n) xs ys
  | n + 1, .ifc t x, .ifc t' y => match Nat.beq t t' with | true => beqA n x y | false => false
  | _, _, _ => false
theorem beqL_ok {α : Type} {q : α → α → Bool} (h : ∀ x y, q x y = true → x = y) : ∀ (xs ys : List α), beqL q xs ys = true → xs = ys
  | [], [], _ => rfl
  | x :: xs, y :: ys, e => by
    simp only [beqL] at e
    split at e <;> try (cases e; done)
    rename_i h1
    rw [h x y h1, beqL_ok h xs ys e]
  | [], _ :: _, e => by cases e
  | _ :: _, [], e => by cases e
theorem beqV_ok : ∀ (x y : Value), beqV x y = true → x = y := by
  intro x y h
  unfold beqV at h
  split at h
  · split at h <;> try (cases h; done)
    rename_i h1
    rw [of_decide_eq_true h1, of_decide_eq_true h]
  · split at h <;> first | rfl | (cases h; done)
  · cases h
theorem beqA_ok : ∀ (n : Nat) (x y : AV), beqA n x y = true → x = y := by
  intro n
  induction n with
  | zero => intro x y h; unfold beqA at h; cases h
  | succ n ih =>
    intro x y h
    unfold beqA at h
    split at h
    · rw [beqV_ok _ _ h]
    · cases ‹n + 1 = Nat.succ _›
      split at h <;> try (cases h; done)
      · rename_i h1
        rw [Nat.eq_of_beq_eq_true h1, beqL_ok ih _ _ h]
      · rename_i h1
        rw [Nat.eq_of_beq_eq_true h1, beqL_ok ih _ _ h]
    · cases ‹n + 1 = Nat.succ _›
      rw [beqL_ok ih _ _ h]
    · cases ‹n + 1 = Nat.succ _›
      split at h <;> try (cases h; done)
      rename_i h1
      rw [Nat.eq_of_beq_eq_true h1, ih _ _ h]
    · cases h
def find (f : Nat) (args : List AV) : List (Nat × List AV × AV) → Option AV
  | [] => none
  | e :: l => match Nat.beq e.1 f with
    | true => match beqL (beqA 20) e.2.1 args with
      | true => some e.2.2
      | false => find f args l
    | false => find f args l
theorem find_ok {f : Nat} {args : List AV} {r : AV} {Q : Nat → List AV → AV → Prop} : ∀ (l : List (Nat × List AV × AV)), (∀ e, e ∈ l → Q e.1 e.2.1 e.2.2) → find f args l = some r → Q f args r
  | [], _, h => by cases h
  | e :: l, hl, h => by
    unfold find at h
    split at h
    · rename_i h1
      split at h
      · rename_i h2
        injection h with h
        have := hl e List.mem_cons_self
        rw [Nat.eq_of_beq_eq_true h1, beqL_ok (beqA_ok 20) _ _ h2, h] at this
        exact this
      · exact find_ok l (fun e he => hl e (List.mem_cons_of_mem _ he)) h
    · exact find_ok l (fun e he => hl e (List.mem_cons_of_mem _ he)) h
def memoP (m : List (Nat × List AV × AV)) (base : CallP) : CallP := fun f args => match find f args m with
  | some r => some r
  | none => base f args
def execM (P : Program) (xf : Nat → Option XFunc) (fuel : Nat) (m : List (Nat × List AV × AV)) (n : Nat) : CallP × CallQ :=
  Nat.rec (motive := fun _ => CallP × CallQ) (memoP m fun _ _ => none, fun _ _ _ _ => none) (fun _ ih => (memoP m (execP1 P xf fuel ih), execQ1 P xf fuel ih)) n
section
variable {P : Program} {xf : Nat → Option XFunc} {fuel : Nat} {m : List (Nat × List AV × AV)}
theorem execM_ok (hm : ∀ e, e ∈ m → Runs P xf e.1 e.2.1 e.2.2) : ∀ n, CallOK (execM P xf fuel m n).1 (execM P xf fuel m n).2 (RelU P xf) := by
  have hp : ∀ (base : CallP), (∀ f args r, base f args = some r → Runs P xf f args r) → ∀ f args r, memoP m base f args = some r → Runs P xf f args r := by
    intro base hb f args r h
    unfold memoP at h
    split at h
    · rename_i r' h1
      injection h with h; subst h
      exact find_ok (Q := Runs P xf) m hm h1
    · exact hb _ _ _ h
  intro n
  induction n with
  | zero => exact ⟨(hp _ fun f args r h => by cases h), (fun kb f args η r η' h => by cases h)⟩
  | succ n ih =>
    refine ⟨hp _ fun f args r h => ?_, fun kb f args η r η' h => ?_⟩
    · have h' : execP1 P xf fuel (execM P xf fuel m n) f args = some r := h
      unfold execP1 at h'
      split at h' <;> try (cases h'; done)
      rename_i fn hfn
      split at h' <;> try (cases h'; done)
      rename_i o c hoc
      split at h' <;> try (cases h'; done)
      rename_i rs ho hrs
      exact Runs.of hfn (execC_ok ih _ _ _ _ _ hoc) (retB_ok ho) hrs h'
    · have h' : execQ1 P xf fuel (execM P xf fuel m n) kb f args η = some (r, η') := h
      unfold execQ1 at h'
      split at h' <;> try (cases h'; done)
      rename_i fn hfn
      split at h' <;> try (cases h'; done)
      rename_i o c hoc
      split at h' <;> try (cases h'; done)
      rename_i rs ho hrs
      injection h' with h'; injection h' with e1 e2; subst e1; subst e2
      exact RunsR.of hfn (execC_ok ih _ _ _ _ _ hoc) (retB_ok ho) hrs
/-- what is computed over a memo of runs is a run -/
theorem Runs.execM (hm : ∀ e, e ∈ m → Runs P xf e.1 e.2.1 e.2.2) {f : Nat} {args : List AV} {r : AV} (n : Nat) (h : (execM P xf fuel m n).1 f args = some r) : Runs P xf f args r := (execM_ok hm n).p f args r h
end
end Go.Proofs.Eng
