/-
  What is left of a run may be carried out by the quick runner.
-/
import Derived.Test.YtimfijmkfdhlmaaEngT
set_option linter.unusedSimpArgs false
set_option linter.unusedVariables false
namespace Go.Proofs.Eng
open Go
/-- a stack is carried out -/
def execS (P : Program) (C : Cs) (kb fuel : Nat) : List Fr → Out → Cfg → Option (Out × Cfg)
  | [], o, c => some (o, c)
  | .op l x :: k, .normal, c => match exec1K P C kb x c with
    | some (c1, lv) => match limOK l lv with | true => execS P C kb fuel k .normal c1 | false => none
    | none => none
  | .op _ _ :: k, .exit i, c => execS P C kb fuel k (.exit i) c
  | .op _ _ :: k, .ret, c => execS P C kb fuel k .ret c
  | .code x :: k, .normal, c => match execC P C kb fuel x c with | some (o1, c1) => execS P C kb fuel k o1 c1 | none => none
  | .code _ :: k, .exit i, c => execS P C kb fuel k (.exit i) c
  | .code _ :: k, .ret, c => execS P C kb fuel k .ret c
  | .blk id :: k, o, c => execS P C kb fuel k (if o = .exit id then .normal else o) c
  | .lp b :: k, .normal, c => match execC P C kb fuel (.loop b) c with | some (o1, c1) => execS P C kb fuel k o1 c1 | none => none
  | .lp _ :: k, .exit i, c => execS P C kb fuel k (.exit i) c
  | .lp _ :: k, .ret, c => execS P C kb fuel k .ret c
  | .stop :: k, o, c => execS P C kb fuel k o c
section
variable {P : Program} {R : Rel} {C : Cs} {kb fuel : Nat}
theorem execS_ok (h : CallOK C R) : ∀ (k : List Fr) (o : Out) (c : Cfg) (o' : Out) (c' : Cfg), execS P C kb fuel k o c = some (o', c') → Aft P R kb k o c o' c'
  | [], o, c, o', c', he => by
    simp only [execS, Option.some.injEq, Prod.mk.injEq] at he
    exact ⟨he.1.symm, he.2.symm⟩
  | .op l x :: k, .normal, c, o', c', he => by
    simp only [execS] at he
    split at he <;> try (cases he; done)
    rename_i c1 lv h1
    split at he <;> try (cases he; done)
    rename_i h2
    exact ⟨c, c1, lv, .inl rfl, exec1K_ok h h1, h2, execS_ok h k _ _ _ _ he⟩
  | .op _ _ :: k, .exit i, c, o', c', he => execS_ok h k _ _ _ _ he
  | .op _ _ :: k, .ret, c, o', c', he => execS_ok h k _ _ _ _ he
  | .code x :: k, .normal, c, o', c', he => by
    simp only [execS] at he
    split at he <;> try (cases he; done)
    rename_i o1 c1 h1
    exact ⟨o1, c1, execC_ok h _ _ _ _ _ h1, execS_ok h k _ _ _ _ he⟩
  | .code _ :: k, .exit i, c, o', c', he => execS_ok h k _ _ _ _ he
  | .code _ :: k, .ret, c, o', c', he => execS_ok h k _ _ _ _ he
  | .blk id :: k, o, c, o', c', he => execS_ok h k _ _ _ _ he
  | .lp b :: k, .normal, c, o', c', he => by
    simp only [execS] at he
    split at he <;> try (cases he; done)
    rename_i o1 c1 h1
    exact ⟨o1, c1, execC_ok h _ _ _ _ _ h1, execS_ok h k _ _ _ _ he⟩
  | .lp _ :: k, .exit i, c, o', c', he => execS_ok h k _ _ _ _ he
  | .lp _ :: k, .ret, c, o', c', he => execS_ok h k _ _ _ _ he
  | .stop :: k, o, c, o', c', he => execS_ok h k _ _ _ _ he
/-- what a stack's run hands back -/
def finS (P : Program) (fn : XFunc) : Option (Out × Cfg) → Option AV
  | some (o, c) => match retB o, fn.results.mapM (resOf P c) with
    | true, some rs => reify c.η 20 (retOf rs)
    | _, _ => none
  | none => none
theorem W_execS {xf : Nat → Option XFunc} {fr : Nat → Bool} {m : Memo} {n : Nat} {k : List Fr} {c : Cfg} {fn : XFunc} {r : AV} (hm : MemoOK P xf m) (h : finS P fn (execS P (execM P xf fr fuel m n) kb fuel k .normal c) = some r) :
    W P (RelU P xf) kb k c fun o c => (o = .ret ∨ o = .normal) ∧ ∃ rs, fn.results.mapM (resOf P c) = some rs ∧ reify c.η 20 (retOf rs) = some r := by
  cases he : execS P (execM P xf fr fuel m n) kb fuel k .normal c with
  | none => rw [he] at h; cases h
  | some p =>
    obtain ⟨o', c'⟩ := p
    rw [he] at h
    simp only [finS] at h
    split at h <;> try (cases h; done)
    rename_i rs ho hrs
    exact ⟨o', c', execS_ok (execM_ok hm n) k _ _ _ _ he, retB_ok ho, rs, hrs, h⟩
end
end Go.Proofs.Eng
