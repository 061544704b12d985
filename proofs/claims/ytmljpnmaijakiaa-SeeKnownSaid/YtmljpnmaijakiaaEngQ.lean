/-
  The short form, carried out: what it computes is a run.
-/
import Derived.Test.YtmljpnmaijakiaaEngP
set_option linter.unusedSimpArgs false
set_option linter.unusedVariables false
namespace Go.Proofs.Eng
open Go Go.RowKit

abbrev CallP := Nat → List AV → Option AV
abbrev CallQ := Nat → Nat → List AV → Heap → Option (AV × Heap)

def wantsRef : XOp → Bool
  | .call own _ _ => own
  | _ => false
/-- rows that lie in a literal are given up -/
def giveAll : List XArg → Cfg → Cfg
  | [], c => c
  | .t n :: l, c => match giveT c n with
    | some c1 => giveAll l c1
    | none => giveAll l c
  | .c _ :: l, c => giveAll l c
/-- the row at key k is given up, if a slot still holds it -/
def giveKey (k : Nat) : Nat → Cfg → Cfg
  | 0, c => c
  | t + 1, c => match c.σ.getD t .any with
    | .os k' _ _ _ _ _ => match Nat.beq k' k with
      | true => match giveT c t with
        | some c1 => c1
        | none => giveKey k t c
      | false => giveKey k t c
    | _ => giveKey k t c
def giveOp (kb : Nat) (o : XOper) (c : Cfg) : Cfg := match o.op with
  | .bldS _ _ false parts => giveAll parts c
  | .bldS _ _ true _ => giveKey (kb + o.dst.getD 0) c.σ.length c
  | .mks _ _ true _ _ _ _ => giveKey (kb + o.dst.getD 0) c.σ.length c
  | _ => c
def exec1 (P : Program) (cp : CallP) (cq : CallQ) (kb : Nat) (o : XOper) (c : Cfg) : Option (Cfg × Nat) :=
  match wantedA c.σ o.guard with
  | some false => some (⟨setA c.σ o.dst (.v undef), c.η⟩, 0)
  | some true => match step P (kb + o.dst.getD 0) ⟨c.σ, []⟩ o.op with
    | some (.val x) => some (⟨setA c.σ o.dst x, c.η⟩, 0)
    | some (.call f args) => match noRefs args && !wantsRef o.op with
      | true => match cp f args with
        | some r => match noRef r with | true => some (⟨setA c.σ o.dst r, c.η⟩, 0) | false => none
        | none => none
      | false => match cq (kb + 1000) f args c.η with
        | some (r, η') => some (⟨setA c.σ o.dst r, η'⟩, 2)
        | none => none
    | _ => match step P (kb + o.dst.getD 0) c o.op with
      | some (.val x) => some (⟨setA c.σ o.dst x, c.η⟩, 1)
      | some (.upd x k r) => some (⟨setA c.σ o.dst x, putAt c.η k r⟩, 2)
      | _ => none
  | none => none
def execOps (P : Program) (cp : CallP) (cq : CallQ) (kb : Nat) : List XOper → Cfg → Option (Cfg × List Nat)
  | [], c => some (c, [])
  | o :: l, c => match exec1 P cp cq kb o c with
    | some (c1, lv) => match execOps P cp cq kb l c1 with
      | some (c2, lvs) => some (c2, lv :: lvs)
      | none => none
    | none => none
def execG (P : Program) (cp : CallP) (cq : CallQ) (kb : Nat) : List XOper → Cfg → Option Cfg
  | [], c => some c
  | o :: l, c => match exec1 P cp cq kb o (giveOp kb o c) with
    | some (c1, _) => execG P cp cq kb l c1
    | none => none
def lvsB (lvs : List Nat) : Option (List Nat) → Bool
  | none => true
  | some F => lvLe lvs F
def execB (P : Program) (cp : CallP) (cq : CallQ) (kb : Nat) (ih : XCode → Cfg → Option (Out × Cfg)) (x : XCode) (c : Cfg) : Option (Out × Cfg) := match x with
    | .skip => some (.normal, c)
    | .region xs none => match execG P cp cq kb xs c with
      | some c1 => some (.normal, c1)
      | none => none
    | .region xs (some F) => match execOps P cp cq kb xs c with
      | some (c1, lvs) => match lvLe lvs F with | true => some (.normal, c1) | false => none
      | none => none
    | .seq a b => match ih a c with
      | some (.normal, c1) => ih b c1
      | some (.exit id, c1) => some (.exit id, c1)
      | some (.ret, c1) => some (.ret, c1)
      | none => none
    | .cond q t e => match evalA c.σ q with
      | .v (.bool true) => ih t c
      | .v (.bool false) => ih e c
      | _ => none
    | .block id b => match ih b c with
      | some (o, c1) => some (if o = .exit id then .normal else o, c1)
      | none => none
    | .loop b => match ih b c with
      | some (.normal, c1) => ih (.loop b) c1
      | some (.exit id, c1) => some (.exit id, c1)
      | some (.ret, c1) => some (.ret, c1)
      | none => none
    | .exit id => some (.exit id, c)
    | .scope b => ih b c
    | .ret => some (.ret, c)
def execC (P : Program) (cp : CallP) (cq : CallQ) (kb : Nat) (fuel : Nat) : XCode → Cfg → Option (Out × Cfg) :=
  Nat.rec (motive := fun _ => XCode → Cfg → Option (Out × Cfg)) (fun _ _ => none) (fun _ ih => execB P cp cq kb ih) fuel
def retB : Out → Bool
  | .exit _ => false
  | _ => true
def execP1 (P : Program) (xf : Nat → Option XFunc) (fuel : Nat) (ih : CallP × CallQ) : CallP := fun f args => match xf f with
  | some fn => match execC P ih.1 ih.2 0 fuel fn.body (start fn args []) with
    | some (o, c) => match retB o, fn.results.mapM (resOf P c) with
      | true, some rs => reify c.η 20 (retOf rs)
      | _, _ => none
    | none => none
  | none => none
def execQ1 (P : Program) (xf : Nat → Option XFunc) (fuel : Nat) (ih : CallP × CallQ) : CallQ := fun kb f args η => match xf f with
  | some fn => match execC P ih.1 ih.2 kb fuel fn.body (start fn args η) with
    | some (o, c) => match retB o, fn.results.mapM (resOf P c) with
      | true, some rs => some (retOf rs, c.η)
      | _, _ => none
    | none => none
  | none => none
def execF (P : Program) (xf : Nat → Option XFunc) (fuel : Nat) (n : Nat) : CallP × CallQ :=
  Nat.rec (motive := fun _ => CallP × CallQ) (fun _ _ => none, fun _ _ _ _ => none) (fun _ ih => (execP1 P xf fuel ih, execQ1 P xf fuel ih)) n

section
variable {P : Program} {R : Rel} {cp : CallP} {cq : CallQ} {kb : Nat} {xf : Nat → Option XFunc} {fuel : Nat}
structure CallOK (cp : CallP) (cq : CallQ) (R : Rel) : Prop where
  p : ∀ f args r, cp f args = some r → R.p f args r
  q : ∀ kb f args η r η', cq kb f args η = some (r, η') → R.q kb f args η r η'
theorem exec1_ok (h : CallOK cp cq R) {o : XOper} {c c' : Cfg} {lv : Nat} (he : exec1 P cp cq kb o c = some (c', lv)) : Op1 P R kb o c c' lv := by
  unfold exec1 at he
  split at he
  · rename_i hw
    injection he with he; injection he with e1 e2; subst e1; subst e2
    exact .skip c hw
  · rename_i hw
    split at he
    · rename_i x hs
      injection he with he; injection he with e1 e2; subst e1; subst e2
      exact .free c x hw hs
    · rename_i f args hs
      split at he
      · rename_i hn
        have hn : noRefs args = true := by simp only [Bool.and_eq_true] at hn; exact hn.1
        split at he <;> try (cases he; done)
        rename_i r hr
        split at he <;> try (cases he; done)
        rename_i hn2
        injection he with he; injection he with e1 e2; subst e1; subst e2
        exact .call c f args r hw hs hn (h.p _ _ _ hr) hn2
      · split at he <;> try (cases he; done)
        rename_i r η' hr
        injection he with he; injection he with e1 e2; subst e1; subst e2
        exact .callR c (kb + 1000) f args r η' hw hs (h.q _ _ _ _ _ _ hr)
    · split at he <;> try (cases he; done)
      · rename_i x hs
        injection he with he; injection he with e1 e2; subst e1; subst e2
        exact .val c x hw hs
      · rename_i x k r hs
        injection he with he; injection he with e1 e2; subst e1; subst e2
        exact .upd c x k r hw hs
  · cases he
theorem execOps_ok (h : CallOK cp cq R) : ∀ {l : List XOper} {c c' : Cfg} {lvs : List Nat}, execOps P cp cq kb l c = some (c', lvs) → OpsRun P R kb l c c' lvs
  | [], c, c', lvs, he => by
    simp only [execOps, Option.some.injEq, Prod.mk.injEq] at he
    obtain ⟨rfl, rfl⟩ := he
    exact .nil c
  | o :: l, c, c', lvs, he => by
    simp only [execOps] at he
    split at he <;> try (cases he; done)
    rename_i c1 lv h1
    split at he <;> try (cases he; done)
    rename_i c2 lvs' h2
    injection he with he; injection he with e1 e2; subst e1; subst e2
    exact .cons o l c c1 c2 lv lvs' (exec1_ok h h1) (execOps_ok h h2)
theorem giveAll_ok {l : List XOper} {c2 : Cfg} : ∀ (ps : List XArg) (c : Cfg), OpsG P R kb l (giveAll ps c) c2 → OpsG P R kb l c c2
  | [], c, h => h
  | .t n :: ps, c, h => by
    simp only [giveAll] at h
    split at h
    · rename_i c1 h1; exact .give l c c1 c2 n h1 (giveAll_ok ps c1 h)
    · exact giveAll_ok ps c h
  | .c _ :: ps, c, h => giveAll_ok ps c h
theorem giveKey_ok {l : List XOper} {c2 : Cfg} {k : Nat} : ∀ (t : Nat) (c : Cfg), OpsG P R kb l (giveKey k t c) c2 → OpsG P R kb l c c2
  | 0, c, h => h
  | t + 1, c, h => by
    unfold giveKey at h
    split at h
    · split at h
      · split at h
        · rename_i c1 h1; exact .give l c c1 c2 t h1 h
        · exact giveKey_ok t c h
      · exact giveKey_ok t c h
    · exact giveKey_ok t c h
theorem execG_ok (h : CallOK cp cq R) : ∀ {l : List XOper} {c c' : Cfg}, execG P cp cq kb l c = some c' → OpsG P R kb l c c'
  | [], c, c', he => by
    simp only [execG, Option.some.injEq] at he
    subst he; exact .nil c
  | o :: l, c, c', he => by
    simp only [execG] at he
    split at he <;> try (cases he; done)
    rename_i c1 lv h1
    have h2 : OpsG P R kb (o :: l) (giveOp kb o c) c' := .cons o l _ c1 c' lv (exec1_ok h h1) (execG_ok h he)
    unfold giveOp at h2
    split at h2
    · exact giveAll_ok _ _ h2
    · exact giveKey_ok _ _ h2
    · exact giveKey_ok _ _ h2
    · exact h2
theorem lvsB_ok {lvs : List Nat} {F : Option (List Nat)} (h : lvsB lvs F = true) : lvsOK lvs F := by
  cases F with
  | none => exact trivial
  | some F => exact h
theorem execC_ok (h : CallOK cp cq R) : ∀ (n : Nat) (x : XCode) (c c' : Cfg) (o : Out), execC P cp cq kb n x c = some (o, c') → Ex P R kb x c o c' := by
  intro n
  induction n with
  | zero => intro x c c' o he; cases he
  | succ n ih =>
    intro x c c' o he
    have he' : execB P cp cq kb (execC P cp cq kb n) x c = some (o, c') := he
    clear he
    unfold execB at he'
    cases x with
    | skip => injection he' with e; injection e with e1 e2; subst e1; subst e2; exact .skip c
    | region xs F =>
      cases F with
      | none =>
        simp only at he'
        split at he' <;> try (cases he'; done)
        rename_i c1 h1
        injection he' with e; injection e with e1 e2; subst e1; subst e2
        exact .regionG xs c c1 (execG_ok h h1)
      | some F =>
        simp only at he'
        split at he' <;> try (cases he'; done)
        rename_i c1 lvs h1
        split at he' <;> try (cases he'; done)
        rename_i h2
        injection he' with e; injection e with e1 e2; subst e1; subst e2
        exact .region xs (some F) c c1 lvs (execOps_ok h h1) h2
    | seq a b =>
      simp only at he'
      split at he' <;> try (cases he'; done)
      · rename_i c1 h1
        exact .seqN a b c c1 c' o (ih _ _ _ _ h1) (ih _ _ _ _ he')
      · rename_i id c1 h1
        injection he' with e; injection e with e1 e2; subst e1; subst e2
        exact .seqX a b c c1 _ (ih _ _ _ _ h1) (by simp)
      · rename_i c1 h1
        injection he' with e; injection e with e1 e2; subst e1; subst e2
        exact .seqX a b c c1 _ (ih _ _ _ _ h1) (by simp)
    | cond q t e =>
      simp only at he'
      split at he' <;> try (cases he'; done)
      · rename_i h1; exact .condT q t e c c' o h1 (ih _ _ _ _ he')
      · rename_i h1; exact .condF q t e c c' o h1 (ih _ _ _ _ he')
    | block id b =>
      simp only at he'
      split at he' <;> try (cases he'; done)
      rename_i o1 c1 h1
      injection he' with e; injection e with e1 e2; subst e1; subst e2
      exact .block id b c c1 o1 (ih _ _ _ _ h1)
    | loop b =>
      simp only at he'
      split at he' <;> try (cases he'; done)
      · rename_i c1 h1
        exact .loopN b c c1 c' o (ih _ _ _ _ h1) (ih _ _ _ _ he')
      · rename_i id c1 h1
        injection he' with e; injection e with e1 e2; subst e1; subst e2
        exact .loopX b c c1 _ (ih _ _ _ _ h1) (by simp)
      · rename_i c1 h1
        injection he' with e; injection e with e1 e2; subst e1; subst e2
        exact .loopX b c c1 _ (ih _ _ _ _ h1) (by simp)
    | exit id => injection he' with e; injection e with e1 e2; subst e1; subst e2; exact .exit id c
    | scope b => exact .scope b c c' o (ih _ _ _ _ he')
    | ret => injection he' with e; injection e with e1 e2; subst e1; subst e2; exact .ret c
theorem retB_ok {o : Out} (h : retB o = true) : o = .ret ∨ o = .normal := by cases o <;> simp_all [retB]
theorem execF_ok : ∀ n, CallOK (execF P xf fuel n).1 (execF P xf fuel n).2 (RelN P xf n) := by
  intro n
  induction n with
  | zero => exact ⟨(fun f args r h => by cases h), (fun kb f args η r η' h => by cases h)⟩
  | succ n ih =>
    refine ⟨fun f args r h => ?_, fun kb f args η r η' h => ?_⟩
    · have h' : execP1 P xf fuel (execF P xf fuel n) f args = some r := h
      unfold execP1 at h'
      split at h' <;> try (cases h'; done)
      rename_i fn hfn
      split at h' <;> try (cases h'; done)
      rename_i o c hoc
      split at h' <;> try (cases h'; done)
      rename_i rs ho hrs
      exact ⟨fn, o, c, rs, 20, hfn, execC_ok ih _ _ _ _ _ hoc, retB_ok ho, hrs, h'⟩
    · have h' : execQ1 P xf fuel (execF P xf fuel n) kb f args η = some (r, η') := h
      unfold execQ1 at h'
      split at h' <;> try (cases h'; done)
      rename_i fn hfn
      split at h' <;> try (cases h'; done)
      rename_i o c hoc
      split at h' <;> try (cases h'; done)
      rename_i rs ho hrs
      injection h' with h'; injection h' with e1 e2; subst e1; subst e2
      exact ⟨fn, o, c, rs, hfn, execC_ok ih _ _ _ _ _ hoc, retB_ok ho, hrs, rfl, rfl⟩
/-- **what is computed is a run** -/
theorem Runs.exec {f : Nat} {args : List AV} {r : AV} (n : Nat) (h : (execF P xf fuel n).1 f args = some r) : Runs P xf f args r := ⟨n, (execF_ok n).p f args r h⟩
end
end Go.Proofs.Eng
