/-
  Regions: in the order of the text, and in whatever order.
-/
import Derived.Test.YtdmffkknghianaaEngL
set_option linter.unusedSimpArgs false
set_option linter.unusedVariables false
namespace Go.Proofs.Eng
open Go Go.RowKit

def usesA : XArg → List Nat
  | .t n => [n]
  | .c _ => []
def usesOp : Operand → List Nat
  | .tmp t => [t]
  | _ => []
def usesX : XOp → List Nat
  | .mv x | .un _ x | .load _ _ x | .fadr _ _ _ x | .fld _ _ _ x | .box _ _ _ x | .mki _ x | .tas _ _ _ x | .ext x _ | .len x | .lenS x | .capS x | .nilc x | .isnil _ x => usesA x
  | .slcA _ _ _ x lo hi => usesA x ++ lo.toList.flatMap usesA ++ hi.toList.flatMap usesA
  | .pick a b c => usesA a ++ usesA b ++ usesA c
  | .bin _ x y | .store _ x y | .iadr _ x y | .aadr _ _ _ x y | .idx _ _ _ x y | .app _ _ _ x y | .mks _ _ _ _ _ x y | .appz _ _ _ _ x y => usesA x ++ usesA y
  | .raw o _ => o.operands.toList.flatMap usesOp
  | .slc _ x lo hi mx => usesA x ++ lo.toList.flatMap usesA ++ hi.toList.flatMap usesA ++ mx.toList.flatMap usesA
  | .bld _ ps => ps.flatMap fun p => usesA p.2.2
  | .bldS _ _ _ xs | .call _ _ xs | .mkf _ xs | .mkb _ xs | .xt _ xs => xs.flatMap usesA
  | .callv x xs | .inv x _ xs => usesA x ++ xs.flatMap usesA
  | .lkp _ _ _ x y | .del _ x y => usesA x ++ usesA y
  | .mup _ x y z => usesA x ++ usesA y ++ usesA z
  | .lenM x | .rgs x | .nxs x | .b2s x => usesA x
  | .cpy x y => usesA x ++ usesA y
  | .mkm => []
  | .bad => []
def usesO (o : XOper) : List Nat := usesX o.op ++ (match o.guard with | some (t, _) => [t] | none => [])
def apartX (x y : XOper) : Bool :=
  (match x.dst with | some d => !(usesO y).contains d && y.dst != some d | none => true) && (match y.dst with | some d => !(usesO x).contains d | none => true)

theorem evalA_congr {σ σ' : List AV} {x : XArg} (h : ∀ t, t ∈ usesA x → σ.getD t .any = σ'.getD t .any) : evalA σ x = evalA σ' x := by
  cases x with
  | t n => exact h n (by simp [usesA])
  | c x => rfl
theorem asBound_congr {σ σ' : List AV} {x : Option XArg} (h : ∀ t, t ∈ x.toList.flatMap usesA → σ.getD t .any = σ'.getD t .any) (d : Nat) : asBound σ x d = asBound σ' x d := by
  cases x with
  | none => rfl
  | some x => simp only [asBound, evalA_congr (x := x) (σ := σ) (σ' := σ') (fun t ht => h t (by simpa using ht))]
theorem map_congr {σ σ' : List AV} {xs : List XArg} (h : ∀ t, t ∈ xs.flatMap usesA → σ.getD t .any = σ'.getD t .any) : ∀ x, x ∈ xs → evalA σ x = evalA σ' x := fun x hx => evalA_congr fun t ht => h t (List.mem_flatMap.2 ⟨x, hx, ht⟩)
theorem fillA_congr {σ σ' : List AV} : ∀ (ps : List (Nat × Nat × XArg)) (cs : List AV), (∀ t, t ∈ (ps.flatMap fun p => usesA p.2.2) → σ.getD t .any = σ'.getD t .any) → fillA σ cs ps = fillA σ' cs ps
  | [], cs, _ => rfl
  | (off, s, x) :: ps, cs, h => by
    have h1 : evalA σ x = evalA σ' x := evalA_congr fun t ht => h t (by simp [ht])
    simp only [fillA, h1]
    split
    · exact fillA_congr ps _ fun t ht => h t (by simp only [List.flatMap_cons, List.mem_append]; exact .inr ht)
    · rfl
theorem argT_uses {x : Operand} {xa : XArg} (h : argT x = some xa) : usesA xa = usesOp x := by
  cases x with
  | global g =>
    simp only [argT] at h
    split at h
    · injection h with h; subst h; rfl
    · cases h
  | _ => simp only [argT, Option.some.injEq] at h; subst h; rfl
theorem step_congr {P : Program} {d : Nat} {σ σ' : List AV} {η : List (Nat × (Nat × Option Ob))} {o : XOp} (h : ∀ t, t ∈ usesX o → σ.getD t .any = σ'.getD t .any) : step P d ⟨σ, η⟩ o = step P d ⟨σ', η⟩ o := by
  cases o with
  | mv x | un _ x | load _ _ x | fadr _ _ _ x | fld _ _ _ x | box _ _ _ x | mki _ x | tas _ _ _ x | ext x _ | len x | lenS x | capS x | nilc x | isnil _ x =>
    have h1 : evalA σ x = evalA σ' x := evalA_congr h
    simp only [step, h1]
  | pick a b c =>
    have h1 : evalA σ a = evalA σ' a := evalA_congr fun t ht => h t (by simp [usesX, ht])
    have h2 : evalA σ b = evalA σ' b := evalA_congr fun t ht => h t (by simp [usesX, ht])
    have h3 : evalA σ c = evalA σ' c := evalA_congr fun t ht => h t (by simp [usesX, ht])
    simp only [step, h1, h2, h3]
  | bin _ x y | store _ x y | iadr _ x y | aadr _ _ _ x y | idx _ _ _ x y | app _ _ _ x y | mks _ _ _ _ _ x y | appz _ _ _ _ x y =>
    have h1 : evalA σ x = evalA σ' x := evalA_congr fun t ht => h t (by simp [usesX, ht])
    have h2 : evalA σ y = evalA σ' y := evalA_congr fun t ht => h t (by simp [usesX, ht])
    simp only [step, h1, h2]
  | raw o ty =>
    have h1 : ∀ x, x ∈ o.operands.toList → ((argT x).bind fun xa => toVal (evalA σ xa)) = ((argT x).bind fun xa => toVal (evalA σ' xa)) := fun x hx => by
      cases hxa : argT x with
      | none => rfl
      | some xa =>
        simp only [Option.bind_some]
        rw [evalA_congr fun t ht => h t (by rw [argT_uses hxa] at ht; exact List.mem_flatMap.2 ⟨x, hx, ht⟩)]
    have h2 : (o.operands.toList.all fun x => ((argT x).bind fun xa => toVal (evalA σ xa)).isSome) = (o.operands.toList.all fun x => ((argT x).bind fun xa => toVal (evalA σ' xa)).isSome) := by
      rw [Bool.eq_iff_iff]
      simp only [List.all_eq_true]
      exact ⟨fun q x hx => by rw [← h1 x hx]; exact q x hx, fun q x hx => by rw [h1 x hx]; exact q x hx⟩
    simp only [step]
    rw [h2]
    by_cases hsel : ∀ cs b, o ≠ .select cs b
    · rw [execOp_congr (ρ := fun x => (((argT x).bind fun xa => toVal (evalA σ xa))).getD (.bool false)) (ρ' := fun x => (((argT x).bind fun xa => toVal (evalA σ' xa))).getD (.bool false)) { dst := none, op := o, type := ty, pos := "", after := #[], guard := none } hsel (fun x hx => by
        show Option.getD _ _ = Option.getD _ _
        rw [h1 x (by simpa using hx)])]
    · cases o with
      | select cs b => simp [isSel]
      | _ => exact absurd (fun cs b e => by cases e) hsel
  | slc s x lo hi mx =>
    have h1 : evalA σ x = evalA σ' x := evalA_congr fun t ht => h t (by simp [usesX, ht])
    have h2 : ∀ d, asBound σ lo d = asBound σ' lo d := asBound_congr fun t ht => h t (by simp only [usesX, List.mem_append]; exact .inl (.inl (.inr ht)))
    have h3 : ∀ d, asBound σ hi d = asBound σ' hi d := asBound_congr fun t ht => h t (by simp only [usesX, List.mem_append]; exact .inl (.inr ht))
    have h4 : ∀ d, asBound σ mx d = asBound σ' mx d := asBound_congr fun t ht => h t (by simp only [usesX, List.mem_append]; exact .inr ht)
    simp only [step, h1, h2, h3, h4]
  | slcA n s agg x lo hi =>
    have h1 : evalA σ x = evalA σ' x := evalA_congr fun t ht => h t (by simp [usesX, ht])
    have h2 : ∀ d, asBound σ lo d = asBound σ' lo d := asBound_congr fun t ht => h t (by simp only [usesX, List.mem_append]; exact .inl (.inr ht))
    have h3 : ∀ d, asBound σ hi d = asBound σ' hi d := asBound_congr fun t ht => h t (by simp only [usesX, List.mem_append]; exact .inr ht)
    simp only [step, h1, h2, h3]
  | bld z ps => simp only [step]; rw [fillA_congr ps _ h]
  | bldS e s own xs =>
    have h1 := map_congr h
    have h2 : xs.map (evalA σ) = xs.map (evalA σ') := List.map_congr_left h1
    have h3 : (xs.all fun x => width (evalA σ x) == s && solid (evalA σ x)) = (xs.all fun x => width (evalA σ' x) == s && solid (evalA σ' x)) := by
      rw [Bool.eq_iff_iff]
      simp only [List.all_eq_true]
      exact ⟨fun q x hx => by rw [← h1 x hx]; exact q x hx, fun q x hx => by rw [h1 x hx]; exact q x hx⟩
    simp only [step, h2, h3]
  | call ow f xs | mkf f xs | mkb f xs | xt f xs =>
    have h2 : xs.map (evalA σ) = xs.map (evalA σ') := List.map_congr_left (map_congr h)
    simp only [step, h2]
  | callv x xs | inv x _ xs =>
    have h1 : evalA σ x = evalA σ' x := evalA_congr fun t ht => h t (List.mem_append_left _ ht)
    have h2 : xs.map (evalA σ) = xs.map (evalA σ') := List.map_congr_left (map_congr fun t ht => h t (List.mem_append_right _ ht))
    simp only [step, h1, h2]
  | lkp _ _ _ x y | del _ x y | cpy x y =>
    have h1 : evalA σ x = evalA σ' x := evalA_congr fun t ht => h t (by simp [usesX, ht])
    have h2 : evalA σ y = evalA σ' y := evalA_congr fun t ht => h t (by simp [usesX, ht])
    simp only [step, h1, h2]
  | mup _ x y z =>
    have h1 : evalA σ x = evalA σ' x := evalA_congr fun t ht => h t (by simp [usesX, ht])
    have h2 : evalA σ y = evalA σ' y := evalA_congr fun t ht => h t (by simp [usesX, ht])
    have h3 : evalA σ z = evalA σ' z := evalA_congr fun t ht => h t (by simp [usesX, ht])
    simp only [step, h1, h2, h3]
  | lenM x | rgs x | nxs x | b2s x =>
    have h1 : evalA σ x = evalA σ' x := evalA_congr h
    simp only [step, h1]
  | mkm => rfl
  | bad => rfl

theorem wantedA_congr {σ σ' : List AV} {g : Option (Nat × Bool)} (h : ∀ t, t ∈ (match g with | some (t, _) => [t] | none => []) → σ.getD t .any = σ'.getD t .any) : wantedA σ g = wantedA σ' g := by
  cases g with
  | none => rfl
  | some p => obtain ⟨t, b⟩ := p; simp only [wantedA, h t (by simp)]
theorem setA_get {σ : List AV} {dst : Option Nat} {x : AV} {t : Nat} (h : dst ≠ some t) : (setA σ dst x).getD t .any = σ.getD t .any := by
  cases dst with
  | none => rfl
  | some d =>
    have : d ≠ t := fun e => h (by rw [e])
    simp [setA, List.getD_eq_getElem?_getD, List.getElem?_set_ne this]
theorem setA_comm {σ : List AV} {d e : Option Nat} {x y : AV} (h : ∀ t, d = some t → e ≠ some t) : setA (setA σ d x) e y = setA (setA σ e y) d x := by
  cases d with
  | none => rfl
  | some d => cases e with
    | none => rfl
    | some e =>
      have : d ≠ e := fun q => h d rfl (by rw [q])
      exact List.set_comm _ _ this

variable {P : Program} {R : Rel} {kb : Nat}
/-- an operation over other slots and other rows, as long as those that it looks at are the same -/
structure Mv (P : Program) (R : Rel) (kb : Nat) (o : XOper) (σ : List AV) (η η1 : Heap) (x : AV) (lv : Lv) : Prop where
  a : ∀ σ' : List AV, (∀ t, t ∈ usesO o → σ.getD t .any = σ'.getD t .any) → Op1 P R kb o ⟨σ', η⟩ ⟨setA σ' o.dst x, η1⟩ lv
  n : lv = .none → η1 = η ∧ ∀ σ' : List AV, (∀ t, t ∈ usesO o → σ.getD t .any = σ'.getD t .any) → ∀ η', Op1 P R kb o ⟨σ', η'⟩ ⟨setA σ' o.dst x, η'⟩ .none
  r : lv = .read → η1 = η
  rk : ∀ k, lv = .rk k → η1 = η ∧ ∀ σ' : List AV, (∀ t, t ∈ usesO o → σ.getD t .any = σ'.getD t .any) → ∀ η', look η' k = look η k → Op1 P R kb o ⟨σ', η'⟩ ⟨setA σ' o.dst x, η'⟩ (.rk k)
  wk : ∀ k, lv = .wk k → ∃ q, η1 = putAt η k q ∧ ∀ σ' : List AV, (∀ t, t ∈ usesO o → σ.getD t .any = σ'.getD t .any) → ∀ η', look η' k = look η k → Op1 P R kb o ⟨σ', η'⟩ ⟨setA σ' o.dst x, putAt η' k q⟩ (.wk k)
  ww : ∀ k, lv = .ww k → ∃ q, η1 = putAt η k q
theorem op1_move {o : XOper} {σ σ1 : List AV} {η η1 : Heap} {lv : Lv} (h : Op1 P R kb o ⟨σ, η⟩ ⟨σ1, η1⟩ lv) : ∃ x, σ1 = setA σ o.dst x ∧ Mv P R kb o σ η η1 x lv := by
  have hg : ∀ σ' : List AV, (∀ t, t ∈ usesO o → σ.getD t .any = σ'.getD t .any) → wantedA σ o.guard = wantedA σ' o.guard := fun σ' hs => wantedA_congr fun t ht => hs t (List.mem_append_right _ ht)
  have hst : ∀ σ' : List AV, (∀ t, t ∈ usesO o → σ.getD t .any = σ'.getD t .any) → ∀ d η, step P d ⟨σ, η⟩ o.op = step P d ⟨σ', η⟩ o.op := fun σ' hs d η => step_congr fun t ht => hs t (List.mem_append_left _ ht)
  cases h with
  | skip hw => exact ⟨_, rfl, { a := fun σ' hs => .skip ⟨σ', η⟩ (by rw [← hg σ' hs]; exact hw), n := fun _ => ⟨rfl, fun σ' hs η' => .skip ⟨σ', η'⟩ (by rw [← hg σ' hs]; exact hw)⟩, r := fun _ => rfl, rk := fun k e => (by cases e), wk := fun k e => (by cases e), ww := fun k e => (by cases e) }⟩
  | free x hw hs2 => exact ⟨x, rfl, { a := fun σ' hs => .free ⟨σ', η⟩ x (by rw [← hg σ' hs]; exact hw) (by rw [← hst σ' hs]; exact hs2), n := fun _ => ⟨rfl, fun σ' hs η' => .free ⟨σ', η'⟩ x (by rw [← hg σ' hs]; exact hw) (by rw [← hst σ' hs]; exact hs2)⟩, r := fun _ => rfl, rk := fun k e => (by cases e), wk := fun k e => (by cases e), ww := fun k e => (by cases e) }⟩
  | val x hw hs2 => exact ⟨x, rfl, { a := fun σ' hs => .val ⟨σ', η⟩ x (by rw [← hg σ' hs]; exact hw) (by rw [← hst σ' hs]; exact hs2), n := fun e => (by cases e), r := fun _ => rfl, rk := fun k e => (by cases e), wk := fun k e => (by cases e), ww := fun k e => (by cases e) }⟩
  | valK x k hw hs2 => exact ⟨x, rfl, { a := fun σ' hs => .valK ⟨σ', η⟩ x k (by rw [← hg σ' hs]; exact hw) (by rw [← hst σ' hs]; exact hs2), n := fun e => (by cases e), r := fun _ => rfl, rk := fun k' e => (by injection e with e; subst e; exact ⟨rfl, fun σ' hs η' he => .valK ⟨σ', η'⟩ x k (by rw [← hg σ' hs]; exact hw) (by rw [← hst σ' hs, he]; exact hs2)⟩), wk := fun k e => (by cases e), ww := fun k e => (by cases e) }⟩
  | updK x k r hw hs2 => exact ⟨x, rfl, { a := fun σ' hs => .updK ⟨σ', η⟩ x k r (by rw [← hg σ' hs]; exact hw) (by rw [← hst σ' hs]; exact hs2), n := fun e => (by cases e), r := fun e => (by cases e), rk := fun k e => (by cases e), wk := fun k' e => (by injection e with e; subst e; exact ⟨r, rfl, fun σ' hs η' he => .updK ⟨σ', η'⟩ x k r (by rw [← hg σ' hs]; exact hw) (by rw [← hst σ' hs, he]; exact hs2)⟩), ww := fun k e => (by cases e) }⟩
  | upd x k r hw hs2 => exact ⟨x, rfl, { a := fun σ' hs => .upd ⟨σ', η⟩ x k r (by rw [← hg σ' hs]; exact hw) (by rw [← hst σ' hs]; exact hs2), n := fun e => (by cases e), r := fun e => (by cases e), rk := fun k e => (by cases e), wk := fun k e => (by cases e), ww := fun k' e => (by injection e with e; subst e; exact ⟨r, rfl⟩) }⟩
  | call f args r hw hs2 hn hr hn2 => exact ⟨r, rfl, { a := fun σ' hs => .call ⟨σ', η⟩ f args r (by rw [← hg σ' hs]; exact hw) (by rw [← hst σ' hs]; exact hs2) hn hr hn2, n := fun _ => ⟨rfl, fun σ' hs η' => .call ⟨σ', η'⟩ f args r (by rw [← hg σ' hs]; exact hw) (by rw [← hst σ' hs]; exact hs2) hn hr hn2⟩, r := fun _ => rfl, rk := fun k e => (by cases e), wk := fun k e => (by cases e), ww := fun k e => (by cases e) }⟩
  | look f fuel args args' r hw hs2 ha hr hsc => exact ⟨r, rfl, { a := fun σ' hs => .look ⟨σ', η⟩ f fuel args args' r (by rw [← hg σ' hs]; exact hw) (by rw [← hst σ' hs]; exact hs2) ha hr hsc, n := fun e => (by cases e), r := fun _ => rfl, rk := fun k e => (by cases e), wk := fun k e => (by cases e), ww := fun k e => (by cases e) }⟩
  | fresh f fuel args args' r hw hs2 ha hr hn2 => exact ⟨r, rfl, { a := fun σ' hs => .fresh ⟨σ', η⟩ f fuel args args' r (by rw [← hg σ' hs]; exact hw) (by rw [← hst σ' hs]; exact hs2) ha hr hn2, n := fun e => (by cases e), r := fun _ => rfl, rk := fun k e => (by cases e), wk := fun k e => (by cases e), ww := fun k e => (by cases e) }⟩
  | callR kb' f args r η' hw hs2 hr => exact ⟨r, rfl, { a := fun σ' hs => .callR ⟨σ', η⟩ kb' f args r _ (by rw [← hg σ' hs]; exact hw) (by rw [← hst σ' hs]; exact hs2) hr, n := fun e => (by cases e), r := fun e => (by cases e), rk := fun k e => (by cases e), wk := fun k e => (by cases e), ww := fun k e => (by cases e) }⟩
  | callU f args r k q hw hs2 hall => exact ⟨r, rfl, { a := fun σ' hs => .callU ⟨σ', η⟩ f args r k q (by rw [← hg σ' hs]; exact hw) (by rw [← hst σ' hs]; exact hs2) hall, n := fun e => (by cases e), r := fun e => (by cases e), rk := fun k e => (by cases e), wk := fun k' e => (by injection e with e; subst e; exact ⟨q, rfl, fun σ' hs η' he => .callU ⟨σ', η'⟩ f args r k q (by rw [← hg σ' hs]; exact hw) (by rw [← hst σ' hs]; exact hs2) (fun η2 h2 => hall η2 (h2.trans he))⟩), ww := fun k e => (by cases e) }⟩

/-- two operations may be done in either order, as far as owned rows go -/
def lvOK : Lv → Lv → Bool
  | .none, _ => true
  | _, .none => true
  | .read, .read => true
  | .read, .rk _ => true
  | .rk _, .read => true
  | .rk _, .rk _ => true
  | .rk k, .wk j => !Nat.beq k j
  | .rk k, .ww j => !Nat.beq k j
  | .wk k, .rk j => !Nat.beq k j
  | .ww k, .rk j => !Nat.beq k j
  | .wk k, .wk j => !Nat.beq k j
  | _, _ => false
/-- the first one looks at no more than the second one -/
def lvSub : Lv → Lv → Bool
  | .none, _ => true
  | _, .any => true
  | .read, .read => true
  | .rk _, .read => true
  | .rk k, .rk j => Nat.beq k j
  | .wk k, .wk j => Nat.beq k j
  | .wk k, .ww j => Nat.beq k j
  | .ww k, .ww j => Nat.beq k j
  | _, _ => false
theorem lvSub_refl (a : Lv) : lvSub a a = true := by cases a <;> first | rfl | exact Nat.beq_refl _
theorem lvOK_left {a b a' : Lv} (h : lvOK a b = true) (ha : lvSub a' a = true) : lvOK a' b = true := by
  cases a' <;> cases a <;> first | (cases ha; done) | exact h | skip
  all_goals (cases b <;> first | rfl | (cases h; done) | skip)
  all_goals (simp only [lvSub, Nat.beq_eq] at ha; first | (subst ha; exact h) | skip)
theorem nbeq_comm (a b : Nat) : Nat.beq a b = Nat.beq b a := Bool.eq_iff_iff.2 (by rw [Nat.beq_eq, Nat.beq_eq]; exact eq_comm)
theorem nbeq_ne {k j : Nat} (h : (!Nat.beq k j) = true) : k ≠ j := fun e => by subst e; rw [Nat.beq_refl] at h; cases h
theorem lvOK_comm (a b : Lv) : lvOK a b = lvOK b a := by
  cases a <;> cases b <;> first | rfl | (simp only [lvOK]; rw [nbeq_comm])
theorem lvOK_sub {a b a' b' : Lv} (h : lvOK a b = true) (ha : lvSub a' a = true) (hb : lvSub b' b = true) : lvOK a' b' = true := by
  have h1 := lvOK_left h ha
  rw [lvOK_comm] at h1 ⊢
  exact lvOK_left h1 hb
theorem look_put_ne {η : Heap} {k j : Nat} {q : Nat × Option Ob} (h : j ≠ k) : look (putAt η j q) k = look η k := by rw [look_putAt, if_neg h]
theorem op1_swap {oi oj : XOper} {c c1 c2 : Cfg} {li lj : Lv} (hap : apartX oi oj = true) (hlv : lvOK li lj = true) (h1 : Op1 P R kb oi c c1 li) (h2 : Op1 P R kb oj c1 c2 lj) : ∃ c', Op1 P R kb oj c c' lj ∧ Op1 P R kb oi c' c2 li := by
  obtain ⟨σ, η⟩ := c
  obtain ⟨σ1, η1⟩ := c1
  obtain ⟨σ2, η2⟩ := c2
  obtain ⟨xi, rfl, hi⟩ := op1_move h1
  obtain ⟨xj, rfl, hj⟩ := op1_move h2
  simp only [apartX, Bool.and_eq_true] at hap
  obtain ⟨ha, hb⟩ := hap
  have hd : ∀ t, oi.dst = some t → t ∉ usesO oj ∧ oj.dst ≠ some t := fun t ht => by
    rw [ht] at ha; simpa using ha
  have he : ∀ t, oj.dst = some t → t ∉ usesO oi := fun t ht => by rw [ht] at hb; simpa using hb
  have g1 : ∀ t, t ∈ usesO oj → (setA σ oi.dst xi).getD t .any = σ.getD t .any := fun t ht => setA_get fun e => (hd t e).1 ht
  have g2 : ∀ t, t ∈ usesO oi → σ.getD t .any = (setA σ oj.dst xj).getD t .any := fun t ht => (setA_get fun e => he t e ht).symm
  have hcomm : setA (setA σ oj.dst xj) oi.dst xi = setA (setA σ oi.dst xi) oj.dst xj := (setA_comm fun t ht => (hd t ht).2).symm
  -- the first one reads at most: the second one comes first over the same rows
  have reads : η1 = η → (∃ η', Op1 P R kb oi ⟨setA σ oj.dst xj, η2⟩ ⟨setA (setA σ oj.dst xj) oi.dst xi, η'⟩ li ∧ η' = η2) → ∃ c', Op1 P R kb oj ⟨σ, η⟩ c' lj ∧ Op1 P R kb oi c' ⟨setA (setA σ oi.dst xi) oj.dst xj, η2⟩ li := fun e1 ⟨η', h3, e2⟩ => by
    subst e1; subst e2
    refine ⟨_, hj.a σ g1, ?_⟩
    rw [← hcomm]; exact h3
  have noneJ : lj = .none → ∃ c', Op1 P R kb oj ⟨σ, η⟩ c' lj ∧ Op1 P R kb oi c' ⟨setA (setA σ oi.dst xi) oj.dst xj, η2⟩ li := fun e => by
    obtain ⟨e2, q⟩ := hj.n e
    subst e2; subst e
    refine ⟨_, q σ g1 η, ?_⟩
    rw [← hcomm]; exact hi.a _ g2
  have bothR : η1 = η → η2 = η1 → ∃ c', Op1 P R kb oj ⟨σ, η⟩ c' lj ∧ Op1 P R kb oi c' ⟨setA (setA σ oi.dst xi) oj.dst xj, η2⟩ li := fun e1 e2 => by
    subst e2
    exact reads e1 ⟨_, by have := hi.a _ g2; rw [← e1] at this; exact this, rfl⟩
  -- the first one writes one row, the second one reads another one
  have writeRead : ∀ k q j, η1 = putAt η k q → k ≠ j → lj = .rk j → ∃ c', Op1 P R kb oj ⟨σ, η⟩ c' lj ∧ Op1 P R kb oi c' ⟨setA (setA σ oi.dst xi) oj.dst xj, η2⟩ li := fun k q j e1 hkj e => by
    obtain ⟨e2, q2⟩ := hj.rk j e
    subst e2; subst e
    refine ⟨_, q2 σ g1 η (by rw [e1, look_put_ne hkj]), ?_⟩
    rw [← hcomm]; exact hi.a _ g2
  cases li with
  | none =>
    obtain ⟨e1, q⟩ := hi.n rfl
    exact reads e1 ⟨_, q _ g2 η2, rfl⟩
  | read =>
    cases lj <;> simp only [lvOK] at hlv <;> first | (cases hlv; done) | skip
    · exact noneJ rfl
    · exact bothR (hi.r rfl) (hj.r rfl)
    · exact bothR (hi.r rfl) (hj.rk _ rfl).1
  | any =>
    cases lj <;> simp only [lvOK] at hlv <;> first | (cases hlv; done) | skip
    exact noneJ rfl
  | rk k =>
    obtain ⟨e1, q⟩ := hi.rk k rfl
    cases lj <;> simp only [lvOK] at hlv <;> first | (cases hlv; done) | skip
    · exact noneJ rfl
    · exact bothR e1 (hj.r rfl)
    · exact bothR e1 (hj.rk _ rfl).1
    · rename_i j
      have hkj : k ≠ j := nbeq_ne hlv
      obtain ⟨r, e2, _⟩ := hj.wk j rfl
      exact reads e1 ⟨_, q _ g2 η2 (by rw [e2, e1, look_put_ne (Ne.symm hkj)]), rfl⟩
    · rename_i j
      have hkj : k ≠ j := nbeq_ne hlv
      obtain ⟨r, e2⟩ := hj.ww j rfl
      exact reads e1 ⟨_, q _ g2 η2 (by rw [e2, e1, look_put_ne (Ne.symm hkj)]), rfl⟩
  | wk k =>
    obtain ⟨r, e1, q⟩ := hi.wk k rfl
    cases lj <;> simp only [lvOK] at hlv <;> first | (cases hlv; done) | skip
    · exact noneJ rfl
    · rename_i j
      exact writeRead k r j e1 (nbeq_ne hlv) rfl
    · rename_i j
      have hkj : k ≠ j := nbeq_ne hlv
      obtain ⟨r2, e2, q2⟩ := hj.wk j rfl
      refine ⟨_, q2 σ g1 η (by rw [e1, look_put_ne hkj]), ?_⟩
      have := q _ g2 (putAt η j r2) (look_put_ne (Ne.symm hkj))
      rw [← hcomm, e2, e1, putAt_comm _ _ _ hkj]
      exact this
  | ww k =>
    obtain ⟨r, e1⟩ := hi.ww k rfl
    cases lj <;> simp only [lvOK] at hlv <;> first | (cases hlv; done) | skip
    · exact noneJ rfl
    · rename_i j
      exact writeRead k r j e1 (nbeq_ne hlv) rfl
end Go.Proofs.Eng
