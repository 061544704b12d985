/-
  Stacks of code that is still to be carried out: what is left of a run, and its rules.
-/
import Derived.Test.YtdmffkknghianaaEngR
set_option linter.unusedSimpArgs false
set_option linter.unusedVariables false
namespace Go.Proofs.Eng
open Go

/-- what is still to be done: an operation (with what it may look at; none: anything, and rows may be given up before it), code, the end of a block, a loop to go on with -/
inductive Fr where
  | op (lim : Option Lv) (o : XOper)
  | code (x : XCode)
  | blk (id : Nat)
  | lp (b : XCode)
  | stop
inductive Gives : Cfg → Cfg → Prop
  | refl (c : Cfg) : Gives c c
  | cons (c c1 c2 : Cfg) (t : Nat) (h1 : giveT c t = some c1) (h2 : Gives c1 c2) : Gives c c2

def limOK : Option Lv → Lv → Bool
  | none, _ => true
  | some f, lv => lvSub lv f
section
variable (P : Program) (R : Rel) (kb : Nat)
/-- the stack is carried out: from this exit and here to that exit and there -/
def Aft : List Fr → Out → Cfg → Out → Cfg → Prop
  | [], o, c, o', c' => (o' = o ∧ c' = c) ∧ isGoto o = false
  | .op l x :: k, .normal, c, o', c' => ∃ c0 c1 lv, (c0 = c ∨ (l = none ∧ Gives c c0)) ∧ Op1 P R kb x c0 c1 lv ∧ limOK l lv = true ∧ Aft k .normal c1 o' c'
  | .op _ _ :: k, .exit i, c, o', c' => Aft k (.exit i) c o' c'
  | .op _ _ :: k, .ret, c, o', c' => Aft k .ret c o' c'
  | .op _ _ :: k, .goto i, c, o', c' => Aft k (.goto i) c o' c'
  | .code x :: k, .normal, c, o', c' => ∃ o1 c1, Ex P R kb x c o1 c1 ∧ Aft k o1 c1 o' c'
  | .code _ :: k, .exit i, c, o', c' => Aft k (.exit i) c o' c'
  | .code _ :: k, .ret, c, o', c' => Aft k .ret c o' c'
  | .code _ :: k, .goto i, c, o', c' => Aft k (.goto i) c o' c'
  | .blk id :: k, o, c, o', c' => Aft k (if o = .exit id then .normal else o) c o' c'
  | .lp b :: k, .normal, c, o', c' => ∃ o1 c1, Ex P R kb (.loop b) c o1 c1 ∧ Aft k o1 c1 o' c'
  | .lp _ :: k, .exit i, c, o', c' => Aft k (.exit i) c o' c'
  | .lp _ :: k, .ret, c, o', c' => Aft k .ret c o' c'
  | .lp _ :: k, .goto i, c, o', c' => Aft k (.goto i) c o' c'
  | .stop :: k, o, c, o', c' => Aft k o c o' c'
/-- the stack comes to an end of which Q holds -/
def W (k : List Fr) (c : Cfg) (Q : Out → Cfg → Prop) : Prop := ∃ o' c', Aft P R kb k .normal c o' c' ∧ Q o' c'
/-- the same from any exit -/
def WX (k : List Fr) (o : Out) (c : Cfg) (Q : Out → Cfg → Prop) : Prop := ∃ o' c', Aft P R kb k o c o' c' ∧ Q o' c'
end

def frG : List XOper → List Fr → List Fr
  | [], k => k
  | o :: l, k => .op none o :: frG l k
def frF : List XOper → List Lv → List Fr → List Fr
  | o :: l, n :: m, k => .op (some n) o :: frF l m k
  | _, _, k => k
/-- what an exit leaves of the stack: where it goes on -/
def drop : Out → List Fr → Out × List Fr
  | .normal, k => (.normal, k)
  | .exit i, .blk id :: k => match Nat.beq i id with | true => (.normal, k) | false => drop (.exit i) k
  | .ret, .blk _ :: k => drop .ret k
  | .goto i, .blk _ :: k => drop (.goto i) k
  | o, .op _ _ :: k => drop o k
  | o, .code _ :: k => drop o k
  | o, .lp _ :: k => drop o k
  | o, k => (o, k)

section
variable {P : Program} {R : Rel} {kb : Nat} {k : List Fr} {c c1 : Cfg} {Q : Out → Cfg → Prop}

theorem aft_opsG : ∀ {xs : List XOper} {c : Cfg} {o' : Out} {c' : Cfg}, Aft P R kb (frG xs k) .normal c o' c' → ∃ c1, OpsG P R kb xs c c1 ∧ Aft P R kb k .normal c1 o' c'
  | [], c, o', c', h => ⟨c, .nil c, h⟩
  | o :: l, c, o', c', h => by
    obtain ⟨c0, c1, lv, h0, h1, _, h2⟩ := h
    obtain ⟨c2, h3, h4⟩ := aft_opsG (xs := l) h2
    refine ⟨c2, ?_, h4⟩
    have h5 : OpsG P R kb (o :: l) c0 c2 := .cons o l c0 c1 c2 lv h1 h3
    rcases h0 with rfl | ⟨_, hg⟩
    · exact h5
    · clear h2 h1
      induction hg with
      | refl c => exact h5
      | cons c c1 c2 t hg _ ih => exact .give _ _ _ _ t hg (ih h5)
theorem aft_opsF : ∀ {xs : List XOper} {F : List Lv} {c : Cfg} {o' : Out} {c' : Cfg}, xs.length = F.length → Aft P R kb (frF xs F k) .normal c o' c' → ∃ c1 lvs, OpsRun P R kb xs c c1 lvs ∧ lvLe lvs F = true ∧ Aft P R kb k .normal c1 o' c'
  | [], [], c, o', c', _, h => ⟨c, [], .nil c, rfl, h⟩
  | o :: l, n :: m, c, o', c', hl, h => by
    obtain ⟨c0, c1, lv, h0, h1, hlv, h2⟩ := h
    obtain ⟨c2, lvs, h3, h5, h4⟩ := aft_opsF (xs := l) (F := m) (by simpa using hl) h2
    rcases h0 with rfl | ⟨e, _⟩
    · exact ⟨c2, lv :: lvs, .cons o l c0 c1 c2 lv lvs h1 h3, by simp only [lvLe, Bool.and_eq_true]; exact ⟨hlv, h5⟩, h4⟩
    · cases e
  | [], _ :: _, _, _, _, hl, _ => by simp at hl
  | _ :: _, [], _, _, _, hl, _ => by simp at hl

theorem WX_normal : WX P R kb k .normal c Q ↔ W P R kb k c Q := .rfl
theorem aft_drop : ∀ {k : List Fr} {o : Out} {c : Cfg} {o' : Out} {c' : Cfg}, Aft P R kb (drop o k).2 (drop o k).1 c o' c' → Aft P R kb k o c o' c'
  | k, .normal, c, o', c', h => by
    have e : drop .normal k = (.normal, k) := by cases k <;> rfl
    rw [e] at h; exact h
  | [], .exit i, c, o', c', h => h
  | [], .ret, c, o', c', h => h
  | [], .goto i, c, o', c', h => h
  | .op l x :: k, .exit i, c, o', c', h => aft_drop (k := k) h
  | .op l x :: k, .ret, c, o', c', h => aft_drop (k := k) h
  | .op l x :: k, .goto i, c, o', c', h => aft_drop (k := k) h
  | .code x :: k, .exit i, c, o', c', h => aft_drop (k := k) h
  | .code x :: k, .ret, c, o', c', h => aft_drop (k := k) h
  | .code x :: k, .goto i, c, o', c', h => aft_drop (k := k) h
  | .lp x :: k, .exit i, c, o', c', h => aft_drop (k := k) h
  | .lp x :: k, .ret, c, o', c', h => aft_drop (k := k) h
  | .lp x :: k, .goto i, c, o', c', h => aft_drop (k := k) h
  | .stop :: k, .exit i, c, o', c', h => h
  | .stop :: k, .ret, c, o', c', h => h
  | .stop :: k, .goto i, c, o', c', h => h
  | .blk id :: k, .exit i, c, o', c', h => by
    simp only [drop] at h
    simp only [Aft]
    split at h
    · rename_i e
      have := Nat.eq_of_beq_eq_true e
      subst this
      rw [if_pos rfl]; exact h
    · rename_i e
      rw [if_neg (fun q => by injection q with q; subst q; simp at e)]
      exact aft_drop (k := k) h
  | .blk id :: k, .ret, c, o', c', h => by
    simp only [Aft]
    rw [if_neg (by simp)]
    exact aft_drop (k := k) (by simpa only [drop] using h)
  | .blk id :: k, .goto i, c, o', c', h => by
    simp only [Aft]
    rw [if_neg (by simp)]
    exact aft_drop (k := k) (by simpa only [drop] using h)
/-- a stack catches no jump -/
theorem aft_nogoto : ∀ {k : List Fr} {i : Nat} {c : Cfg} {o' : Out} {c' : Cfg}, Aft P R kb k (.goto i) c o' c' → False
  | [], _, _, _, _, h => by have := h.2; cases this
  | .op _ _ :: k, _, _, _, _, h => aft_nogoto (k := k) h
  | .code _ :: k, _, _, _, _, h => aft_nogoto (k := k) h
  | .lp _ :: k, _, _, _, _, h => aft_nogoto (k := k) h
  | .stop :: k, _, _, _, _, h => aft_nogoto (k := k) h
  | .blk id :: k, i, _, _, _, h => by
    simp only [Aft] at h
    rw [if_neg (by simp)] at h
    exact aft_nogoto (k := k) h

/-! ### the rules -/
theorem W_done {Q : Out → Cfg → Prop} (h : Q .normal c) : W P R kb [] c Q := ⟨_, _, ⟨⟨rfl, rfl⟩, rfl⟩, h⟩
theorem W_frG {xs : List XOper} (h : W P R kb (frG xs k) c Q) : W P R kb (.code (.region xs none) :: k) c Q := by
  obtain ⟨o', c', h1, h2⟩ := h
  obtain ⟨c1, h3, h4⟩ := aft_opsG h1
  exact ⟨o', c', ⟨.normal, c1, .regionG xs c c1 h3, h4⟩, h2⟩
theorem quietF_len : ∀ {xs : List XOper} {F : List Lv}, quietF xs F = true → xs.length = F.length
  | [], [], _ => rfl
  | x :: l, f :: m, h => by
    unfold quietF at h
    have h2 : quietF l m = true := by
      split at h
      · exact h
      · split at h
        · exact h
        · cases h
    simp [quietF_len h2]
  | [], _ :: _, h => by cases h
  | _ :: _, [], h => by cases h
theorem W_frF {xs : List XOper} {prs : List (Nat × List Nat)} (F : List Lv) (hf : regF xs prs F = true) (h : W P R kb (frF xs F k) c Q) : W P R kb (.code (.region xs (some prs)) :: k) c Q := by
  obtain ⟨o', c', h1, h2⟩ := h
  have hf' := hf
  simp only [regF, Bool.and_eq_true] at hf'
  obtain ⟨c1, lvs, h3, h5, h4⟩ := aft_opsF (quietF_len hf'.1) h1
  exact ⟨o', c', ⟨.normal, c1, .region xs (some prs) c c1 lvs F h3 h5 hf, h4⟩, h2⟩
theorem W_seq {a b : XCode} (h : W P R kb (.code a :: .code b :: k) c Q) : W P R kb (.code (.seq a b) :: k) c Q := by
  obtain ⟨o', c', ⟨o1, c1, h1, h3⟩, h2⟩ := h
  cases o1 with
  | normal =>
    obtain ⟨o2, c2, h4, h5⟩ := h3
    exact ⟨o', c', ⟨o2, c2, .seqN a b c c1 c2 o2 h1 h4, h5⟩, h2⟩
  | exit i => exact ⟨o', c', ⟨.exit i, c1, .seqX a b c c1 _ h1 (by simp), h3⟩, h2⟩
  | ret => exact ⟨o', c', ⟨.ret, c1, .seqX a b c c1 _ h1 (by simp), h3⟩, h2⟩
  | goto i => exact (aft_nogoto h3).elim
theorem W_block {id : Nat} {b : XCode} (h : W P R kb (.code b :: .blk id :: k) c Q) : W P R kb (.code (.block id b) :: k) c Q := by
  obtain ⟨o', c', ⟨o1, c1, h1, h3⟩, h2⟩ := h
  exact ⟨o', c', ⟨_, c1, .block id b c c1 o1 h1, h3⟩, h2⟩
theorem W_blk {id : Nat} (h : W P R kb k c Q) : W P R kb (.blk id :: k) c Q := by
  obtain ⟨o', c', h1, h2⟩ := h
  exact ⟨o', c', h1, h2⟩
theorem W_scope {b : XCode} (h : W P R kb (.code b :: k) c Q) : W P R kb (.code (.scope b) :: k) c Q := by
  obtain ⟨o', c', ⟨o1, c1, h1, h3⟩, h2⟩ := h
  refine ⟨o', c', ⟨o1, c1, .scope b c c1 o1 (.scopeN b b c c1 o1 h1 ?_), h3⟩, h2⟩
  cases o1 with
  | goto i => exact (aft_nogoto h3).elim
  | _ => rfl
theorem W_label {l : Nat} (h : W P R kb k c Q) : W P R kb (.code (.label l) :: k) c Q := by
  obtain ⟨o', c', h1, h2⟩ := h
  exact ⟨o', c', ⟨.normal, c, .label l c, h1⟩, h2⟩
theorem W_skip (h : W P R kb k c Q) : W P R kb (.code .skip :: k) c Q := by
  obtain ⟨o', c', h1, h2⟩ := h
  exact ⟨o', c', ⟨.normal, c, .skip c, h1⟩, h2⟩
theorem W_exit {id : Nat} (h : WX P R kb (drop (.exit id) k).2 (drop (.exit id) k).1 c Q) : W P R kb (.code (.exit id) :: k) c Q := by
  obtain ⟨o', c', h1, h2⟩ := h
  exact ⟨o', c', ⟨.exit id, c, .exit id c, aft_drop h1⟩, h2⟩
theorem W_ret (h : WX P R kb (drop .ret k).2 (drop .ret k).1 c Q) : W P R kb (.code .ret :: k) c Q := by
  obtain ⟨o', c', h1, h2⟩ := h
  exact ⟨o', c', ⟨.ret, c, .ret c, aft_drop h1⟩, h2⟩
theorem WX_nil {o : Out} (h : Q o c) (hg : isGoto o = false := by rfl) : WX P R kb [] o c Q := ⟨o, c, ⟨⟨rfl, rfl⟩, hg⟩, h⟩
theorem W_condT {x : XArg} {t e : XCode} (hx : evalA c.σ x = .v (.bool true)) (h : W P R kb (.code t :: k) c Q) : W P R kb (.code (.cond x t e) :: k) c Q := by
  obtain ⟨o', c', ⟨o1, c1, h1, h3⟩, h2⟩ := h
  exact ⟨o', c', ⟨o1, c1, .condT x t e c c1 o1 hx h1, h3⟩, h2⟩
theorem W_condF {x : XArg} {t e : XCode} (hx : evalA c.σ x = .v (.bool false)) (h : W P R kb (.code e :: k) c Q) : W P R kb (.code (.cond x t e) :: k) c Q := by
  obtain ⟨o', c', ⟨o1, c1, h1, h3⟩, h2⟩ := h
  exact ⟨o', c', ⟨o1, c1, .condF x t e c c1 o1 hx h1, h3⟩, h2⟩
theorem W_cond {x : XArg} {t e : XCode} (b : Bool) (hx : evalA c.σ x = .v (.bool b)) (hT : b = true → W P R kb (.code t :: k) c Q) (hF : b = false → W P R kb (.code e :: k) c Q) : W P R kb (.code (.cond x t e) :: k) c Q := by
  cases b with
  | true => exact W_condT hx (hT rfl)
  | false => exact W_condF hx (hF rfl)
theorem W_loop {b : XCode} (h : W P R kb (.code b :: .lp b :: k) c Q) : W P R kb (.code (.loop b) :: k) c Q := by
  obtain ⟨o', c', ⟨o1, c1, h1, h3⟩, h2⟩ := h
  cases o1 with
  | normal =>
    obtain ⟨o2, c2, h4, h5⟩ := h3
    exact ⟨o', c', ⟨o2, c2, .loopN b c c1 c2 o2 h1 h4, h5⟩, h2⟩
  | exit i => exact ⟨o', c', ⟨.exit i, c1, .loopX b c c1 _ h1 (by simp), h3⟩, h2⟩
  | ret => exact ⟨o', c', ⟨.ret, c1, .loopX b c c1 _ h1 (by simp), h3⟩, h2⟩
  | goto i => exact (aft_nogoto h3).elim
theorem W_lp {b : XCode} (h : W P R kb (.code (.loop b) :: k) c Q) : W P R kb (.lp b :: k) c Q := by
  obtain ⟨o', c', h1, h2⟩ := h
  exact ⟨o', c', h1, h2⟩
theorem W_op {l : Option Lv} {o : XOper} {lv : Lv} (h1 : Op1 P R kb o c c1 lv) (hlv : limOK l lv = true) (h : W P R kb k c1 Q) : W P R kb (.op l o :: k) c Q := by
  obtain ⟨o', c', h3, h2⟩ := h
  exact ⟨o', c', ⟨c, c1, lv, .inl rfl, h1, hlv, h3⟩, h2⟩
theorem W_give {o : XOper} {t : Nat} (hg : giveT c t = some c1) (h : W P R kb (.op none o :: k) c1 Q) : W P R kb (.op none o :: k) c Q := by
  obtain ⟨o', c', ⟨c0, c2, lv, h0, h1, h4, h3⟩, h2⟩ := h
  refine ⟨o', c', ⟨c0, c2, lv, .inr ⟨rfl, ?_⟩, h1, h4, h3⟩, h2⟩
  rcases h0 with rfl | ⟨_, h0⟩
  · exact .cons _ _ _ t hg (.refl _)
  · exact .cons _ _ _ t hg h0
theorem limOK_none (l : Option Lv) : limOK l .none = true := by
  cases l with
  | none => rfl
  | some f => cases f <;> rfl
theorem W_call {l : Option Lv} {d f : Nat} {own : Bool} {as : List XArg} {args : List AV} {r : AV} (ha : as.map (evalA c.σ) = args) (hn : noRefs args = true) (hr : R.p f args r) (hn2 : noRef r = true) (h : W P R kb k ⟨c.σ.set d r, c.η⟩ Q) : W P R kb (.op l ⟨some d, .call own f as, none⟩ :: k) c Q := by
  subst ha
  exact W_op (.call c (d := 0) f _ r rfl rfl hn hr hn2) (limOK_none l) h
theorem W_look {l : Option Lv} {d f fuel : Nat} {own : Bool} {as : List XArg} {args args' : List AV} {r : AV} (ha : as.map (evalA c.σ) = args) (hm : args.mapM (reify c.η fuel) = some args') (hr : R.p f args' r) (hs : scal r = true) (hl : limOK l .read = true) (h : W P R kb k ⟨c.σ.set d r, c.η⟩ Q) : W P R kb (.op l ⟨some d, .call own f as, none⟩ :: k) c Q := by
  subst ha
  exact W_op (.look c (d := 0) f fuel _ args' r rfl rfl hm hr hs) hl h
theorem W_fresh {l : Option Lv} {d f fuel : Nat} {own : Bool} {as : List XArg} {args args' : List AV} {r : AV} (ha : as.map (evalA c.σ) = args) (hm : args.mapM (reify c.η fuel) = some args') (hr : R.n f args' r) (hn : noRef r = true) (hl : limOK l .read = true) (h : W P R kb k ⟨c.σ.set d r, c.η⟩ Q) : W P R kb (.op l ⟨some d, .call own f as, none⟩ :: k) c Q := by
  subst ha
  exact W_op (.fresh c (d := 0) f fuel _ args' r rfl rfl hm hr hn) hl h
theorem W_callR {l : Option Lv} {f kb' : Nat} {d : Option Nat} {own : Bool} {as : List XArg} {args : List AV} {r : AV} {η' : Heap} (ha : as.map (evalA c.σ) = args) (hr : R.q kb' f args c.η r η') (hl : limOK l .any = true) (h : W P R kb k ⟨setA c.σ d r, η'⟩ Q) : W P R kb (.op l ⟨d, .call own f as, none⟩ :: k) c Q := by
  subst ha
  exact W_op (.callR c (d := 0) kb' f _ r η' rfl rfl hr) hl h
/-- a call that makes one row new, whatever the other rows are: it may be done in any order with what looks at other rows -/
theorem W_callU {l : Option Lv} {f k0 : Nat} {d : Option Nat} {own : Bool} {as : List XArg} {args : List AV} {r : AV} {q : Nat × Option Ob} (ha : as.map (evalA c.σ) = args) (hr : ∀ η, look η k0 = look c.η k0 → PureR P f args η r (putAt η k0 q)) (hl : limOK l (.wk k0) = true) (h : W P R kb k ⟨setA c.σ d r, putAt c.η k0 q⟩ Q) : W P R kb (.op l ⟨d, .call own f as, none⟩ :: k) c Q := by
  subst ha
  exact W_op (.callU c (d := 0) f _ r k0 q rfl rfl hr) hl h
theorem Op1.guard {d : Option Nat} {op : XOp} {g : Option (Nat × Bool)} {lv : Lv} (h : Op1 P R kb ⟨d, op, none⟩ c c1 lv) (hg : wantedA c.σ g = some true) : Op1 P R kb ⟨d, op, g⟩ c c1 lv := by
  cases h with
  | skip hw => cases hw
  | free x hw hs => exact .free c x hg hs
  | val x hw hs => exact .val c x hg hs
  | upd x k r hw hs => exact .upd c x k r hg hs
  | valK x k hw hs => exact .valK c x k hg hs
  | updK x k r hw hs => exact .updK c x k r hg hs
  | call f args r hw hs hn hr hn2 => exact .call c f args r hg hs hn hr hn2
  | look f fuel args args' r hw hs ha hr hsc => exact .look c f fuel args args' r hg hs ha hr hsc
  | fresh f fuel args args' r hw hs ha hr hn2 => exact .fresh c f fuel args args' r hg hs ha hr hn2
  | callR kb' f args r η' hw hs hr => exact .callR c kb' f args r η' hg hs hr
  | callU f args r k q hw hs hall => exact .callU c f args r k q hg hs hall
theorem W_guardT {l : Option Lv} {t : Nat} {d : Option Nat} {op : XOp} {want : Bool} (hx : wantedA c.σ (some (t, want)) = some true) (h : W P R kb (.op (some (l.getD .any)) ⟨d, op, none⟩ :: k) c Q) : W P R kb (.op l ⟨d, op, some (t, want)⟩ :: k) c Q := by
  obtain ⟨o', c', ⟨c0, c1, lv, h0, h1, h4, h3⟩, h2⟩ := h
  rcases h0 with rfl | ⟨e, _⟩
  · refine ⟨o', c', ⟨_, c1, lv, .inl rfl, h1.guard hx, ?_, h3⟩, h2⟩
    cases l with
    | none => rfl
    | some f => exact h4
  · cases e
theorem W_guardF {l : Option Lv} {t : Nat} {d : Option Nat} {op : XOp} {want : Bool} (hx : wantedA c.σ (some (t, want)) = some false) (h : W P R kb k ⟨setA c.σ d (.v undef), c.η⟩ Q) : W P R kb (.op l ⟨d, op, some (t, want)⟩ :: k) c Q :=
  W_op (.skip c hx) (limOK_none l) h
theorem W_weak (hl : Le c c1) {x : XCode} (h : W P R kb (.code x :: k) c1 Q) : W P R kb (.code x :: k) c Q := by
  obtain ⟨o', c', ⟨o1, c2, h1, h3⟩, h2⟩ := h
  exact ⟨o', c', ⟨o1, c2, .weak x c c1 c2 o1 hl h1, h3⟩, h2⟩
theorem W_giveC {x : XCode} {t : Nat} (hg : giveT c t = some c1) (h : W P R kb (.code x :: k) c1 Q) : W P R kb (.code x :: k) c Q := by
  obtain ⟨o', c', ⟨o1, c2, h1, h3⟩, h2⟩ := h
  exact ⟨o', c', ⟨o1, c2, .giv x c c1 c2 o1 t (giveA_of hg) h1, h3⟩, h2⟩
theorem W_giveP {x : XCode} {t : Nat} (h0 : giveT c t = none) (hg : giveP c t = some c1) (h : W P R kb (.code x :: k) c1 Q) : W P R kb (.code x :: k) c Q := by
  obtain ⟨o', c', ⟨o1, c2, h1, h3⟩, h2⟩ := h
  exact ⟨o', c', ⟨o1, c2, .giv x c c1 c2 o1 t (giveA_ofP h0 hg) h1, h3⟩, h2⟩

/-! ### many steps at once -/
def isCall : XOp → Bool
  | .call .. | .callv .. | .inv .. => true
  | _ => false
def noCs : Cs := ⟨fun _ _ => none, fun _ _ => none, fun _ _ _ _ => none, fun _ => false⟩
/-- what one operation does, if it is no call -/
def stp (P : Program) (kb : Nat) (l : Option Lv) (o : XOper) (c : Cfg) : Option Cfg :=
  match l with
  | none => match exec1 P noCs kb o c with
    | some (c1, _) => some c1
    | none => none
  | some f => match exec1K P noCs kb o c with
    | some (c1, lv) => match lvSub lv f with
      | true => some c1
      | false => none
    | none => none
/-- what operations whose order is open may look at, as a rule -/
def dfF : List XOper → List Lv
  | [] => []
  | o :: l => (match touch o.op with
    | true => match o.op with
      | .load .. | .call .. | .callv .. | .inv .. => .read
      | _ => .any
    | false => .none) :: dfF l
/-- the next state of a stack that needs no decision -/
def nxt (P : Program) (kb : Nat) : List Fr → Cfg → Option (List Fr × Cfg)
  | .op l ⟨d, op, none⟩ :: k, c => match isCall op with
    | true => none
    | false => match stp P kb l ⟨d, op, none⟩ c with
      | some c1 => some (k, c1)
      | none => none
  | .code .skip :: k, c => some (k, c)
  | .code (.label _) :: k, c => some (k, c)
  | .code (.region xs none) :: k, c => some (frG xs k, c)
  | .code (.region xs (some prs)) :: k, c => match regF xs prs (dfF xs) with
    | true => some (frF xs (dfF xs) k, c)
    | false => none
  | .code (.seq a b) :: k, c => some (.code a :: .code b :: k, c)
  | .code (.block id b) :: k, c => some (.code b :: .blk id :: k, c)
  | .code (.scope b) :: k, c => some (.code b :: k, c)
  | .code (.exit id) :: k, c => match drop (.exit id) k with
    | (.normal, k') => some (k', c)
    | _ => none
  | .blk id :: k, c => some (k, c)
  | .lp b :: k, c => some (.code (.loop b) :: k, c)
  | .op l ⟨d, op, some g⟩ :: k, c => match wantedA c.σ (some g) with
    | some true => some (.op (some (l.getD .any)) ⟨d, op, none⟩ :: k, c)
    | some false => some (k, ⟨setA c.σ d (.v undef), c.η⟩)
    | none => none
  | .code (.cond q a b) :: k, c => match evalA c.σ q with
    | .v (.bool true) => some (.code a :: k, c)
    | .v (.bool false) => some (.code b :: k, c)
    | _ => none
  | _, _ => none
/-- step by step, as long as there is a next state -/
def go (P : Program) (kb : Nat) : Nat → Option (List Fr × Cfg) → List Fr × Cfg → List Fr × Cfg
  | n + 1, some p, _ => go P kb n (nxt P kb p.1 p.2) p
  | _, _, d => d
theorem go_some {n : Nat} {k' : List Fr} {c' : Cfg} {d : List Fr × Cfg} : go P kb (n + 1) (some (k', c')) d = go P kb n (nxt P kb k' c') (k', c') := rfl
theorem go_none {n : Nat} {d : List Fr × Cfg} : go P kb n none d = d := by cases n <;> rfl
theorem go_zero {p : Option (List Fr × Cfg)} {d : List Fr × Cfg} : go P kb 0 p d = d := by cases p <;> rfl
section
variable {l : Option Lv} {d : Option Nat} {op : XOp} {xs : List XOper} {a b : XCode} {id : Nat}
theorem nxt_op : nxt P kb (.op l ⟨d, op, none⟩ :: k) c = match isCall op with
    | true => none
    | false => match stp P kb l ⟨d, op, none⟩ c with
      | some c1 => some (k, c1)
      | none => none := rfl
theorem nxt_guard {g : Nat × Bool} : nxt P kb (.op l ⟨d, op, some g⟩ :: k) c = match wantedA c.σ (some g) with
    | some true => some (.op (some (l.getD .any)) ⟨d, op, none⟩ :: k, c)
    | some false => some (k, ⟨setA c.σ d (.v undef), c.η⟩)
    | none => none := rfl
theorem nxt_skip : nxt P kb (.code .skip :: k) c = some (k, c) := rfl
theorem nxt_label {l : Nat} : nxt P kb (.code (.label l) :: k) c = some (k, c) := rfl
theorem nxt_region : nxt P kb (.code (.region xs none) :: k) c = some (frG xs k, c) := rfl
theorem nxt_drawn {prs : List (Nat × List Nat)} : nxt P kb (.code (.region xs (some prs)) :: k) c = match regF xs prs (dfF xs) with
    | true => some (frF xs (dfF xs) k, c)
    | false => none := rfl
theorem nxt_seq : nxt P kb (.code (.seq a b) :: k) c = some (.code a :: .code b :: k, c) := rfl
theorem nxt_block : nxt P kb (.code (.block id b) :: k) c = some (.code b :: .blk id :: k, c) := rfl
theorem nxt_scope : nxt P kb (.code (.scope b) :: k) c = some (.code b :: k, c) := rfl
theorem nxt_exit : nxt P kb (.code (.exit id) :: k) c = match drop (.exit id) k with
    | (.normal, k') => some (k', c)
    | _ => none := rfl
theorem nxt_blk : nxt P kb (.blk id :: k) c = some (k, c) := rfl
theorem nxt_lp : nxt P kb (.lp b :: k) c = some (.code (.loop b) :: k, c) := rfl
theorem nxt_cond {q : XArg} : nxt P kb (.code (.cond q a b) :: k) c = match evalA c.σ q with
    | .v (.bool true) => some (.code a :: k, c)
    | .v (.bool false) => some (.code b :: k, c)
    | _ => none := rfl
theorem nxt_loop : nxt P kb (.code (.loop b) :: k) c = none := rfl
theorem nxt_ret : nxt P kb (.code .ret :: k) c = none := rfl
theorem nxt_stop : nxt P kb (.stop :: k) c = none := rfl
theorem nxt_nil : nxt P kb [] c = none := rfl
end
theorem noCs_ok : CallOK noCs R := ⟨(fun f args r h => by cases h), (fun kb f args η r η' h => by cases h), (fun f args r h => by cases h)⟩
theorem stp_ok {l : Option Lv} {o : XOper} {c c1 : Cfg} (h : stp P kb l o c = some c1) : ∃ lv, Op1 P R kb o c c1 lv ∧ limOK l lv = true := by
  unfold stp at h
  split at h
  · split at h <;> try (cases h; done)
    rename_i lv hs
    injection h with h; subst h
    exact ⟨lv, exec1_ok noCs_ok hs, rfl⟩
  · split at h <;> try (cases h; done)
    rename_i lv hs
    split at h <;> try (cases h; done)
    rename_i hl
    injection h with h; subst h
    exact ⟨lv, exec1K_ok noCs_ok hs, hl⟩
theorem W_nxt {k' : List Fr} {c' : Cfg} (h : nxt P kb k c = some (k', c')) (hW : W P R kb k' c' Q) : W P R kb k c Q := by
  unfold nxt at h
  split at h
  · split at h
    · cases h
    · split at h
      · rename_i c1 h1
        injection h with h; injection h with e1 e2; subst e1; subst e2
        obtain ⟨lv, h3, h4⟩ := stp_ok (R := R) h1
        exact W_op h3 h4 hW
      · cases h
  · injection h with h; injection h with e1 e2; subst e1; subst e2; exact W_skip hW
  · injection h with h; injection h with e1 e2; subst e1; subst e2; exact W_label hW
  · injection h with h; injection h with e1 e2; subst e1; subst e2; exact W_frG hW
  · split at h
    · rename_i hf; injection h with h; injection h with e1 e2; subst e1; subst e2; exact W_frF _ hf hW
    · cases h
  · injection h with h; injection h with e1 e2; subst e1; subst e2; exact W_seq hW
  · injection h with h; injection h with e1 e2; subst e1; subst e2; exact W_block hW
  · injection h with h; injection h with e1 e2; subst e1; subst e2; exact W_scope hW
  · split at h
    · rename_i k2 hd
      injection h with h; injection h with e1 e2; subst e1; subst e2
      exact W_exit (by rw [hd]; exact hW)
    · cases h
  · injection h with h; injection h with e1 e2; subst e1; subst e2; exact W_blk hW
  · injection h with h; injection h with e1 e2; subst e1; subst e2; exact W_lp hW
  · split at h
    · rename_i hw
      injection h with h; injection h with e1 e2; subst e1; subst e2
      exact W_guardT hw hW
    · rename_i hw
      injection h with h; injection h with e1 e2; subst e1; subst e2
      exact W_guardF hw hW
    · cases h
  · split at h
    · rename_i hx
      injection h with h; injection h with e1 e2; subst e1; subst e2
      exact W_condT hx hW
    · rename_i hx
      injection h with h; injection h with e1 e2; subst e1; subst e2
      exact W_condF hx hW
    · cases h
  · cases h
theorem W_go : ∀ (n : Nat) {k : List Fr} {c : Cfg}, W P R kb (go P kb n (nxt P kb k c) (k, c)).1 (go P kb n (nxt P kb k c) (k, c)).2 Q → W P R kb k c Q
  | 0, k, c, h => by rw [go_zero] at h; exact h
  | n + 1, k, c, h => by
    cases hn : nxt P kb k c with
    | none => rw [hn, go_none] at h; exact h
    | some p => rw [hn] at h; exact W_nxt hn (W_go n h)
theorem W_run (n : Nat) {k : List Fr} {c : Cfg} (h : W P R kb (go P kb n (nxt P kb k c) (k, c)).1 (go P kb n (nxt P kb k c) (k, c)).2 Q) : W P R kb k c Q := W_go n h
theorem W_stop (h : W P R kb k c Q) : W P R kb (.stop :: k) c Q := h
/-- a loop may be looked at by itself -/
theorem W_alone {x : XCode} {id : Nat} (h : W P R kb (.code x :: .blk id :: .stop :: k) c Q) : W P R kb (.code x :: .blk id :: k) c Q := h
/-- how a function's run is shown -/
theorem Runs.ofW {xf : Nat → Option XFunc} {f : Nat} {fn : XFunc} {args : List AV} {r : AV} (fuel : Nat) (hf : xf f = some fn)
    (h : W P (RelU P xf) 0 [.code fn.body] (start fn args []) fun o c => (o = .ret ∨ o = .normal) ∧ ∃ rs, fn.results.mapM (resOf P c) = some rs ∧ reify c.η fuel (retOf rs) = some r) : Runs P xf f args r := by
  obtain ⟨o, c, ⟨o1, c1, h1, ⟨rfl, rfl⟩, _⟩, ho, rs, h3, h4⟩ := h
  exact Runs.of hf h1 ho h3 h4
theorem RunsR.ofW {xf : Nat → Option XFunc} {f : Nat} {fn : XFunc} {args : List AV} {η η' : Heap} {r : AV} (hf : xf f = some fn)
    (h : W P (RelU P xf) kb [.code fn.body] (start fn args η) fun o c => (o = .ret ∨ o = .normal) ∧ ∃ rs, fn.results.mapM (resOf P c) = some rs ∧ r = retOf rs ∧ η' = c.η) : RunsR P xf kb f args η r η' := by
  obtain ⟨o, c, ⟨o1, c1, h1, ⟨rfl, rfl⟩, _⟩, ho, rs, h3, rfl, rfl⟩ := h
  exact RunsR.of hf h1 ho h3
end
end Go.Proofs.Eng
