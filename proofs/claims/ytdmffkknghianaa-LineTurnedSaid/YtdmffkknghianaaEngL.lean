/-
  Single operations with their guards, and calls whose results are plain data.
-/
import Derived.Test.YtdmffkknghianaaEngKB
set_option linter.unusedSimpArgs false
set_option linter.unusedVariables false
namespace Go.Proofs.Eng
open Go Go.RowKit

theorem noRefs_mem : ∀ {l : List AV} {x : AV}, noRefs l = true → x ∈ l → noRef x = true
  | y :: l, x, h, hx => by
    simp only [noRefs, Bool.and_eq_true] at h
    rcases List.mem_cons.1 hx with rfl | hx
    · exact h.1
    · exact noRefs_mem h.2 hx
theorem noRefs_of : ∀ {l : List AV}, (∀ x, x ∈ l → noRef x = true) → noRefs l = true
  | [], _ => rfl
  | y :: l, h => by simp only [noRefs, h y List.mem_cons_self, noRefs_of (fun x hx => h x (List.mem_cons_of_mem _ hx)), Bool.and_self]
theorem noRef_cells {x y : AV} (h : noRef x = true) (hy : y ∈ cellsOf x) : noRef y = true := by
  unfold cellsOf at hy
  split at hy
  · simp only [noRef] at h; exact noRefs_mem h hy
  · rw [List.mem_singleton.1 hy]; exact h
theorem noRefs_flat {xs : List AV} (h : noRefs xs = true) {y : AV} (hy : y ∈ flat xs) : noRef y = true := by
  obtain ⟨x, hx, hxy⟩ := List.mem_flatMap.1 hy
  exact noRef_cells (noRefs_mem h hx) hxy

theorem AVok.other {S : Nat → Prop} {Γ Γ' : Gam} {w : World} {u : Value} {x : AV} (h : AVok S Γ w u x) (hn : noRef x = true) : AVok S Γ' w u x := by
  induction h with
  | any u => exact .any u
  | v x => exact .v x
  | sl A c s full xs us hc hf hw hl hcap hu h1 hA hN ih =>
    simp only [noRef] at hn
    exact .sl A c s full xs us hc hf hw hl hcap (fun j u x q1 q2 => ih j u x q1 q2 (noRefs_flat hn (List.mem_of_getElem? q2))) h1 hA hN
  | ag vs cs hl h1 hu ih => simp only [noRef] at hn; exact .ag vs cs hl h1 (fun j u x q1 q2 => ih j u x q1 q2 (noRefs_mem hn (List.mem_of_getElem? q2)))
  | ifc t u x h ih => simp only [noRef] at hn; exact .ifc t u x (ih hn)
  | ptr g o x us hl h1 hu hs hA ih => simp only [noRef] at hn; exact .ptr g o x us hl h1 (fun j u y q1 q2 => ih j u y q1 q2 (noRef_cells hn (List.mem_of_getElem? q2))) hs hA
  | tup vs xs hl hu ih => simp only [noRef] at hn; exact .tup vs xs hl (fun j u x q1 q2 => ih j u x q1 q2 (noRefs_mem hn (List.mem_of_getElem? q2)))
  | oLive k g ver i j b oi hl hb => simp [noRef] at hn
  | oDead b f k g ver i j hd => simp [noRef] at hn
  | osLive k g ver s lo n c A oi hl hs hn2 hc hcm hwh hA hN => simp [noRef] at hn
  | osDead k g ver s lo n c A hd hc hcm hA hN => simp [noRef] at hn
  | mpLive k g b oi hl hb => simp [noRef] at hn
  | mpDead b k g hd => simp [noRef] at hn
  | itLive k g b oi hl hb => simp [noRef] at hn
  | itDead b k g hd => simp [noRef] at hn
  | fn f vs caps hl hu ih => simp only [noRef] at hn; exact .fn f vs caps hl (fun j u x q1 q2 => ih j u x q1 q2 (noRefs_mem hn (List.mem_of_getElem? q2)))
  | bm f vs fs hl hu ih => simp only [noRef] at hn; exact .bm f vs fs hl (fun j u x q1 q2 => ih j u x q1 q2 (noRefs_mem hn (List.mem_of_getElem? q2)))

/-- the package-level variables hold what they hold -/
def TabOk (S0 : Nat → Prop) (w : World) : Prop := ∀ p, isTab p → AVok S0 Gam.none w p.1 p.2
/-- a function that returns, for these data, that: it makes memory at most -/
def Pure (P : Program) (f : Nat) (args : List AV) (r : AV) : Prop :=
  ∀ (w : World) (S0 : Nat → Prop) (vals : List Value), vals.length = args.length → (∀ (j : Nat) (u : Value) (x : AV), vals[j]? = some u → args[j]? = some x → AVok S0 Gam.none w u x) → (∀ b, S0 b → b < w.heap.size) → TabOk S0 w →
    Calls P f vals.toArray w fun e w' => ∃ v, e = .returned v ∧ Below w.heap.size w w' ∧ AVok (fun b => S0 b ∨ w.heap.size ≤ b ∧ b < w'.heap.size) Gam.none w' v r

/-- a function that returns, for these data, that, and that is new memory, or none -/
def PureN (P : Program) (f : Nat) (args : List AV) (r : AV) : Prop :=
  ∀ (w : World) (S0 : Nat → Prop) (vals : List Value), vals.length = args.length → (∀ (j : Nat) (u : Value) (x : AV), vals[j]? = some u → args[j]? = some x → AVok S0 Gam.none w u x) → (∀ b, S0 b → b < w.heap.size) → TabOk S0 w →
    Calls P f vals.toArray w fun e w' => ∃ v, e = .returned v ∧ Below w.heap.size w w' ∧ AVok (NewB w.heap.size w') Gam.none w' v r

structure XOper where
  dst : Option Nat
  op : XOp
  guard : Option (Nat × Bool)
  deriving Inhabited
def wantedA (σ : List AV) : Option (Nat × Bool) → Option Bool
  | none => some true
  | some (t, want) => match σ.getD t .any with
    | .v (.bool b) => some (b == want)
    | .v (.tuple _) => some false
    | _ => none
def setA (σ : List AV) : Option Nat → AV → List AV
  | none, _ => σ
  | some d, x => σ.set d x

abbrev Heap := List (Nat × (Nat × Option Ob))
/-- a function that is handed references to what the caller owns: what it returns, and what the caller owns then -/
def PureR (P : Program) (f : Nat) (args : List AV) (η : Heap) (r : AV) (η' : Heap) : Prop :=
  ∀ (G : List (Value × AV)) (B : Nat) (S0 : Nat → Prop) (w0 : World) (Γ : Gam) (w : World) (vals : List Value), vals.length = args.length → Holds G B S0 w0 Γ ⟨[], η⟩ #[] w →
    (∀ (j : Nat) (u : Value) (x : AV), vals[j]? = some u → args[j]? = some x → AVok (Free S0 B Γ w) Γ w u x) →
    Calls P f vals.toArray w fun e w' => ∃ v Γ', e = .returned v ∧ Holds G B S0 w0 Γ' ⟨[], η'⟩ #[] w' ∧ AVok (Free S0 B Γ' w') Γ' w' v r
/-- what is known of functions: on plain data; with references -/
structure Rel where
  p : Nat → List AV → AV → Prop
  q : Nat → Nat → List AV → Heap → AV → Heap → Prop
  n : Nat → List AV → AV → Prop
structure RelOK (P : Program) (R : Rel) : Prop where
  p : ∀ f args r, R.p f args r → Pure P f args r
  q : ∀ kb f args η r η', R.q kb f args η r η' → PureR P f args η r η'
  n : ∀ f args r, R.n f args r → PureN P f args r
def scal1 : AV → Bool
  | .v _ => true
  | _ => false
def scal : AV → Bool
  | .v _ => true
  | .tup xs => xs.all scal1
  | .ag xs => xs.all scal1
  | _ => false
/-- what an operation looks at: no owned row; some; all there may be; the one at this key; it changes the one at this key and looks at no other; it looks at some and changes the one at this key -/
inductive Lv where
  | none
  | read
  | any
  | rk (k : Nat)
  | wk (k : Nat)
  | ww (k : Nat)
  deriving Inhabited
/-- one operation, and what it looks at -/
inductive Op1 (P : Program) (R : Rel) (kb : Nat) (o : XOper) : Cfg → Cfg → Lv → Prop
  | skip (c : Cfg) (hw : wantedA c.σ o.guard = some false) : Op1 P R kb o c ⟨setA c.σ o.dst (.v undef), c.η⟩ .none
  | free (c : Cfg) {d : Nat} (x : AV) (hw : wantedA c.σ o.guard = some true) (hs : step P d ⟨c.σ, []⟩ o.op = some (.val x)) : Op1 P R kb o c ⟨setA c.σ o.dst x, c.η⟩ .none
  | val (c : Cfg) {d : Nat} (x : AV) (hw : wantedA c.σ o.guard = some true) (hs : step P d c o.op = some (.val x)) : Op1 P R kb o c ⟨setA c.σ o.dst x, c.η⟩ .read
  | valK (c : Cfg) {d : Nat} (x : AV) (k : Nat) (hw : wantedA c.σ o.guard = some true) (hs : step P d ⟨c.σ, [(k, look c.η k)]⟩ o.op = some (.val x)) : Op1 P R kb o c ⟨setA c.σ o.dst x, c.η⟩ (.rk k)
  | updK (c : Cfg) {d : Nat} (x : AV) (k : Nat) (r : Nat × Option Ob) (hw : wantedA c.σ o.guard = some true) (hs : step P d ⟨c.σ, [(k, look c.η k)]⟩ o.op = some (.upd x k r)) : Op1 P R kb o c ⟨setA c.σ o.dst x, putAt c.η k r⟩ (.wk k)
  | upd (c : Cfg) {d : Nat} (x : AV) (k : Nat) (r : Nat × Option Ob) (hw : wantedA c.σ o.guard = some true) (hs : step P d c o.op = some (.upd x k r)) : Op1 P R kb o c ⟨setA c.σ o.dst x, putAt c.η k r⟩ (.ww k)
  | call (c : Cfg) {d : Nat} (f : Nat) (args : List AV) (r : AV) (hw : wantedA c.σ o.guard = some true) (hs : step P d ⟨c.σ, []⟩ o.op = some (.call f args)) (hn : noRefs args = true) (hr : R.p f args r) (hn2 : noRef r = true) : Op1 P R kb o c ⟨setA c.σ o.dst r, c.η⟩ .none
  | look (c : Cfg) {d : Nat} (f fuel : Nat) (args args' : List AV) (r : AV) (hw : wantedA c.σ o.guard = some true) (hs : step P d ⟨c.σ, []⟩ o.op = some (.call f args)) (ha : args.mapM (reify c.η fuel) = some args') (hr : R.p f args' r) (hsc : scal r = true) : Op1 P R kb o c ⟨setA c.σ o.dst r, c.η⟩ .read
  | fresh (c : Cfg) {d : Nat} (f fuel : Nat) (args args' : List AV) (r : AV) (hw : wantedA c.σ o.guard = some true) (hs : step P d ⟨c.σ, []⟩ o.op = some (.call f args)) (ha : args.mapM (reify c.η fuel) = some args') (hr : R.n f args' r) (hn2 : noRef r = true) : Op1 P R kb o c ⟨setA c.σ o.dst r, c.η⟩ .read
  | callR (c : Cfg) {d : Nat} (kb' f : Nat) (args : List AV) (r : AV) (η' : Heap) (hw : wantedA c.σ o.guard = some true) (hs : step P d ⟨c.σ, []⟩ o.op = some (.call f args)) (hr : R.q kb' f args c.η r η') : Op1 P R kb o c ⟨setA c.σ o.dst r, η'⟩ .any
  | callU (c : Cfg) {d : Nat} (f : Nat) (args : List AV) (r : AV) (k : Nat) (q : Nat × Option Ob) (hw : wantedA c.σ o.guard = some true) (hs : step P d ⟨c.σ, []⟩ o.op = some (.call f args)) (hall : ∀ η, look η k = look c.η k → PureR P f args η r (putAt η k q)) : Op1 P R kb o c ⟨setA c.σ o.dst r, putAt c.η k q⟩ (.wk k)

theorem elems_free {s : Nat} {x : AV} {ys : List AV} (h : elems [] s x = some ys) (η : List (Nat × (Nat × Option Ob))) : elems η s x = some ys := by
  unfold elems at h ⊢
  split at h
  · exact h
  · exact h
  · simp only [look] at h; cases h
  · cases h
/-- what needs no owned row needs none -/
theorem step_free {P : Program} {d : Nat} {σ : List AV} {o : XOp} {x : AV} (h : step P d ⟨σ, []⟩ o = some (.val x)) (η : List (Nat × (Nat × Option Ob))) : step P d ⟨σ, η⟩ o = some (.val x) := by
  cases o with
  | load s agg p =>
    simp only [step] at h ⊢
    split at h
    · exact h
    · simp only [look] at h; cases h
    · cases h
  | store s p x =>
    simp only [step] at h
    repeat' (first | (cases h; done) | (split at h))
  | slcA n s agg p lo hi =>
    simp only [step] at h ⊢
    split at h <;> try (cases h; done)
    exact h
  | box e s own x =>
    simp only [step] at h ⊢
    split at h <;> try (cases h; done)
    rw [if_pos (by assumption)]
    cases own with
    | true => cases h
    | false => exact h
  | bldS e s own parts =>
    simp only [step] at h ⊢
    split at h <;> try (cases h; done)
    rw [if_pos (by assumption)]
    cases own with
    | true => cases h
    | false => exact h
  | mks e s own bytes zero n cp =>
    simp only [step] at h ⊢
    split at h <;> try (cases h; done)
    split at h <;> try (cases h; done)
    rw [if_pos (by assumption)]
    cases own with
    | true => cases h
    | false => exact h
  | appz e s bytes z x n =>
    simp only [step] at h
    repeat' (first | (cases h; done) | (split at h))
  | app e s bytes x y =>
    simp only [step] at h ⊢
    split at h <;> try (cases h; done)
    rename_i ys hys
    rw [elems_free hys η]
    simp only
    generalize evalA σ x = vx at h ⊢
    split at h
    · simp only [look] at h; cases h
    · split at h
      · cases h
      · rename_i hc; rw [if_neg hc]; exact h
    · split at h
      · rename_i hc; rw [if_pos hc]; exact h
      · split at h <;> cases h
    · cases h
  | xt n xs => exact h
  | cpy x y =>
    simp only [step] at h
    repeat' (first | (cases h; done) | (split at h))
  | b2s x =>
    simp only [step] at h ⊢
    split at h <;> try (cases h; done)
    rename_i ys hys
    rw [elems_free hys η]
    exact h
  | lkp kt ok z m k =>
    simp only [step] at h ⊢
    split at h
    · simp only [look] at h; cases h
    · exact h
    · cases h
  | mup kt m k v =>
    simp only [step] at h
    repeat' (first | (cases h; done) | (split at h))
  | del kt m k =>
    simp only [step] at h
    repeat' (first | (cases h; done) | (split at h))
  | lenM m =>
    simp only [step] at h ⊢
    split at h
    · simp only [look] at h; cases h
    · exact h
    · cases h
  | nxs i =>
    simp only [step] at h
    repeat' (first | (cases h; done) | (split at h))
  | rgs x =>
    simp only [step] at h
    split at h
    · exact absurd h (by simp)
    · cases h
  | mkm =>
    simp only [step] at h
    exact absurd h (by simp)
  | call ow f args => exact h
  | _ => exact h

/-- the row that an operation looks at alone -/
def onlyKey (k : Nat) : Res → Bool
  | .val _ => true
  | .upd _ k' _ => Nat.beq k' k
  | .call .. => false
theorem look_one (η : List (Nat × (Nat × Option Ob))) (k k' : Nat) : look [(k, look η k)] k' = look η k' ∨ (look [(k, look η k)] k' = (0, none) ∧ k ≠ k') := by
  by_cases h : k = k'
  · subst h; left; simp [look]
  · right; exact ⟨by simp [look, h], h⟩
theorem elems_key {s k : Nat} {η : List (Nat × (Nat × Option Ob))} {x : AV} {ys : List AV} (h : elems [(k, look η k)] s x = some ys) : elems η s x = some ys := by
  unfold elems at h ⊢
  split at h
  · exact h
  · exact h
  · rename_i k' g ver s' lo n
    rcases look_one η k k' with e | ⟨e, _⟩
    · rw [e] at h; exact h
    · rw [e] at h; cases h
  · cases h
/-- what needs one owned row needs no other one -/
theorem step_key {P : Program} {d : Nat} {σ : List AV} {η : List (Nat × (Nat × Option Ob))} {k : Nat} {o : XOp} {r : Res} (h : step P d ⟨σ, [(k, look η k)]⟩ o = some r) (hr : onlyKey k r = true) : step P d ⟨σ, η⟩ o = some r := by
  have hd : ∀ x q, r = .upd x d q → look [(k, look η k)] d = look η d := fun x q e => by
    subst e
    have := Nat.eq_of_beq_eq_true hr
    subst this
    simp [look]
  cases o with
  | load s agg p =>
    simp only [step] at h ⊢
    split at h
    · exact h
    · rename_i k' g ver i j e
      rcases look_one η k k' with e2 | ⟨e2, _⟩
      · rw [e2] at h; exact h
      · rw [e2] at h; cases h
    · cases h
  | store s p x =>
    simp only [step] at h ⊢
    split at h
    · rename_i k' g ver i j e
      rcases look_one η k k' with e2 | ⟨e2, _⟩
      · rw [e2] at h; exact h
      · rw [e2] at h; cases h
    · cases h
  | slcA n s agg p lo hi =>
    simp only [step] at h ⊢
    split at h
    · exact h
    · rename_i k' g ver e1 e2 e3
      rcases look_one η k k' with e | ⟨e, _⟩
      · rw [e] at h; exact h
      · rw [e] at h; cases h
    · cases h
  | box e s own x =>
    simp only [step] at h ⊢
    split at h <;> try (cases h; done)
    rw [if_pos (by assumption)]
    cases own with
    | true =>
      have e := hd _ _ (by injection h with h; exact h.symm)
      rw [e] at h; exact h
    | false => exact h
  | bldS e s own parts =>
    simp only [step] at h ⊢
    split at h <;> try (cases h; done)
    rw [if_pos (by assumption)]
    cases own with
    | true =>
      have e := hd _ _ (by injection h with h; exact h.symm)
      rw [e] at h; exact h
    | false => exact h
  | mks e s own bytes zero n cp =>
    simp only [step] at h ⊢
    split at h <;> try (cases h; done)
    split at h <;> try (cases h; done)
    rw [if_pos (by assumption)]
    cases own with
    | true =>
      have e := hd _ _ (by injection h with h; exact h.symm)
      rw [e] at h; exact h
    | false => exact h
  | appz e s bytes z x n =>
    simp only [step] at h ⊢
    split at h <;> try (cases h; done)
    split at h <;> try (cases h; done)
    rw [if_pos (by assumption)]
    have e := hd _ _ (by injection h with h; exact h.symm)
    rw [e] at h; exact h
  | app e s bytes x y =>
    simp only [step] at h ⊢
    split at h <;> try (cases h; done)
    rename_i ys hys
    rw [elems_key hys]
    simp only
    generalize evalA σ x = vx at h ⊢
    split at h
    · rename_i k' g ver s' n
      rcases look_one η k k' with e2 | ⟨e2, _⟩
      · rw [e2] at h; exact h
      · rw [e2] at h; cases h
    · split at h
      · rename_i hc; rw [if_pos hc]
        have e := hd _ _ (by injection h with h; exact h.symm)
        rw [e] at h; exact h
      · rename_i hc; rw [if_neg hc]; exact h
    · split at h
      · rename_i hc; rw [if_pos hc]; exact h
      · rename_i hc; rw [if_neg hc]
        split at h <;> try (cases h; done)
        rename_i hc2; rw [if_pos hc2]
        have e := hd _ _ (by injection h with h; exact h.symm)
        rw [e] at h; exact h
    · cases h
  | xt n xs => exact h
  | cpy x y =>
    simp only [step] at h ⊢
    split at h <;> try (cases h; done)
    rename_i ys hys
    rw [elems_key hys]
    simp only
    split at h
    · rename_i k' g ver s' lo n e1
      rcases look_one η k k' with e | ⟨e, _⟩
      · rw [e] at h; exact h
      · rw [e] at h; cases h
    · cases h
  | b2s x =>
    simp only [step] at h ⊢
    split at h <;> try (cases h; done)
    rename_i ys hys
    rw [elems_key hys]
    exact h
  | lkp kt ok z m k' =>
    simp only [step] at h ⊢
    split at h
    · rename_i kk g kv e1 e2
      rcases look_one η k kk with e | ⟨e, _⟩
      · rw [e] at h; exact h
      · rw [e] at h; cases h
    · exact h
    · cases h
  | mup kt m k' v =>
    simp only [step] at h ⊢
    split at h
    · rename_i kk g kv e1 e2
      rcases look_one η k kk with e | ⟨e, _⟩
      · rw [e] at h; exact h
      · rw [e] at h; cases h
    · cases h
  | del kt m k' =>
    simp only [step] at h ⊢
    split at h
    · rename_i kk g kv e1 e2
      rcases look_one η k kk with e | ⟨e, _⟩
      · rw [e] at h; exact h
      · rw [e] at h; cases h
    · cases h
  | lenM m =>
    simp only [step] at h ⊢
    split at h
    · rename_i kk g e1
      rcases look_one η k kk with e | ⟨e, _⟩
      · rw [e] at h; exact h
      · rw [e] at h; cases h
    · exact h
    · cases h
  | nxs i =>
    simp only [step] at h ⊢
    split at h
    · rename_i kk g e1
      rcases look_one η k kk with e | ⟨e, _⟩
      · rw [e] at h; exact h
      · rw [e] at h; cases h
    · cases h
  | rgs x =>
    simp only [step] at h ⊢
    split at h <;> try (cases h; done)
    have e := hd _ _ (by injection h with h; exact h.symm)
    rw [e] at h; exact h
  | mkm =>
    simp only [step] at h ⊢
    have e := hd _ _ (by injection h with h; exact h.symm)
    rw [e] at h; exact h
  | _ => exact h

variable {G : List (Value × AV)} {B : Nat} {S0 : Nat → Prop} {w0 w : World} {c : Cfg} {a : Act} {P : Program} {kb : Nat}

def Sits (G : List (Value × AV)) (B : Nat) (S0 : Nat → Prop) (w0 : World) (c : Cfg) (a : Act) (w : World) : Prop := a.defers = [] ∧ ∃ Γ, Holds G B S0 w0 Γ c a.tmps w

/-- the short form of an operation with its guard -/
def compOper (P : Program) (own : Nat → Bool) (ops : Array Oper) (o : Oper) : Option XOper :=
  match comp P (own (o.dst.getD 0)) o.op o.type with
  | some xo => match o.guard with
    | none => some ⟨o.dst, xo, none⟩
    | some (j, want) => match (ops[j]?).bind (·.dst) with | some t => some ⟨o.dst, xo, some (t, want)⟩ | none => none
  | none => none

theorem Holds.putO {Γ : Gam} (h : Holds G B S0 w0 Γ c a.tmps w) (dst : Option Nat) {u : Value} {x : AV} (hx : AVok (Free S0 B Γ w) Γ w u x) : Holds G B S0 w0 Γ ⟨setA c.σ dst x, c.η⟩ (a.put dst u).tmps w := by
  cases dst with
  | none => exact h
  | some t => exact h.put t hx
theorem put_defers (a : Act) (dst : Option Nat) (u : Value) : (a.put dst u).defers = a.defers := by cases dst <;> rfl

theorem wanted_ok {Γ : Gam} (h : Holds G B S0 w0 Γ c a.tmps w) {own : Nat → Bool} {ops : Array Oper} {o : Oper} {xo : XOper} (hc : compOper P own ops o = some xo) {b : Bool} (hw : wantedA c.σ xo.guard = some b) : Region.wanted o (yielded ops a.tmps) = b := by
  unfold compOper at hc
  split at hc <;> try (cases hc; done)
  split at hc
  · injection hc with hc; subst hc
    rename_i hg
    simp only [wantedA, Option.some.injEq] at hw
    simp [Region.wanted, hg, hw]
  · rename_i j want hg
    split at hc <;> try (cases hc; done)
    injection hc with hc; subst hc
    rename_i t ht
    simp only [wantedA] at hw
    have hy : ∀ u, a.tmps[t]? = some u → yielded ops a.tmps j = match u with | .bool b => some b | _ => none := fun u hu => by
      unfold yielded; rw [ht]; simp only [Option.bind_some, hu]; cases u <;> rfl
    have hok : ∀ x, c.σ.getD t .any = x → x ≠ .any → ∃ u, a.tmps[t]? = some u ∧ AVok (Free S0 B Γ w) Γ w u x := fun x hx hne => by
      rcases Nat.lt_or_ge t c.σ.length with hlt | hge
      · have h2 : c.σ[t]? = some c.σ[t] := List.getElem?_eq_getElem hlt
        have hlt' : t < a.tmps.size := by rw [← h.size]; exact hlt
        have h1 : a.tmps[t]? = some (a.tmps[t]'hlt') := Array.getElem?_eq_getElem hlt'
        rw [List.getD_eq_getElem?_getD, h2, Option.getD_some] at hx
        refine ⟨_, h1, ?_⟩
        have := h.tmp t _ _ h1 h2
        rw [hx] at this; exact this
      · rw [List.getD_eq_getElem?_getD, List.getElem?_eq_none hge] at hx
        exact absurd hx.symm hne
    split at hw <;> try (cases hw; done)
    · rename_i b' hb'
      obtain ⟨u, h1, h2⟩ := hok _ hb' (by simp)
      have h2 := v_inv h2
      subst h2
      injection hw with hw; subst hw
      simp only [Region.wanted, hg, hy _ h1]
      cases b' <;> cases want <;> rfl
    · rename_i hb'
      obtain ⟨u, h1, h2⟩ := hok _ hb' (by simp)
      have h2 := v_inv h2
      subst h2
      injection hw with hw; subst hw
      simp only [Region.wanted, hg, hy _ h1]
      cases want <;> rfl

theorem step_callF {d : Nat} {σ : List AV} {o : XOp} {f : Nat} {args : List AV} (hs : step P d ⟨σ, []⟩ o = some (.call f args)) (η : Heap) : step P d ⟨σ, η⟩ o = some (.call f args) := by
  cases o with
  | call ow f' args' => exact hs
  | callv x args' => exact hs
  | inv x n args' => exact hs
  | _ => simp only [step] at hs; repeat' (first | (cases hs; done) | (split at hs))
theorem scal_ok {S S' : Nat → Prop} {Γ Γ' : Gam} {w w' : World} {u : Value} {r : AV} (hs : scal r = true) (h : AVok S Γ w u r) : AVok S' Γ' w' u r := by
  cases r with
  | v x => have := v_inv h; subst this; exact .v u
  | tup xs =>
    cases h with | tup vs _ hl hu =>
    refine .tup vs xs hl fun j u x q1 q2 => ?_
    have h1 := List.all_eq_true.1 hs x (List.mem_of_getElem? q2)
    cases x <;> simp [scal1] at h1
    have := v_inv (hu j u _ q1 q2)
    subst this; exact .v u
  | ag xs =>
    cases h with | ag vs _ hl h1 hu =>
    refine .ag vs xs hl h1 fun j u x q1 q2 => ?_
    have h1 := List.all_eq_true.1 hs x (List.mem_of_getElem? q2)
    cases x <;> simp [scal1] at h1
    have := v_inv (hu j u _ q1 q2)
    subst this; exact .v u
  | _ => simp [scal] at hs
/-- the slots of a frame that waits -/
theorem Holds.toGhost {Γ : Gam} (h : Holds G B S0 w0 Γ c a.tmps w) : Holds (G ++ a.tmps.toList.zip c.σ) B S0 w0 Γ ⟨[], c.η⟩ #[] w where
  below := h.below
  base := h.base
  size := rfl
  tmp := fun t u x hu => by simp at hu
  ghost := fun p hp => by
    rcases hp with hp | hp
    rotate_left
    · exact h.ghost p (.inr hp)
    rcases List.mem_append.1 hp with hp | hp
    · exact h.ghost p (.inl hp)
    · obtain ⟨j, hj, he⟩ := List.mem_iff_getElem.1 hp
      rw [List.getElem_zip] at he
      subst he
      have h1 : j < a.tmps.size := by simp at hj; omega
      have h2 : j < c.σ.length := by simp at hj; omega
      exact h.tmp j _ _ (by simp [h1]) (List.getElem?_eq_getElem h2)
  gen := h.gen
  non := h.non
  row := h.row
  apart := h.apart
theorem Holds.ofGhost {Γ : Gam} {η' : Heap} (h : Holds (G ++ a.tmps.toList.zip c.σ) B S0 w0 Γ ⟨[], η'⟩ #[] w) (hs : c.σ.length = a.tmps.size) : Holds G B S0 w0 Γ ⟨c.σ, η'⟩ a.tmps w where
  below := h.below
  base := h.base
  size := hs
  tmp := fun t u x hu hx => by
    have h1 : t < a.tmps.size := (Array.getElem?_eq_some_iff.1 hu).1
    have h2 : t < c.σ.length := (List.getElem?_eq_some_iff.1 hx).1
    have h3 : (u, x) ∈ a.tmps.toList.zip c.σ := by
      refine List.mem_iff_getElem.2 ⟨t, by simp; omega, ?_⟩
      rw [List.getElem_zip]
      rw [(Array.getElem?_eq_some_iff.1 hu).2.symm, (List.getElem?_eq_some_iff.1 hx).2.symm]
      simp
    exact h.ghost (u, x) (.inl (List.mem_append_right _ h3))
  ghost := fun p hp => h.ghost p (hp.imp (List.mem_append_left _) id)
  gen := h.gen
  non := h.non
  row := h.row
  apart := h.apart
theorem Holds.tab {Γ : Gam} {tmps : Array Value} (h : Holds G B S0 w0 Γ c tmps w) : TabOk (Free S0 B Γ w) w := fun p hp => by
  obtain ⟨g, x, hx, rfl⟩ := hp
  exact (h.ghost _ (.inr ⟨g, x, hx, rfl⟩)).other (tab_noRef hx)
theorem Holds.tabAll {Γ : Gam} {tmps : Array Value} (h : Holds G B S0 w0 Γ c tmps w) : TabOk (All S0 B w) w := fun p hp => (h.tab p hp).mono (fun b hb => ⟨⟨hb.1, hb.2.1⟩, rfl⟩) (.refl _)
theorem op1_ok {own : Nat → Bool} {ops : Array Oper} {R : Rel} (hR : RelOK P R) {i : Nat} {o : Oper} {xo : XOper} (hi : ops[i]? = some o) (hc : compOper P own ops o = some xo) {c' : Cfg} {lv : Lv} (h1 : Op1 P R kb xo c c' lv)
    (h : Sits G B S0 w0 c a w) {K : Act → World → Prop} {Q : Exit → Act → World → Prop} (hK : ∀ a' w', Sits G B S0 w0 c' a' w' → K a' w') : wpOp P ops Q i K a w := by
  obtain ⟨hd, Γ, hH⟩ := h
  have hdst : xo.dst = o.dst := by
    unfold compOper at hc
    split at hc <;> try (cases hc; done)
    split at hc
    · injection hc with hc; subst hc; rfl
    · split at hc <;> try (cases hc; done)
      injection hc with hc; subst hc; rfl
  have hop : comp P (own (o.dst.getD 0)) o.op o.type = some xo.op := by
    unfold compOper at hc
    split at hc <;> try (cases hc; done)
    rename_i xo' hxo'
    split at hc
    · injection hc with hc; subst hc; exact hxo'
    · split at hc <;> try (cases hc; done)
      injection hc with hc; subst hc; exact hxo'
  unfold wpOp
  simp only [hi]
  have fromVal : ∀ (d : Nat) x, step P d c xo.op = some (.val x) → (∀ a' w', Sits G B S0 w0 ⟨setA c.σ xo.dst x, c.η⟩ a' w' → K a' w') → o.wp P a w K Q := fun d x hs hK => by
    obtain ⟨u, w', hr, hb, hok⟩ := comp_ok hH hop hs
    unfold Oper.wp
    rw [hr]
    simp only [Oper.upon]
    refine hK _ _ ⟨by rw [put_defers]; exact hd, Γ, ?_⟩
    rw [hdst]
    exact (hH.grow hb).putO o.dst hok
  have fromUpd : ∀ (d : Nat) x k r, step P d c xo.op = some (.upd x k r) → (∀ a' w', Sits G B S0 w0 ⟨setA c.σ xo.dst x, putAt c.η k r⟩ a' w' → K a' w') → o.wp P a w K Q := fun d x k r hs hK => by
    obtain ⟨n, u, w', Γ', hr, hn, hH', hok⟩ := comp_ok hH hop hs
    unfold Oper.wp
    rw [hr]
    have hfin : Sits G B S0 w0 ⟨setA c.σ xo.dst x, putAt c.η k r⟩ (a.put o.dst u) w' := ⟨by rw [put_defers]; exact hd, Γ', by rw [hdst]; exact hH'.putO (c := ⟨c.σ, putAt c.η k r⟩) o.dst hok⟩
    rcases hn with rfl | ⟨rfl, rfl⟩
    · simp only [Oper.upon]; exact hK _ _ hfin
    · simp only [Oper.upon]; exact hK _ _ hfin
  cases h1 with
  | valK x k hw hs =>
    rw [wanted_ok hH hc hw, if_pos rfl]
    exact .inl (fromVal _ x (step_key hs rfl) hK)
  | updK x k r hw hs =>
    rw [wanted_ok hH hc hw, if_pos rfl]
    exact .inl (fromUpd _ x k r (step_key hs (by simp [onlyKey])) hK)
  | skip hw =>
    rw [wanted_ok hH hc hw]
    simp only [Bool.false_eq_true, if_false]
    refine hK _ _ ⟨by rw [put_defers]; exact hd, Γ, ?_⟩
    rw [hdst]
    exact hH.putO o.dst (.v undef)
  | free x hw hs =>
    rw [wanted_ok hH hc hw, if_pos rfl]
    exact .inl (fromVal _ x (step_free hs c.η) hK)
  | val x hw hs =>
    rw [wanted_ok hH hc hw, if_pos rfl]
    exact .inl (fromVal _ x hs hK)
  | upd x k r hw hs =>
    rw [wanted_ok hH hc hw, if_pos rfl]
    exact .inl (fromUpd _ x k r hs hK)
  | call f args r hw hs hna hr hnr =>
    rw [wanted_ok hH hc hw, if_pos rfl]
    have hs' := step_callF hs c.η
    obtain ⟨vals, hrun, hl, hargs⟩ := comp_ok hH hop hs'
    refine .inl ?_
    unfold Oper.wp
    rw [hrun]
    simp only [Oper.upon]
    have hp := hR.p f args r hr w (Free S0 B Γ w) vals hl (fun j u x q1 q2 => (hargs j u x q1 q2).other (noRefs_mem hna (List.mem_of_getElem? q2))) (fun b hb => hb.1) hH.tab
    refine hp.mono fun e w' hpost => ?_
    obtain ⟨v, rfl, hb, hok⟩ := hpost
    refine hK _ _ ⟨by rw [put_defers]; exact hd, Γ, ?_⟩
    rw [hdst]
    refine (hH.grow hb).putO o.dst ((hok.mono (S' := Free S0 B Γ w') (w' := w') (fun b hb2 => ⟨?_, rfl⟩) (.refl _)).other hnr)
    rcases hb2 with ⟨q1, q2, q3⟩ | ⟨q1, q2⟩
    · exact ⟨Nat.lt_of_lt_of_le q1 hb.size, q2, q3⟩
    · refine ⟨q2, .inr (Nat.le_trans (Nat.le_trans hH.base hH.below.size) q1), fun k oi hk hbk => ?_⟩
      have := (hH.own_lt hk hbk).2
      omega
  | look f fuel args args' r hw hs ha hr hsc =>
    rw [wanted_ok hH hc hw, if_pos rfl]
    have hs' := step_callF hs c.η
    obtain ⟨vals, hrun, hl, hargs⟩ := comp_ok hH hop hs'
    refine .inl ?_
    unfold Oper.wp
    rw [hrun]
    simp only [Oper.upon]
    obtain ⟨e1, e2⟩ := mapM_some ha
    have hp := hR.p f args' r hr w (All S0 B w) vals (hl.trans e1.symm) (fun j u x q1 q2 => by
      have hj : j < args.length := by rw [← e1]; exact (List.getElem?_eq_some_iff.1 q2).1
      exact reify_ok hH fuel u _ x (hargs j u _ q1 (List.getElem?_eq_getElem hj)) (e2 j _ x (List.getElem?_eq_getElem hj) q2)) (fun b hb => hb.1) hH.tabAll
    refine hp.mono fun e w' hpost => ?_
    obtain ⟨v, rfl, hb, hok⟩ := hpost
    refine hK _ _ ⟨by rw [put_defers]; exact hd, Γ, ?_⟩
    rw [hdst]
    exact (hH.grow hb).putO o.dst (scal_ok hsc hok)
  | fresh f fuel args args' r hw hs ha hr hnr =>
    rw [wanted_ok hH hc hw, if_pos rfl]
    have hs' := step_callF hs c.η
    obtain ⟨vals, hrun, hl, hargs⟩ := comp_ok hH hop hs'
    refine .inl ?_
    unfold Oper.wp
    rw [hrun]
    simp only [Oper.upon]
    obtain ⟨e1, e2⟩ := mapM_some ha
    have hp := hR.n f args' r hr w (All S0 B w) vals (hl.trans e1.symm) (fun j u x q1 q2 => by
      have hj : j < args.length := by rw [← e1]; exact (List.getElem?_eq_some_iff.1 q2).1
      exact reify_ok hH fuel u _ x (hargs j u _ q1 (List.getElem?_eq_getElem hj)) (e2 j _ x (List.getElem?_eq_getElem hj) q2)) (fun b hb => hb.1) hH.tabAll
    refine hp.mono fun e w' hpost => ?_
    obtain ⟨v, rfl, hb, hok⟩ := hpost
    refine hK _ _ ⟨by rw [put_defers]; exact hd, Γ, ?_⟩
    rw [hdst]
    refine (hH.grow hb).putO o.dst ((hok.mono (S' := Free S0 B Γ w') (w' := w') (fun b hb2 => ⟨?_, rfl⟩) (.refl _)).other hnr)
    obtain ⟨q1, q2⟩ := hb2
    refine ⟨q2, .inr (Nat.le_trans (Nat.le_trans hH.base hH.below.size) q1), fun k oi hk hbk => ?_⟩
    have := (hH.own_lt hk hbk).2
    omega
  | callR kb' f args r η' hw hs hr =>
    rw [wanted_ok hH hc hw, if_pos rfl]
    have hs' := step_callF hs c.η
    obtain ⟨vals, hrun, hl, hargs⟩ := comp_ok hH hop hs'
    refine .inl ?_
    unfold Oper.wp
    rw [hrun]
    simp only [Oper.upon]
    have hp := hR.q kb' f args c.η r η' hr _ B S0 w0 Γ w vals hl hH.toGhost hargs
    refine hp.mono fun e w' hpost => ?_
    obtain ⟨v, Γ', rfl, hH', hok⟩ := hpost
    refine hK _ _ ⟨by rw [put_defers]; exact hd, Γ', ?_⟩
    rw [hdst]
    exact (hH'.ofGhost hH.size).putO (c := ⟨c.σ, η'⟩) o.dst hok
  | callU f args r k q hw hs hall =>
    rw [wanted_ok hH hc hw, if_pos rfl]
    have hs' := step_callF hs c.η
    obtain ⟨vals, hrun, hl, hargs⟩ := comp_ok hH hop hs'
    refine .inl ?_
    unfold Oper.wp
    rw [hrun]
    simp only [Oper.upon]
    have hp := hall c.η rfl _ B S0 w0 Γ w vals hl hH.toGhost hargs
    refine hp.mono fun e w' hpost => ?_
    obtain ⟨v, Γ', rfl, hH', hok⟩ := hpost
    refine hK _ _ ⟨by rw [put_defers]; exact hd, Γ', ?_⟩
    rw [hdst]
    exact (hH'.ofGhost hH.size).putO (c := ⟨c.σ, putAt c.η k q⟩) o.dst hok
end Go.Proofs.Eng
