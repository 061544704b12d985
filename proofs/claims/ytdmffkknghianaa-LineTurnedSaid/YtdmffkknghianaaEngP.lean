/-
  Functions: what a function returns for plain data, and that its call returns just that.
-/
import Derived.Test.YtdmffkknghianaaEngO
set_option linter.unusedSimpArgs false
set_option linter.unusedVariables false
namespace Go.Proofs.Eng
open Go Go.RowKit

inductive XRes where
  | tmp (t : Nat)
  | cell (t s : Nat) (agg : Bool)
  deriving Inhabited
structure XFunc where
  ntmps : Nat
  results : List XRes
  body : XCode
  deriving Inhabited
def compRes (P : Program) : ResultVar → Option XRes
  | .tmp t => some (.tmp t)
  | .cell a t => match sizeO P t with | some (s, agg) => some (.cell a s agg) | none => none
def compF (P : Program) (own : Nat → Bool) (f : Nat) : Option XFunc :=
  match P.funcs[f]? with
  | some fn => match fn.body with
    | some code => match compCode P own code, fn.results.toList.mapM (compRes P) with
      | some x, some rs => if fn.results.size ≤ 4 then some ⟨fn.ntmps, rs, x⟩ else none
      | _, _ => none
    | none => none
  | none => none

def resOf (P : Program) (c : Cfg) : XRes → Option AV
  | .tmp t => some (c.σ.getD t .any)
  | .cell t s agg => match step P 0 c (.load s agg (.t t)) with | some (.val x) => some x | _ => none
def retOf : List AV → AV
  | [x] => x
  | l => .tup l
def start (fn : XFunc) (args : List AV) (η : Heap) : Cfg := ⟨args ++ List.replicate (fn.ntmps - args.length) (.v undef), η⟩

def RelN (P : Program) (xf : Nat → Option XFunc) : Nat → Rel
  | 0 => ⟨Pure P, fun _ => PureR P, PureN P⟩
  | n + 1 => ⟨fun f args r => Pure P f args r ∨ ∃ fn o c rs fuel, xf f = some fn ∧ Ex P (RelN P xf n) 0 fn.body (start fn args []) o c ∧ (o = .ret ∨ o = .normal) ∧ fn.results.mapM (resOf P c) = some rs ∧ reify c.η fuel (retOf rs) = some r,
    fun kb f args η r η' => PureR P f args η r η' ∨ ∃ fn o c rs, xf f = some fn ∧ Ex P (RelN P xf n) kb fn.body (start fn args η) o c ∧ (o = .ret ∨ o = .normal) ∧ fn.results.mapM (resOf P c) = some rs ∧ r = retOf rs ∧ η' = c.η,
    fun f args r => PureN P f args r ∨ ∃ fn o c rs, xf f = some fn ∧ Ex P (RelN P xf n) 0 fn.body (start fn args []) o c ∧ (o = .ret ∨ o = .normal) ∧ fn.results.mapM (resOf P c) = some rs ∧ reifyN c.η (retOf rs) = some r⟩
def RelU (P : Program) (xf : Nat → Option XFunc) : Rel := ⟨fun f args r => ∃ n, (RelN P xf n).p f args r, fun kb f args η r η' => ∃ n, (RelN P xf n).q kb f args η r η', fun f args r => ∃ n, (RelN P xf n).n f args r⟩
/-- for these data the function returns that, made anew -/
def RunsN (P : Program) (xf : Nat → Option XFunc) (f : Nat) (args : List AV) (r : AV) : Prop := (RelU P xf).n f args r
/-- for these data the function returns that -/
def Runs (P : Program) (xf : Nat → Option XFunc) (f : Nat) (args : List AV) (r : AV) : Prop := (RelU P xf).p f args r
def RunsR (P : Program) (xf : Nat → Option XFunc) (kb f : Nat) (args : List AV) (η : Heap) (r : AV) (η' : Heap) : Prop := (RelU P xf).q kb f args η r η'
structure RelLe (R R' : Rel) : Prop where
  p : ∀ f a r, R.p f a r → R'.p f a r
  q : ∀ kb f a η r η', R.q kb f a η r η' → R'.q kb f a η r η'
  n : ∀ f a r, R.n f a r → R'.n f a r

section
variable {P : Program} {R R' : Rel} {xf : Nat → Option XFunc} {kb : Nat}
theorem Op1.mono (h : RelLe R R') {o : XOper} {c c' : Cfg} {lv : Lv} (k : Op1 P R kb o c c' lv) : Op1 P R' kb o c c' lv := by
  cases k with
  | skip hw => exact .skip c hw
  | free x hw hs => exact .free c x hw hs
  | val x hw hs => exact .val c x hw hs
  | upd x k r hw hs => exact .upd c x k r hw hs
  | valK x k hw hs => exact .valK c x k hw hs
  | updK x k r hw hs => exact .updK c x k r hw hs
  | call f args r hw hs hn hr hn2 => exact .call c f args r hw hs hn (h.p _ _ _ hr) hn2
  | look f fuel args args' r hw hs ha hr hsc => exact .look c f fuel args args' r hw hs ha (h.p _ _ _ hr) hsc
  | fresh f fuel args args' r hw hs ha hr hn2 => exact .fresh c f fuel args args' r hw hs ha (h.n _ _ _ hr) hn2
  | callR kb' f args r η' hw hs hr => exact .callR c kb' f args r η' hw hs (h.q _ _ _ _ _ _ hr)
  | callU f args r k q hw hs hall => exact .callU c f args r k q hw hs hall
theorem OpsRun.mono (h : RelLe R R') {l : List XOper} {c c' : Cfg} {lvs : List Lv} (k : OpsRun P R kb l c c' lvs) : OpsRun P R' kb l c c' lvs := by
  induction k with
  | nil c => exact .nil c
  | cons o l c c1 c2 lv lvs h1 h2 ih => exact .cons o l c c1 c2 lv lvs (h1.mono h) ih
theorem OpsG.mono (h : RelLe R R') {l : List XOper} {c c' : Cfg} (k : OpsG P R kb l c c') : OpsG P R' kb l c c' := by
  induction k with
  | nil c => exact .nil c
  | cons o l c c1 c2 lv h1 h2 ih => exact .cons o l c c1 c2 lv (h1.mono h) ih
  | give l c c1 c2 t h1 h2 ih => exact .give l c c1 c2 t h1 ih
theorem Ex.mono (h : RelLe R R') {x : XCode} {c c' : Cfg} {o : Out} (k : Ex P R kb x c o c') : Ex P R' kb x c o c' := by
  induction k with
  | skip c => exact .skip c
  | region xs prs c c' lvs F hr hl hF => exact .region xs prs c c' lvs F (hr.mono h) hl hF
  | regionG xs c c' hr => exact .regionG xs c c' (hr.mono h)
  | seqN x y c c1 c2 o h1 h2 ih1 ih2 => exact .seqN x y c c1 c2 o ih1 ih2
  | seqX x y c c1 o h1 hne ih1 => exact .seqX x y c c1 o ih1 hne
  | condT x t e c c1 o hx hh ih => exact .condT x t e c c1 o hx ih
  | condF x t e c c1 o hx hh ih => exact .condF x t e c c1 o hx ih
  | block id b c c1 o hh ih => exact .block id b c c1 o ih
  | loopN b c c1 c2 o h1 h2 ih1 ih2 => exact .loopN b c c1 c2 o ih1 ih2
  | loopX b c c1 o h1 hne ih1 => exact .loopX b c c1 o ih1 hne
  | exit id c => exact .exit id c
  | scope b c c1 o hh ih => exact .scope b c c1 o ih
  | scopeN b x c c1 o hh hg ih => exact .scopeN b x c c1 o ih hg
  | scopeJ b x r c c1 c2 o l h1 hf h2 ih1 ih2 => exact .scopeJ b x r c c1 c2 o l ih1 hf ih2
  | label l c => exact .label l c
  | goto l c => exact .goto l c
  | ret c => exact .ret c
  | weak x c c1 c2 o hl hh ih => exact .weak x c c1 c2 o hl ih
  | giv x c c1 c2 o t hg hh ih => exact .giv x c c1 c2 o t hg ih
theorem RelN.succ : ∀ n, RelLe (RelN P xf n) (RelN P xf (n + 1))
  | 0 => ⟨fun _ _ _ h => .inl h, fun _ _ _ _ _ _ h => .inl h, fun _ _ _ h => .inl h⟩
  | n + 1 => ⟨fun f args r h => h.imp id fun ⟨fn, o, c, rs, fuel, h1, h2, h3⟩ => ⟨fn, o, c, rs, fuel, h1, h2.mono (RelN.succ n), h3⟩, fun kb f args η r η' h => h.imp id fun ⟨fn, o, c, rs, h1, h2, h3⟩ => ⟨fn, o, c, rs, h1, h2.mono (RelN.succ n), h3⟩, fun f args r h => h.imp id fun ⟨fn, o, c, rs, h1, h2, h3⟩ => ⟨fn, o, c, rs, h1, h2.mono (RelN.succ n), h3⟩⟩
theorem RelN.le {n m : Nat} (h : n ≤ m) : RelLe (RelN P xf n) (RelN P xf m) := by
  induction h with
  | refl => exact ⟨fun _ _ _ h => h, fun _ _ _ _ _ _ h => h, fun _ _ _ h => h⟩
  | step _ ih => exact ⟨fun f a r h => (RelN.succ _).p _ _ _ (ih.p _ _ _ h), fun kb f a η r η' h => (RelN.succ _).q _ _ _ _ _ _ (ih.q _ _ _ _ _ _ h), fun f a r h => (RelN.succ _).n _ _ _ (ih.n _ _ _ h)⟩
theorem OpsRun.fin {l : List XOper} {c c' : Cfg} {lvs : List Lv} (k : OpsRun P (RelU P xf) kb l c c' lvs) : ∃ n, OpsRun P (RelN P xf n) kb l c c' lvs := by
  induction k with
  | nil c => exact ⟨0, .nil c⟩
  | cons o l c c1 c2 lv lvs h1 h2 ih =>
    obtain ⟨n, ih⟩ := ih
    cases h1 with
    | skip hw => exact ⟨n, .cons _ _ _ _ _ _ _ (.skip c hw) ih⟩
    | free x hw hs => exact ⟨n, .cons _ _ _ _ _ _ _ (.free c x hw hs) ih⟩
    | val x hw hs => exact ⟨n, .cons _ _ _ _ _ _ _ (.val c x hw hs) ih⟩
    | upd x k r hw hs => exact ⟨n, .cons _ _ _ _ _ _ _ (.upd c x k r hw hs) ih⟩
    | valK x k hw hs => exact ⟨n, .cons _ _ _ _ _ _ _ (.valK c x k hw hs) ih⟩
    | updK x k r hw hs => exact ⟨n, .cons _ _ _ _ _ _ _ (.updK c x k r hw hs) ih⟩
    | call f args r hw hs hn hr hn2 =>
      obtain ⟨m, hm⟩ := hr
      exact ⟨max n m, .cons _ _ _ _ _ _ _ (.call c f args r hw hs hn ((RelN.le (Nat.le_max_right n m)).p _ _ _ hm) hn2) (ih.mono (RelN.le (Nat.le_max_left n m)))⟩
    | look f fuel args args' r hw hs ha hr hsc =>
      obtain ⟨m, hm⟩ := hr
      exact ⟨max n m, .cons _ _ _ _ _ _ _ (.look c f fuel args args' r hw hs ha ((RelN.le (Nat.le_max_right n m)).p _ _ _ hm) hsc) (ih.mono (RelN.le (Nat.le_max_left n m)))⟩
    | fresh f fuel args args' r hw hs ha hr hn2 =>
      obtain ⟨m, hm⟩ := hr
      exact ⟨max n m, .cons _ _ _ _ _ _ _ (.fresh c f fuel args args' r hw hs ha ((RelN.le (Nat.le_max_right n m)).n _ _ _ hm) hn2) (ih.mono (RelN.le (Nat.le_max_left n m)))⟩
    | callU f args r k q hw hs hall => exact ⟨n, .cons _ _ _ _ _ _ _ (.callU c f args r k q hw hs hall) ih⟩
    | callR kb' f args r η' hw hs hr =>
      obtain ⟨m, hm⟩ := hr
      exact ⟨max n m, .cons _ _ _ _ _ _ _ (.callR c kb' f args r η' hw hs ((RelN.le (Nat.le_max_right n m)).q _ _ _ _ _ _ hm)) (ih.mono (RelN.le (Nat.le_max_left n m)))⟩
theorem Op1.fin {o : XOper} {c c' : Cfg} {lv : Lv} (k : Op1 P (RelU P xf) kb o c c' lv) : ∃ n, Op1 P (RelN P xf n) kb o c c' lv := by
  cases k with
  | skip hw => exact ⟨0, .skip c hw⟩
  | free x hw hs => exact ⟨0, .free c x hw hs⟩
  | val x hw hs => exact ⟨0, .val c x hw hs⟩
  | upd x k r hw hs => exact ⟨0, .upd c x k r hw hs⟩
  | valK x k hw hs => exact ⟨0, .valK c x k hw hs⟩
  | updK x k r hw hs => exact ⟨0, .updK c x k r hw hs⟩
  | call f args r hw hs hn hr hn2 => obtain ⟨m, hm⟩ := hr; exact ⟨m, .call c f args r hw hs hn hm hn2⟩
  | look f fuel args args' r hw hs ha hr hsc => obtain ⟨m, hm⟩ := hr; exact ⟨m, .look c f fuel args args' r hw hs ha hm hsc⟩
  | fresh f fuel args args' r hw hs ha hr hn2 => obtain ⟨m, hm⟩ := hr; exact ⟨m, .fresh c f fuel args args' r hw hs ha hm hn2⟩
  | callU f args r k q hw hs hall => exact ⟨0, .callU c f args r k q hw hs hall⟩
  | callR kb' f args r η' hw hs hr => obtain ⟨m, hm⟩ := hr; exact ⟨m, .callR c kb' f args r η' hw hs hm⟩
theorem OpsG.fin {l : List XOper} {c c' : Cfg} (k : OpsG P (RelU P xf) kb l c c') : ∃ n, OpsG P (RelN P xf n) kb l c c' := by
  induction k with
  | nil c => exact ⟨0, .nil c⟩
  | cons o l c c1 c2 lv h1 h2 ih =>
    obtain ⟨n, ih⟩ := ih; obtain ⟨m, h1⟩ := h1.fin
    exact ⟨max n m, .cons o l c c1 c2 lv (h1.mono (RelN.le (Nat.le_max_right n m))) (ih.mono (RelN.le (Nat.le_max_left n m)))⟩
  | give l c c1 c2 t h1 h2 ih => obtain ⟨n, ih⟩ := ih; exact ⟨n, .give l c c1 c2 t h1 ih⟩
theorem Ex.fin {x : XCode} {c c' : Cfg} {o : Out} (k : Ex P (RelU P xf) kb x c o c') : ∃ n, Ex P (RelN P xf n) kb x c o c' := by
  induction k with
  | skip c => exact ⟨0, .skip c⟩
  | region xs prs c c' lvs F hr hl hF => obtain ⟨n, h⟩ := hr.fin; exact ⟨n, .region xs prs c c' lvs F h hl hF⟩
  | regionG xs c c' hr => obtain ⟨n, h⟩ := hr.fin; exact ⟨n, .regionG xs c c' h⟩
  | seqN x y c c1 c2 o h1 h2 ih1 ih2 =>
    obtain ⟨n, ih1⟩ := ih1; obtain ⟨m, ih2⟩ := ih2
    exact ⟨max n m, .seqN x y c c1 c2 o (ih1.mono (RelN.le (Nat.le_max_left n m))) (ih2.mono (RelN.le (Nat.le_max_right n m)))⟩
  | seqX x y c c1 o h1 hne ih1 => obtain ⟨n, ih1⟩ := ih1; exact ⟨n, .seqX x y c c1 o ih1 hne⟩
  | condT x t e c c1 o hx hh ih => obtain ⟨n, ih⟩ := ih; exact ⟨n, .condT x t e c c1 o hx ih⟩
  | condF x t e c c1 o hx hh ih => obtain ⟨n, ih⟩ := ih; exact ⟨n, .condF x t e c c1 o hx ih⟩
  | block id b c c1 o hh ih => obtain ⟨n, ih⟩ := ih; exact ⟨n, .block id b c c1 o ih⟩
  | loopN b c c1 c2 o h1 h2 ih1 ih2 =>
    obtain ⟨n, ih1⟩ := ih1; obtain ⟨m, ih2⟩ := ih2
    exact ⟨max n m, .loopN b c c1 c2 o (ih1.mono (RelN.le (Nat.le_max_left n m))) (ih2.mono (RelN.le (Nat.le_max_right n m)))⟩
  | loopX b c c1 o h1 hne ih1 => obtain ⟨n, ih1⟩ := ih1; exact ⟨n, .loopX b c c1 o ih1 hne⟩
  | exit id c => exact ⟨0, .exit id c⟩
  | scope b c c1 o hh ih => obtain ⟨n, ih⟩ := ih; exact ⟨n, .scope b c c1 o ih⟩
  | scopeN b x c c1 o hh hg ih => obtain ⟨n, ih⟩ := ih; exact ⟨n, .scopeN b x c c1 o ih hg⟩
  | scopeJ b x r c c1 c2 o l h1 hf h2 ih1 ih2 =>
    obtain ⟨n, ih1⟩ := ih1; obtain ⟨m, ih2⟩ := ih2
    exact ⟨max n m, .scopeJ b x r c c1 c2 o l (ih1.mono (RelN.le (Nat.le_max_left n m))) hf (ih2.mono (RelN.le (Nat.le_max_right n m)))⟩
  | label l c => exact ⟨0, .label l c⟩
  | goto l c => exact ⟨0, .goto l c⟩
  | ret c => exact ⟨0, .ret c⟩
  | weak x c c1 c2 o hl hh ih => obtain ⟨n, ih⟩ := ih; exact ⟨n, .weak x c c1 c2 o hl ih⟩
  | giv x c c1 c2 o t hg hh ih => obtain ⟨n, ih⟩ := ih; exact ⟨n, .giv x c c1 c2 o t hg ih⟩
/-- what was shown by hand -/
theorem Runs.leaf {f : Nat} {args : List AV} {r : AV} (h : Pure P f args r) : Runs P xf f args r := ⟨0, h⟩
theorem RunsN.leaf {f : Nat} {args : List AV} {r : AV} (h : PureN P f args r) : RunsN P xf f args r := ⟨0, h⟩
theorem RunsR.leaf {f : Nat} {args : List AV} {η η' : Heap} {r : AV} (h : PureR P f args η r η') : RunsR P xf kb f args η r η' := ⟨0, h⟩
theorem Runs.of {f : Nat} {fn : XFunc} {args : List AV} {r : AV} {o : Out} {c : Cfg} {rs : List AV} {fuel : Nat} (hf : xf f = some fn) (h : Ex P (RelU P xf) 0 fn.body (start fn args []) o c) (ho : o = .ret ∨ o = .normal) (hrs : fn.results.mapM (resOf P c) = some rs) (hr : reify c.η fuel (retOf rs) = some r) : Runs P xf f args r := by
  obtain ⟨n, h⟩ := h.fin
  exact ⟨n + 1, .inr ⟨fn, o, c, rs, fuel, hf, h, ho, hrs, hr⟩⟩
theorem RunsN.of {f : Nat} {fn : XFunc} {args : List AV} {r : AV} {o : Out} {c : Cfg} {rs : List AV} (hf : xf f = some fn) (h : Ex P (RelU P xf) 0 fn.body (start fn args []) o c) (ho : o = .ret ∨ o = .normal) (hrs : fn.results.mapM (resOf P c) = some rs) (hr : reifyN c.η (retOf rs) = some r) : RunsN P xf f args r := by
  obtain ⟨n, h⟩ := h.fin
  exact ⟨n + 1, .inr ⟨fn, o, c, rs, hf, h, ho, hrs, hr⟩⟩
theorem RunsR.of {f : Nat} {fn : XFunc} {args : List AV} {η : Heap} {o : Out} {c : Cfg} {rs : List AV} (hf : xf f = some fn) (h : Ex P (RelU P xf) kb fn.body (start fn args η) o c) (ho : o = .ret ∨ o = .normal) (hrs : fn.results.mapM (resOf P c) = some rs) : RunsR P xf kb f args η (retOf rs) c.η := by
  obtain ⟨n, h⟩ := h.fin
  exact ⟨n + 1, .inr ⟨fn, o, c, rs, hf, h, ho, hrs, rfl, rfl⟩⟩
end

section
variable {P : Program} {xf : Nat → Option XFunc} {own : Nat → Nat → Bool} {d : Nat}

theorem load_val {G : List (Value × AV)} {B : Nat} {S0 : Nat → Prop} {w0 w : World} {Γ : Gam} {c : Cfg} {a : Act} (h : Holds G B S0 w0 Γ c a.tmps w) {t : TypeId} {pv : Value} {pa : XArg} {s : Nat} {agg : Bool} (h1 : AVok (Free S0 B Γ w) Γ w pv (evalA c.σ pa)) (ht : sizeO P t = some (s, agg)) {x : AV} (hs : step P d c (.load s agg pa) = some (.val x)) :
    ∃ ad v, pv = .pointer (some ad) ∧ (loadVar t ad).run P w = .ok v w ∧ AVok (Free S0 B Γ w) Γ w v x := by
  simp only [step] at hs
  split at hs
  · rename_i x e
    rw [e] at h1
    split at hs <;> try (cases hs; done)
    injection hs with hs; injection hs with hs; subst hs
    rename_i y hy
    cases h1 with | ptr g o _ us hl h2 hu hS hA =>
    obtain ⟨u, hr, hok⟩ := run_load_ok ht hA ⟨hl, h2, hu⟩ hy
    rw [Nat.add_zero] at hr
    exact ⟨_, u, rfl, hr, hok⟩
  · rename_i k g ver i j e
    rw [e] at h1
    split at hs <;> try (cases hs; done)
    rename_i g' ob hlk
    split at hs <;> try (cases hs; done)
    rename_i hc
    obtain ⟨rfl, hver⟩ := hc
    split at hs <;> try (cases hs; done)
    rename_i y hy
    split at hs <;> try (cases hs; done)
    injection hs with hs; injection hs with hs; subst hs
    rename_i z hz
    obtain ⟨oi, hΓ, hro, hlive, hnd⟩ := h.ref hlk hver.symm h1.ldO
    cases h1 with
    | oLive _ _ _ _ _ b oi2 hl hb =>
      have := hlive ver oi2 hver.symm hl
      subst this
      obtain ⟨us, hA, hcs, _⟩ := hro.at hb
      have he := hcs.elem hro.wid hy
      have hA2 := (hA.drop (i * ob.s)).take ob.s
      obtain ⟨u, hr, hok⟩ := run_load_ok ht hA2 he hz
      rw [Nat.zero_add, ← hro.s] at hr
      exact ⟨_, u, rfl, hr, hok⟩
    | oDead _ _ _ _ _ _ _ hd => exact (hnd ver hver.symm hd).elim
  · cases hs
def resSem (tmps : Array Value) : ResultVar → Sem Value
  | .tmp t => pure (tmps.getD t undef)
  | .cell p t => do loadVar t (← asAddr (tmps.getD p undef))
theorem results_eq (fn : Func) (tmps : Array Value) : results fn tmps = (do let vs ← fn.results.mapM (resSem tmps); pure (if h : vs.size = 1 then vs[0] else .tuple vs) : Sem Value) := by
  unfold results
  congr 1
theorem res_ok {G : List (Value × AV)} {B : Nat} {S0 : Nat → Prop} {w0 w : World} {Γ : Gam} {c : Cfg} {a : Act} (h : Holds G B S0 w0 Γ c a.tmps w) {rv : ResultVar} {xr : XRes} (hc : compRes P rv = some xr) {x : AV} (hx : resOf P c xr = some x) :
    ∃ v, AVok (Free S0 B Γ w) Γ w v x ∧ (resSem a.tmps rv).run P w = .ok v w := by
  cases rv with
  | tmp t =>
    simp only [compRes, Option.some.injEq] at hc
    subst hc
    simp only [resOf, Option.some.injEq] at hx
    subst hx
    exact ⟨a.eval (.tmp t), h.arg (x := .tmp t) rfl, rfl⟩
  | cell p t =>
    simp only [compRes] at hc
    split at hc <;> try (cases hc; done)
    rename_i s agg hs
    injection hc with hc; subst hc
    simp only [resOf] at hx
    split at hx <;> try (cases hx; done)
    rename_i y hy
    injection hx with hx; subst hx
    obtain ⟨ad, v, hv, hr, hok⟩ := load_val h (h.arg (x := .tmp p) (xa := .t p) rfl) hs hy
    refine ⟨v, hok, ?_⟩
    have hv : a.tmps.getD p undef = .pointer (some ad) := hv
    simp only [resSem, hv, asAddr, Sem.run_bind, Sem.run_pure, Result.andThen_ok, hr]

/-- the values that a function hands back -/
theorem results_ok {G : List (Value × AV)} {B : Nat} {S0 : Nat → Prop} {w0 w : World} {Γ : Gam} {c : Cfg} {a : Act} (h : Holds G B S0 w0 Γ c a.tmps w) {fn : Func} {xr : List XRes} (hc : fn.results.toList.mapM (compRes P) = some xr) (h4 : fn.results.size ≤ 4) {rs : List AV} (hrs : xr.mapM (resOf P c) = some rs) :
    ∃ v, (results fn a.tmps).run P w = .ok v w ∧ AVok (Free S0 B Γ w) Γ w v (retOf rs) := by
  obtain ⟨e1, e2⟩ := mapM_some hc
  obtain ⟨e3, e4⟩ := mapM_some hrs
  have get : ∀ j rv, fn.results.toList[j]? = some rv → ∃ x v, rs[j]? = some x ∧ AVok (Free S0 B Γ w) Γ w v x ∧ (resSem a.tmps rv).run P w = .ok v w := fun j rv hj => by
    have hlt : j < fn.results.toList.length := (List.getElem?_eq_some_iff.1 hj).1
    have h1 : xr[j]? = some (xr[j]'(by omega)) := List.getElem?_eq_getElem _
    have h2 : rs[j]? = some (rs[j]'(by omega)) := List.getElem?_eq_getElem _
    obtain ⟨v, h3, h5⟩ := res_ok h (e2 j rv _ hj h1) (e4 j _ _ h1 h2)
    exact ⟨_, v, h2, h3, h5⟩
  have hlen : rs.length = fn.results.toList.length := by omega
  have tup : ∀ (vs : List Value), vs.length = rs.length → (∀ (j : Nat) (v : Value) (x : AV), vs[j]? = some v → rs[j]? = some x → AVok (Free S0 B Γ w) Γ w v x) → AVok (Free S0 B Γ w) Γ w (.tuple vs.toArray) (.tup rs) := fun vs h1 h2 => .tup vs rs h1 h2
  rw [results_eq]
  match hq : fn.results.toList, hlen with
  | [], hlen =>
    have hq := toList_eq hq
    have h0 : rs = [] := List.eq_nil_of_length_eq_zero (by simpa using hlen)
    subst h0
    exact ⟨.tuple #[], by simp [hq], .tup [] [] rfl (fun j v x h => by simp at h)⟩
  | [r1], hlen =>
    obtain ⟨x1, v1, g1, k1, q1⟩ := get 0 r1 (by rw [hq]; rfl)
    have hq := toList_eq hq
    have h0 : rs = [x1] := by match rs, hlen, g1 with | [y], _, g1 => simp at g1; rw [g1]
    subst h0
    refine ⟨v1, ?_, k1⟩
    rw [hq]; simp [q1]
  | [r1, r2], hlen =>
    obtain ⟨x1, v1, g1, k1, q1⟩ := get 0 r1 (by rw [hq]; rfl)
    obtain ⟨x2, v2, g2, k2, q2⟩ := get 1 r2 (by rw [hq]; rfl)
    have hq := toList_eq hq
    have h0 : rs = [x1, x2] := by match rs, hlen, g1, g2 with | [y, z], _, g1, g2 => simp at g1 g2; rw [g1, g2]
    subst h0
    refine ⟨.tuple #[v1, v2], ?_, tup [v1, v2] rfl fun j v x h1 h2 => ?_⟩
    · rw [hq]; simp [q1, q2]
    · rcases j with _ | _ | j <;> simp at h1 h2 <;> first | (rw [← h1, ← h2]; assumption) | skip
  | [r1, r2, r3], hlen =>
    obtain ⟨x1, v1, g1, k1, q1⟩ := get 0 r1 (by rw [hq]; rfl)
    obtain ⟨x2, v2, g2, k2, q2⟩ := get 1 r2 (by rw [hq]; rfl)
    obtain ⟨x3, v3, g3, k3, q3⟩ := get 2 r3 (by rw [hq]; rfl)
    have hq := toList_eq hq
    have h0 : rs = [x1, x2, x3] := by match rs, hlen, g1, g2, g3 with | [y, z, t], _, g1, g2, g3 => simp at g1 g2 g3; rw [g1, g2, g3]
    subst h0
    refine ⟨.tuple #[v1, v2, v3], ?_, tup [v1, v2, v3] rfl fun j v x h1 h2 => ?_⟩
    · rw [hq]; simp [q1, q2, q3]
    · rcases j with _ | _ | _ | j <;> simp at h1 h2 <;> first | (rw [← h1, ← h2]; assumption) | skip
  | [r1, r2, r3, r4], hlen =>
    obtain ⟨x1, v1, g1, k1, q1⟩ := get 0 r1 (by rw [hq]; rfl)
    obtain ⟨x2, v2, g2, k2, q2⟩ := get 1 r2 (by rw [hq]; rfl)
    obtain ⟨x3, v3, g3, k3, q3⟩ := get 2 r3 (by rw [hq]; rfl)
    obtain ⟨x4, v4, g4, k4, q4⟩ := get 3 r4 (by rw [hq]; rfl)
    have hq := toList_eq hq
    have h0 : rs = [x1, x2, x3, x4] := by match rs, hlen, g1, g2, g3, g4 with | [y, z, t, s], _, g1, g2, g3, g4 => simp at g1 g2 g3 g4; rw [g1, g2, g3, g4]
    subst h0
    refine ⟨.tuple #[v1, v2, v3, v4], ?_, tup [v1, v2, v3, v4] rfl fun j v x h1 h2 => ?_⟩
    · rw [hq]; simp [q1, q2, q3, q4]
    · rcases j with _ | _ | _ | _ | j <;> simp at h1 h2 <;> first | (rw [← h1, ← h2]; assumption) | skip
  | _ :: _ :: _ :: _ :: _ :: _, hlen =>
    have := congrArg List.length hq
    simp at this; omega

theorem Gam.none_dead {k g ver : Nat} {oi : OI} (h : Gam.none.live k g ver oi) : False := by have := h.1; injection this with _ q; cases q

theorem comp_parts {f : Nat} {xfn : XFunc} (hcf : compF P (own f) f = some xfn) : ∃ fn code, P.funcs[f]? = some fn ∧ fn.body = some code ∧ compCode P (own f) code = some xfn.body ∧ fn.results.toList.mapM (compRes P) = some xfn.results ∧ fn.results.size ≤ 4 ∧ xfn.ntmps = fn.ntmps := by
  unfold compF at hcf
  split at hcf <;> try (cases hcf; done)
  rename_i fn hfn
  split at hcf <;> try (cases hcf; done)
  rename_i code hcode
  split at hcf <;> try (cases hcf; done)
  rename_i x xr hx hxr
  split at hcf <;> try (cases hcf; done)
  rename_i h6
  injection hcf with hcf; subst hcf
  exact ⟨fn, code, hfn, hcode, hx, hxr, h6, rfl⟩
theorem start_tmp {S : Nat → Prop} {Γ : Gam} {w : World} {fn : XFunc} {n : Nat} (hn : fn.ntmps = n) {vals : List Value} {args : List AV} {η : Heap} (hl : vals.length = args.length) (h : ∀ (j : Nat) (u : Value) (x : AV), vals[j]? = some u → args[j]? = some x → AVok S Γ w u x) :
    (start fn args η).σ.length = (vals.toArray ++ Array.replicate (n - vals.toArray.size) undef).size ∧ ∀ (t : Nat) (u : Value) (y : AV), (vals.toArray ++ Array.replicate (n - vals.toArray.size) undef)[t]? = some u → (start fn args η).σ[t]? = some y → AVok S Γ w u y := by
  subst hn
  refine ⟨by simp [start, hl], fun t u y hu hy => ?_⟩
  simp only [start] at hy
  rw [Array.getElem?_append] at hu
  rw [List.getElem?_append] at hy
  by_cases ht : t < args.length
  · rw [if_pos ht] at hy
    rw [if_pos (by simpa [hl] using ht)] at hu
    exact h t u y (by simpa using hu) hy
  · rw [if_neg ht] at hy
    rw [if_neg (by simpa [hl] using ht)] at hu
    have e1 : y = .v undef := by have := List.mem_of_getElem? hy; exact (List.mem_replicate.1 this).2
    have e2 : u = undef := by have := Array.mem_of_getElem? hu; exact (Array.mem_replicate.1 this).2
    subst e1; subst e2; exact .v _

/-- **a run of the short form is a call** -/
theorem rel_ok (hm : P.follows .mixedOrders = true) (hxf : ∀ f fn, xf f = some fn → compF P (own f) f = some fn) : ∀ n, RelOK P (RelN P xf n)
  | 0 => ⟨fun _ _ _ h => h, fun _ _ _ _ _ _ h => h, fun _ _ _ h => h⟩
  | n + 1 => by
    have ih := rel_ok hm hxf n
    refine ⟨?_, ?_, ?_⟩
    · rintro f args r (h0 | ⟨xfn, o, c, rs, fuel, h1, h2, h3, h4, h5⟩)
      · exact h0
      intro w S0 vals hl hargs hS0 htab
      obtain ⟨fn, code, hfn, hcode, hx, hxr, h6, hnt⟩ := comp_parts (hxf f xfn h1)
      refine calls_of_wp hfn hcode ?_
      have hst : Sits [] w.heap.size S0 w (start xfn args []) { tmps := vals.toArray ++ Array.replicate (fn.ntmps - vals.toArray.size) undef, defers := [] } w := by
        refine ⟨rfl, Gam.none, ?_⟩
        obtain ⟨q1, q2⟩ := start_tmp (η := []) hnt hl (S := Free S0 w.heap.size Gam.none w) (Γ := Gam.none) (w := w) fun j u x hu hx => (hargs j u x hu hx).mono (fun b hb => ⟨⟨hS0 b hb, .inl hb, fun k oi hk => by cases hk⟩, rfl⟩) (.refl _)
        exact {
          below := Below.refl _ _
          base := Nat.le_refl _
          size := q1
          tmp := q2
          ghost := fun p hp => (htab p (hp.resolve_left (fun q => by cases q))).mono (fun b hb => ⟨⟨hS0 b hb, .inl hb, fun k oi hk => by cases hk⟩, rfl⟩) (.refl _)
          gen := fun k => rfl
          non := fun k hk => rfl
          row := fun k ob hk => by cases hk
          apart := fun k k' oi oi' b _ hk => by cases hk }
      obtain ⟨m, hwp⟩ := ex_ok (G := []) (B := w.heap.size) (S0 := S0) (w0 := w) (own := own f) hm ih h2
      refine (hwp code hx _ w _ hst fun a' w' hs => ?_).wp
      obtain ⟨hd, Γ, hH⟩ := hs
      obtain ⟨v, hr, hok⟩ := results_ok hH hxr h6 h4
      have hfin := reify_ok hH fuel v _ r hok h5
      have hpost : a'.defers = [] ∧ ∃ v, (results fn a'.tmps).run P w' = .ok v w' ∧ ∃ v', Ending.returned v = .returned v' ∧ Below w.heap.size w w' ∧ AVok (fun b => S0 b ∨ w.heap.size ≤ b ∧ b < w'.heap.size) Gam.none w' v' r :=
        ⟨hd, v, hr, v, rfl, hH.below, hfin.mono (fun b hb => ⟨hb.2.imp id (fun q => ⟨q, hb.1⟩), rfl⟩) (.refl _)⟩
      rcases h3 with rfl | rfl <;> exact hpost
    · rintro kb f args η r η' (h0 | ⟨xfn, o, c, rs, h1, h2, h3, h4, rfl, rfl⟩)
      · exact h0
      intro G B S0 w0 Γ w vals hl hH0 hargs
      obtain ⟨fn, code, hfn, hcode, hx, hxr, h6, hnt⟩ := comp_parts (hxf f xfn h1)
      refine calls_of_wp hfn hcode ?_
      have hst : Sits G B S0 w0 (start xfn args η) { tmps := vals.toArray ++ Array.replicate (fn.ntmps - vals.toArray.size) undef, defers := [] } w := by
        refine ⟨rfl, Γ, ?_⟩
        obtain ⟨q1, q2⟩ := start_tmp (η := η) hnt hl hargs
        exact { hH0 with size := q1, tmp := q2 }
      obtain ⟨m, hwp⟩ := ex_ok (G := G) (B := B) (S0 := S0) (w0 := w0) (own := own f) hm ih h2
      refine (hwp code hx _ w _ hst fun a' w' hs => ?_).wp
      obtain ⟨hd, Γ', hH⟩ := hs
      obtain ⟨v, hr, hok⟩ := results_ok hH hxr h6 h4
      have hpost : a'.defers = [] ∧ ∃ v, (results fn a'.tmps).run P w' = .ok v w' ∧ ∃ v' Γ', Ending.returned v = .returned v' ∧ Holds G B S0 w0 Γ' ⟨[], c.η⟩ #[] w' ∧ AVok (Free S0 B Γ' w') Γ' w' v' (retOf rs) :=
        ⟨hd, v, hr, v, Γ', rfl, { hH with size := rfl, tmp := fun t u x hu => by simp at hu }, hok⟩
      rcases h3 with rfl | rfl <;> exact hpost
    · rintro f args r (h0 | ⟨xfn, o, c, rs, h1, h2, h3, h4, h5⟩)
      · exact h0
      intro w S0 vals hl hargs hS0 htab
      obtain ⟨fn, code, hfn, hcode, hx, hxr, h6, hnt⟩ := comp_parts (hxf f xfn h1)
      refine calls_of_wp hfn hcode ?_
      have hst : Sits [] w.heap.size S0 w (start xfn args []) { tmps := vals.toArray ++ Array.replicate (fn.ntmps - vals.toArray.size) undef, defers := [] } w := by
        refine ⟨rfl, Gam.none, ?_⟩
        obtain ⟨q1, q2⟩ := start_tmp (η := []) hnt hl (S := Free S0 w.heap.size Gam.none w) (Γ := Gam.none) (w := w) fun j u x hu hx => (hargs j u x hu hx).mono (fun b hb => ⟨⟨hS0 b hb, .inl hb, fun k oi hk => by cases hk⟩, rfl⟩) (.refl _)
        exact {
          below := Below.refl _ _
          base := Nat.le_refl _
          size := q1
          tmp := q2
          ghost := fun p hp => (htab p (hp.resolve_left (fun q => by cases q))).mono (fun b hb => ⟨⟨hS0 b hb, .inl hb, fun k oi hk => by cases hk⟩, rfl⟩) (.refl _)
          gen := fun k => rfl
          non := fun k hk => rfl
          row := fun k ob hk => by cases hk
          apart := fun k k' oi oi' b _ hk => by cases hk }
      obtain ⟨m, hwp⟩ := ex_ok (G := []) (B := w.heap.size) (S0 := S0) (w0 := w) (own := own f) hm ih h2
      refine (hwp code hx _ w _ hst fun a' w' hs => ?_).wp
      obtain ⟨hd, Γ, hH⟩ := hs
      obtain ⟨v, hr, hok⟩ := results_ok hH hxr h6 h4
      have hfin := reifyN_ok hH hok h5
      have hpost : a'.defers = [] ∧ ∃ v, (results fn a'.tmps).run P w' = .ok v w' ∧ ∃ v', Ending.returned v = .returned v' ∧ Below w.heap.size w w' ∧ AVok (NewB w.heap.size w') Gam.none w' v' r :=
        ⟨hd, v, hr, v, rfl, hH.below, hfin⟩
      rcases h3 with rfl | rfl <;> exact hpost
theorem Runs.pure (hm : P.follows .mixedOrders = true) (hxf : ∀ f fn, xf f = some fn → compF P (own f) f = some fn) {f : Nat} {args : List AV} {r : AV} (h : Runs P xf f args r) : Pure P f args r := by
  obtain ⟨n, h⟩ := h
  exact (rel_ok hm hxf n).p f args r h
theorem RunsR.pureR (hm : P.follows .mixedOrders = true) (hxf : ∀ f fn, xf f = some fn → compF P (own f) f = some fn) {kb f : Nat} {args : List AV} {η η' : Heap} {r : AV} (h : RunsR P xf kb f args η r η') : PureR P f args η r η' := by
  obtain ⟨n, h⟩ := h
  exact (rel_ok hm hxf n).q kb f args η r η' h
end
end Go.Proofs.Eng
