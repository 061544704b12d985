/-
  The operations one by one: reading.
-/
import Derived.Test.YtdmffkknghianaaEngD
set_option linter.unusedSimpArgs false
set_option linter.unusedVariables false
namespace Go.Proofs.Eng
open Go Go.RowKit

section
variable {G : List (Value × AV)} {B : Nat} {S0 : Nat → Prop} {w0 w : World} {Γ : Gam} {c : Cfg} {a : Act} {P : Program} {d : Nat} {oi : OI} {ob : Ob}

/-- what an operation does, in the values and in memory -/
def Does (G : List (Value × AV)) (B : Nat) (S0 : Nat → Prop) (w0 : World) (Γ : Gam) (c : Cfg) (P : Program) (o : Oper) (a : Act) (w : World) : Res → Prop
  | .val x => ∃ u w', (execOp a.eval o).run P w = .ok (.value u) w' ∧ Below w.heap.size w w' ∧ AVok (Free S0 B Γ w') Γ w' u x
  | .upd x k r => ∃ n u w' Γ', (execOp a.eval o).run P w = .ok n w' ∧ (n = .value u ∨ (n = .skip ∧ u = undef)) ∧ Holds G B S0 w0 Γ' ⟨c.σ, putAt c.η k r⟩ a.tmps w' ∧ AVok (Free S0 B Γ' w') Γ' w' u x
  | .call f args => ∃ vals : List Value, (execOp a.eval o).run P w = .ok (.enter f vals.toArray) w ∧ vals.length = args.length ∧ ∀ (j : Nat) (u : Value) (x : AV), vals[j]? = some u → args[j]? = some x → AVok (Free S0 B Γ w) Γ w u x
theorem Does.pure {o : Oper} {u : Value} {x : AV} (hr : (execOp a.eval o).run P w = .ok (.value u) w) (hx : AVok (Free S0 B Γ w) Γ w u x) : Does G B S0 w0 Γ c P o a w (.val x) := ⟨u, w, hr, Below.refl _ _, hx⟩

theorem Holds.arg (h : Holds G B S0 w0 Γ c a.tmps w) {x : Operand} {xa : XArg} (hx : argT x = some xa) : AVok (Free S0 B Γ w) Γ w (a.eval x) (evalA c.σ xa) := arg_ok h.size h.tmp (fun g y hy => h.ghost (.pointer (some ⟨g, 0, none⟩), y) (.inr ⟨g, y, hy, rfl⟩)) hx

/-- a reference to an owned row that is there -/
theorem Holds.ref (h : Holds G B S0 w0 Γ c a.tmps w) {k g ver0 : Nat} {ob : Ob} (hk : look c.η k = (g, some ob)) (hv0 : ver0 = ob.xs.length) (hx0 : (∃ oi', Γ.live k g ver0 oi') ∨ Γ.dead k g ver0) : ∃ oi, Γ k = (g, some oi) ∧ RowOk S0 B Γ w oi ob ∧ (∀ ver oi', ver = ob.xs.length → Γ.live k g ver oi' → oi' = oi) ∧ ∀ ver, ver = ob.xs.length → ¬ Γ.dead k g ver := by
  obtain ⟨oi, h1, h2⟩ := h.row k ob (by rw [hk])
  have hg : (Γ k).1 = g := by rw [h.gen k, hk]
  have h2 := h2.resolve_right fun q => q.no h1 hg hv0 hx0
  have e : Γ k = (g, some oi) := by rw [← hg, ← h1]
  refine ⟨oi, e, h2, fun ver oi' _ hl => ?_, fun ver hv hd => ?_⟩
  · have := hl.1; rw [e] at this; injection this with _ h3; injection h3 with h3; exact h3.symm
  · rcases hd with hd | ⟨_, hd⟩
    · omega
    · have := hd oi h1; rw [h2.ver] at this; omega
/-- the cells of an owned row -/
theorem RowOk.at (h : RowOk S0 B Γ w oi ob) {b : Nat} (hb : oi.val.ownBlock = some b) : ∃ us, At w b 0 us ∧ Cells (Free S0 B Γ w) Γ w us (flat ob.xs) ∧ w.ownsRow B ob.e ob.s oi.val ob.xs.length us := by
  obtain ⟨us, h3, h4, h5, h6⟩ := h.cells
  refine ⟨us, fun j u hj => ?_, ⟨h3, h5, h4⟩, h6⟩
  have := h6.cells hb j u hj
  rw [Addr.add_lit] at this
  exact this
/-- the cells of one element -/
theorem Cells.elem {S : Nat → Prop} {us : List Value} {xs : List AV} {s : Nat} (hc : Cells S Γ w us (flat xs)) (hw : ∀ x, x ∈ xs → width x = s) {i : Nat} {y : AV} (hi : xs[i]? = some y) : Cells S Γ w ((us.drop (i * s)).take s) (cellsOf y) := by
  have h1 := (hc.drop (i * s)).take s
  have hlt : i < xs.length := (List.getElem?_eq_some_iff.1 hi).1
  have hwy : (cellsOf y).length = s := hw y (List.mem_of_getElem? hi)
  have e : ((flat xs).drop (i * s)).take s = cellsOf y := by
    apply List.ext_getElem?
    intro j
    rw [List.getElem?_take, List.getElem?_drop]
    by_cases hj : j < s
    · rw [if_pos hj, flat_at hw hi hj]
    · rw [if_neg hj, List.getElem?_eq_none (by omega)]
  rw [e] at h1
  exact h1

theorem do_mv (h : Holds G B S0 w0 Γ c a.tmps w) {o : Oper} {x : Operand} {xa : XArg} (ho : o.op = .move x ∨ o.op = .assign x) (hx : argT x = some xa) {r : Res} (hs : step P d c (.mv xa) = some r) : Does G B S0 w0 Γ c P o a w r := by
  simp only [step, Option.some.injEq] at hs
  subst hs
  exact .pure (by rcases ho with ho | ho <;> simp [execOp, ho]) (h.arg hx)
theorem do_pick (h : Holds G B S0 w0 Γ c a.tmps w) {o : Oper} {k x y : Operand} {ka xa ya : XArg} (ho : o.op = .pick k x y) (hk : argT k = some ka) (hx : argT x = some xa) (hy : argT y = some ya) {r : Res} (hs : step P d c (.pick ka xa ya) = some r) : Does G B S0 w0 Γ c P o a w r := by
  have h1 := h.arg hk
  simp only [step] at hs
  split at hs <;> first | (injection hs with hs; subst hs) | cases hs
  · rename_i e; rw [e] at h1; cases hv : a.eval k <;> rw [hv] at h1 <;> cases h1
    exact .pure (by simp [execOp, ho, hv, asBool]) (h.arg hx)
  · rename_i e; rw [e] at h1; cases hv : a.eval k <;> rw [hv] at h1 <;> cases h1
    exact .pure (by simp [execOp, ho, hv, asBool]) (h.arg hy)
theorem v_inv {S : Nat → Prop} {u x : Value} (h : AVok S Γ w u (.v x)) : u = x := by cases h; rfl
theorem binI_ok {op : BinOp} {k : IntKind} {x y : Int} {u : Value} (h : binI op k x y = some u) (hsh : op ≠ .shl ∧ op ≠ .shr) (t : TypeId) : (binOp op t (.int k x) (.int k y)).run P w = .ok u w := by
  cases op <;> simp_all [binI, binOp, Op.intArith, Op.intDiv, Op.intBits, Op.intCmp]
theorem binV_ok {op : BinOp} {x y u : Value} (h : binV op x y = some u) (t : TypeId) (xo yo : Operand) : (do eqGuard op t xo yo x y; binOp op t x y : Sem Value).run P w = .ok u w := by
  unfold binV at h
  split at h
  · rename_i k a k' b
    have hg : (eqGuard op t xo yo (.int k a) (.int k' b)).run P w = .ok () w := by
      unfold eqGuard; cases op <;> simp
    simp only [Sem.run_bind, hg, Result.andThen_ok]
    split at h
    · split at h
      · cases h
      · injection h with h; subst h; rename_i hb; simp [binOp, Op.shift, hb]
    · split at h
      · cases h
      · injection h with h; subst h; rename_i hb; simp [binOp, Op.shift, hb]
    · rename_i hn1 hn2
      split at h
      · rename_i hk; subst hk
        exact binI_ok h ⟨hn1, hn2⟩ t
      · cases h
  · rename_i x y
    have hg : (eqGuard op t xo yo (.string x) (.string y)).run P w = .ok () w := by
      unfold eqGuard; cases op <;> simp
    simp only [Sem.run_bind, hg, Result.andThen_ok]
    cases op <;> simp_all [binS, binOp, Op.stringOp]
    all_goals (first | (split at h <;> simp_all; done) | skip)
    all_goals (obtain ⟨h1, rfl⟩ := h; rw [if_neg (by omega)]; rfl)
  · cases h
theorem do_bin (h : Holds G B S0 w0 Γ c a.tmps w) {o : Oper} {op : BinOp} {t t' : TypeId} {x y : Operand} {xa ya : XArg} (ho : o.op = .binOp op t x y t') (hx : argT x = some xa) (hy : argT y = some ya) {r : Res} (hs : step P d c (.bin op xa ya) = some r) : Does G B S0 w0 Γ c P o a w r := by
  have h1 := h.arg hx
  have h2 := h.arg hy
  simp only [step] at hs
  split at hs <;> try (cases hs; done)
  rename_i u v e1 e2
  rw [e1] at h1; rw [e2] at h2
  have h1 := v_inv h1; have h2 := v_inv h2
  split at hs <;> try (cases hs; done)
  injection hs with hs; subst hs
  rename_i z hz
  have hr := binV_ok (P := P) (w := w) hz t x y
  refine .pure (u := z) ?_ (.v z)
  simp only [execOp, ho, h1, h2]
  simp only [Sem.run_bind] at hr ⊢
  rw [hr]; rfl
theorem do_un (h : Holds G B S0 w0 Γ c a.tmps w) {o : Oper} {op : UnOp} {t : TypeId} {x : Operand} {xa : XArg} (ho : o.op = .unOp op t x) (hx : argT x = some xa) {r : Res} (hs : step P d c (.un op xa) = some r) : Does G B S0 w0 Γ c P o a w r := by
  have h1 := h.arg hx
  simp only [step] at hs
  split at hs <;> try (cases hs; done)
  rename_i u e1
  rw [e1] at h1
  have h1 := v_inv h1
  split at hs <;> try (cases hs; done)
  injection hs with hs; subst hs
  rename_i z hz
  refine .pure (u := z) ?_ (.v z)
  simp only [execOp, ho, h1]
  unfold unV at hz
  split at hz <;> simp_all [Op.unary, Op.intArith]
theorem do_load (h : Holds G B S0 w0 Γ c a.tmps w) {o : Oper} {t : TypeId} {p : Operand} {pa : XArg} {s : Nat} {agg : Bool} (ho : o.op = .load t p) (hp : argT p = some pa) (ht : sizeO P t = some (s, agg)) {r : Res} (hs : step P d c (.load s agg pa) = some r) : Does G B S0 w0 Γ c P o a w r := by
  have h1 := h.arg hp
  simp only [step] at hs
  split at hs
  · rename_i x e
    rw [e] at h1
    split at hs <;> try (cases hs; done)
    injection hs with hs; subst hs
    rename_i y hy
    generalize hv : a.eval p = pv at h1
    cases h1 with | ptr g o _ us hl h2 hu hS hA =>
    obtain ⟨u, hr, hok⟩ := run_load_ok ht hA ⟨hl, h2, hu⟩ hy
    exact .pure (u := u) (by simp [execOp, ho, hv, Instr.loadAt, Instr.sureAddr]; rw [Nat.add_zero] at hr; rw [hr]; rfl) hok
  · rename_i k g ver i j e
    rw [e] at h1
    split at hs <;> try (cases hs; done)
    rename_i g' ob hlk
    split at hs <;> try (cases hs; done)
    rename_i hc
    obtain ⟨rfl, hver⟩ := hc
    split at hs <;> try (cases hs; done)
    rename_i y hy
    split at hs <;> try (cases hs; done)
    injection hs with hs; subst hs
    rename_i z hz
    obtain ⟨oi, hΓ, hro, hlive, hnd⟩ := h.ref hlk hver.symm h1.ldO
    generalize hv : a.eval p = pv at h1
    cases h1 with
    | oLive _ _ _ _ _ b oi2 hl hb =>
      have := hlive ver oi2 hver.symm hl
      subst this
      obtain ⟨us, hA, hcs, _⟩ := hro.at hb
      have he := hcs.elem hro.wid hy
      have hA2 := (hA.drop (i * ob.s)).take ob.s
      obtain ⟨u, hr, hok⟩ := run_load_ok ht hA2 he hz
      rw [Nat.zero_add, ← hro.s] at hr
      exact .pure (u := u) (by simp [execOp, ho, hv, Instr.loadAt, Instr.sureAddr]; rw [hr]; rfl) hok
    | oDead _ _ _ _ _ _ _ hd => exact (hnd ver hver.symm hd).elim
  · cases hs
end
end Go.Proofs.Eng
