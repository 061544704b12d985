/-
  The operations one by one: addresses, parts, slices, interfaces, new memory that nobody writes.
-/
import Derived.Test.YtdmffkknghianaaEngE
import Derived.Laws.Build
set_option linter.unusedSimpArgs false
set_option linter.unusedVariables false
namespace Go.Proofs.Eng
open Go Go.RowKit

section
variable {G : List (Value × AV)} {B : Nat} {S0 : Nat → Prop} {w0 w : World} {Γ : Gam} {c : Cfg} {a : Act} {P : Program} {d : Nat} {oi : OI} {ob : Ob}

theorem part_ptr {S : Nat → Prop} {us : List Value} {cs : List AV} (hc : Cells S Γ w us cs) {g o : Nat} (hS : S g) (hA : At w g o us) {agg : Bool} {s off : Nat} {y : AV} (hp : part agg s cs off = some y) (hs : agg = false → s = 1) :
    AVok S Γ w (.pointer (some ⟨g, o + off, none⟩)) (.ptr y) := by
  obtain ⟨vs, hl, hvs, hc2, hw, _, _⟩ := part_ok hc hp hs
  exact .ptr g (o + off) y vs hc2.len hc2.one hc2.ok hS (by rw [hvs]; exact (hA.drop off).take s)

theorem asInt_inv {S : Nat → Prop} {u : Value} {x : AV} {z : Int} (h : AVok S Γ w u x) (hz : asInt x = some z) : ∃ k, u = .int k z := by
  unfold asInt at hz
  split at hz
  · injection hz with hz; subst hz; rename_i k z; exact ⟨k, v_inv h⟩
  · cases hz

theorem do_fadr (h : Holds G B S0 w0 Γ c a.tmps w) {o : Oper} {st : TypeId} {p : Operand} {pa : XArg} {f : Nat} {fs : Array Field} {fd : Field} {s : Nat} {agg : Bool} (ho : o.op = .fieldAddr st p f) (hp : argT p = some pa) (hst : P.underlying st = some (.struct fs)) (hf : fs[f]? = some fd)
    (ht : sizeO P fd.type = some (s, agg)) {r : Res} (hs : step P d c (.fadr fd.offset s agg pa) = some r) : Does G B S0 w0 Γ c P o a w r := by
  have h1 := h.arg hp
  obtain ⟨i, dd, hi, hd, hsz, hag, hs0, hs1⟩ := sizeO_ok ht
  have hrun : ∀ g of, a.eval p = .pointer (some ⟨g, of, none⟩) → (execOp a.eval o).run P w = .ok (.value (.pointer (some ⟨g, of + fd.offset, none⟩))) w := fun g of hv => by
    have hne : ¬ i.size = 0 := by omega
    simp [execOp, ho, Instr.fieldAt, run_underlying hst, hf, hv, Instr.sureAddr, fieldPlace, sizeOf, typeInfo, hi, hne, Addr.add_lit]
  simp only [step] at hs
  split at hs
  · rename_i x e
    rw [e] at h1
    split at hs <;> try (cases hs; done)
    injection hs with hs; subst hs
    rename_i y hy
    generalize hv : a.eval p = pv at h1
    cases h1 with | ptr g of _ us hl h2 hu hS hA =>
    exact .pure (hrun g of hv) (part_ptr ⟨hl, h2, hu⟩ hS hA hy hs1)
  · rename_i k g ver i j e
    rw [e] at h1
    injection hs with hs; subst hs
    generalize hv : a.eval p = pv at h1
    cases h1 with
    | oLive _ _ _ _ _ b oi2 hl hb =>
      refine .pure (hrun b _ hv) ?_
      rw [Nat.add_assoc]
      exact .oLive k g ver i (j + fd.offset) b oi2 hl hb
    | oDead b f' _ _ _ _ _ hd => exact .pure (hrun b _ hv) (.oDead b _ k g ver i _ hd)
  · cases hs
theorem do_fld (h : Holds G B S0 w0 Γ c a.tmps w) {o : Oper} {st : TypeId} {p : Operand} {pa : XArg} {f : Nat} {fs : Array Field} {fd : Field} {s : Nat} {agg : Bool} (ho : o.op = .field st p f) (hp : argT p = some pa) (hst : P.underlying st = some (.struct fs)) (hf : fs[f]? = some fd)
    (ht : sizeO P fd.type = some (s, agg)) {r : Res} (hs : step P d c (.fld fd.offset s agg pa) = some r) : Does G B S0 w0 Γ c P o a w r := by
  have h1 := h.arg hp
  obtain ⟨i, dd, hi, hd, hsz, hag, hs0, hs1⟩ := sizeO_ok ht
  simp only [step] at hs
  split at hs <;> try (cases hs; done)
  rename_i cs e
  rw [e] at h1
  split at hs <;> try (cases hs; done)
  injection hs with hs; subst hs
  rename_i y hy
  generalize hv : a.eval p = pv at h1
  cases h1 with | ag vs _ hl h1 hu =>
  obtain ⟨us, hul, hus, _, _, ha, hb⟩ := part_ok ⟨hl, h1, hu⟩ hy hs1
  have hprt : ∀ u, (agg = true → u = .agg us.toArray) → (agg = false → vs[fd.offset]? = some u) → (execOp a.eval o).run P w = .ok (.value u) w := fun u h2 h3 => by
    simp only [execOp, ho, Instr.field, Sem.run_bind, run_underlying hst, Result.andThen_ok, hf, hv, asAgg, Sem.run_pure, Go.part, isAgg, run_underlying hd]
    cases agg with
    | true =>
      have h4 := h2 rfl
      subst h4
      cases dd <;> simp [isAggD] at hag <;> simp [sizeOf, typeInfo, hi, hsz, hus, List.take_drop]
    | false =>
      have h4 := h3 rfl
      cases dd <;> simp [isAggD] at hag <;> simp [h4]
  cases agg with
  | true => exact .pure (hprt _ (fun _ => rfl) (fun e => by cases e)) (ha rfl)
  | false =>
    obtain ⟨u, h2, _, h4⟩ := hb rfl
    exact .pure (hprt u (fun e => by cases e) (fun _ => h2)) h4
theorem do_iadr (h : Holds G B S0 w0 Γ c a.tmps w) {o : Oper} {t e : TypeId} {x i : Operand} {xa ia : XArg} {s : Nat} {agg : Bool} (ho : o.op = .indexAddr t x i) (hx : argT x = some xa) (hi : argT i = some ia) (hst : P.underlying t = some (.slice e))
    (ht : sizeO P e = some (s, agg)) {r : Res} (hs : step P d c (.iadr s xa ia) = some r) : Does G B S0 w0 Γ c P o a w r := by
  have h1 := h.arg hx
  have h2 := h.arg hi
  obtain ⟨ii, dd, hii, hd, hsz, hag, hs0, hs1⟩ := sizeO_ok ht
  have hrun : ∀ k z b of n cp, a.eval i = .int k z → a.eval x = .slice (some ⟨b, of, none⟩) n cp → 0 ≤ z → z < n → (execOp a.eval o).run P w = .ok (.value (.pointer (some ⟨b, of + z.toNat * s, none⟩))) w := fun k z b of n cp hv1 hv2 hz hzn => by
    simp [execOp, ho, Instr.indexAt, asIntOf, run_underlying hst, hv1, hv2, sizeOf, typeInfo, hii, hsz, hz, hzn, Addr.add_lit]
  simp only [step] at hs
  split at hs
  · rename_i z s' f xs hz e1
    obtain ⟨k, hk⟩ := asInt_inv h2 hz
    rw [e1] at h1
    split at hs <;> try (cases hs; done)
    rename_i hc
    obtain ⟨rfl, hz0⟩ := hc
    split at hs <;> try (cases hs; done)
    injection hs with hs; subst hs
    rename_i y hy
    obtain ⟨hlt, _⟩ := List.getElem?_eq_some_iff.1 hy
    generalize hv : a.eval x = pv at h1
    cases h1 with | sl A cp _ _ _ us hcp hf hw hl hcap hu h1 hA hN =>
    obtain ⟨g, of, rfl, hS, hAt⟩ := hA (by intro e; rw [e] at hlt; simp at hlt)
    refine .pure (hrun k z g of _ cp hk hv hz0 (by omega)) ?_
    have hcs : Cells (Free S0 B Γ w) Γ w us (flat xs) := ⟨hl, h1, hu⟩
    have he := hcs.elem hw hy
    exact .ptr g _ y _ (by rw [he.len]; rfl) he.one he.ok hS ((hAt.drop _).take _)
  · rename_i z k g ver s' lo n hz e1
    obtain ⟨kk, hk⟩ := asInt_inv h2 hz
    rw [e1] at h1
    split at hs <;> try (cases hs; done)
    rename_i hc
    obtain ⟨rfl, hz0, hzn⟩ := hc
    injection hs with hs; subst hs
    generalize hv : a.eval x = pv at h1
    cases h1 with
    | osLive _ _ _ _ _ _ cp A oi hl hs hn hcp hcm hwh hA hN =>
      obtain ⟨b, hb, rfl⟩ := hA (by omega)
      refine .pure (hrun kk z b _ n cp hk hv hz0 hzn) ?_
      have := AVok.oLive (S := Free S0 B Γ w) (Γ := Γ) (w := w) k g ver (lo + z.toNat) 0 b oi hl hb
      rw [Nat.add_zero, hs, Nat.add_mul] at this
      exact this
    | osDead _ _ _ _ _ _ cp A hd hcp hcm hA hN =>
      obtain ⟨b, f, rfl⟩ := hA (by omega)
      exact .pure (hrun kk z b _ n cp hk hv hz0 hzn) (.oDead _ _ _ _ _ _ _ hd)
  · cases hs
theorem do_aadr (h : Holds G B S0 w0 Γ c a.tmps w) {o : Oper} {t e : TypeId} {x i : Operand} {xa ia : XArg} {m s : Nat} {agg : Bool} (ho : o.op = .indexAddr t x i) (hx : argT x = some xa) (hi : argT i = some ia) (hst : P.underlying t = some (.array m e))
    (ht : sizeO P e = some (s, agg)) {r : Res} (hs : step P d c (.aadr m s agg xa ia) = some r) : Does G B S0 w0 Γ c P o a w r := by
  have h1 := h.arg hx
  have h2 := h.arg hi
  obtain ⟨ii, dd, hii, hd, hsz, hag, hs0, hs1⟩ := sizeO_ok ht
  have hrun : ∀ k z b of, a.eval i = .int k z → a.eval x = .pointer (some ⟨b, of, none⟩) → 0 ≤ z → z < m → (execOp a.eval o).run P w = .ok (.value (.pointer (some ⟨b, of + z.toNat * s, none⟩))) w := fun k z b of hv1 hv2 hz hzn => by
    simp [execOp, ho, Instr.indexAt, asIntOf, run_underlying hst, hv1, hv2, sizeOf, typeInfo, hii, hsz, hz, hzn, Addr.add_lit, Instr.sureAddr]
  simp only [step] at hs
  split at hs
  · rename_i z y hz e1
    obtain ⟨k, hk⟩ := asInt_inv h2 hz
    rw [e1] at h1
    split at hs <;> try (cases hs; done)
    rename_i hc
    split at hs <;> try (cases hs; done)
    injection hs with hs; subst hs
    rename_i y hy
    generalize hv : a.eval x = pv at h1
    cases h1 with | ptr g of _ us hl h2 hu hS hA =>
    exact .pure (hrun k z g of hk hv hc.1 hc.2) (part_ptr ⟨hl, h2, hu⟩ hS hA hy hs1)
  · rename_i z k g ver i' j hz e1
    obtain ⟨kk, hk⟩ := asInt_inv h2 hz
    rw [e1] at h1
    split at hs <;> try (cases hs; done)
    rename_i hc
    injection hs with hs; subst hs
    generalize hv : a.eval x = pv at h1
    cases h1 with
    | oLive _ _ _ _ _ b oi2 hl hb =>
      refine .pure (hrun kk z b _ hk hv hc.1 hc.2) ?_
      rw [Nat.add_assoc]
      exact .oLive k g ver i' _ b oi2 hl hb
    | oDead b f' _ _ _ _ _ hd => exact .pure (hrun kk z b _ hk hv hc.1 hc.2) (.oDead b _ k g ver i' _ hd)
  · cases hs
theorem do_idx (h : Holds G B S0 w0 Γ c a.tmps w) {o : Oper} {t e : TypeId} {x i : Operand} {xa ia : XArg} {m s : Nat} {agg : Bool} (ho : o.op = .index t x i) (hx : argT x = some xa) (hi : argT i = some ia) (hst : P.underlying t = some (.array m e))
    (ht : sizeO P e = some (s, agg)) {r : Res} (hs : step P d c (.idx m s agg xa ia) = some r) : Does G B S0 w0 Γ c P o a w r := by
  have h1 := h.arg hx
  have h2 := h.arg hi
  obtain ⟨ii, dd, hii, hd, hsz, hag, hs0, hs1⟩ := sizeO_ok ht
  simp only [step] at hs
  split at hs <;> try (cases hs; done)
  rename_i z cs hz e1
  obtain ⟨k, hk⟩ := asInt_inv h2 hz
  rw [e1] at h1
  split at hs <;> try (cases hs; done)
  rename_i hc
  split at hs <;> try (cases hs; done)
  injection hs with hs; subst hs
  rename_i y hy
  generalize hv : a.eval x = pv at h1
  cases h1 with | ag vs _ hl h1 hu =>
  obtain ⟨us, hul, hus, _, _, ha, hb⟩ := part_ok ⟨hl, h1, hu⟩ hy hs1
  have hprt : ∀ u, (agg = true → u = .agg us.toArray) → (agg = false → vs[z.toNat * s]? = some u) → (execOp a.eval o).run P w = .ok (.value u) w := fun u h2 h3 => by
    simp only [execOp, ho, Instr.index, asIntOf, Sem.run_bind, run_underlying hst, Result.andThen_ok, hv, hk, Sem.run_pure, Go.part, isAgg, run_underlying hd, hc, if_true, and_self, Sem.run_ite, sizeOf, typeInfo, run_program, hii, hsz]
    cases agg with
    | true =>
      have h4 := h2 rfl
      subst h4
      cases dd <;> simp [isAggD] at hag <;> simp [sizeOf, typeInfo, hii, hsz, hus, List.take_drop]
    | false =>
      have h4 := h3 rfl
      cases dd <;> simp [isAggD] at hag <;> simp [h4]
  cases agg with
  | true => exact .pure (hprt _ (fun _ => rfl) (fun e => by cases e)) (ha rfl)
  | false =>
    obtain ⟨u, h2, _, h4⟩ := hb rfl
    exact .pure (hprt u (fun e => by cases e) (fun _ => h2)) h4
theorem do_mki (h : Holds G B S0 w0 Γ c a.tmps w) {o : Oper} {t : TypeId} {x : Operand} {xa : XArg} (ho : o.op = .makeInterface t x) (hx : argT x = some xa) (ht : P.concrete t = true) {r : Res} (hs : step P d c (.mki t xa) = some r) : Does G B S0 w0 Γ c P o a w r := by
  have h1 := h.arg hx
  simp only [step] at hs
  split at hs <;> try (cases hs; done)
  injection hs with hs; subst hs
  exact .pure (by simp [execOp, ho, run_makeInterface w t _ ht]) (.ifc t _ _ h1)
theorem do_ext (h : Holds G B S0 w0 Γ c a.tmps w) {o : Oper} {x : Operand} {xa : XArg} {i : Nat} (ho : o.op = .extract x i) (hx : argT x = some xa) {r : Res} (hs : step P d c (.ext xa i) = some r) : Does G B S0 w0 Γ c P o a w r := by
  have h1 := h.arg hx
  simp only [step] at hs
  split at hs <;> try (cases hs; done)
  rename_i xs e
  rw [e] at h1
  split at hs <;> try (cases hs; done)
  injection hs with hs; subst hs
  rename_i y hy
  generalize hv : a.eval x = pv at h1
  cases h1 with | tup vs _ hl hu =>
  obtain ⟨hlt, _⟩ := List.getElem?_eq_some_iff.1 hy
  have hu1 : vs[i]? = some vs[i] := List.getElem?_eq_getElem (by omega)
  exact .pure (u := vs[i]) (by simp [execOp, ho, Instr.extract, hv, hu1]) (hu i _ y hu1 hy)
theorem do_tas (h : Holds G B S0 w0 Γ c a.tmps w) {o : Oper} {xt t : TypeId} {ok : Bool} {x : Operand} {xa : XArg} {z : Value} {dd : TypeDesc} {i : TypeInfo} (ho : o.op = .typeAssert x xt t ok) (hx : argT x = some xa) (hd : P.underlying t = some dd) (hni : ∀ ms, dd ≠ .interface ms)
    (hi : P.info? t = some i) (hz : i.zero = some z) {r : Res} (hs : step P d c (.tas t ok (ofVal z) xa) = some r) : Does G B S0 w0 Γ c P o a w r := by
  have h1 := h.arg hx
  have hzr : (zeroValue t).run P w = .ok z w := by simp [zeroValue, typeInfo, hi, hz]
  have tup2 : ∀ {S : Nat → Prop} {u v : Value} {p q : AV}, AVok S Γ w u p → AVok S Γ w v q → AVok S Γ w (.tuple #[u, v]) (.tup [p, q]) := fun hu hv => .tup [_, _] [_, _] rfl fun j u x hu' hx' => by
    rcases j with _ | _ | j <;> simp at hu' hx'
    · rw [← hu', ← hx']; exact hu
    · rw [← hu', ← hx']; exact hv
  simp only [step] at hs
  split at hs
  · rename_i t' y e
    rw [e] at h1
    generalize hv : a.eval x = pv at h1
    cases h1 with | ifc _ u _ h1 =>
    split at hs
    · rename_i ht; subst ht
      injection hs with hs; subst hs
      cases ok with
      | true => exact .pure (by cases dd <;> first | exact absurd rfl (hni _) | simp [execOp, ho, hv, Instr.typeAssert, run_underlying hd]) (tup2 h1 (.v _))
      | false => exact .pure (by cases dd <;> first | exact absurd rfl (hni _) | simp [execOp, ho, hv, Instr.typeAssert, run_underlying hd]) h1
    · rename_i ht
      split at hs <;> try (cases hs; done)
      injection hs with hs; subst hs
      rename_i hok; subst hok
      exact .pure (by cases dd <;> first | exact absurd rfl (hni _) | simp [execOp, ho, hv, Instr.typeAssert, run_underlying hd, ht, hzr]) (tup2 (ofVal_ok z) (.v _))
  · rename_i e
    rw [e] at h1
    have hv := v_inv h1
    split at hs <;> try (cases hs; done)
    injection hs with hs; subst hs
    rename_i hok; subst hok
    exact .pure (by cases dd <;> first | exact absurd rfl (hni _) | simp [execOp, ho, hv, Instr.typeAssert, run_underlying hd, hzr]) (tup2 (ofVal_ok z) (.v _))
  · cases hs
theorem do_nilc (h : Holds G B S0 w0 Γ c a.tmps w) {o : Oper} {x : Operand} {xa : XArg} (ho : o.op = .nilCheck x) (hx : argT x = some xa) {r : Res} (hs : step P d c (.nilc xa) = some r) : Does G B S0 w0 Γ c P o a w r := by
  have h1 := h.arg hx
  simp only [step] at hs
  split at hs <;> try (cases hs; done)
  · rename_i y e
    rw [e] at h1
    injection hs with hs; subst hs
    generalize hv : a.eval x = pv at h1
    have h2 := h1
    cases h1 with | ptr g of _ us hl h2 hu hS hA =>
    exact .pure (u := .pointer (some ⟨g, of, none⟩)) (by simp [execOp, ho, hv]) h2
  · rename_i k g ver i j e
    rw [e] at h1
    injection hs with hs; subst hs
    generalize hv : a.eval x = pv at h1
    have h2 := h1
    cases h1 with
    | oLive _ _ _ _ _ b oi hl hb => exact .pure (u := .pointer (some ⟨b, i * oi.s + j, none⟩)) (by simp [execOp, ho, hv]) h2
    | oDead b f _ _ _ _ _ hd => exact .pure (u := .pointer (some ⟨b, f, none⟩)) (by simp [execOp, ho, hv]) h2
  · rename_i f cs e
    rw [e] at h1
    injection hs with hs; subst hs
    generalize hv : a.eval x = pv at h1
    have h2 := h1
    cases h1 with | fn _ vs _ hl hu =>
    exact .pure (u := .func (.func f) #[] vs.toArray) (by simp [execOp, ho, hv]) h2
  · rename_i f cs e
    rw [e] at h1
    injection hs with hs; subst hs
    generalize hv : a.eval x = pv at h1
    have h2 := h1
    cases h1 with | bm _ vs _ hl hu =>
    exact .pure (u := .func (.func f) vs.toArray #[]) (by simp [execOp, ho, hv]) h2
end
end Go.Proofs.Eng
