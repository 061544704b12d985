/-
  The operations one by one: maps, and what goes through a string.
-/
import Derived.Test.YtdmffkknghianaaEngJB
import GoSem.Instr.MakeMap
import GoSem.Builtin.Delete
set_option linter.unusedSimpArgs false
set_option linter.unusedVariables false
namespace Go.Proofs.Eng
open Go Go.RowKit

section
variable {G : List (Value × AV)} {B : Nat} {S0 : Nat → Prop} {w0 w : World} {Γ : Gam} {c : Cfg} {a : Act} {P : Program} {d : Nat} {oi : OI} {ob : Ob}

theorem mapM_cells {S : Nat → Prop} : ∀ {cs : List AV} {vs us : List Value}, cs.mapM toCell = some vs → us.length = cs.length → (∀ (j : Nat) (u : Value) (x : AV), us[j]? = some u → cs[j]? = some x → AVok S Γ w u x) → us = vs
  | [], vs, us, h, hl, _ => by
    simp at h; subst h
    exact List.eq_nil_of_length_eq_zero hl
  | y :: cs, vs, us, h, hl, hu => by
    simp only [List.mapM_cons, Option.bind_eq_bind, Option.bind_eq_some_iff, Option.pure_def, Option.some.injEq] at h
    obtain ⟨v, hv, vs', hvs, rfl⟩ := h
    cases us with
    | nil => simp at hl
    | cons u us =>
      have h1 := hu 0 u y rfl rfl
      have h2 : u = v := by
        unfold toCell at hv
        split at hv <;> try (cases hv; done)
        injection hv with hv; subst hv
        exact v_inv h1
      rw [h2, mapM_cells (us := us) hvs (by simpa using hl) (fun j u' x h3 h4 => hu (j + 1) u' x (by simpa using h3) (by simpa using h4))]
theorem toVal_ok {S : Nat → Prop} {u v : Value} {x : AV} (h : AVok S Γ w u x) (hv : toVal x = some v) : u = v := by
  unfold toVal at hv
  split at hv
  · injection hv with hv; subst hv; exact v_inv h
  · obtain ⟨l, hl, rfl⟩ := Option.map_eq_some_iff.1 hv
    cases h with | ag vs _ hlen h1 hu =>
    rw [mapM_cells hl hlen hu]
  · cases hv
theorem pureRun_bind {α β : Type} : ∀ (x : Sem α) (f : α → Sem β), pureRun P (x.bind f) = (pureRun P x).bind fun a => pureRun P (f a)
  | .pure a, f => rfl
  | .program k, f => pureRun_bind (k P) f
  | .load .., _ => rfl
  | .store .., _ => rfl
  | .new .., _ => rfl
  | .shape .., _ => rfl
  | .freeze .., _ => rfl
  | .frozen .., _ => rfl
  | .getObj .., _ => rfl
  | .setObj .., _ => rfl
  | .choose .., _ => rfl
  | .sys .., _ => rfl
  | .mark .., _ => rfl
  | .halt .., _ => rfl

/-- what is found among the keys alone is found among the entries -/
def Found (es : List MapEntry) (i : Nat) (r' r : Option (Nat × Value)) : Prop := (r' = none → r = none) ∧ ∀ j v, r' = some (j, v) → i ≤ j ∧ ∃ e, es[j - i]? = some e ∧ r = some (j, e.val)
theorem Found.more {e : MapEntry} {es : List MapEntry} {i : Nat} {r' r : Option (Nat × Value)} (h : Found es (i + 1) r' r) : Found (e :: es) i r' r := by
  refine ⟨h.1, fun j v hj => ?_⟩
  obtain ⟨h1, e', h2, h3⟩ := h.2 j v hj
  refine ⟨by omega, e', ?_, h3⟩
  rw [show j - i = (j - (i + 1)) + 1 by omega]; exact h2
theorem findNow_keys (kind : TypeDesc) (k : Value) : ∀ (es : List MapEntry) (i : Nat), match Instr.findNow kind k (es.map fun e => bareEnt e.key) i with
    | none => Instr.findNow kind k es i = none
    | some r' => ∃ r, Instr.findNow kind k es i = some r ∧ Found es i r' r
  | [], i => ⟨none, rfl, fun _ => rfl, fun j v h => by cases h⟩
  | e :: es, i => by
    have ih := findNow_keys kind k es (i + 1)
    simp only [List.map_cons, Instr.findNow, bareEnt]
    cases hs : Instr.sameNow kind k e.key with
    | none => rfl
    | some b =>
      cases b with
      | true => exact ⟨_, rfl, ⟨(fun h => by cases h), fun j v h => by injection h with h; injection h with h1 h2; subst h1; exact ⟨Nat.le_refl _, e, by simp, rfl⟩⟩⟩
      | false =>
        simp only
        split
        · rename_i h1; simp only [bareEnt] at ih; rw [h1] at ih; exact ih
        · rename_i r' h1; simp only [bareEnt] at ih; rw [h1] at ih
          obtain ⟨r, h2, h3⟩ := ih
          exact ⟨r, h2, h3.more⟩
theorem findAsking_keys (kt : TypeId) (k : Value) (w : World) : ∀ (es : List MapEntry) (i : Nat) (r' : Option (Nat × Value)), pureRun P (Instr.findAsking kt k (es.map fun e => bareEnt e.key) i) = some r' → ∃ r, (Instr.findAsking kt k es i).run P w = .ok r w ∧ Found es i r' r
  | [], i, r', h => by
    simp only [List.map_nil, Instr.findAsking] at h
    have h : some none = some r' := h
    injection h with h; subst h
    exact ⟨none, rfl, fun _ => rfl, fun j v h => by cases h⟩
  | e :: es, i, r', h => by
    simp only [List.map_cons, Instr.findAsking] at h
    have h : pureRun P ((Op.equal kt k (bareEnt e.key).key).bind fun b => if b = true then (Sem.pure (some (i, (bareEnt e.key).val)) : Sem (Option (Nat × Value))) else Instr.findAsking kt k (es.map fun e => bareEnt e.key) (i + 1)) = some r' := h
    rw [pureRun_bind] at h
    obtain ⟨b, hb, h⟩ := Option.bind_eq_some_iff.1 h
    have hb2 := pureRun_sound P w _ _ hb
    have hb2 : (Op.equal kt k e.key).run P w = .ok b w := hb2
    simp only [Instr.findAsking, Sem.run_bind, hb2, Result.andThen_ok]
    cases b with
    | true =>
      have h : some (some (i, (bareEnt e.key).val)) = some r' := h
      injection h with h; subst h
      exact ⟨_, rfl, ⟨(fun h => by cases h), fun j v h => by injection h with h; injection h with h1 h2; subst h1; exact ⟨Nat.le_refl _, e, by simp, rfl⟩⟩⟩
    | false =>
      have h : pureRun P (Instr.findAsking kt k (es.map fun e => bareEnt e.key) (i + 1)) = some r' := h
      obtain ⟨r, h1, h2⟩ := findAsking_keys kt k w es (i + 1) r' h
      exact ⟨r, h1, h2.more⟩
theorem findKey_keys (kt : TypeId) (k : Value) (w : World) (es : List MapEntry) (r' : Option (Nat × Value)) (h : pureRun P (Instr.findKey kt k (es.map fun e => bareEnt e.key)) = some r') : ∃ r, (Instr.findKey kt k es).run P w = .ok r w ∧ Found es 0 r' r := by
  unfold Instr.findKey at h ⊢
  have h : pureRun P ((underlying kt).bind fun t => match Instr.findNow t k (es.map fun e => bareEnt e.key) 0 with
    | some r => (Sem.pure r : Sem (Option (Nat × Value)))
    | none => Instr.findAsking kt k (es.map fun e => bareEnt e.key)) = some r' := h
  rw [pureRun_bind] at h
  obtain ⟨t, ht, h⟩ := Option.bind_eq_some_iff.1 h
  have ht2 := pureRun_sound P w _ _ ht
  simp only [Sem.run_bind, ht2, Result.andThen_ok]
  have hn := findNow_keys t k es 0
  cases hf : Instr.findNow t k (es.map fun e => bareEnt e.key) 0 with
  | none =>
    rw [hf] at hn h
    simp only at hn h
    rw [hn]
    exact findAsking_keys kt k w es 0 r' h
  | some r2 =>
    rw [hf] at hn h
    simp only at hn h
    have h : some r2 = some r' := h
    injection h with h; subst h
    obtain ⟨r, h1, h2⟩ := hn
    rw [h1]
    exact ⟨r, rfl, h2⟩

/-- an owned map, as it lies -/
structure MapIs (B : Nat) (S0 : Nat → Prop) (Γ : Gam) (w : World) (k g : Nat) (ob : Ob) (oi : OI) (b : Nat) (es : Array MapEntry) (clock : Nat) (l : List AV) : Prop where
  gam : Γ k = (g, some oi)
  ver : oi.ver = 0
  blk : oi.val.ownBlock = some b
  base : B ≤ b
  lies : w.heap[b]? = some (.map es clock)
  xs : ob.xs = .any :: l
  len : l.length = es.size
  ent : ∀ (j : Nat) (e : MapEntry) (x : AV), es[j]? = some e → l[j]? = some x → ∃ kx vx, x = .tup [kx, vx] ∧ AVok (Free S0 B Γ w) Γ w e.key kx ∧ AVok (Free S0 B Γ w) Γ w e.val vx
theorem Holds.obj (h : Holds G B S0 w0 Γ c a.tmps w) {k g : Nat} (hk : look c.η k = (g, some ob)) (hs0 : ob.s = 0) : ∃ oi, Γ k = (g, some oi) ∧ MapOk S0 B Γ w oi ob := by
  obtain ⟨oi, h1, h2⟩ := h.row k ob (by rw [hk])
  have hg : (Γ k).1 = g := by rw [h.gen k, hk]
  refine ⟨oi, by rw [← hg, ← h1], h2.resolve_left fun q => ?_⟩
  have := q.s0; omega
theorem Holds.mapAt (h : Holds G B S0 w0 Γ c a.tmps w) {k g : Nat} {u : Value} (hk : look c.η k = (g, some ob)) (hs0 : ob.s = 0) (he0 : ob.e = 0) (hx : AVok (Free S0 B Γ w) Γ w u (.mp k g)) : ∃ oi b es clock l, u = .map (some b) ∧ MapIs B S0 Γ w k g ob oi b es clock l := by
  obtain ⟨oi, hΓ, hm⟩ := h.obj hk hs0
  obtain ⟨b, l, o, h1, h2, h3, h4, h5⟩ := hm.ents
  rcases h5 with ⟨_, es, clock, rfl, h6, h7⟩ | ⟨h5, _⟩
  · refine ⟨oi, b, es, clock, l, ?_, ⟨hΓ, hm.ver, h1, h2, h3, h4, h6, h7⟩⟩
    cases hx with
    | mpLive _ _ b' oi' hl hb =>
      have := hl.1; rw [hΓ] at this; injection this with _ q; injection q with q; subst q
      rw [h1] at hb; injection hb with hb; rw [hb]
    | mpDead b' _ _ hd =>
      rcases hd with hd | ⟨_, hd⟩
      · rw [hΓ] at hd; exact absurd hd (Nat.lt_irrefl _)
      · have := hd oi (by rw [hΓ]); rw [hm.ver] at this; omega
  · omega
theorem ents_keys {S : Nat → Prop} : ∀ {es : List MapEntry} {l : List AV} {ks : List Value}, l.length = es.length → (∀ (j : Nat) (e : MapEntry) (x : AV), es[j]? = some e → l[j]? = some x → ∃ kx vx, x = .tup [kx, vx] ∧ AVok S Γ w e.key kx ∧ AVok S Γ w e.val vx) → l.mapM entKey = some ks → es.map (·.key) = ks
  | [], [], ks, _, _, h => by simp at h; subst h; rfl
  | e :: es, x :: l, ks, hl, he, h => by
    simp only [List.mapM_cons, Option.bind_eq_bind, Option.bind_eq_some_iff, Option.pure_def, Option.some.injEq] at h
    obtain ⟨v, hv, vs, hvs, rfl⟩ := h
    obtain ⟨kx, vx, rfl, h1, h2⟩ := he 0 e x rfl rfl
    simp only [List.map_cons, ents_keys (ks := vs) (by simpa using hl) (fun j e' x' q1 q2 => he (j + 1) e' x' (by simpa using q1) (by simpa using q2)) hvs]
    rw [toVal_ok h1 (by simpa [entKey] using hv)]
  | [], _ :: _, _, hl, _, _ => by simp at hl
  | _ :: _, [], _, hl, _, _ => by simp at hl
theorem keys_bare (es : List MapEntry) {ks : List Value} (h : es.map (·.key) = ks) : (es.map fun e => bareEnt e.key) = ks.map bareEnt := by
  subst h; simp
theorem findA_ok {S : Nat → Prop} {kt : Nat} {kv : Value} {l : List AV} {es : Array MapEntry} {r' : Option Nat} (hl : l.length = es.size) (he : ∀ (j : Nat) (e : MapEntry) (x : AV), es[j]? = some e → l[j]? = some x → ∃ kx vx, x = .tup [kx, vx] ∧ AVok S Γ w e.key kx ∧ AVok S Γ w e.val vx) (hf : findA P kt kv l = some r') :
    (Instr.checkKey es.isEmpty 10000 kt kv).run P w = .ok () w ∧ ∃ r, (Instr.findKey kt kv es.toList).run P w = .ok r w ∧ (r' = none → r = none) ∧ ∀ j, r' = some j → ∃ e, es[j]? = some e ∧ r = some (j, e.val) := by
  unfold findA at hf
  split at hf <;> try (cases hf; done)
  rename_i ks hks
  split at hf <;> try (cases hf; done)
  rename_i u r2 hu hr2
  injection hf with hf; subst hf
  have hk := ents_keys (es := es.toList) (by simpa using hl) (fun j e x q1 q2 => he j e x (by simpa using q1) q2) hks
  rw [← keys_bare _ hk] at hr2
  obtain ⟨r, h1, h2, h3⟩ := findKey_keys kt kv w es.toList r2 hr2
  have hemp : l.isEmpty = es.isEmpty := by
    cases l with
    | nil => simp at hl; simp [Array.isEmpty, ← hl]
    | cons => simp at hl; simp [Array.isEmpty, ← hl]
  refine ⟨by rw [← hemp]; exact pureRun_sound P w _ _ hu, r, h1, fun q => h2 (by cases r2 <;> simp_all), fun j q => ?_⟩
  cases r2 with
  | none => cases q
  | some p =>
    obtain ⟨j2, v⟩ := p
    have q : j2 = j := by simpa using q
    subst q
    obtain ⟨_, e, h4, h5⟩ := h3 j2 v rfl
    exact ⟨e, by simpa using h4, h5⟩
theorem run_getMap {b : Nat} {es : Array MapEntry} {clock : Nat} (h : w.heap[b]? = some (.map es clock)) : (getObj b).run P w = .ok (.map es clock) w := by simp [getObj, Sem.run, h]
def setB (w : World) (b : Nat) (o : Obj) : World := { w with heap := w.heap.setIfInBounds b o }
theorem run_setB {b : Nat} {o o' : Obj} (h : w.heap[b]? = some o) (hm : o matches .map .. | .stringIter ..) : (setObj b o').run P w = .ok () (setB w b o') := by
  cases o <;> simp at hm <;> simp [setObj, Sem.run, h, setB]
theorem setB_grown (w : World) (b : Nat) (o : Obj) : w.grownBy (setB w b o) (some b) := ⟨rfl, rfl, rfl, by simp [setB], fun k _ hk => by
  simp only [setB]; exact Array.getElem?_setIfInBounds_ne (fun e => hk (by rw [e]))⟩
theorem setB_same {b : Nat} {o o' : Obj} (h : w.heap[b]? = some o) : (setB w b o').heap[b]? = some o' := by
  simp only [setB]; exact Array.getElem?_setIfInBounds_self_of_lt (Array.getElem?_eq_some_iff.1 h).1

theorem do_lkp (h : Holds G B S0 w0 Γ c a.tmps w) {o : Oper} {t kt et : TypeId} {m k : Operand} {ma ka : XArg} {ok : Bool} {i : TypeInfo} {z : Value} (ho : o.op = .lookup t m k ok) (ht : P.underlying t = some (.map kt et)) (hm : argT m = some ma) (hk : argT k = some ka) (hi : P.info? et = some i) (hz : i.zero = some z)
    {r : Res} (hs : step P d c (.lkp kt ok (ofVal z) ma ka) = some r) : Does G B S0 w0 Γ c P o a w r := by
  have h1 := h.arg hm
  have h2 := h.arg hk
  have hzr : (zeroValue et).run P w = .ok z w := by simp [zeroValue, typeInfo, hi, hz]
  have zok : AVok (Free S0 B Γ w) Γ w (if ok = true then .tuple #[z, .bool false] else z) (if ok = true then .tup [ofVal z, .v (.bool false)] else ofVal z) := by
    cases ok with
    | true =>
      refine .tup [z, .bool false] _ rfl fun j u x q1 q2 => ?_
      · rcases j with _ | _ | j <;> simp at q1 q2 <;> rw [← q1, ← q2]
        · exact ofVal_ok z
        · exact .v _
    | false => exact ofVal_ok z
  simp only [step] at hs
  split at hs
  · rename_i kk g kv e1 e2
    rw [e1] at h1
    have hkv := toVal_ok h2 e2
    split at hs <;> try (cases hs; done)
    rename_i g' ob hlk
    split at hs <;> try (cases hs; done)
    rename_i hc
    obtain ⟨rfl, hs0, he0⟩ := hc
    obtain ⟨oi, b, es, clock, l, hu, M⟩ := h.mapAt hlk hs0 he0 h1
    have htl : ob.xs.tail = l := by rw [M.xs]; rfl
    rw [htl] at hs
    split at hs <;> try (cases hs; done)
    · rename_i j hf
      obtain ⟨hc1, r2, hc2, _, hc3⟩ := findA_ok M.len M.ent hf
      obtain ⟨e, he, rfl⟩ := hc3 j rfl
      split at hs <;> try (cases hs; done)
      rename_i x hx
      injection hs with hs; subst hs
      obtain ⟨kx, vx, rfl, q1, q2⟩ := M.ent j e x he hx
      refine .pure (u := if ok = true then .tuple #[e.val, .bool true] else e.val) ?_ ?_
      · cases ok <;> simp [execOp, ho, hu, hkv, Instr.lookup, run_underlying ht, run_getMap M.lies, hc1, hc2]
      · cases ok with
        | true =>
          refine .tup [e.val, .bool true] _ rfl fun j u x q3 q4 => ?_
          · rcases j with _ | _ | j <;> simp at q3 q4 <;> rw [← q3, ← q4]
            · exact q2
            · exact .v _
        | false => exact q2
    · rename_i hf
      obtain ⟨hc1, r2, hc2, hc3, _⟩ := findA_ok M.len M.ent hf
      have := hc3 rfl
      subst this
      injection hs with hs; subst hs
      exact .pure (u := if ok = true then .tuple #[z, .bool false] else z) (by cases ok <;> simp [execOp, ho, hu, hkv, Instr.lookup, run_underlying ht, run_getMap M.lies, hc1, hc2, hzr]) zok
  · rename_i kv e1 e2
    rw [e1] at h1
    have hkv := toVal_ok h2 e2
    have hu := v_inv h1
    split at hs <;> try (cases hs; done)
    rename_i u hc1 hc2
    injection hs with hs; subst hs
    have hc1 := pureRun_sound P w _ _ hc1
    have hc2 := pureRun_sound P w _ _ hc2
    exact .pure (u := if ok = true then .tuple #[z, .bool false] else z) (by cases ok <;> simp [execOp, ho, hu, hkv, Instr.lookup, run_underlying ht, hc1, hc2, hzr]) zok
  · cases hs

/-- a map changes -/
theorem Holds.mapSet (h : Holds G B S0 w0 Γ c a.tmps w) {k g b : Nat} {es es' : Array MapEntry} {clock clock' : Nat} {l l' : List AV} (M : MapIs B S0 Γ w k g ob oi b es clock l) (he0 : ob.e = 0) (hs0 : ob.s = 0) (hl : l'.length = es'.size)
    (he : ∀ (j : Nat) (e : MapEntry) (x : AV), es'[j]? = some e → l'[j]? = some x → ∃ kx vx, x = .tup [kx, vx] ∧ AVok (Free S0 B Γ w) Γ w e.key kx ∧ AVok (Free S0 B Γ w) Γ w e.val vx) :
    Holds G B S0 w0 (Γ.set k (g, some oi)) ⟨c.σ, putAt c.η k (g, some { ob with xs := .any :: l' })⟩ a.tmps (setB w b (.map es' clock')) :=
  h.row_setM k g oi { ob with xs := .any :: l' } (some b) (setB_grown w b _) (fun b' e => ⟨oi, by rw [M.gam], by injection e with e; subst e; exact M.blk⟩) (fun b' hb => .inr ⟨oi, by rw [M.gam], hb⟩) (.inr ⟨by rw [M.gam], oi, by rw [M.gam], .inl rfl⟩) fun hm =>
    .inr ⟨hs0, M.ver, b, l', _, M.blk, M.base, setB_same M.lies, rfl, .inl ⟨he0, es', clock', rfl, hl, fun j e x q1 q2 => by
      obtain ⟨kx, vx, q3, q4, q5⟩ := he j e x q1 q2
      exact ⟨kx, vx, q3, hm _ _ q4, hm _ _ q5⟩⟩⟩
theorem do_mup (h : Holds G B S0 w0 Γ c a.tmps w) {o : Oper} {t kt et : TypeId} {m k v : Operand} {ma ka va : XArg} (ho : o.op = .mapUpdate t m k v ∨ o.op = .insert t m k v) (ht : P.underlying t = some (.map kt et)) (hm : argT m = some ma) (hk : argT k = some ka) (hv : argT v = some va)
    {r : Res} (hs : step P d c (.mup kt ma ka va) = some r) : Does G B S0 w0 Γ c P o a w r := by
  have h1 := h.arg hm
  have h2 := h.arg hk
  have h3 := h.arg hv
  simp only [step] at hs
  split at hs <;> try (cases hs; done)
  rename_i kk g kv e1 e2
  rw [e1] at h1
  have hkv := toVal_ok h2 e2
  split at hs <;> try (cases hs; done)
  rename_i g' ob hlk
  split at hs <;> try (cases hs; done)
  rename_i hc
  obtain ⟨rfl, hs0, he0⟩ := hc
  obtain ⟨oi, b, es, clock, l, hu, M⟩ := h.mapAt hlk hs0 he0 h1
  have htl : ob.xs.tail = l := by rw [M.xs]; rfl
  rw [htl] at hs
  split at hs <;> try (cases hs; done)
  · rename_i u j hck hf
    have hck := pureRun_sound P w _ _ hck
    obtain ⟨hc1, r2, hc2, _, hc3⟩ := findA_ok M.len M.ent hf
    obtain ⟨e, he, rfl⟩ := hc3 j rfl
    split at hs <;> try (cases hs; done)
    rename_i old hold
    split at hs <;> try (cases hs; done)
    rename_i hsb
    injection hs with hs; subst hs
    obtain ⟨x, hx, hxk⟩ := Option.bind_eq_some_iff.1 hold
    obtain ⟨kx, vx, rfl, q1, q2⟩ := M.ent j e x he hx
    have hek : e.key = old := toVal_ok q1 (by simpa [entKey] using hxk)
    have hjl : j < l.length := (List.getElem?_eq_some_iff.1 hx).1
    have hst : (Instr.keyThatStays e.key kv).run P w = .ok kv w := by
      unfold Instr.keyThatStays; rw [hek, if_pos hsb]; rfl
    have hH := h.mapSet M he0 hs0 (es' := es.modify j fun e => { e with key := kv, val := a.eval v }) (clock' := clock) (l' := l.set j (.tup [evalA c.σ ka, evalA c.σ va])) (by simp [M.len]) (fun j' e' x' q3 q4 => by
      rw [Array.getElem?_modify] at q3
      rw [List.getElem?_set] at q4
      by_cases hj : j = j'
      · subst hj
        rw [if_pos rfl] at q3 q4
        rw [if_pos hjl] at q4
        rw [he] at q3
        simp only [Option.map_some, Option.some.injEq] at q3 q4
        subst q3; subst q4
        exact ⟨_, _, rfl, by rw [← hkv]; exact h2, h3⟩
      · rw [if_neg hj] at q3 q4
        exact M.ent j' e' x' q3 q4)
    refine ⟨.skip, undef, _, _, ?_, .inr ⟨rfl, rfl⟩, hH, .any _⟩
    rcases ho with ho | ho <;> simp [execOp, ho, hu, hkv, Instr.mapUpdate, run_underlying ht, run_getMap M.lies, hck, hc2, he, hst, run_setB M.lies]
  · rename_i u hck hf
    have hck := pureRun_sound P w _ _ hck
    obtain ⟨hc1, r2, hc2, hc3, _⟩ := findA_ok M.len M.ent hf
    have := hc3 rfl
    subst this
    injection hs with hs; subst hs
    have hH := h.mapSet M he0 hs0 (es' := es.push { key := kv, val := a.eval v, born := clock }) (clock' := clock + 1) (l' := l ++ [.tup [evalA c.σ ka, evalA c.σ va]]) (by simp [M.len]) (fun j' e' x' q3 q4 => by
      rw [Array.getElem?_push] at q3
      by_cases hj : j' = es.size
      · rw [if_pos hj] at q3
        injection q3 with q3; subst q3
        rw [List.getElem?_append_right (by rw [M.len]; omega), M.len, hj, Nat.sub_self] at q4
        simp only [List.getElem?_cons_zero, Option.some.injEq] at q4
        subst q4
        exact ⟨_, _, rfl, by rw [← hkv]; exact h2, h3⟩
      · rw [if_neg hj] at q3
        have hlt := (Array.getElem?_eq_some_iff.1 q3).1
        rw [List.getElem?_append_left (by rw [M.len]; exact hlt)] at q4
        exact M.ent j' e' x' q3 q4)
    refine ⟨.skip, undef, _, _, ?_, .inr ⟨rfl, rfl⟩, hH, .any _⟩
    rcases ho with ho | ho <;> simp [execOp, ho, hu, hkv, Instr.mapUpdate, run_underlying ht, run_getMap M.lies, hck, hc2, run_setB M.lies]
theorem do_del (h : Holds G B S0 w0 Γ c a.tmps w) {o : Oper} {t t2 kt et : TypeId} {m k : Operand} {ma ka : XArg} (ho : o.op = .call { callee := .builtin .delete, args := #[m, k], argTypes := #[t, t2] }) (ht : P.underlying t = some (.map kt et)) (hm : argT m = some ma) (hk : argT k = some ka)
    {r : Res} (hs : step P d c (.del kt ma ka) = some r) : Does G B S0 w0 Γ c P o a w r := by
  have h1 := h.arg hm
  have h2 := h.arg hk
  simp only [step] at hs
  split at hs <;> try (cases hs; done)
  rename_i kk g kv e1 e2
  rw [e1] at h1
  have hkv := toVal_ok h2 e2
  split at hs <;> try (cases hs; done)
  rename_i g' ob hlk
  split at hs <;> try (cases hs; done)
  rename_i hc
  obtain ⟨rfl, hs0, he0⟩ := hc
  obtain ⟨oi, b, es, clock, l, hu, M⟩ := h.mapAt hlk hs0 he0 h1
  have htl : ob.xs.tail = l := by rw [M.xs]; rfl
  rw [htl] at hs
  have tupok : ∀ {S : Nat → Prop} {Γ : Gam} {w : World}, AVok S Γ w (.tuple #[]) (.tup []) := .tup [] [] rfl fun j u x q => by simp at q
  split at hs <;> try (cases hs; done)
  · rename_i j hf
    obtain ⟨hc1, r2, hc2, _, hc3⟩ := findA_ok M.len M.ent hf
    obtain ⟨e, he, rfl⟩ := hc3 j rfl
    injection hs with hs; subst hs
    have hj : j < es.size := (Array.getElem?_eq_some_iff.1 he).1
    have hH := h.mapSet M he0 hs0 (es' := es.eraseIdxIfInBounds j) (clock' := clock) (l' := l.eraseIdx j) (by rw [List.length_eraseIdx, M.len, Array.eraseIdxIfInBounds, dif_pos hj, Array.size_eraseIdx, if_pos hj]) (fun j' e' x' q3 q4 => by
      rw [Array.eraseIdxIfInBounds, dif_pos hj, ← Array.getElem?_toList, Array.toList_eraseIdx, List.getElem?_eraseIdx] at q3
      rw [List.getElem?_eraseIdx] at q4
      split at q3
      · rename_i hlt
        rw [if_pos hlt] at q4
        exact M.ent j' e' x' (by simpa using q3) q4
      · rename_i hlt
        rw [if_neg hlt] at q4
        exact M.ent (j' + 1) e' x' (by simpa using q3) q4)
    refine ⟨.value (.tuple #[]), .tuple #[], _, _, ?_, .inl rfl, hH, tupok⟩
    simp [execOp, ho, resolve, invoke, builtin, Builtin.delete_, run_underlying ht, hu, hkv, run_getMap M.lies, hc1, hc2, run_setB M.lies]
  · rename_i hf
    obtain ⟨hc1, r2, hc2, hc3, _⟩ := findA_ok M.len M.ent hf
    have := hc3 rfl
    subst this
    injection hs with hs; subst hs
    have hH := h.mapSet M he0 hs0 (es' := es) (clock' := clock) (l' := l) M.len M.ent
    refine ⟨.value (.tuple #[]), .tuple #[], _, _, ?_, .inl rfl, hH, tupok⟩
    simp [execOp, ho, resolve, invoke, builtin, Builtin.delete_, run_underlying ht, hu, hkv, run_getMap M.lies, hc1, hc2, run_setB M.lies]
theorem do_lenM (h : Holds G B S0 w0 Γ c a.tmps w) {o : Oper} {t kt et : TypeId} {x : Operand} {xa : XArg} (ho : o.op = .call { callee := .builtin .len, args := #[x], argTypes := #[t] }) (hx : argT x = some xa) (hd : P.underlying t = some (.map kt et))
    {r : Res} (hs : step P d c (.lenM xa) = some r) : Does G B S0 w0 Γ c P o a w r := by
  have h1 := h.arg hx
  simp only [step] at hs
  split at hs <;> try (cases hs; done)
  · rename_i kk g e1
    rw [e1] at h1
    split at hs <;> try (cases hs; done)
    rename_i g' ob hlk
    split at hs <;> try (cases hs; done)
    rename_i hc
    obtain ⟨rfl, hs0, he0⟩ := hc
    obtain ⟨oi, b, es, clock, l, hu, M⟩ := h.mapAt hlk hs0 he0 h1
    injection hs with hs; subst hs
    have htl : ob.xs.tail.length = es.size := by rw [M.xs]; exact M.len
    rw [htl]
    exact .pure (u := .int .i64 es.size) (by simp [execOp, ho, resolve, invoke, builtin, Builtin.len_, run_underlying hd, hu, goInt, run_getMap M.lies]) (.v _)
  · rename_i e1
    rw [e1] at h1
    have hu := v_inv h1
    injection hs with hs; subst hs
    exact .pure (u := .int .i64 0) (by simp [execOp, ho, resolve, invoke, builtin, Builtin.len_, run_underlying hd, hu, goInt]) (.v _)
/-- a new thing that is no cells -/
theorem Holds.newObj (h : Holds G B S0 w0 Γ c a.tmps w) (k e : Nat) (l : List AV) (o : Obj)
    (he : ((e = 0 ∧ ∃ (es : Array MapEntry) (clock : Nat), o = .map es clock ∧ l.length = es.size ∧ ∀ (j : Nat) (e : MapEntry) (x : AV), es[j]? = some e → l[j]? = some x → ∃ kx vx, x = .tup [kx, vx] ∧ False) ∨ (e = 1 ∧ ∃ (s : ByteArray) (pos : Nat), o = .stringIter s pos ∧ l = [.v (.string s), .v (.int .i64 pos)]))) :
    ∃ Γ', Holds G B S0 w0 Γ' ⟨c.σ, putAt c.η k ((look c.η k).1 + 1, some ⟨e, 0, .any :: l⟩)⟩ a.tmps (w.alloc o) ∧ Γ'.live k ((look c.η k).1 + 1) 0 ⟨0, .slice (some ⟨w.heap.size, 0, none⟩) 0 0, 0⟩ := by
  have hBw : B ≤ w.heap.size := Nat.le_trans h.base h.below.size
  refine ⟨Γ.set k ((look c.η k).1 + 1, some ⟨0, .slice (some ⟨w.heap.size, 0, none⟩) 0 0, 0⟩), ?_, ⟨Gam.set_self _ _ _, rfl⟩⟩
  refine h.row_setM k _ _ ⟨e, 0, .any :: l⟩ none (World.grownBy_alloc w _ none) (fun b e => by cases e) (fun b hb => .inl (by simp [Value.ownBlock] at hb; omega)) (.inl (by rw [h.gen k]; exact Nat.lt_succ_self _)) fun hm => ?_
  refine .inr ⟨rfl, rfl, w.heap.size, l, o, rfl, hBw, heap_alloc_new w o, rfl, he.imp (fun ⟨e0, es, clock, q1, q2, q3⟩ => ⟨e0, es, clock, q1, q2, fun j e x q4 q5 => ?_⟩) id⟩
  obtain ⟨_, _, _, q⟩ := q3 j e x q4 q5
  exact q.elim
theorem do_mkm (h : Holds G B S0 w0 Γ c a.tmps w) {o : Oper} {t kt et : TypeId} {n : Option Operand} (ho : o.op = .makeMap t n) (ht : P.underlying t = some (.map kt et)) (hn : ∀ x, n = some x → ∃ z, x = .const (.int .i64 z))
    {r : Res} (hs : step P d c .mkm = some r) : Does G B S0 w0 Γ c P o a w r := by
  simp only [step, Option.some.injEq] at hs
  subst hs
  obtain ⟨Γ', hH, hl⟩ := h.newObj d 0 [] (.map #[] 0) (.inl ⟨rfl, #[], 0, rfl, rfl, fun j e x q => by simp at q⟩)
  refine ⟨_, .map (some w.heap.size), _, Γ', ?_, .inl rfl, hH, .mpLive _ _ _ _ hl rfl⟩
  cases n with
  | none => simp [execOp, ho, Instr.makeMap, Go.newObj, Sem.run]
  | some x =>
    obtain ⟨z, rfl⟩ := hn x rfl
    simp [execOp, ho, Instr.makeMap, run_underlying ht, Act.eval, Go.asInt, Go.newObj, Sem.run]; rfl
theorem do_rgs (h : Holds G B S0 w0 Γ c a.tmps w) {o : Oper} {t : TypeId} {x : Operand} {xa : XArg} (ho : o.op = .range t x) (ht : P.underlying t = some .string) (hx : argT x = some xa)
    {r : Res} (hs : step P d c (.rgs xa) = some r) : Does G B S0 w0 Γ c P o a w r := by
  have h1 := h.arg hx
  simp only [step] at hs
  split at hs <;> try (cases hs; done)
  rename_i s e1
  rw [e1] at h1
  have hu := v_inv h1
  injection hs with hs; subst hs
  obtain ⟨Γ', hH, hl⟩ := h.newObj d 1 [.v (.string s), .v (.int .i64 0)] (.stringIter s 0) (.inr ⟨rfl, s, 0, rfl, rfl⟩)
  refine ⟨.value (.pointer (some ⟨w.heap.size, 0, none⟩)), .pointer (some ⟨w.heap.size, 0, none⟩), w.alloc (.stringIter s 0), Γ', ?_, .inl rfl, hH, .itLive _ _ _ _ hl rfl⟩
  simp [execOp, ho, hu, Instr.range, run_underlying ht, Go.newObj, Sem.run]
theorem do_nxs (h : Holds G B S0 w0 Γ c a.tmps w) {o : Oper} {x : Operand} {xa : XArg} (ho : o.op = .next x true) (hx : argT x = some xa)
    {r : Res} (hs : step P d c (.nxs xa) = some r) : Does G B S0 w0 Γ c P o a w r := by
  have h1 := h.arg hx
  simp only [step] at hs
  split at hs <;> try (cases hs; done)
  rename_i kk g e1
  rw [e1] at h1
  split at hs <;> try (cases hs; done)
  rename_i g' ob hlk
  split at hs <;> try (cases hs; done)
  rename_i hc
  obtain ⟨rfl, hs0, he1⟩ := hc
  obtain ⟨oi, hΓ, hm⟩ := h.obj hlk hs0
  obtain ⟨b, l, oo, q1, q2, q3, q4, q5⟩ := hm.ents
  rcases q5 with ⟨q5, _⟩ | ⟨_, s, pos, rfl, rfl⟩
  · omega
  have hu : a.eval x = .pointer (some ⟨b, 0, none⟩) := by
    generalize hv : a.eval x = pv at h1
    cases h1 with
    | itLive _ _ b' oi' hl hb =>
      have := hl.1; rw [hΓ] at this; injection this with _ q; injection q with q; subst q
      rw [q1] at hb; injection hb with hb; rw [hb]
    | itDead b' _ _ hd =>
      rcases hd with hd | ⟨_, hd⟩
      · rw [hΓ] at hd; exact absurd hd (Nat.lt_irrefl _)
      · have := hd oi (by rw [hΓ]); rw [hm.ver] at this; omega
  rw [q4] at hs
  simp only [Int.toNat_natCast] at hs
  have hg : (getObj b).run P w = .ok (.stringIter s pos) w := by simp [getObj, Sem.run, q3]
  split at hs
  · rename_i hlt
    have hlt : pos < s.size := by omega
    injection hs with hs; subst hs
    have hset := run_setB (P := P) (o' := .stringIter s (pos + (Utf8.decode s pos).2)) q3 rfl
    have hH := h.row_setM kk g' oi { ob with xs := [.any, .v (.string s), .v (.int .i64 (pos + (Utf8.decode s pos).2 : Nat))] } (some b) (setB_grown w b (.stringIter s (pos + (Utf8.decode s pos).2))) (fun b' e => ⟨oi, by rw [hΓ], by injection e with e; subst e; exact q1⟩) (fun b' hb => .inr ⟨oi, by rw [hΓ], hb⟩) (.inr ⟨by rw [hΓ], oi, by rw [hΓ], .inl rfl⟩) fun hm2 =>
      .inr ⟨hs0, hm.ver, b, _, _, q1, q2, setB_same q3, rfl, .inr ⟨he1, s, pos + (Utf8.decode s pos).2, rfl, rfl⟩⟩
    refine ⟨.value (.tuple #[.bool true, goInt pos, .int .i32 (Utf8.decode s pos).1]), .tuple #[.bool true, goInt pos, .int .i32 (Utf8.decode s pos).1], _, _, ?_, .inl rfl, hH, .tup [.bool true, goInt pos, .int .i32 (Utf8.decode s pos).1] _ rfl fun j u x p1 p2 => ?_⟩
    · simp [execOp, ho, hu, Instr.next, hg, hlt, hset]
    · rcases j with _ | _ | _ | j <;> simp at p1 p2 <;> rw [← p1, ← p2] <;> exact .v _
  · rename_i hlt
    have hlt : ¬ pos < s.size := by omega
    injection hs with hs; subst hs
    exact .pure (u := .tuple #[.bool false]) (by simp [execOp, ho, hu, Instr.next, hg, hlt]) (.tup [.bool false] _ rfl fun j u x p1 p2 => by
      rcases j with _ | j <;> simp at p1 p2; rw [← p1, ← p2]; exact .v _)
theorem ext_find {fn : Func} {n : Nat} (he : extOf fn = some n) : fn.name ≠ "runtime.NumGoroutine" ∧ fn.body = none ∧ Extern.findNext fn = none ∧
    ((n = 0 ∧ Extern.find fn = some Extern.BytealgIndexByte.indexByte) ∨ (n = 1 ∧ Extern.find fn = some Extern.BytealgCompare.compare)) := by
  unfold extOf at he
  split at he <;> try (cases he; done)
  rename_i hc
  obtain ⟨h1, h2, h3⟩ := hc
  have h1 : fn.origin = "" := by simpa using h1
  refine ⟨by simpa using h3, by simpa using h2, ?_⟩
  split at he
  · rename_i hn
    have hn : fn.name = "internal/bytealg.IndexByteString" := by simpa using hn
    injection he with he; subst he
    refine ⟨?_, .inl ⟨rfl, ?_⟩⟩
    · unfold Extern.findNext; rw [hn, h1]; rfl
    · unfold Extern.find; rw [hn, h1]; rfl
  · split at he <;> try (cases he; done)
    rename_i hn
    have hn : fn.name = "internal/bytealg.abigen_runtime_cmpstring" := by simpa using hn
    injection he with he; subst he
    refine ⟨?_, .inr ⟨rfl, ?_⟩⟩
    · unfold Extern.findNext; rw [hn, h1]; rfl
    · unfold Extern.find; rw [hn, h1]; rfl
theorem do_xt (h : Holds G B S0 w0 Γ c a.tmps w) {o : Oper} {f : FuncId} {fn : Func} {args : Array Operand} {ts : Array TypeId} {xa : List XArg} {n : Nat} (ho : o.op = .call { callee := .value (.func f), args := args, argTypes := ts }) (hx : args.toList.mapM argT = some xa)
    (hf : P.funcs[f]? = some fn) (he : extOf fn = some n) {r : Res} (hs : step P d c (.xt n xa) = some r) : Does G B S0 w0 Γ c P o a w r := by
  obtain ⟨hn, hb, hnx, hfd⟩ := ext_find he
  simp only [step] at hs
  split at hs <;> try (cases hs; done)
  rename_i u hu
  injection hs with hs; subst hs
  obtain ⟨h1, h2⟩ := mapM_ok hx
  have hev : ∀ (j : Nat) (x : Operand) (y : AV), args.toList[j]? = some x → (xa.map (evalA c.σ))[j]? = some y → AVok (Free S0 B Γ w) Γ w (a.eval x) y := fun j x y q1 q2 => by
    rw [List.getElem?_map] at q2
    obtain ⟨ya, hya, rfl⟩ := Option.map_eq_some_iff.1 q2
    exact h.arg (h2 j x ya q1 hya)
  have hl : args.toList.length = (xa.map (evalA c.σ)).length := by rw [List.length_map, h1]
  generalize xa.map (evalA c.σ) = ys at hu hev hl
  obtain ⟨al⟩ := args
  simp only at hev hl
  have hrun : ∀ {e : Array Value → Sem Value}, Extern.find fn = some e → (e (al.map a.eval).toArray).run P w = .ok u w → Does G B S0 w0 Γ c P o a w (.val (.v u)) := fun {e} he hr => by
    refine .pure (u := u) ?_ (.v _)
    have hm : Array.map a.eval { toList := al } = (al.map a.eval).toArray := by simp
    simp [execOp, ho, resolve, Deferred.ofValue, invoke, callFunc, Act.eval, hf, hn, hb, hnx, he, mark, run_program, Sem.run]
    rw [hr]; rfl
  rcases hfd with ⟨rfl, hfd⟩ | ⟨rfl, hfd⟩
  · change ext0 ys = some u at hu
    unfold ext0 at hu
    split at hu <;> try (cases hu; done)
    rename_i s z
    injection hu with hu; subst hu
    have hr2 := hrun hfd
    match al, hl, hev, hr2 with
    | [x, y], _, hev, hr2 =>
      have hx := v_inv (hev 0 x _ rfl rfl)
      have hy := v_inv (hev 1 y _ rfl rfl)
      refine hr2 ?_
      simp only [List.map_cons, List.map_nil, hx, hy]
      exact run_indexByte_string s z w
  · change ext1 ys = some u at hu
    unfold ext1 at hu
    split at hu <;> try (cases hu; done)
    rename_i s z
    injection hu with hu; subst hu
    have hr2 := hrun hfd
    match al, hl, hev, hr2 with
    | [x, y], _, hev, hr2 =>
      have hx := v_inv (hev 0 x _ rfl rfl)
      have hy := v_inv (hev 1 y _ rfl rfl)
      refine hr2 ?_
      simp only [List.map_cons, List.map_nil, hx, hy]
      rfl
theorem flat_one : ∀ {ys : List AV}, ys.all one = true → flat ys = ys
  | [], _ => rfl
  | y :: ys, h => by
    simp only [List.all_cons, Bool.and_eq_true] at h
    have h1 : cellsOf y = [y] := by unfold cellsOf; split <;> simp_all [one]
    show cellsOf y ++ flat ys = y :: ys
    rw [h1, flat_one h.2]; rfl
theorem do_cpy (h : Holds G B S0 w0 Γ c a.tmps w) {o : Oper} {t t2 e : TypeId} {x y : Operand} {xa ya : XArg} (ho : o.op = .call { callee := .builtin .copy, args := #[x, y], argTypes := #[t, t2] }) (ht : P.underlying t = some (.slice e)) (hs1 : sizeO P e = some (1, false)) (hx : argT x = some xa) (hy : argT y = some ya)
    {r : Res} (hs : step P d c (.cpy xa ya) = some r) : Does G B S0 w0 Γ c P o a w r := by
  have h1 := h.arg hx
  have h2 := h.arg hy
  obtain ⟨i, dd, hi, hd, hsz, hag, _, _⟩ := sizeO_ok hs1
  simp only [step] at hs
  split at hs <;> try (cases hs; done)
  rename_i ys hys
  obtain ⟨A, cp, us, hyv, hcp, hyc, hyw, hyA⟩ := elems_ok h h2 hys
  split at hs <;> try (cases hs; done)
  rename_i k g ver s' lo n e1
  rw [e1] at h1
  split at hs <;> try (cases hs; done)
  rename_i g' ob hlk
  split at hs <;> try (cases hs; done)
  rename_i hc
  obtain ⟨rfl, hver, rfl, hos, hln, hn0, hne, hone⟩ := hc
  injection hs with hs; subst hs
  obtain ⟨oi, hΓ, hro, hlive, hnd⟩ := h.ref hlk hver.symm h1.ldS
  obtain ⟨yg, yo, rfl, hyAt⟩ := hyA hne
  generalize hxv : a.eval x = xv at h1
  cases h1 with
  | osDead _ _ _ _ _ _ cp2 A2 hd2 hcp2 hcm hA2 hN => exact (hnd ver hver.symm hd2).elim
  | osLive _ _ _ _ _ _ cp2 A2 oi2 hl hsi hn hcp2 hcm hwh hA2 hN =>
  have := hlive ver oi2 hver.symm hl
  subst this
  obtain ⟨b, hb, rfl⟩ := hA2 hn0
  obtain ⟨ws, hAt, hcs, hown⟩ := hro.at hb
  obtain ⟨m, hm⟩ : ∃ m, m = min ys.length n := ⟨_, rfl⟩
  rw [← hm]
  have hfy : flat ys = ys := flat_one hone
  have hul : us.length = ys.length := by rw [hyc.len, hfy]
  have hfl : (flat ob.xs).length = ver := by rw [flat_len hro.wid, hos, Nat.mul_one, hver]
  have hwl : ws.length = ver := by rw [hcs.len, hfl]
  have hml : (us.take m).length = m := by rw [List.length_take]; omega
  have hyl : (ys.take m).length = m := by rw [List.length_take]; omega
  have hyt : flat (ys.take m) = ys.take m := flat_one (by rw [List.all_eq_true] at hone ⊢; exact fun z hz => hone z (List.mem_of_mem_take hz))
  have hcell : Cells (Free S0 B Γ w) Γ w (us.take m) (ys.take m) := by
    have := hyc.take m
    rwa [hfy] at this
  obtain ⟨w', hr, hown', hg⟩ := own_store (P := P) hown hb (p := lo) (vs := us.take m) (by rw [hml, hwl]; omega) hcell.one
  have hlen2 : (splice ob.xs lo (ys.take m)).length = ob.xs.length := by
    unfold splice
    rw [List.length_append, List.length_append, List.length_take, List.length_drop, hyl]; omega
  have hfl2 : flat (splice ob.xs lo (ys.take m)) = splice (flat ob.xs) lo (ys.take m) := by
    unfold splice
    rw [flat_append, flat_append, flat_take hro.wid, flat_drop hro.wid, hos, Nat.mul_one, Nat.mul_one, hyt]
  have hc3 : Cells (Free S0 B Γ w) Γ w (spliceL ws lo (us.take m)) (splice (flat ob.xs) lo (ys.take m)) := hcs.splice hcell lo
  have hw2 : ∀ z, z ∈ splice ob.xs lo (ys.take m) → width z = ob.s := fun z hz => by
    unfold splice at hz
    rcases List.mem_append.1 hz with hz | hz
    · rcases List.mem_append.1 hz with hz | hz
      · exact hro.wid z (List.mem_of_mem_take hz)
      · rw [hos]; exact hyw z (List.mem_of_mem_take hz)
    · exact hro.wid z (List.mem_of_mem_drop hz)
  have hH := h.row_set k g' oi2 { ob with xs := splice ob.xs lo (ys.take m) } (some b) hg (fun b' e => ⟨oi2, by rw [hΓ], by injection e with e; subst e; exact hb⟩) (fun b' hb' => .inr ⟨oi2, by rw [hΓ], hb'⟩) (.inr ⟨by rw [hΓ], oi2, by rw [hΓ], .inl rfl⟩) fun hm2 =>
    ⟨by rw [hro.ver]; exact hlen2.symm, hro.s, hro.s0, hw2, spliceL ws lo (us.take m), by rw [hc3.len]; exact congrArg List.length hfl2.symm, fun q u x hu hx => hm2 u x (hc3.ok q u x hu (by rw [← hfl2]; exact hx)), hc3.one, by
      show w'.ownsRow B ob.e ob.s oi2.val (splice ob.xs lo (ys.take m)).length _
      rw [hlen2]; exact hown'⟩
  have hAy : ∀ j v, (us.take m)[j]? = some v → w.cell? ((⟨yg, yo, none⟩ : Addr).add j) = some v := fun j v hj => by
    rw [Addr.add_lit]
    rw [List.getElem?_take] at hj
    split at hj
    · exact hyAt j v hj
    · cases hj
  have hld := run_loadCells_list (P := P) w ⟨yg, yo, none⟩ (us.take m) hAy
  rw [hml] at hld
  have hmn : Nat.min ys.length n = m := hm.symm
  have hi1 : i.size = 1 := hsz
  refine ⟨.value (goInt m), goInt m, w', _, ?_, .inl rfl, hH, .v _⟩
  simp [execOp, ho, resolve, invoke, builtin, Builtin.copy_, run_underlying ht, hxv, hyv, Builtin.lenOf, Builtin.firstCells, sizeOf, typeInfo, hi, hi1, hmn, hld, hr]
theorem do_b2s (h : Holds G B S0 w0 Γ c a.tmps w) {o : Oper} {t t2 e : TypeId} {x : Operand} {xa : XArg} (ho : o.op = .convert t t2 x) (ht : P.underlying t = some (.slice e)) (he : P.underlying e = some (.int .u8)) (ht2 : P.underlying t2 = some .string) (hx : argT x = some xa)
    {r : Res} (hs : step P d c (.b2s xa) = some r) : Does G B S0 w0 Γ c P o a w r := by
  have h2 := h.arg hx
  simp only [step] at hs
  split at hs <;> try (cases hs; done)
  rename_i ys hys
  obtain ⟨A, cp, us, hyv, hcp, hyc, hyw, hyA⟩ := elems_ok h h2 hys
  split at hs <;> try (cases hs; done)
  rename_i zs hzs
  split at hs <;> try (cases hs; done)
  rename_i hne
  injection hs with hs; subst hs
  obtain ⟨yg, yo, rfl, hyAt⟩ := hyA hne
  have key : ∀ {ys : List AV} {zs : List Int}, ys.mapM byteOf = some zs → ys = zs.map fun z => .v (.int .u8 z) := by
    intro ys
    induction ys with
    | nil => intro zs h; simp at h; subst h; rfl
    | cons y ys ih =>
      intro zs h
      simp only [List.mapM_cons, Option.bind_eq_bind, Option.bind_eq_some_iff, Option.pure_def, Option.some.injEq] at h
      obtain ⟨z, hz, vs, hvs, rfl⟩ := h
      have hy : y = .v (.int .u8 z) := by
        unfold byteOf at hz
        split at hz
        · injection hz with hz; rw [hz]
        · cases hz
      rw [List.map_cons, ← ih hvs, hy]
  have hy := key hzs
  have hfy : flat ys = ys := flat_one (by rw [hy, List.all_eq_true]; intro z hz; obtain ⟨q, _, rfl⟩ := List.mem_map.1 hz; rfl)
  have hul : us.length = ys.length := by rw [hyc.len, hfy]
  have hzl : zs.length = ys.length := by rw [hy, List.length_map]
  have hr := run_convert_bytes_arg (P := P) w t e ht he yg yo ys.length cp zs hzl (fun i hi => by
    have hu : us[i]? = some us[i] := List.getElem?_eq_getElem (by omega)
    have h3 := hyc.ok i _ (.v (.int .u8 (zs.getD i 0))) hu (by
      rw [hfy, hy, List.getElem?_map, List.getElem?_eq_getElem (by omega), List.getD_eq_getElem?_getD, List.getElem?_eq_getElem (by omega)]; rfl)
    have h4 := v_inv h3
    have := hyAt i _ hu
    rw [h4] at this
    exact this) t2 ht2
  exact .pure (u := .string (strOfNums zs)) (by simp [execOp, ho, hyv, hr]) (.v _)
end
end Go.Proofs.Eng
