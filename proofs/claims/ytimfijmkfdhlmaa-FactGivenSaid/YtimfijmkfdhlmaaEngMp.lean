/-
  The operations one by one: maps, and what goes through a string.
-/
import Derived.Test.YtimfijmkfdhlmaaEngJB
import GoSem.Instr.MakeMap
import GoSem.Builtin.Delete
set_option linter.unusedSimpArgs false
set_option linter.unusedVariables false
namespace Go.Proofs.Eng
open Go Go.RowKit

section
variable {G : List (Value × AV)} {B : Nat} {S0 : Nat → Prop} {w0 w : World} {Γ : Gam} {c : Cfg} {a : Act} {P : Program} {d : Nat} {oi : OI} {ob : Ob}

theorem mapM_cells {S : Nat → Prop} : ∀ {cs : List AV} {vs us : List Value}, cs.mapM toCell = some vs → us.length = cs.length → (∀ (j : Nat) (u : Value) (x : AV), us[j]? = some u → cs[j]? = some x → AVok S Γ w u x) → us = vs
  | [], vs, us, h, hl, _ => by
    simp at h; subst h
    exact List.eq_nil_of_length_eq_zero hl
  | y :: cs, vs, us, h, hl, hu => by
    simp only [List.mapM_cons, Option.bind_eq_bind, Option.bind_eq_some_iff, Option.pure_def, Option.some.injEq] at h
    obtain ⟨v, hv, vs', hvs, rfl⟩ := h
    cases us with
    | nil => simp at hl
    | cons u us =>
      have h1 := hu 0 u y rfl rfl
      have h2 : u = v := by
        unfold toCell at hv
        split at hv <;> try (cases hv; done)
        injection hv with hv; subst hv
        exact v_inv h1
      rw [h2, mapM_cells (us := us) hvs (by simpa using hl) (fun j u' x h3 h4 => hu (j + 1) u' x (by simpa using h3) (by simpa using h4))]
theorem toVal_ok {S : Nat → Prop} {u v : Value} {x : AV} (h : AVok S Γ w u x) (hv : toVal x = some v) : u = v := by
  unfold toVal at hv
  split at hv
  · injection hv with hv; subst hv; exact v_inv h
  · obtain ⟨l, hl, rfl⟩ := Option.map_eq_some_iff.1 hv
    cases h with | ag vs _ hlen h1 hu =>
    rw [mapM_cells hl hlen hu]
  · cases hv
theorem pureRun_bind {α β : Type} : ∀ (x : Sem α) (f : α → Sem β), pureRun P (x.bind f) = (pureRun P x).bind fun a => pureRun P (f a)
  | .pure a, f => rfl
  | .program k, f => pureRun_bind (k P) f
  | .load .., _ => rfl
  | .store .., _ => rfl
  | .new .., _ => rfl
  | .shape .., _ => rfl
  | .freeze .., _ => rfl
  | .frozen .., _ => rfl
  | .getObj .., _ => rfl
  | .setObj .., _ => rfl
  | .choose .., _ => rfl
  | .sys .., _ => rfl
  | .mark .., _ => rfl
  | .halt .., _ => rfl

/-- what is found among the keys alone is found among the entries -/
def Found (es : List MapEntry) (i : Nat) (r' r : Option (Nat × Value)) : Prop := (r' = none → r = none) ∧ ∀ j v, r' = some (j, v) → i ≤ j ∧ ∃ e, es[j - i]? = some e ∧ r = some (j, e.val)
theorem Found.more {e : MapEntry} {es : List MapEntry} {i : Nat} {r' r : Option (Nat × Value)} (h : Found es (i + 1) r' r) : Found (e :: es) i r' r := by
  refine ⟨h.1, fun j v hj => ?_⟩
  obtain ⟨h1, e', h2, h3⟩ := h.2 j v hj
  refine ⟨by omega, e', ?_, h3⟩
  rw [show j - i = (j - (i + 1)) + 1 by omega]; exact h2
theorem findNow_keys (kind : TypeDesc) (k : Value) : ∀ (es : List MapEntry) (i : Nat), match Instr.findNow kind k (es.map fun e => bareEnt e.key) i with
    | none => Instr.findNow kind k es i = none
    | some r' => ∃ r, Instr.findNow kind k es i = some r ∧ Found es i r' r
  | [], i => ⟨none, rfl, fun _ => rfl, fun j v h => by cases h⟩
  | e :: es, i => by
    have ih := findNow_keys kind k es (i + 1)
    simp only [List.map_cons, Instr.findNow, bareEnt]
    cases hs : Instr.sameNow kind k e.key with
    | none => rfl
    | some b =>
      cases b with
      | true => exact ⟨_, rfl, ⟨(fun h => by cases h), fun j v h => by injection h with h; injection h with h1 h2; subst h1; exact ⟨Nat.le_refl _, e, by simp, rfl⟩⟩⟩
      | false =>
        simp only
        split
        · rename_i h1; simp only [bareEnt] at ih; rw [h1] at ih; exact ih
        · rename_i r' h1; simp only [bareEnt] at ih; rw [h1] at ih
          obtain ⟨r, h2, h3⟩ := ih
          exact ⟨r, h2, h3.more⟩
theorem findAsking_keys (kt : TypeId) (k : Value) (w : World) : ∀ (es : List MapEntry) (i : Nat) (r' : Option (Nat × Value)), pureRun P (Instr.findAsking kt k (es.map fun e => bareEnt e.key) i) = some r' → ∃ r, (Instr.findAsking kt k es i).run P w = .ok r w ∧ Found es i r' r
  | [], i, r', h => by
    simp only [List.map_nil, Instr.findAsking] at h
    have h : some none = some r' := h
    injection h with h; subst h
    exact ⟨none, rfl, fun _ => rfl, fun j v h => by cases h⟩
  | e :: es, i, r', h => by
    simp only [List.map_cons, Instr.findAsking] at h
    have h : pureRun P ((Op.equal kt k (bareEnt e.key).key).bind fun b => if b = true then (Sem.pure (some (i, (bareEnt e.key).val)) : Sem (Option (Nat × Value))) else Instr.findAsking kt k (es.map fun e => bareEnt e.key) (i + 1)) = some r' := h
    rw [pureRun_bind] at h
    obtain ⟨b, hb, h⟩ := Option.bind_eq_some_iff.1 h
    have hb2 := pureRun_sound P w _ _ hb
    have hb2 : (Op.equal kt k e.key).run P w = .ok b w := hb2
    simp only [Instr.findAsking, Sem.run_bind, hb2, Result.andThen_ok]
    cases b with
    | true =>
      have h : some (some (i, (bareEnt e.key).val)) = some r' := h
      injection h with h; subst h
      exact ⟨_, rfl, ⟨(fun h => by cases h), fun j v h => by injection h with h; injection h with h1 h2; subst h1; exact ⟨Nat.le_refl _, e, by simp, rfl⟩⟩⟩
    | false =>
      have h : pureRun P (Instr.findAsking kt k (es.map fun e => bareEnt e.key) (i + 1)) = some r' := h
      obtain ⟨r, h1, h2⟩ := findAsking_keys kt k w es (i + 1) r' h
      exact ⟨r, h1, h2.more⟩
theorem findKey_keys (kt : TypeId) (k : Value) (w : World) (es : List MapEntry) (r' : Option (Nat × Value)) (h : pureRun P (Instr.findKey kt k (es.map fun e => bareEnt e.key)) = some r') : ∃ r, (Instr.findKey kt k es).run P w = .ok r w ∧ Found es 0 r' r := by
  unfold Instr.findKey at h ⊢
  have h : pureRun P ((underlying kt).bind fun t => match Instr.findNow t k (es.map fun e => bareEnt e.key) 0 with
    | some r => (Sem.pure r : Sem (Option (Nat × Value)))
    | none => Instr.findAsking kt k (es.map fun e => bareEnt e.key)) = some r' := h
  rw [pureRun_bind] at h
  obtain ⟨t, ht, h⟩ := Option.bind_eq_some_iff.1 h
  have ht2 := pureRun_sound P w _ _ ht
  simp only [Sem.run_bind, ht2, Result.andThen_ok]
  have hn := findNow_keys t k es 0
  cases hf : Instr.findNow t k (es.map fun e => bareEnt e.key) 0 with
  | none =>
    rw [hf] at hn h
    simp only at hn h
    rw [hn]
    exact findAsking_keys kt k w es 0 r' h
  | some r2 =>
    rw [hf] at hn h
    simp only at hn h
    have h : some r2 = some r' := h
    injection h with h; subst h
    obtain ⟨r, h1, h2⟩ := hn
    rw [h1]
    exact ⟨r, rfl, h2⟩

/-- an owned map, as it lies -/
structure MapIs (B : Nat) (S0 : Nat → Prop) (Γ : Gam) (w : World) (k g : Nat) (ob : Ob) (oi : OI) (b : Nat) (es : Array MapEntry) (clock : Nat) (l : List AV) : Prop where
  gam : Γ k = (g, some oi)
  ver : oi.ver = 0
  blk : oi.val.ownBlock = some b
  base : B ≤ b
  lies : w.heap[b]? = some (.map es clock)
  xs : ob.xs = .any :: l
  len : l.length = es.size
  ent : ∀ (j : Nat) (e : MapEntry) (x : AV), es[j]? = some e → l[j]? = some x → ∃ kx vx, x = .tup [kx, vx] ∧ AVok (Free S0 B Γ w) Γ w e.key kx ∧ AVok (Free S0 B Γ w) Γ w e.val vx
theorem Holds.obj (h : Holds G B S0 w0 Γ c a.tmps w) {k g : Nat} (hk : look c.η k = (g, some ob)) (hs0 : ob.s = 0) : ∃ oi, Γ k = (g, some oi) ∧ MapOk S0 B Γ w oi ob := by
  obtain ⟨oi, h1, h2⟩ := h.row k ob (by rw [hk])
  have hg : (Γ k).1 = g := by rw [h.gen k, hk]
  refine ⟨oi, by rw [← hg, ← h1], h2.resolve_left fun q => ?_⟩
  have := q.s0; omega
theorem Holds.mapAt (h : Holds G B S0 w0 Γ c a.tmps w) {k g : Nat} {u : Value} (hk : look c.η k = (g, some ob)) (hs0 : ob.s = 0) (he0 : ob.e = 0) (hx : AVok (Free S0 B Γ w) Γ w u (.mp k g)) : ∃ oi b es clock l, u = .map (some b) ∧ MapIs B S0 Γ w k g ob oi b es clock l := by
  obtain ⟨oi, hΓ, hm⟩ := h.obj hk hs0
  obtain ⟨b, l, o, h1, h2, h3, h4, h5⟩ := hm.ents
  rcases h5 with ⟨_, es, clock, rfl, h6, h7⟩ | ⟨h5, _⟩
  · refine ⟨oi, b, es, clock, l, ?_, ⟨hΓ, hm.ver, h1, h2, h3, h4, h6, h7⟩⟩
    cases hx with
    | mpLive _ _ b' oi' hl hb =>
      have := hl.1; rw [hΓ] at this; injection this with _ q; injection q with q; subst q
      rw [h1] at hb; injection hb with hb; rw [hb]
    | mpDead b' _ _ hd =>
      rcases hd with hd | ⟨_, hd⟩
      · rw [hΓ] at hd; exact absurd hd (Nat.lt_irrefl _)
      · have := hd oi (by rw [hΓ]); rw [hm.ver] at this; omega
  · omega
theorem ents_keys {S : Nat → Prop} : ∀ {es : List MapEntry} {l : List AV} {ks : List Value}, l.length = es.length → (∀ (j : Nat) (e : MapEntry) (x : AV), es[j]? = some e → l[j]? = some x → ∃ kx vx, x = .tup [kx, vx] ∧ AVok S Γ w e.key kx ∧ AVok S Γ w e.val vx) → l.mapM entKey = some ks → es.map (·.key) = ks
  | [], [], ks, _, _, h => by simp at h; subst h; rfl
  | e :: es, x :: l, ks, hl, he, h => by
    simp only [List.mapM_cons, Option.bind_eq_bind, Option.bind_eq_some_iff, Option.pure_def, Option.some.injEq] at h
    obtain ⟨v, hv, vs, hvs, rfl⟩ := h
    obtain ⟨kx, vx, rfl, h1, h2⟩ := he 0 e x rfl rfl
    simp only [List.map_cons, ents_keys (ks := vs) (by simpa using hl) (fun j e' x' q1 q2 => he (j + 1) e' x' (by simpa using q1) (by simpa using q2)) hvs]
    rw [toVal_ok h1 (by simpa [entKey] using hv)]
  | [], _ :: _, _, hl, _, _ => by simp at hl
  | _ :: _, [], _, hl, _, _ => by simp at hl
theorem keys_bare (es : List MapEntry) {ks : List Value} (h : es.map (·.key) = ks) : (es.map fun e => bareEnt e.key) = ks.map bareEnt := by
  subst h; simp
theorem findA_ok {S : Nat → Prop} {kt : Nat} {kv : Value} {l : List AV} {es : Array MapEntry} {r' : Option Nat} (hl : l.length = es.size) (he : ∀ (j : Nat) (e : MapEntry) (x : AV), es[j]? = some e → l[j]? = some x → ∃ kx vx, x = .tup [kx, vx] ∧ AVok S Γ w e.key kx ∧ AVok S Γ w e.val vx) (hf : findA P kt kv l = some r') :
    (Instr.checkKey es.isEmpty 10000 kt kv).run P w = .ok () w ∧ ∃ r, (Instr.findKey kt kv es.toList).run P w = .ok r w ∧ (r' = none → r = none) ∧ ∀ j, r' = some j → ∃ e, es[j]? = some e ∧ r = some (j, e.val) := by
  unfold findA at hf
  split at hf <;> try (cases hf; done)
  rename_i ks hks
  split at hf <;> try (cases hf; done)
  rename_i u r2 hu hr2
  injection hf with hf; subst hf
  have hk := ents_keys (es := es.toList) (by simpa using hl) (fun j e x q1 q2 => he j e x (by simpa using q1) q2) hks
  rw [← keys_bare _ hk] at hr2
  obtain ⟨r, h1, h2, h3⟩ := findKey_keys kt kv w es.toList r2 hr2
  have hemp : l.isEmpty = es.isEmpty := by
    cases l with
    | nil => simp at hl; simp [Array.isEmpty, ← hl]
    | cons => simp at hl; simp [Array.isEmpty, ← hl]
  refine ⟨by rw [← hemp]; exact pureRun_sound P w _ _ hu, r, h1, fun q => h2 (by cases r2 <;> simp_all), fun j q => ?_⟩
  cases r2 with
  | none => cases q
  | some p =>
    obtain ⟨j2, v⟩ := p
    have q : j2 = j := by simpa using q
    subst q
    obtain ⟨_, e, h4, h5⟩ := h3 j2 v rfl
    exact ⟨e, by simpa using h4, h5⟩
theorem run_getMap {b : Nat} {es : Array MapEntry} {clock : Nat} (h : w.heap[b]? = some (.map es clock)) : (getObj b).run P w = .ok (.map es clock) w := by simp [getObj, Sem.run, h]
def setB (w : World) (b : Nat) (o : Obj) : World := { w with heap := w.heap.setIfInBounds b o }
theorem run_setB {b : Nat} {o o' : Obj} (h : w.heap[b]? = some o) (hm : o matches .map .. | .stringIter ..) : (setObj b o').run P w = .ok () (setB w b o') := by
  cases o <;> simp at hm <;> simp [setObj, Sem.run, h, setB]
theorem setB_grown (w : World) (b : Nat) (o : Obj) : w.grownBy (setB w b o) (some b) := ⟨rfl, rfl, rfl, by simp [setB], fun k _ hk => by
  simp only [setB]; exact Array.getElem?_setIfInBounds_ne (fun e => hk (by rw [e]))⟩
theorem setB_same {b : Nat} {o o' : Obj} (h : w.heap[b]? = some o) : (setB w b o').heap[b]? = some o' := by
  simp only [setB]; exact Array.getElem?_setIfInBounds_self_of_lt (Array.getElem?_eq_some_iff.1 h).1

theorem do_lkp (h : Holds G B S0 w0 Γ c a.tmps w) {o : Oper} {t kt et : TypeId} {m k : Operand} {ma ka : XArg} {ok : Bool} {i : TypeInfo} {z : Value} (ho : o.op = .lookup t m k ok) (ht : P.underlying t = some (.map kt et)) (hm : argT m = some ma) (hk : argT k = some ka) (hi : P.info? et = some i) (hz : i.zero = some z)
    {r : Res} (hs : step P d c (.lkp kt ok (ofVal z) ma ka) = some r) : Does G B S0 w0 Γ c P o a w r := by
  have h1 := h.arg hm
  have h2 := h.arg hk
  have hzr : (zeroValue et).run P w = .ok z w := by simp [zeroValue, typeInfo, hi, hz]
  have zok : AVok (Free S0 B Γ w) Γ w (if ok = true then .tuple #[z, .bool false] else z) (if ok = true then .tup [ofVal z, .v (.bool false)] else ofVal z) := by
    cases ok with
    | true =>
      refine .tup [z, .bool false] _ rfl fun j u x q1 q2 => ?_
      · rcases j with _ | _ | j <;> simp at q1 q2 <;> rw [← q1, ← q2]
        · exact ofVal_ok z
        · exact .v _
    | false => exact ofVal_ok z
  simp only [step] at hs
  split at hs
  · rename_i kk g kv e1 e2
    rw [e1] at h1
    have hkv := toVal_ok h2 e2
    split at hs <;> try (cases hs; done)
    rename_i g' ob hlk
    split at hs <;> try (cases hs; done)
    rename_i hc
    obtain ⟨rfl, hs0, he0⟩ := hc
    obtain ⟨oi, b, es, clock, l, hu, M⟩ := h.mapAt hlk hs0 he0 h1
    have htl : ob.xs.tail = l := by rw [M.xs]; rfl
    rw [htl] at hs
    split at hs <;> try (cases hs; done)
    · rename_i j hf
      obtain ⟨hc1, r2, hc2, _, hc3⟩ := findA_ok M.len M.ent hf
      obtain ⟨e, he, rfl⟩ := hc3 j rfl
      split at hs <;> try (cases hs; done)
      rename_i x hx
      injection hs with hs; subst hs
      obtain ⟨kx, vx, rfl, q1, q2⟩ := M.ent j e x he hx
      refine .pure (u := if ok = true then .tuple #[e.val, .bool true] else e.val) ?_ ?_
      · cases ok <;> simp [execOp, ho, hu, hkv, Instr.lookup, run_underlying ht, run_getMap M.lies, hc1, hc2]
      · cases ok with
        | true =>
          refine .tup [e.val, .bool true] _ rfl fun j u x q3 q4 => ?_
          · rcases j with _ | _ | j <;> simp at q3 q4 <;> rw [← q3, ← q4]
            · exact q2
            · exact .v _
        | false => exact q2
    · rename_i hf
      obtain ⟨hc1, r2, hc2, hc3, _⟩ := findA_ok M.len M.ent hf
      have := hc3 rfl
      subst this
      injection hs with hs; subst hs
      exact .pure (u := if ok = true then .tuple #[z, .bool false] else z) (by cases ok <;> simp [execOp, ho, hu, hkv, Instr.lookup, run_underlying ht, run_getMap M.lies, hc1, hc2, hzr]) zok
  · rename_i kv e1 e2
    rw [e1] at h1
    have hkv := toVal_ok h2 e2
    have hu := v_inv h1
    split at hs <;> try (cases hs; done)
    rename_i u hc1 hc2
    injection hs with hs; subst hs
    have hc1 := pureRun_sound P w _ _ hc1
    have hc2 := pureRun_sound P w _ _ hc2
    exact .pure (u := if ok = true then .tuple #[z, .bool false] else z) (by cases ok <;> simp [execOp, ho, hu, hkv, Instr.lookup, run_underlying ht, hc1, hc2, hzr]) zok
  · cases hs

/-- a map changes -/
theorem Holds.mapSet (h : Holds G B S0 w0 Γ c a.tmps w) {k g b : Nat} {es es' : Array MapEntry} {clock clock' : Nat} {l l' : List AV} (M : MapIs B S0 Γ w k g ob oi b es clock l) (he0 : ob.e = 0) (hs0 : ob.s = 0) (hl : l'.length = es'.size)
    (he : ∀ (j : Nat) (e : MapEntry) (x : AV), es'[j]? = some e → l'[j]? = some x → ∃ kx vx, x = .tup [kx, vx] ∧ AVok (Free S0 B Γ w) Γ w e.key kx ∧ AVok (Free S0 B Γ w) Γ w e.val vx) :
    Holds G B S0 w0 (Γ.set k (g, some oi)) ⟨c.σ, putAt c.η k (g, some { ob with xs := .any :: l' })⟩ a.tmps (setB w b (.map es' clock')) :=
  h.row_setM k g oi { ob with xs := .any :: l' } (some b) (setB_grown w b _) (fun b' e => ⟨oi, by rw [M.gam], by injection e with e; subst e; exact M.blk⟩) (fun b' hb => .inr ⟨oi, by rw [M.gam], hb⟩) (.inr ⟨by rw [M.gam], oi, by rw [M.gam], .inl rfl⟩) fun hm =>
    .inr ⟨hs0, M.ver, b, l', _, M.blk, M.base, setB_same M.lies, rfl, .inl ⟨he0, es', clock', rfl, hl, fun j e x q1 q2 => by
      obtain ⟨kx, vx, q3, q4, q5⟩ := he j e x q1 q2
      exact ⟨kx, vx, q3, hm _ _ q4, hm _ _ q5⟩⟩⟩
theorem do_mup (h : Holds G B S0 w0 Γ c a.tmps w) {o : Oper} {t kt et : TypeId} {m k v : Operand} {ma ka va : XArg} (ho : o.op = .mapUpdate t m k v ∨ o.op = .insert t m k v) (ht : P.underlying t = some (.map kt et)) (hm : argT m = some ma) (hk : argT k = some ka) (hv : argT v = some va)
    {r : Res} (hs : step P d c (.mup kt ma ka va) = some r) : Does G B S0 w0 Γ c P o a w r := by
  have h1 := h.arg hm
  have h2 := h.arg hk
  have h3 := h.arg hv
  simp only [step] at hs
  split at hs <;> try (cases hs; done)
  rename_i kk g kv e1 e2
  rw [e1] at h1
  have hkv := toVal_ok h2 e2
  split at hs <;> try (cases hs; done)
  rename_i g' ob hlk
  split at hs <;> try (cases hs; done)
  rename_i hc
  obtain ⟨rfl, hs0, he0⟩ := hc
  obtain ⟨oi, b, es, clock, l, hu, M⟩ := h.mapAt hlk hs0 he0 h1
  have htl : ob.xs.tail = l := by rw [M.xs]; rfl
  rw [htl] at hs
  split at hs <;> try (cases hs; done)
  · rename_i u j hck hf
    have hck := pureRun_sound P w _ _ hck
    obtain ⟨hc1, r2, hc2, _, hc3⟩ := findA_ok M.len M.ent hf
    obtain ⟨e, he, rfl⟩ := hc3 j rfl
    split at hs <;> try (cases hs; done)
    rename_i old hold
    split at hs <;> try (cases hs; done)
    rename_i hsb
    injection hs with hs; subst hs
    obtain ⟨x, hx, hxk⟩ := Option.bind_eq_some_iff.1 hold
    obtain ⟨kx, vx, rfl, q1, q2⟩ := M.ent j e x he hx
    have hek : e.key = old := toVal_ok q1 (by simpa [entKey] using hxk)
    have hjl : j < l.length := (List.getElem?_eq_some_iff.1 hx).1
    have hst : (Instr.keyThatStays e.key kv).run P w = .ok kv w := by
      unfold Instr.keyThatStays; rw [hek, if_pos hsb]; rfl
    have hH := h.mapSet M he0 hs0 (es' := es.modify j fun e => { e with key := kv, val := a.eval v }) (clock' := clock) (l' := l.set j (.tup [evalA c.σ ka, evalA c.σ va])) (by simp [M.len]) (fun j' e' x' q3 q4 => by
      rw [Array.getElem?_modify] at q3
      rw [List.getElem?_set] at q4
      by_cases hj : j = j'
      · subst hj
        rw [if_pos rfl] at q3 q4
        rw [if_pos hjl] at q4
        rw [he] at q3
        simp only [Option.map_some, Option.some.injEq] at q3 q4
        subst q3; subst q4
        exact ⟨_, _, rfl, by rw [← hkv]; exact h2, h3⟩
      · rw [if_neg hj] at q3 q4
        exact M.ent j' e' x' q3 q4)
    refine ⟨.skip, undef, _, _, ?_, .inr ⟨rfl, rfl⟩, hH, .any _⟩
    rcases ho with ho | ho <;> simp [execOp, ho, hu, hkv, Instr.mapUpdate, run_underlying ht, run_getMap M.lies, hck, hc2, he, hst, run_setB M.lies]
  · rename_i u hck hf
    have hck := pureRun_sound P w _ _ hck
    obtain ⟨hc1, r2, hc2, hc3, _⟩ := findA_ok M.len M.ent hf
    have := hc3 rfl
    subst this
    injection hs with hs; subst hs
    have hH := h.mapSet M he0 hs0 (es' := es.push { key := kv, val := a.eval v, born := clock }) (clock' := clock + 1) (l' := l ++ [.tup [evalA c.σ ka, evalA c.σ va]]) (by simp [M.len]) (fun j' e' x' q3 q4 => by
      rw [Array.getElem?_push] at q3
      by_cases hj : j' = es.size
      · rw [if_pos hj] at q3
        injection q3 with q3; subst q3
        rw [List.getElem?_append_right (by rw [M.len]; omega), M.len, hj, Nat.sub_self] at q4
        simp only [List.getElem?_cons_zero, Option.some.injEq] at q4
        subst q4
        exact ⟨_, _, rfl, by rw [← hkv]; exact h2, h3⟩
      · rw [if_neg hj] at q3
        have hlt := (Array.getElem?_eq_some_iff.1 q3).1
        rw [List.getElem?_append_left (by rw [M.len]; exact hlt)] at q4
        exact M.ent j' e' x' q3 q4)
    refine ⟨.skip, undef, _, _, ?_, .inr ⟨rfl, rfl⟩, hH, .any _⟩
    rcases ho with ho | ho <;> simp [execOp, ho, hu, hkv, Instr.mapUpdate, run_underlying ht, run_getMap M.lies, hck, hc2, run_setB M.lies]
theorem do_del (h : Holds G B S0 w0 Γ c a.tmps w) {o : Oper} {t t2 kt et : TypeId} {m k : Operand} {ma ka : XArg} (ho : o.op = .call { callee := .builtin .delete, args := #[m, k], argTypes := #[t, t2] }) (ht : P.underlying t = some (.map kt et)) (hm : argT m = some ma) (hk : argT k = some ka)
    {r : Res} (hs : step P d c (.del kt ma ka) = some r) : Does G B S0 w0 Γ c P o a w r := by
  have h1 := h.arg hm
  have h2 := h.arg hk
  simp only [step] at hs
  split at hs <;> try (cases hs; done)
  rename_i kk g kv e1 e2
  rw [e1] at h1
  have hkv := toVal_ok h2 e2
  split at hs <;> try (cases hs; done)
  rename_i g' ob hlk
  split at hs <;> try (cases hs; done)
  rename_i hc
  obtain ⟨rfl, hs0, he0⟩ := hc
  obtain ⟨oi, b, es, clock, l, hu, M⟩ := h.mapAt hlk hs0 he0 h1
  have htl : ob.xs.tail = l := by rw [M.xs]; rfl
  rw [htl] at hs
  have tupok : ∀ {S : Nat → Prop} {Γ : Gam} {w : World}, AVok S Γ w (.tuple #[]) (.tup []) := .tup [] [] rfl fun j u x q => by simp at q
  split at hs <;> try (cases hs; done)
  · rename_i j hf
    obtain ⟨hc1, r2, hc2, _, hc3⟩ := findA_ok M.len M.ent hf
    obtain ⟨e, he, rfl⟩ := hc3 j rfl
    injection hs with hs; subst hs
    have hj : j < es.size := (Array.getElem?_eq_some_iff.1 he).1
    have hH := h.mapSet M he0 hs0 (es' := es.eraseIdxIfInBounds j) (clock' := clock) (l' := l.eraseIdx j) (by rw [List.length_eraseIdx, M.len, Array.eraseIdxIfInBounds, dif_pos hj, Array.size_eraseIdx, if_pos hj]) (fun j' e' x' q3 q4 => by
      rw [Array.eraseIdxIfInBounds, dif_pos hj, ← Array.getElem?_toList, Array.toList_eraseIdx, List.getElem?_eraseIdx] at q3
      rw [List.getElem?_eraseIdx] at q4
      split at q3
      · rename_i hlt
        rw [if_pos hlt] at q4
        exact M.ent j' e' x' (by simpa using q3) q4
      · rename_i hlt
        rw [if_neg hlt] at q4
        exact M.ent (j' + 1) e' x' (by simpa using q3) q4)
    refine ⟨.value (.tuple #[]), .tuple #[], _, _, ?_, .inl rfl, hH, tupok⟩
    simp [execOp, ho, resolve, invoke, builtin, Builtin.delete_, run_underlying ht, hu, hkv, run_getMap M.lies, hc1, hc2, run_setB M.lies]
  · rename_i hf
    obtain ⟨hc1, r2, hc2, hc3, _⟩ := findA_ok M.len M.ent hf
    have := hc3 rfl
    subst this
    injection hs with hs; subst hs
    have hH := h.mapSet M he0 hs0 (es' := es) (clock' := clock) (l' := l) M.len M.ent
    refine ⟨.value (.tuple #[]), .tuple #[], _, _, ?_, .inl rfl, hH, tupok⟩
    simp [execOp, ho, resolve, invoke, builtin, Builtin.delete_, run_underlying ht, hu, hkv, run_getMap M.lies, hc1, hc2, run_setB M.lies]
theorem do_lenM (h : Holds G B S0 w0 Γ c a.tmps w) {o : Oper} {t kt et : TypeId} {x : Operand} {xa : XArg} (ho : o.op = .call { callee := .builtin .len, args := #[x], argTypes := #[t] }) (hx : argT x = some xa) (hd : P.underlying t = some (.map kt et))
    {r : Res} (hs : step P d c (.lenM xa) = some r) : Does G B S0 w0 Γ c P o a w r := by
  have h1 := h.arg hx
  simp only [step] at hs
  split at hs <;> try (cases hs; done)
  · rename_i kk g e1
    rw [e1] at h1
    split at hs <;> try (cases hs; done)
    rename_i g' ob hlk
    split at hs <;> try (cases hs; done)
    rename_i hc
    obtain ⟨rfl, hs0, he0⟩ := hc
    obtain ⟨oi, b, es, clock, l, hu, M⟩ := h.mapAt hlk hs0 he0 h1
    injection hs with hs; subst hs
    have htl : ob.xs.tail.length = es.size := by rw [M.xs]; exact M.len
    rw [htl]
    exact .pure (u := .int .i64 es.size) (by simp [execOp, ho, resolve, invoke, builtin, Builtin.len_, run_underlying hd, hu, goInt, run_getMap M.lies]) (.v _)
  · rename_i e1
    rw [e1] at h1
    have hu := v_inv h1
    injection hs with hs; subst hs
    exact .pure (u := .int .i64 0) (by simp [execOp, ho, resolve, invoke, builtin, Builtin.len_, run_underlying hd, hu, goInt]) (.v _)
/-- a new thing that is no cells -/
theorem Holds.newObj (h : Holds G B S0 w0 Γ c a.tmps w) (k e : Nat) (l : List AV) (o : Obj)
    (he : ((e = 0 ∧ ∃ (es : Array MapEntry) (clock : Nat), o = .map es clock ∧ l.length = es.size ∧ ∀ (j : Nat) (e : MapEntry) (x : AV), es[j]? = some e → l[j]? = some x → ∃ kx vx, x = .tup [kx, vx] ∧ False) ∨ (e = 1 ∧ ∃ (s : ByteArray) (pos : Nat), o = .stringIter s pos ∧ l = [.v (.string s), .v (.int .i64 pos)]))) :
    ∃ Γ', Holds G B S0 w0 Γ' ⟨c.σ, putAt c.η k ((look c.η k).1 + 1, some ⟨e, 0, .any :: l⟩)⟩ a.tmps (w.alloc o) ∧ Γ'.live k ((look c.η k).1 + 1) 0 ⟨0, .slice (some ⟨w.heap.size, 0, none⟩) 0 0, 0⟩ := by
  have hBw : B ≤ w.heap.size := Nat.le_trans h.base h.below.size
  refine ⟨Γ.set k ((look c.η k).1 + 1, some ⟨0, .slice (some ⟨w.heap.size, 0, none⟩) 0 0, 0⟩), ?_, ⟨Gam.set_self _ _ _, rfl⟩⟩
  refine h.row_setM k _ _ ⟨e, 0, .any :: l⟩ none (World.grownBy_alloc w _ none) (fun b e => by cases e) (fun b hb => .inl (by simp [Value.ownBlock] at hb; omega)) (.inl (by rw [h.gen k]; exact Nat.lt_succ_self _)) fun hm => ?_
  refine .inr ⟨rfl, rfl, w.heap.size, l, o, rfl, hBw, heap_alloc_new w o, rfl, he.imp (fun ⟨e0, es, clock, q1, q2, q3⟩ => ⟨e0, es, clock, q1, q2, fun j e x q4 q5 => ?_⟩) id⟩
  obtain ⟨_, _, _, q⟩ := q3 j e x q4 q5
  exact q.elim
theorem do_mkm (h : Holds G B S0 w0 Γ c a.tmps w) {o : Oper} {t kt et : TypeId} {n : Option Operand} (ho : o.op = .makeMap t n) (ht : P.underlying t = some (.map kt et)) (hn : ∀ x, n = some x → ∃ z, x = .const (.int .i64 z))
    {r : Res} (hs : step P d c .mkm = some r) : Does G B S0 w0 Γ c P o a w r := by
  simp only [step, Option.some.injEq] at hs
  subst hs
  obtain ⟨Γ', hH, hl⟩ := h.newObj d 0 [] (.map #[] 0) (.inl ⟨rfl, #[], 0, rfl, rfl, fun j e x q => by simp at q⟩)
  refine ⟨_, .map (some w.heap.size), _, Γ', ?_, .inl rfl, hH, .mpLive _ _ _ _ hl rfl⟩
  cases n with
  | none => simp [execOp, ho, Instr.makeMap, Go.newObj, Sem.run]
  | some x =>
    obtain ⟨z, rfl⟩ := hn x rfl
    simp [execOp, ho, Instr.makeMap, run_underlying ht, Act.eval, Go.asInt, Go.newObj, Sem.run]; rfl
theorem do_rgs (h : Holds G B S0 w0 Γ c a.tmps w) {o : Oper} {t : TypeId} {x : Operand} {xa : XArg} (ho : o.op = .range t x) (ht : P.underlying t = some .string) (hx : argT x = some xa)
    {r : Res} (hs : step P d c (.rgs xa) = some r) : Does G B S0 w0 Γ c P o a w r := by
  have h1 := h.arg hx
  simp only [step] at hs
  split at hs <;> try (cases hs; done)
  rename_i s e1
  rw [e1] at h1
  have hu := v_inv h1
  injection hs with hs; subst hs
  obtain ⟨Γ', hH, hl⟩ := h.newObj d 1 [.v (.string s), .v (.int .i64 0)] (.stringIter s 0) (.inr ⟨rfl, s, 0, rfl, rfl⟩)
  refine ⟨.value (.pointer (some ⟨w.heap.size, 0, none⟩)), .pointer (some ⟨w.heap.size, 0, none⟩), w.alloc (.stringIter s 0), Γ', ?_, .inl rfl, hH, .itLive _ _ _ _ hl rfl⟩
  simp [execOp, ho, hu, Instr.range, run_underlying ht, Go.newObj, Sem.run]
theorem do_nxs (h : Holds G B S0 w0 Γ c a.tmps w) {o : Oper} {x : Operand} {xa : XArg} (ho : o.op = .next x true) (hx : argT x = some xa)
    {r : Res} (hs : step P d c (.nxs xa) = some r) : Does G B S0 w0 Γ c P o a w r := by
  have h1 := h.arg hx
  simp only [step] at hs
  split at hs <;> try (cases hs; done)
  rename_i kk g e1
  rw [e1] at h1
  split at hs <;> try (cases hs; done)
  rename_i g' ob hlk
  split at hs <;> try (cases hs; done)
  rename_i hc
  obtain ⟨rfl, hs0, he1⟩ := hc
  obtain ⟨oi, hΓ, hm⟩ := h.obj hlk hs0
  obtain ⟨b, l, oo, q1, q2, q3, q4, q5⟩ := hm.ents
  rcases q5 with ⟨q5, _⟩ | ⟨_, s, pos, rfl, rfl⟩
  · omega
  have hu : a.eval x = .pointer (some ⟨b, 0, none⟩) := by
    generalize hv : a.eval x = pv at h1
    cases h1 with
    | itLive _ _ b' oi' hl hb =>
      have := hl.1; rw [hΓ] at this; injection this with _ q; injection q with q; subst q
      rw [q1] at hb; injection hb with hb; rw [hb]
    | itDead b' _ _ hd =>
      rcases hd with hd | ⟨_, hd⟩
      · rw [hΓ] at hd; exact absurd hd (Nat.lt_irrefl _)
      · have := hd oi (by rw [hΓ]); rw [hm.ver] at this; omega
  rw [q4] at hs
  simp only [Int.toNat_natCast] at hs
  have hg : (getObj b).run P w = .ok (.stringIter s pos) w := by simp [getObj, Sem.run, q3]
  split at hs
  · rename_i hlt
    have hlt : pos < s.size := by omega
    injection hs with hs; subst hs
    have hset := run_setB (P := P) (o' := .stringIter s (pos + (Utf8.decode s pos).2)) q3 rfl
    have hH := h.row_setM kk g' oi { ob with xs := [.any, .v (.string s), .v (.int .i64 (pos + (Utf8.decode s pos).2 : Nat))] } (some b) (setB_grown w b (.stringIter s (pos + (Utf8.decode s pos).2))) (fun b' e => ⟨oi, by rw [hΓ], by injection e with e; subst e; exact q1⟩) (fun b' hb => .inr ⟨oi, by rw [hΓ], hb⟩) (.inr ⟨by rw [hΓ], oi, by rw [hΓ], .inl rfl⟩) fun hm2 =>
      .inr ⟨hs0, hm.ver, b, _, _, q1, q2, setB_same q3, rfl, .inr ⟨he1, s, pos + (Utf8.decode s pos).2, rfl, rfl⟩⟩
    refine ⟨.value (.tuple #[.bool true, goInt pos, .int .i32 (Utf8.decode s pos).1]), .tuple #[.bool true, goInt pos, .int .i32 (Utf8.decode s pos).1], _, _, ?_, .inl rfl, hH, .tup [.bool true, goInt pos, .int .i32 (Utf8.decode s pos).1] _ rfl fun j u x p1 p2 => ?_⟩
    · simp [execOp, ho, hu, Instr.next, hg, hlt, hset]
    · rcases j with _ | _ | _ | j <;> simp at p1 p2 <;> rw [← p1, ← p2] <;> exact .v _
  · rename_i hlt
    have hlt : ¬ pos < s.size := by omega
    injection hs with hs; subst hs
    exact .pure (u := .tuple #[.bool false]) (by simp [execOp, ho, hu, Instr.next, hg, hlt]) (.tup [.bool false] _ rfl fun j u x p1 p2 => by
      rcases j with _ | j <;> simp at p1 p2; rw [← p1, ← p2]; exact .v _)
end
end Go.Proofs.Eng
