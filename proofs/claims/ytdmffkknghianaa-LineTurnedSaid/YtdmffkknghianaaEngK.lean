/-
  Every operation that has a short form does in the values what the short form does to plain data.
-/
import Derived.Test.YtdmffkknghianaaEngMp
set_option linter.unusedSimpArgs false
set_option linter.unusedVariables false
namespace Go.Proofs.Eng
open Go Go.RowKit

section
variable {G : List (Value × AV)} {B : Nat} {S0 : Nat → Prop} {w0 w : World} {Γ : Gam} {c : Cfg} {a : Act} {P : Program} {d : Nat} {oi : OI} {ob : Ob}

theorem do_raw (h : Holds G B S0 w0 Γ c a.tmps w) {o : Oper} (hns : ∀ cs b, o.op ≠ .select cs b) {r : Res} (hs : step P d c (.raw o.op o.type) = some r) : Does G B S0 w0 Γ c P o a w r := by
  simp only [step] at hs
  split at hs <;> try (cases hs; done)
  rename_i hall
  obtain ⟨_, hall⟩ := hall
  split at hs <;> try (cases hs; done)
  rename_i u hu
  injection hs with hs; subst hs
  have he : execOp a.eval o = execOp (fun x => (((argT x).bind fun xa => toVal (evalA c.σ xa))).getD (.bool false)) { dst := none, op := o.op, type := o.type, pos := "", after := #[], guard := none } := by
    rw [execOp_congr (ρ' := fun x => (((argT x).bind fun xa => toVal (evalA c.σ xa))).getD (.bool false)) o hns fun x hx => ?_]
    · cases o; rfl
    · have := List.all_eq_true.1 hall x (by simpa using hx)
      cases hb : (argT x).bind fun xa => toVal (evalA c.σ xa) with
      | none => rw [hb] at this; cases this
      | some v =>
        obtain ⟨xa, hxa, hv⟩ := Option.bind_eq_some_iff.1 hb
        exact toVal_ok (h.arg hxa) hv
  exact .pure (u := u) (by rw [he]; exact pureRun_sound P w _ _ hu) (ofVal_ok u)

/-- the short form of a call -/
def compCall (P : Program) (own : Bool) (cl : Call) (ty : TypeId) : Option XOp :=
  match cl.callee with
  | .builtin .len => match cl.args.toList, cl.argTypes.toList with
    | [x], [t] => match argT x, P.underlying t with
      | some x, some (.slice _) => some (.len x)
      | some x, some .string => some (.lenS x)
      | some x, some (.map _ _) => some (.lenM x)
      | _, _ => none
    | _, _ => none
  | .builtin .cap => match cl.args.toList, cl.argTypes.toList with
    | [x], [t] => match argT x, P.underlying t with
      | some x, some (.slice _) => some (.capS x)
      | _, _ => none
    | _, _ => none
  | .builtin .append => match cl.args.toList, cl.argTypes.toList with
    | [x, y], [t, t'] => match argT x, argT y, P.underlying t with
      | some x, some y, some (.slice e) => match sizeO P e, P.info? e with
        | some (s, _), some i => match i.zero with
          | some z => if t = t' ∧ z.cells.size = s then some (.app e s (if own = true then i.bytes + 1048576 else i.bytes) x y) else
            match P.underlying t' with
            | some (.int _) => if z.cells.size = s ∧ solid (ofVal z) = true ∧ width (ofVal z) = s then some (.appz e s i.bytes z x y) else none
            | _ => none
          | none => none
        | _, _ => none
      | _, _, _ => none
    | _, _ => none
  | .builtin .min | .builtin .max => some (.raw (.call cl) ty)
  | .builtin .copy => match cl.args.toList, cl.argTypes.toList with
    | [x, y], [t, _] => match argT x, argT y, P.underlying t with
      | some x, some y, some (.slice e) => match sizeO P e with
        | some (1, false) => some (.cpy x y)
        | _ => none
      | _, _, _ => none
    | _, _ => none
  | .builtin .delete => match cl.args.toList, cl.argTypes.toList with
    | [m, k], [t, _] => match argT m, argT k, P.underlying t with
      | some m, some k, some (.map kt _) => some (.del kt m k)
      | _, _, _ => none
    | _, _ => none
  | .value (.tmp t) => match cl.args.toList.mapM argT with | some xs => some (.callv (.t t) xs) | none => none
  | .invoke x name => match argT x, cl.args.toList.mapM argT with | some x, some xs => some (.inv x name xs) | _, _ => none
  | .value (.func f) => match cl.args.toList.mapM argT, P.funcs[f]? with
    | some xs, some fn => if (fn.name == "runtime.NumGoroutine") = false ∧ fn.body.isNone = false then some (.call own f xs) else
      match extOf fn with
      | some n => some (.xt n xs)
      | none => none
    | _, _ => none
  | _ => none
/-- where the parts of a struct or an array lie -/
def placesOf (P : Program) : TypeDesc → Option (Array (Nat × Nat))
  | .struct fs => pureRun P (fs.mapM fun f => do pure (f.offset, ← sizeOf f.type) : Sem (Array (Nat × Nat)))
  | .array n e => match P.info? e with | some i => some ((Array.range n).map fun j => (j * i.size, i.size)) | none => none
  | _ => none
def partOf (pl : Array (Nat × Nat)) (p : Nat × Operand) : Option (Nat × Nat × XArg) :=
  match pl[p.1]?, argT p.2 with
  | some q, some x => some (q.1, q.2, x)
  | _, _ => none
/-- the short form of an operation -/
def comp (P : Program) (own : Bool) (o : Op) (ty : TypeId) : Option XOp :=
  match o with
  | .move x | .assign x => match argT x with | some x => some (.mv x) | none => none
  | .pick k x y => match argT k, argT x, argT y with | some k, some x, some y => some (.pick k x y) | _, _, _ => none
  | .binOp op t x y ty' => match P.underlying t with
    | some (.int _) | some .string => match argT x, argT y with | some x, some y => some (.bin op x y) | _, _ => none
    | some (.slice _) => match op, y with
      | .eql, .const (.slice none 0 0) => match argT x with | some x => some (.isnil false x) | none => some .bad
      | .neq, .const (.slice none 0 0) => match argT x with | some x => some (.isnil true x) | none => some .bad
      | _, _ => some .bad
    | _ => some (.raw (.binOp op t x y ty') ty)
  | .unOp .xor t x => some (.raw (.unOp .xor t x) ty)
  | .unOp op _ x => match argT x with | some x => some (.un op x) | none => none
  | .convert s t x => match P.underlying s, P.underlying t, argT x with
    | some (.slice e), some .string, some xa => match P.underlying e with
      | some (.int .u8) => some (.b2s xa)
      | _ => some .bad
    | _, _, _ => some (.raw (.convert s t x) ty)
  | .load t p => match argT p, sizeO P t with | some p, some (s, agg) => some (.load s agg p) | _, _ => none
  | .store t p x => match argT p, argT x, sizeO P t with | some p, some x, some (s, _) => some (.store s p x) | _, _, _ => none
  | .fieldAddr st p f => match argT p, P.underlying st with
    | some p, some (.struct fs) => match fs[f]? with
      | some fd => match sizeO P fd.type with | some (s, agg) => some (.fadr fd.offset s agg p) | none => none
      | none => none
    | _, _ => none
  | .field st p f => match argT p, P.underlying st with
    | some p, some (.struct fs) => match fs[f]? with
      | some fd => match sizeO P fd.type with | some (s, agg) => some (.fld fd.offset s agg p) | none => none
      | none => none
    | _, _ => none
  | .indexAddr t x i => match argT x, argT i, P.underlying t with
    | some x, some i, some (.slice e) => match sizeO P e with | some (s, _) => some (.iadr s x i) | none => none
    | some x, some i, some (.array n e) => match sizeO P e with | some (s, agg) => some (.aadr n s agg x i) | none => none
    | _, _, _ => none
  | .index t x i => match P.underlying t with
    | some (.array n e) => match argT x, argT i, sizeO P e with | some x, some i, some (s, agg) => some (.idx n s agg x i) | _, _, _ => none
    | _ => some (.raw (.index t x i) ty)
  | .slice t x lo hi mx => match P.underlying t with
    | some (.slice e) => match argT x, argO lo, argO hi, argO mx, sizeO P e with | some x, some lo, some hi, some mx, some (s, _) => some (.slc s x lo hi mx) | _, _, _, _, _ => none
    | some (.array n e) => match argT x, argO lo, argO hi, mx, sizeO P e with | some x, some lo, some hi, none, some (s, agg) => some (.slcA n s agg x lo hi) | _, _, _, _, _ => some .bad
    | _ => some (.raw (.slice t x lo hi mx) ty)
  | .box e x => match argT x, P.info? e with | some x, some i => if 0 < i.size then some (.box e i.size own x) else none | _, _ => none
  | .buildSlice t n parts => match P.underlying t with
    | some (.slice e) => match sizeO P e, P.info? e, (parts.toList.map (·.2)).mapM argT with
      | some (s, _), some i, some xs => if i.zero.isSome ∧ parts.toList.map (·.1) = List.range n ∧ n * s ≤ 2 ^ 24 then some (.bldS e s own xs) else none
      | _, _, _ => none
    | _ => none
  | .makeInterface t x => match argT x with | some x => if P.concrete t = true then some (.mki t x) else none | none => none
  | .typeAssert x _ t ok => match argT x, P.underlying t, P.info? t with
    | some x, some dd, some i => match dd, i.zero with
      | .interface _, _ => none
      | _, some z => some (.tas t ok (ofVal z) x)
      | _, none => none
    | _, _, _ => none
  | .extract x i => match argT x with | some x => some (.ext x i) | none => none
  | .nilCheck x => match argT x with | some x => some (.nilc x) | none => none
  | .call cl => match compCall P own cl ty with | some x => some x | none => some .bad
  | .alloc e => match P.info? e with
    | some i => match i.zero with
      | some z => if 0 < i.size then some (.box e i.size own (.c (ofVal z))) else some .bad
      | none => some .bad
    | none => some .bad
  | .build t parts => match P.info? t, P.underlying t with
    | some i, some dd => match i.zero, placesOf P dd with
      | some z, some pl => match parts.toList.mapM (partOf pl) with
        | some qs => if z.cells.toList.all (·.oneCell') = true then some (.bld z.cells.toList qs) else some .bad
        | none => some .bad
      | _, _ => some .bad
    | _, _ => some .bad
  | .makeSlice t n cp => match argT n, argT cp, P.underlying t with
    | some n, some cp, some (.slice e) => match sizeO P e, P.info? e with
      | some (s, _), some i => match i.zero with
        | some z => if z.cells.size = s ∧ z.cells.toList.all (·.oneCell') = true ∧ solid (ofVal z) = true ∧ width (ofVal z) = s then some (.mks e s own (if own = true then i.bytes + 1048576 else i.bytes) z n cp) else some .bad
        | none => some .bad
      | _, _ => some .bad
    | _, _, _ => some .bad
  | .makeFunc (.func f) first caps => match first.toList, caps.toList.mapM argT with
    | [], some xs => some (.mkf f xs)
    | fs, some [] => match fs.mapM argT with
      | some xs => match caps.toList with
        | [] => some (.mkb f xs)
        | _ => some .bad
      | none => some .bad
    | _, _ => some .bad
  | .makeMap t n => match P.underlying t, n with
    | some (.map _ _), none => some .mkm
    | some (.map _ _), some (.const (.int .i64 _)) => some .mkm
    | _, _ => some .bad
  | .lookup t m k ok => match P.underlying t, argT m, argT k with
    | some (.map kt et), some m, some k => match P.info? et with
      | some i => match i.zero with
        | some z => some (.lkp kt ok (ofVal z) m k)
        | none => some .bad
      | none => some .bad
    | _, _, _ => some .bad
  | .mapUpdate t m k v | .insert t m k v => match P.underlying t, argT m, argT k, argT v with
    | some (.map kt _), some m, some k, some v => some (.mup kt m k v)
    | _, _, _, _ => some .bad
  | .range t x => match P.underlying t, argT x with
    | some .string, some x => some (.rgs x)
    | _, _ => some .bad
  | .next x true => match argT x with
    | some x => some (.nxs x)
    | none => some .bad
  | _ => some .bad

/-- an append that is within a smaller bound is within a greater one -/
theorem step_app_less {P : Program} {d : Nat} {c : Cfg} {e s b b' : Nat} {x y : XArg} {r : Res} (hb : b ≤ b') (hs : step P d c (.app e s b' x y) = some r) : step P d c (.app e s b x y) = some r := by
  have le : ∀ n, n * b' ≤ 100000000000000 → n * b ≤ 100000000000000 := fun n h => Nat.le_trans (Nat.mul_le_mul_left n hb) h
  simp only [step] at hs ⊢
  split at hs <;> try (cases hs; done)
  rename_i ys hys
  try rw [hys]
  try simp only
  generalize evalA c.σ x = vx at hs ⊢
  split at hs <;> try (cases hs; done)
  · rename_i k g ver s' n
    split at hs <;> try (cases hs; done)
    rename_i g' ob hlk
    try rw [hlk]
    try simp only
    split at hs
    · rename_i h1
      rw [if_pos ⟨h1.1, h1.2.1, h1.2.2.1, h1.2.2.2.1, h1.2.2.2.2.1, h1.2.2.2.2.2.1, le _ h1.2.2.2.2.2.2.1, h1.2.2.2.2.2.2.2⟩]; exact hs
    · split at hs <;> try (cases hs; done)
      rename_i h1 h2
      by_cases h3 : g' = g ∧ ob.xs.length = ver ∧ n = ver ∧ s' = s ∧ ob.s = s ∧ ob.e = e ∧ (n + ys.length) * b ≤ 100000000000000 ∧ n + ys.length ≤ 100000000000000
      · rw [if_pos h3]
        obtain ⟨q1, q2, q3, q4, q5, q6, _⟩ := h3
        have q7 : ys = [] := List.eq_nil_of_length_eq_zero (by have := h2.2.2.1; omega)
        subst q7; subst q3; subst q4
        rw [← hs]
        have e1 : ob.xs.take n = ob.xs := List.take_of_length_le (by omega)
        have e2 : ob.xs.drop n = [] := List.drop_eq_nil_of_le (by omega)
        simp [e1, e2]
      · rw [if_neg h3, if_pos h2]; exact hs
  · split at hs
    · rename_i h1
      rw [if_pos ⟨h1.1, h1.2.1, le _ h1.2.2.1, h1.2.2.2⟩]; exact hs
    · split at hs <;> try (cases hs; done)
      rename_i h1 h2
      rw [if_neg (fun q => q.2.1 h2.2), if_pos h2]; exact hs
  · split at hs
    · rename_i h1; rw [if_pos h1]; exact hs
    · split at hs <;> try (cases hs; done)
      rename_i h1 h2
      rw [if_neg h1, if_pos ⟨le _ h2.1, h2.2⟩]; exact hs
theorem toList_eq {α : Type} {xs : Array α} {l : List α} (h : xs.toList = l) : xs = l.toArray := by rw [← h]
theorem compCall_ok (h : Holds G B S0 w0 Γ c a.tmps w) {o : Oper} {cl : Call} (ho : o.op = .call cl) {xo : XOp} {own : Bool} (hc : compCall P own cl o.type = some xo) {r : Res} (hs : step P d c xo = some r) : Does G B S0 w0 Γ c P o a w r := by
  obtain ⟨callee, args, argTypes⟩ := cl
  unfold compCall at hc
  simp only at hc
  split at hc
  · split at hc <;> try (cases hc; done)
    rename_i x t e1 e2
    have e1 := toList_eq e1; have e2 := toList_eq e2
    subst e1; subst e2
    split at hc <;> try (cases hc; done)
    · injection hc with hc; subst hc
      exact do_len h ho (by assumption) (by assumption) hs
    · injection hc with hc; subst hc
      exact do_lenS h ho (by assumption) (by assumption) hs
    · injection hc with hc; subst hc
      exact do_lenM h ho (by assumption) (by assumption) hs
  · split at hc <;> try (cases hc; done)
    rename_i x t e1 e2
    have e1 := toList_eq e1; have e2 := toList_eq e2
    subst e1; subst e2
    split at hc <;> try (cases hc; done)
    injection hc with hc; subst hc
    exact do_capS h ho (by assumption) (by assumption) hs
  · split at hc <;> try (cases hc; done)
    rename_i x y t t' e1 e2
    have e1 := toList_eq e1; have e2 := toList_eq e2
    subst e1; subst e2
    split at hc <;> try (cases hc; done)
    split at hc <;> try (cases hc; done)
    split at hc <;> try (cases hc; done)
    split at hc
    · rename_i hcc
      injection hc with hc; subst hc
      obtain ⟨rfl, hzs⟩ := hcc
      have hs := step_app_less (b := ‹TypeInfo›.bytes) (by split <;> omega) hs
      exact do_app h ho (by assumption) (by assumption) (by assumption) (by assumption) (by assumption) (by assumption) hzs rfl hs
    · split at hc <;> try (cases hc; done)
      split at hc <;> try (cases hc; done)
      rename_i hcc
      injection hc with hc; subst hc
      exact do_appz h ho (by assumption) (by assumption) (by assumption) (by assumption) (by assumption) (by assumption) (by assumption) hcc.1 hcc.2 rfl hs
  · injection hc with hc; subst hc
    rw [← ho] at hs
    exact do_raw h (fun cs b e => by rw [ho] at e; cases e) hs
  · injection hc with hc; subst hc
    rw [← ho] at hs
    exact do_raw h (fun cs b e => by rw [ho] at e; cases e) hs
  · split at hc <;> try (cases hc; done)
    rename_i x y t t2 e1 e2
    have e1 := toList_eq e1; have e2 := toList_eq e2
    subst e1; subst e2
    split at hc <;> try (cases hc; done)
    split at hc <;> try (cases hc; done)
    injection hc with hc; subst hc
    exact do_cpy h ho (by assumption) (by assumption) (by assumption) (by assumption) hs
  · split at hc <;> try (cases hc; done)
    rename_i m k t t2 e1 e2
    have e1 := toList_eq e1; have e2 := toList_eq e2
    subst e1; subst e2
    split at hc <;> try (cases hc; done)
    injection hc with hc; subst hc
    exact do_del h ho (by assumption) (by assumption) (by assumption) hs
  · split at hc <;> try (cases hc; done)
    injection hc with hc; subst hc
    exact do_callv h ho rfl (by assumption) hs
  · split at hc <;> try (cases hc; done)
    injection hc with hc; subst hc
    exact do_inv h ho (by assumption) (by assumption) hs
  · rename_i f
    split at hc <;> try (cases hc; done)
    rename_i fn hx hf
    split at hc
    · rename_i hcc
      injection hc with hc; subst hc
      exact do_call h ho (by assumption) (by assumption) hcc.1 hcc.2 hs
    · split at hc <;> try (cases hc; done)
      injection hc with hc; subst hc
      exact do_xt h ho (by assumption) (by assumption) (by assumption) hs
  · cases hc

theorem partOf_ok {pl : Array (Nat × Nat)} {l : List (Nat × Operand)} {qs : List (Nat × Nat × XArg)} (hm : l.mapM (partOf pl) = some qs) : l.length = qs.length ∧ ∀ (j : Nat) (p : Nat × Operand) (q : Nat × Nat × XArg), l[j]? = some p → qs[j]? = some q → pl[p.1]? = some (q.1, q.2.1) ∧ argT p.2 = some q.2.2 := by
  have : ∀ {l : List (Nat × Operand)} {qs : List (Nat × Nat × XArg)}, l.mapM (partOf pl) = some qs → l.length = qs.length ∧ ∀ (j : Nat) (p : Nat × Operand) (q : Nat × Nat × XArg), l[j]? = some p → qs[j]? = some q → partOf pl p = some q := by
    intro l
    induction l with
    | nil => intro qs h; simp at h; subst h; exact ⟨rfl, fun j p q h => by simp at h⟩
    | cons x l ih =>
      intro qs h
      simp only [List.mapM_cons, Option.bind_eq_bind, Option.bind_eq_some_iff, Option.pure_def, Option.some.injEq] at h
      obtain ⟨y, hy, zs, hzs, rfl⟩ := h
      obtain ⟨h1, h2⟩ := ih hzs
      refine ⟨by simp [h1], fun j p q hj hk => ?_⟩
      cases j with
      | zero => simp at hj hk; rw [← hj, ← hk]; exact hy
      | succ j => exact h2 j p q (by simpa using hj) (by simpa using hk)
  obtain ⟨h1, h2⟩ := this hm
  refine ⟨h1, fun j p q hj hk => ?_⟩
  have h3 := h2 j p q hj hk
  unfold partOf at h3
  split at h3 <;> try (cases h3; done)
  injection h3 with h3; subst h3
  exact ⟨by assumption, by assumption⟩
theorem do_bldC (h : Holds G B S0 w0 Γ c a.tmps w) {o : Oper} {t : TypeId} {parts : Array (Nat × Operand)} {qs : List (Nat × Nat × XArg)} {i : TypeInfo} {z : Value} {dd : TypeDesc} {pl : Array (Nat × Nat)} (ho : o.op = .build t parts) (hi : P.info? t = some i) (hd : P.underlying t = some dd) (hz : i.zero = some z) (hpl : placesOf P dd = some pl)
    (hq : parts.toList.mapM (partOf pl) = some qs) (hz1 : z.cells.toList.all (·.oneCell') = true) {r : Res} (hs : step P d c (.bld z.cells.toList qs) = some r) : Does G B S0 w0 Γ c P o a w r := by
  obtain ⟨h1, h2⟩ := partOf_ok hq
  have harr : ∀ n e, dd = .array n e → pl.size = n ∧ ∃ s, (P.info? e).map (·.size) = some s ∧ ∀ j, j < n → pl[j]? = some (j * s, s) := fun n e he => by
    subst he
    simp only [placesOf] at hpl
    split at hpl <;> try (cases hpl; done)
    rename_i ie hie
    injection hpl with hpl; subst hpl
    refine ⟨by simp, ie.size, by rw [hie]; rfl, fun j hj => ?_⟩
    simp [hj]
  refine do_bld h ho hi hz hz1 hd (places := pl) ?_ h1 (fun j p q hj hk => ⟨(h2 j p q hj hk).1, fun n e he => ?_, (h2 j p q hj hk).2⟩) hs
  · unfold placesOf at hpl
    split at hpl <;> try (cases hpl; done)
    · rename_i fs; exact .inl ⟨fs, rfl, hpl⟩
    · rename_i n e
      obtain ⟨_, s, h3, h4⟩ := harr n e rfl
      exact .inr ⟨n, e, s, rfl, h3, h4⟩
  · have h3 := (h2 j p q hj hk).1
    have h4 := (Array.getElem?_eq_some_iff.1 h3).1
    rw [(harr n e he).1] at h4; exact h4
theorem comp_ok (h : Holds G B S0 w0 Γ c a.tmps w) {o : Oper} {own : Bool} {xo : XOp} (hc : comp P own o.op o.type = some xo) {r : Res} (hs : step P d c xo = some r) : Does G B S0 w0 Γ c P o a w r := by
  unfold comp at hc
  split at hc
  · rename_i x ho
    split at hc <;> try (cases hc; done)
    injection hc with hc; subst hc
    exact do_mv h (.inl ho) (by assumption) hs
  · rename_i x ho
    split at hc <;> try (cases hc; done)
    injection hc with hc; subst hc
    exact do_mv h (.inr ho) (by assumption) hs
  · rename_i k x y ho
    split at hc <;> try (cases hc; done)
    injection hc with hc; subst hc
    exact do_pick h ho (by assumption) (by assumption) (by assumption) hs
  · rename_i op t x y ty' ho
    split at hc
    · split at hc <;> try (cases hc; done)
      injection hc with hc; subst hc
      exact do_bin h ho (by assumption) (by assumption) hs
    · split at hc <;> try (cases hc; done)
      injection hc with hc; subst hc
      exact do_bin h ho (by assumption) (by assumption) hs
    · split at hc
      · split at hc
        · injection hc with hc; subst hc
          exact do_isnil (neg := true) h ho (by assumption) (by assumption) hs
        · injection hc with hc; subst hc; simp [step] at hs
      · split at hc
        · injection hc with hc; subst hc
          exact do_isnil (neg := false) h ho (by assumption) (by assumption) hs
        · injection hc with hc; subst hc; simp [step] at hs
      · injection hc with hc; subst hc; simp [step] at hs
    · injection hc with hc; subst hc
      rw [← ho] at hs
      exact do_raw h (fun cs b e => by rw [ho] at e; cases e) hs
  · rename_i t x ho
    injection hc with hc; subst hc
    rw [← ho] at hs
    exact do_raw h (fun cs b e => by rw [ho] at e; cases e) hs
  · rename_i op t x _ ho
    split at hc <;> try (cases hc; done)
    injection hc with hc; subst hc
    exact do_un h ho (by assumption) hs
  · rename_i s t x ho
    split at hc
    · split at hc
      · injection hc with hc; subst hc
        exact do_b2s h ho (by assumption) (by assumption) (by assumption) (by assumption) hs
      · injection hc with hc; subst hc; simp [step] at hs
    · injection hc with hc; subst hc
      rw [← ho] at hs
      exact do_raw h (fun cs b e => by rw [ho] at e; cases e) hs
  · rename_i t p ho
    split at hc <;> try (cases hc; done)
    injection hc with hc; subst hc
    exact do_load h ho (by assumption) (by assumption) hs
  · rename_i t p x ho
    split at hc <;> try (cases hc; done)
    injection hc with hc; subst hc
    exact do_store h ho (by assumption) (by assumption) (by assumption) hs
  · rename_i st p f ho
    split at hc <;> try (cases hc; done)
    split at hc <;> try (cases hc; done)
    split at hc <;> try (cases hc; done)
    injection hc with hc; subst hc
    exact do_fadr h ho (by assumption) (by assumption) (by assumption) (by assumption) hs
  · rename_i st p f ho
    split at hc <;> try (cases hc; done)
    split at hc <;> try (cases hc; done)
    split at hc <;> try (cases hc; done)
    injection hc with hc; subst hc
    exact do_fld h ho (by assumption) (by assumption) (by assumption) (by assumption) hs
  · rename_i t x i ho
    split at hc <;> try (cases hc; done)
    · split at hc <;> try (cases hc; done)
      injection hc with hc; subst hc
      exact do_iadr h ho (by assumption) (by assumption) (by assumption) (by assumption) hs
    · split at hc <;> try (cases hc; done)
      injection hc with hc; subst hc
      exact do_aadr h ho (by assumption) (by assumption) (by assumption) (by assumption) hs
  · rename_i t x i ho
    split at hc
    · split at hc <;> try (cases hc; done)
      injection hc with hc; subst hc
      exact do_idx h ho (by assumption) (by assumption) (by assumption) (by assumption) hs
    · injection hc with hc; subst hc
      rw [← ho] at hs
      exact do_raw h (fun cs b e => by rw [ho] at e; cases e) hs
  · rename_i t x lo hi mx ho
    split at hc
    · split at hc <;> try (cases hc; done)
      injection hc with hc; subst hc
      exact do_slc h ho (by assumption) (by assumption) (by assumption) (by assumption) (by assumption) (by assumption) hs
    · split at hc
      · injection hc with hc; subst hc
        exact do_slcA h ho (by assumption) (by assumption) (by assumption) (by assumption) (by assumption) hs
      · injection hc with hc; subst hc; simp [step] at hs
    · injection hc with hc; subst hc
      rw [← ho] at hs
      exact do_raw h (fun cs b e => by rw [ho] at e; cases e) hs
  · rename_i e x ho
    split at hc <;> try (cases hc; done)
    split at hc <;> try (cases hc; done)
    rename_i h0
    injection hc with hc; subst hc
    cases own with
    | true => exact do_boxO h ho (by assumption) h0 hs
    | false => exact do_box h ho (by assumption) hs
  · rename_i t n parts ho
    split at hc <;> try (cases hc; done)
    split at hc <;> try (cases hc; done)
    split at hc <;> try (cases hc; done)
    rename_i hcc
    injection hc with hc; subst hc
    obtain ⟨z, hz⟩ := Option.isSome_iff_exists.1 hcc.1
    exact do_bldS h ho (by assumption) (by assumption) (by assumption) hz hcc.2.1 (by assumption) hcc.2.2 hs
  · rename_i t x ho
    split at hc <;> try (cases hc; done)
    split at hc <;> try (cases hc; done)
    injection hc with hc; subst hc
    exact do_mki h ho (by assumption) (by assumption) hs
  · rename_i x xt t ok ho
    split at hc <;> try (cases hc; done)
    split at hc <;> try (cases hc; done)
    injection hc with hc; subst hc
    exact do_tas h ho (by assumption) (by assumption) (by assumption) (by assumption) (by assumption) hs
  · rename_i x i ho
    split at hc <;> try (cases hc; done)
    injection hc with hc; subst hc
    exact do_ext h ho (by assumption) hs
  · rename_i x ho
    split at hc <;> try (cases hc; done)
    injection hc with hc; subst hc
    exact do_nilc h ho (by assumption) hs
  · rename_i cl ho
    split at hc
    · injection hc with hc; subst hc
      exact compCall_ok h ho (by assumption) hs
    · injection hc with hc; subst hc
      simp [step] at hs
  · rename_i e ho
    split at hc
    · split at hc
      · split at hc
        · injection hc with hc; subst hc
          exact do_alloc h ho (by assumption) (by assumption) (by assumption) hs
        · injection hc with hc; subst hc; simp [step] at hs
      · injection hc with hc; subst hc; simp [step] at hs
    · injection hc with hc; subst hc; simp [step] at hs
  · rename_i t parts ho
    split at hc
    · split at hc
      · split at hc
        · split at hc
          · injection hc with hc; subst hc
            exact do_bldC h ho (by assumption) (by assumption) (by assumption) (by assumption) (by assumption) (by assumption) hs
          · injection hc with hc; subst hc; simp [step] at hs
        · injection hc with hc; subst hc; simp [step] at hs
      · injection hc with hc; subst hc; simp [step] at hs
    · injection hc with hc; subst hc; simp [step] at hs
  · rename_i t n cp ho
    split at hc
    · split at hc
      · split at hc
        · split at hc
          · rename_i hcc
            injection hc with hc; subst hc
            exact do_mks h ho (by assumption) (by assumption) (by assumption) (by assumption) (by assumption) (by assumption) hcc.1 hcc.2.1 hcc.2.2 (by split <;> omega) hs
          · injection hc with hc; subst hc; simp [step] at hs
        · injection hc with hc; subst hc; simp [step] at hs
      · injection hc with hc; subst hc; simp [step] at hs
    · injection hc with hc; subst hc; simp [step] at hs
  · rename_i f first caps ho
    split at hc
    · rename_i e1 e2
      have e1 := toList_eq e1
      subst e1
      injection hc with hc; subst hc
      exact do_mkf h ho e2 hs
    · split at hc
      · rename_i xs hxs
        split at hc
        · rename_i e3
          have e3 := toList_eq e3
          subst e3
          injection hc with hc; subst hc
          exact do_mkb h ho hxs hs
        · injection hc with hc; subst hc; simp [step] at hs
      · injection hc with hc; subst hc; simp [step] at hs
    · injection hc with hc; subst hc; simp [step] at hs
  · rename_i t n ho
    split at hc
    · injection hc with hc; subst hc
      exact do_mkm h ho (by assumption) (fun x q => by cases q) hs
    · injection hc with hc; subst hc
      exact do_mkm h ho (by assumption) (fun x q => by injection q with q; exact ⟨_, q.symm⟩) hs
    · injection hc with hc; subst hc; simp [step] at hs
  · rename_i t m k ok ho
    split at hc
    · split at hc
      · split at hc
        · injection hc with hc; subst hc
          exact do_lkp h ho (by assumption) (by assumption) (by assumption) (by assumption) (by assumption) hs
        · injection hc with hc; subst hc; simp [step] at hs
      · injection hc with hc; subst hc; simp [step] at hs
    · injection hc with hc; subst hc; simp [step] at hs
  · rename_i t m k v ho
    split at hc
    · injection hc with hc; subst hc
      exact do_mup h (.inl ho) (by assumption) (by assumption) (by assumption) (by assumption) hs
    · injection hc with hc; subst hc; simp [step] at hs
  · rename_i t m k v ho
    split at hc
    · injection hc with hc; subst hc
      exact do_mup h (.inr ho) (by assumption) (by assumption) (by assumption) (by assumption) hs
    · injection hc with hc; subst hc; simp [step] at hs
  · rename_i t x ho
    split at hc
    · injection hc with hc; subst hc
      exact do_rgs h ho (by assumption) (by assumption) hs
    · injection hc with hc; subst hc; simp [step] at hs
  · rename_i x ho
    split at hc
    · injection hc with hc; subst hc
      exact do_nxs h ho (by assumption) hs
    · injection hc with hc; subst hc; simp [step] at hs
  · injection hc with hc; subst hc; simp [step] at hs
end
end Go.Proofs.Eng
