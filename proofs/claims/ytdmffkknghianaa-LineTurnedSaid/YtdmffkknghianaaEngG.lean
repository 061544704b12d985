/-
  The operations one by one: slices of slices, lengths, calls, and new memory that nobody writes.
-/
import Derived.Test.YtdmffkknghianaaEngF
set_option linter.unusedSimpArgs false
set_option linter.unusedVariables false
namespace Go.Proofs.Eng
open Go Go.RowKit

section
variable {G : List (Value × AV)} {B : Nat} {S0 : Nat → Prop} {w0 w : World} {Γ : Gam} {c : Cfg} {a : Act} {P : Program} {d : Nat} {oi : OI} {ob : Ob}

theorem flat_take {xs : List AV} {s : Nat} (h : ∀ x, x ∈ xs → width x = s) (n : Nat) : flat (xs.take n) = (flat xs).take (n * s) := by
  rcases Nat.lt_or_ge n xs.length with hn | hn
  · have e : flat xs = flat (xs.take n) ++ flat (xs.drop n) := by rw [← flat_append, List.take_append_drop]
    have hl : (flat (xs.take n)).length = n * s := by
      rw [flat_len fun x hx => h x (List.mem_of_mem_take hx), List.length_take, Nat.min_eq_left (by omega)]
    rw [e, ← hl, List.take_left]
  · rw [List.take_of_length_le hn, List.take_of_length_le]
    rw [flat_len h]; exact Nat.mul_le_mul_right s hn
theorem flat_drop {xs : List AV} {s : Nat} (h : ∀ x, x ∈ xs → width x = s) (n : Nat) : flat (xs.drop n) = (flat xs).drop (n * s) := by
  rcases Nat.lt_or_ge n xs.length with hn | hn
  · have e : flat xs = flat (xs.take n) ++ flat (xs.drop n) := by rw [← flat_append, List.take_append_drop]
    have hl : (flat (xs.take n)).length = n * s := by
      rw [flat_len fun x hx => h x (List.mem_of_mem_take hx), List.length_take, Nat.min_eq_left (by omega)]
    rw [e, ← hl, List.drop_left]
  · rw [List.drop_eq_nil_of_le hn, List.drop_eq_nil_of_le]
    · rfl
    · rw [flat_len h]; exact Nat.mul_le_mul_right s hn

def argO : Option Operand → Option (Option XArg)
  | none => some none
  | some x => match argT x with | some a => some (some a) | none => none

theorem bound_ok (h : Holds G B S0 w0 Γ c a.tmps w) {x : Option Operand} {xa : Option XArg} (hx : argO x = some xa) {dflt l : Nat} (hb : asBound c.σ xa dflt = some l) :
    (x = none ∧ xa = none ∧ l = dflt) ∨ ∃ v k z, x.map a.eval = some v ∧ xa.isSome = true ∧ v = .int k z ∧ 0 ≤ z ∧ l = z.toNat := by
  unfold argO at hx
  split at hx
  · injection hx with hx; subst hx
    simp only [asBound, Option.some.injEq] at hb
    exact .inl ⟨rfl, rfl, hb.symm⟩
  · split at hx <;> try (cases hx; done)
    injection hx with hx; subst hx
    rename_i x _ xa hxa
    have h1 := h.arg hxa
    simp only [asBound] at hb
    split at hb <;> try (cases hb; done)
    rename_i z hz
    split at hb <;> try (cases hb; done)
    injection hb with hb; subst hb
    rename_i hz0
    obtain ⟨k, hk⟩ := asInt_inv h1 hz
    exact .inr ⟨_, k, z, rfl, rfl, hk, hz0, rfl⟩
theorem run_sliceBound {v : Value} {k : IntKind} {z : Int} {y : Nat} {code : BoundsCode} (hv : v = .int k z) (hz : 0 ≤ z) (hy : z.toNat ≤ y) : (Instr.sliceBound v y code).run P w = .ok z.toNat w := by
  subst hv
  have : z ≤ y := by omega
  simp [Instr.sliceBound, asIntOf, hz, this]

theorem run_slice_ok {t e : TypeId} {i : TypeInfo} (hst : P.underlying t = some (.slice e)) (hi : P.info? e = some i) (A : Option Addr) (n cp l hh m : Nat) {lo hi' mx : Option Value}
    (hlo : (lo = none ∧ l = 0) ∨ ∃ k z, lo = some (.int k z) ∧ 0 ≤ z ∧ l = z.toNat) (hhi : (hi' = none ∧ hh = n ∧ mx = none) ∨ ∃ k z, hi' = some (.int k z) ∧ 0 ≤ z ∧ hh = z.toNat)
    (hmx : (mx = none ∧ m = cp) ∨ ∃ k z, mx = some (.int k z) ∧ 0 ≤ z ∧ m = z.toNat) (h1 : l ≤ hh) (h2 : hh ≤ m) (h3 : m ≤ cp) :
    (Instr.sliceAt t (.slice A n cp) lo hi' mx).run P w = .ok (.slice (if m = l then A else A.map (·.add (l * i.size))) (hh - l) (m - l)) w := by
  simp only [Instr.sliceAt, Sem.run_bind, run_underlying hst, Result.andThen_ok, Instr.slice, Instr.sliceBounds]
  rcases hmx with ⟨rfl, rfl⟩ | ⟨k3, z3, rfl, hz3, rfl⟩
  · rcases hhi with ⟨rfl, rfl, _⟩ | ⟨k2, z2, rfl, hz2, rfl⟩
    · rcases hlo with ⟨rfl, rfl⟩ | ⟨k1, z1, rfl, hz1, rfl⟩
      · simp [sizeOf, typeInfo, hi]
      · simp [run_sliceBound (P := P) (w := w) (v := .int k1 z1) rfl hz1 h1, sizeOf, typeInfo, hi]
    · rcases hlo with ⟨rfl, rfl⟩ | ⟨k1, z1, rfl, hz1, rfl⟩
      · simp [run_sliceBound (P := P) (w := w) (v := .int k2 z2) rfl hz2 h2, sizeOf, typeInfo, hi]
      · simp [run_sliceBound (P := P) (w := w) (v := .int k2 z2) rfl hz2 h2, run_sliceBound (P := P) (w := w) (v := .int k1 z1) rfl hz1 h1, sizeOf, typeInfo, hi]
  · rcases hhi with ⟨rfl, rfl, hc⟩ | ⟨k2, z2, rfl, hz2, rfl⟩
    · cases hc
    · rcases hlo with ⟨rfl, rfl⟩ | ⟨k1, z1, rfl, hz1, rfl⟩
      · simp [run_sliceBound (P := P) (w := w) (v := .int k3 z3) rfl hz3 h3, run_sliceBound (P := P) (w := w) (v := .int k2 z2) rfl hz2 h2, sizeOf, typeInfo, hi]
      · simp [run_sliceBound (P := P) (w := w) (v := .int k3 z3) rfl hz3 h3, run_sliceBound (P := P) (w := w) (v := .int k2 z2) rfl hz2 h2, run_sliceBound (P := P) (w := w) (v := .int k1 z1) rfl hz1 h1, sizeOf, typeInfo, hi]

theorem do_slc (h : Holds G B S0 w0 Γ c a.tmps w) {o : Oper} {t e : TypeId} {x : Operand} {lo hi mx : Option Operand} {xa : XArg} {la ha ma : Option XArg} {s : Nat} {agg : Bool} (ho : o.op = .slice t x lo hi mx) (hx : argT x = some xa) (hl : argO lo = some la) (hh : argO hi = some ha) (hm : argO mx = some ma)
    (hst : P.underlying t = some (.slice e)) (ht : sizeO P e = some (s, agg)) {r : Res} (hs : step P d c (.slc s xa la ha ma) = some r) : Does G B S0 w0 Γ c P o a w r := by
  have h1 := h.arg hx
  obtain ⟨ii, dd, hii, hd, hsz, hag, hs0, hs1⟩ := sizeO_ok ht
  have fin : ∀ {x : Option Operand} {xa : Option XArg} {dflt l : Nat}, argO x = some xa → asBound c.σ xa dflt = some l → (x.map a.eval = none ∧ l = dflt ∧ xa = none) ∨ ∃ k z, x.map a.eval = some (.int k z) ∧ 0 ≤ z ∧ l = z.toNat := fun hx hb => by
    rcases bound_ok h hx hb with ⟨rfl, h2, h3⟩ | ⟨v, k, z, h2, _, rfl, h4, h5⟩
    · exact .inl ⟨rfl, h3, h2⟩
    · exact .inr ⟨k, z, h2, h4, h5⟩
  have noSome : ∀ {x : Option Operand} {xa : Option XArg}, argO x = some xa → xa.isSome = true → ∀ {dflt l}, asBound c.σ xa dflt = some l → x.map a.eval ≠ none := fun hx hs _ _ hb e => by
    rcases bound_ok h hx hb with ⟨rfl, h2, _⟩ | ⟨v, k, z, h2, _⟩
    · rw [h2] at hs; cases hs
    · rw [h2] at e; cases e
  simp only [step] at hs
  split at hs
  · rename_i s' f xs e1
    rw [e1] at h1
    split at hs <;> try (cases hs; done)
    rename_i l h' m e2 e3 e4
    split at hs <;> try (cases hs; done)
    rename_i hc
    obtain ⟨rfl, hlh, hhm, hmn, hmh⟩ := hc
    injection hs with hs; subst hs
    generalize hv : a.eval x = pv at h1
    cases h1 with | sl A cp _ _ _ us hcp hf hw hul hcap hu h1 hA hN =>
    have hcs : Cells (Free S0 B Γ w) Γ w us (flat xs) := ⟨hul, h1, hu⟩
    obtain ⟨m', hm1, hm2, hm3, hm4⟩ : ∃ m', ((mx.map a.eval = none ∧ m' = cp) ∨ ∃ k z, mx.map a.eval = some (.int k z) ∧ 0 ≤ z ∧ m' = z.toNat) ∧ h' ≤ m' ∧ m' ≤ cp ∧ (fullOf ma f m h' xs.length = true → m' = h') := by
      rcases fin hm e4 with ⟨q1, q2, q3⟩ | ⟨k, z, q1, q2, q3⟩
      · refine ⟨cp, .inl ⟨q1, rfl⟩, by omega, Nat.le_refl _, fun q => ?_⟩
        subst q3
        simp only [fullOf, Bool.and_eq_true, beq_iff_eq] at q
        rw [hf q.1, q.2]
      · refine ⟨m, .inr ⟨k, z, q1, q2, q3⟩, hhm, by omega, fun q => ?_⟩
        cases ma with
        | none =>
          rcases bound_ok h hm e4 with ⟨rfl, _⟩ | ⟨_, _, _, _, q5, _⟩
          · cases q1
          · cases q5
        | some y => simpa [fullOf] using q
    have hr := run_slice_ok (P := P) (w := w) hst hii A xs.length cp l h' m' (lo := lo.map a.eval) (hi' := hi.map a.eval) (mx := mx.map a.eval)
      (by rcases fin hl e2 with ⟨q1, q2, _⟩ | q; exact .inl ⟨q1, q2⟩; exact .inr q)
      (by
        rcases fin hh e3 with ⟨q1, q2, q3⟩ | q
        · refine .inl ⟨q1, q2, ?_⟩
          cases hmm : mx.map a.eval with
          | none => rfl
          | some y =>
            rcases bound_ok h hm e4 with ⟨rfl, _⟩ | ⟨_, _, _, _, q5, _⟩
            · cases hmm
            · have := hmh q5; rw [q3] at this; cases this
        · exact .inr q)
      hm1 hlh hm2 hm3
    refine .pure (by simp only [execOp, ho, hv]; rw [Sem.run_bind, hr]; rfl) ?_
    have hlen : ((xs.take h').drop l).length = h' - l := by rw [List.length_drop, List.length_take, Nat.min_eq_left (by omega)]
    have hw2 : ∀ x, x ∈ (xs.take h').drop l → width x = s' := fun x hx => hw x (List.mem_of_mem_take (List.mem_of_mem_drop hx))
    have hc2 : Cells (Free S0 B Γ w) Γ w ((us.take (h' * s')).drop (l * s')) (flat ((xs.take h').drop l)) := by
      rw [flat_drop (fun x hx => hw x (List.mem_of_mem_take hx)), flat_take hw]
      exact (hcs.take _).drop _
    have := AVok.sl (S := Free S0 B Γ w) (Γ := Γ) (w := w) (if m' = l then A else A.map (·.add (l * ii.size))) (m' - l) s' (fullOf ma f m h' xs.length) ((xs.take h').drop l) _
      (by omega) (fun q => by rw [hlen, hm4 q]) hw2 hc2.len (by omega) hc2.ok hc2.one (fun hne => by
        have hlt : l < h' := by
          rcases Nat.lt_or_ge l h' with q | q
          · exact q
          · exact absurd (List.eq_nil_of_length_eq_zero (by omega)) hne
        obtain ⟨g, of, rfl, hS, hAt⟩ := hA (by intro q; rw [q] at hmn; simp at hmn; omega)
        refine ⟨g, of + l * s', ?_, hS, (hAt.take _).drop _⟩
        rw [if_neg (by omega), hsz]
        simp [Addr.add_lit]) (sliceN hN)
    rw [hlen] at this
    exact this
  · rename_i k g ver s' lo0 n e1
    rw [e1] at h1
    split at hs <;> try (cases hs; done)
    rename_i l h' e2 e3
    split at hs <;> try (cases hs; done)
    rename_i hc
    obtain ⟨rfl, hlh, hhn⟩ := hc
    injection hs with hs; subst hs
    have hmn : mx = none := by
      unfold argO at hm
      split at hm
      · rfl
      · split at hm <;> cases hm
    subst hmn
    have key : ∀ A cp, a.eval x = .slice A n cp → n ≤ cp → (execOp a.eval o).run P w = .ok (.value (.slice (if cp = l then A else A.map (·.add (l * s'))) (h' - l) (cp - l))) w := fun A cp hv hcp => by
      have hr := run_slice_ok (P := P) (w := w) hst hii A n cp l h' cp (lo := lo.map a.eval) (hi' := hi.map a.eval) (mx := none)
        (by rcases fin hl e2 with ⟨q1, q2, _⟩ | q; exact .inl ⟨q1, q2⟩; exact .inr q)
        (by rcases fin hh e3 with ⟨q1, q2, _⟩ | q; exact .inl ⟨q1, q2, rfl⟩; exact .inr q)
        (.inl ⟨rfl, rfl⟩) hlh (by omega) (Nat.le_refl _)
      rw [hsz] at hr
      simp only [execOp, ho, hv]; rw [Sem.run_bind]; simp only [Option.map_none]; rw [hr]; rfl
    generalize hv : a.eval x = pv at h1
    cases h1 with
    | osLive _ _ _ _ _ _ cp A oi hlv hsi hn hcp hcm hwh hA hN =>
      refine .pure (key A cp hv hcp) (.osLive k g ver s' (lo0 + l) (h' - l) (cp - l) _ oi hlv hsi (by omega) (by omega) (by omega) (fun q1 => ?_) (fun q => ?_) (sliceN hN))
      · have : l = 0 := by omega
        subst this
        have q := hwh (by omega)
        rw [q]
        cases A <;> simp [Addr.add]
      · obtain ⟨b, hb, rfl⟩ := hA (by omega)
        refine ⟨b, hb, ?_⟩
        rw [if_neg (by omega)]
        simp [Addr.add_lit, Nat.add_mul]
    | osDead _ _ _ _ _ _ cp A hd2 hcp hcm hA hN =>
      refine .pure (key A cp hv hcp) (.osDead k g ver s' (lo0 + l) (h' - l) (cp - l) _ hd2 (by omega) (by omega) (fun q => ?_) (sliceN hN))
      obtain ⟨b, f, rfl⟩ := hA (by omega)
      refine ⟨b, f + l * s', ?_⟩
      rw [if_neg (by omega)]
      simp [Addr.add_lit]
  · rename_i e1
    rw [e1] at h1
    have hv := v_inv h1
    split at hs <;> try (cases hs; done)
    rename_i e2 e3 e4
    split at hs <;> try (cases hs; done)
    rename_i hmh
    injection hs with hs; subst hs
    have hr := run_slice_ok (P := P) (w := w) hst hii none 0 0 0 0 0 (lo := lo.map a.eval) (hi' := hi.map a.eval) (mx := mx.map a.eval)
      (by rcases fin hl e2 with ⟨q1, q2, _⟩ | q; exact .inl ⟨q1, rfl⟩; exact .inr q)
      (by
        rcases fin hh e3 with ⟨q1, q2, q3⟩ | q
        · refine .inl ⟨q1, rfl, ?_⟩
          cases hmm : mx.map a.eval with
          | none => rfl
          | some y =>
            rcases bound_ok h hm e4 with ⟨rfl, _⟩ | ⟨_, _, _, _, q5, _⟩
            · cases hmm
            · have := hmh q5; rw [q3] at this; cases this
        · exact .inr q)
      (by rcases fin hm e4 with ⟨q1, q2, _⟩ | q; exact .inl ⟨q1, rfl⟩; exact .inr q) (Nat.le_refl _) (Nat.le_refl _) (Nat.le_refl _)
    exact .pure (by simp only [execOp, ho, hv]; rw [Sem.run_bind]; rw [hr]; simp) (.v _)
  · cases hs

theorem do_len (h : Holds G B S0 w0 Γ c a.tmps w) {o : Oper} {t e : TypeId} {x : Operand} {xa : XArg} (ho : o.op = .call { callee := .builtin .len, args := #[x], argTypes := #[t] }) (hx : argT x = some xa) (hd : P.underlying t = some (.slice e))
    {r : Res} (hs : step P d c (.len xa) = some r) : Does G B S0 w0 Γ c P o a w r := by
  have h1 := h.arg hx
  have key : ∀ (n : Nat) A cp, a.eval x = .slice A n cp → (execOp a.eval o).run P w = .ok (.value (.int .i64 n)) w := fun n A cp hv => by
    simp [execOp, ho, resolve, invoke, builtin, Builtin.len_, run_underlying hd, hv, goInt]
  simp only [step] at hs
  split at hs
  · rename_i s' f xs e1
    rw [e1] at h1
    injection hs with hs; subst hs
    generalize hv : a.eval x = pv at h1
    cases h1 with | sl A cp _ _ _ us hcp hf hw hul hcap hu h1 hA hN =>
    exact .pure (key _ A cp hv) (.v _)
  · rename_i k g ver s' lo n e1
    rw [e1] at h1
    injection hs with hs; subst hs
    generalize hv : a.eval x = pv at h1
    cases h1 with
    | osLive _ _ _ _ _ _ cp A oi hlv hsi hn hcp hcm hwh hA hN => exact .pure (key _ A cp hv) (.v _)
    | osDead _ _ _ _ _ _ cp A hd2 hcp hcm hA hN => exact .pure (key _ A cp hv) (.v _)
  · rename_i e1
    rw [e1] at h1
    have hv := v_inv h1
    injection hs with hs; subst hs
    exact .pure (key 0 none 0 hv) (.v _)
  · cases hs
theorem do_lenS (h : Holds G B S0 w0 Γ c a.tmps w) {o : Oper} {t : TypeId} {x : Operand} {xa : XArg} (ho : o.op = .call { callee := .builtin .len, args := #[x], argTypes := #[t] }) (hx : argT x = some xa) (hd : P.underlying t = some .string)
    {r : Res} (hs : step P d c (.lenS xa) = some r) : Does G B S0 w0 Γ c P o a w r := by
  have h1 := h.arg hx
  simp only [step] at hs
  split at hs <;> try (cases hs; done)
  rename_i s e1
  rw [e1] at h1
  have hv := v_inv h1
  injection hs with hs; subst hs
  exact .pure (by simp [execOp, ho, resolve, invoke, builtin, Builtin.len_, run_underlying hd, hv, goInt]) (.v _)
theorem mapM_ok : ∀ {l : List Operand} {xs : List XArg}, l.mapM argT = some xs → xs.length = l.length ∧ ∀ (j : Nat) (x : Operand) (xa : XArg), l[j]? = some x → xs[j]? = some xa → argT x = some xa
  | [], xs, h => by
    simp at h; subst h; exact ⟨rfl, fun j x xa h => by simp at h⟩
  | y :: l, xs, h => by
    simp only [List.mapM_cons, Option.bind_eq_bind, Option.bind_eq_some_iff, Option.pure_def, Option.some.injEq] at h
    obtain ⟨ya, hy, zs, hzs, rfl⟩ := h
    obtain ⟨h1, h2⟩ := mapM_ok hzs
    refine ⟨by simp [h1], fun j x xa hj hk => ?_⟩
    cases j with
    | zero => simp at hj hk; rw [← hj, ← hk]; exact hy
    | succ j => exact h2 j x xa (by simpa using hj) (by simpa using hk)
theorem do_call (h : Holds G B S0 w0 Γ c a.tmps w) {o : Oper} {f : FuncId} {fn : Func} {args : Array Operand} {ts : Array TypeId} {xa : List XArg} (ho : o.op = .call { callee := .value (.func f), args := args, argTypes := ts }) (hx : args.toList.mapM argT = some xa)
    (hf : P.funcs[f]? = some fn) (hn : (fn.name == "runtime.NumGoroutine") = false) (hb : fn.body.isNone = false) {r : Res} {own : Bool} (hs : step P d c (.call own f xa) = some r) : Does G B S0 w0 Γ c P o a w r := by
  simp only [step, Option.some.injEq] at hs
  subst hs
  obtain ⟨h1, h2⟩ := mapM_ok hx
  refine ⟨args.toList.map a.eval, ?_, by simp [h1], fun j u x hu hx2 => ?_⟩
  · have hn' : ¬ fn.name = "runtime.NumGoroutine" := by simpa using hn
    have hb' : ¬ fn.body = none := fun e => by rw [e] at hb; cases hb
    have hm : (List.map a.eval args.toList).toArray = Array.map a.eval args := by rw [← Array.toList_map]
    rw [hm]
    simp [execOp, ho, resolve, Deferred.ofValue, invoke, callFunc, Act.eval, hf, hn', hb', run_program]
  · rw [List.getElem?_map] at hu hx2
    obtain ⟨y, hy, rfl⟩ := Option.map_eq_some_iff.1 hu
    obtain ⟨ya, hya, rfl⟩ := Option.map_eq_some_iff.1 hx2
    exact h.arg (h2 j y ya hy hya)

theorem Holds.own_lt (h : Holds G B S0 w0 Γ c a.tmps w) {k : Nat} {oi : OI} {b : Nat} (hk : (Γ k).2 = some oi) (hb : oi.val.ownBlock = some b) : B ≤ b ∧ b < w.heap.size := by
  cases hl : (look c.η k).2 with
  | none => rw [h.non k hl] at hk; cases hk
  | some ob =>
    obtain ⟨oi2, h3, h4⟩ := h.row k ob hl
    rw [hk] at h3; injection h3 with h3; subst h3
    exact h4.lt hb
/-- a new block that nobody owns -/
theorem Holds.fresh (h : Holds G B S0 w0 Γ c a.tmps w) (ob : Obj) : Below w.heap.size w (w.alloc ob) ∧ Free S0 B Γ (w.alloc ob) w.heap.size ∧ ∀ u x, AVok (Free S0 B Γ w) Γ w u x → AVok (Free S0 B Γ (w.alloc ob)) Γ (w.alloc ob) u x := by
  have hb : Below w.heap.size w (w.alloc ob) := (Below.refl _ w).alloc (Nat.le_refl _) _
  refine ⟨hb, ⟨by simp, .inr (Nat.le_trans h.base h.below.size), fun k oi hk hb2 => ?_⟩, fun u x hx => hx.mono (fun b ⟨h1, h2, h3⟩ => ⟨⟨by simp; omega, h2, h3⟩, hb.block b h1⟩) (.refl _)⟩
  have := (h.own_lt hk hb2).2
  omega
theorem At.alloc {us : List Value} {e : TypeId} {fr : Nat × Nat} : At (w.alloc (.cells us.toArray e fr)) w.heap.size 0 us := fun j u hj => by
  have := heap_alloc_new w (.cells us.toArray e fr)
  simp only [World.cell?, this, Option.isSome_none, Bool.false_eq_true, if_false, Nat.zero_add]
  simpa using hj
theorem run_newRow {e : TypeId} {cs : Array Value} : (newRow e cs).run P w = .ok ⟨w.heap.size, 0, none⟩ (w.alloc (.cells cs e)) := rfl

theorem do_box (h : Holds G B S0 w0 Γ c a.tmps w) {o : Oper} {e : TypeId} {x : Operand} {xa : XArg} {s : Nat} (ho : o.op = .box e x) (hx : argT x = some xa) {r : Res} (hs : step P d c (.box e s false xa) = some r) : Does G B S0 w0 Γ c P o a w r := by
  have h1 := h.arg hx
  simp only [step] at hs
  split at hs <;> try (cases hs; done)
  rename_i hc
  injection hs with hs; subst hs
  obtain ⟨us, hu1, hu2⟩ := cells_ok h1 hc.2
  obtain ⟨hb, hf, hm⟩ := h.fresh (.cells us.toArray e)
  exact ⟨.pointer (some ⟨w.heap.size, 0, none⟩), w.alloc (.cells us.toArray e), by simp [execOp, ho, Instr.box, newVar, run_newRow, hu1], hb,
    .ptr _ 0 _ us hu2.len hu2.one (fun j u y q1 q2 => hm u y (hu2.ok j u y q1 q2)) hf .alloc⟩
end
end Go.Proofs.Eng
