/-
  The operations one by one: structs, make, stores, append.
-/
import Derived.Test.YtdmffkknghianaaEngH
set_option linter.unusedSimpArgs false
set_option linter.unusedVariables false
namespace Go.Proofs.Eng
open Go Go.RowKit

section
variable {G : List (Value × AV)} {B : Nat} {S0 : Nat → Prop} {w0 w : World} {Γ : Gam} {c : Cfg} {a : Act} {P : Program} {d : Nat} {oi : OI} {ob : Ob}

theorem Cells.splice {S : Nat → Prop} {us vs : List Value} {cs ds : List AV} (h : Cells S Γ w us cs) (k : Cells S Γ w vs ds) (off : Nat) : Cells S Γ w (spliceL us off vs) (splice cs off ds) := by
  unfold spliceL Go.Proofs.Eng.splice
  rw [k.len]
  exact ((h.take off).append k).append (h.drop _)

theorem fillA_ok {S : Nat → Prop} {σ : List AV} {ev : Operand → Value} {place : Nat → Option (Nat × Nat)} : ∀ (ps : List (Nat × Operand)) (qs : List (Nat × Nat × XArg)) (cs : List AV) (us : List Value) (ds : List AV),
    ps.length = qs.length → (∀ (j : Nat) p q, ps[j]? = some p → qs[j]? = some q → place p.1 = some (q.1, q.2.1) ∧ AVok S Γ w (ev p.2) (evalA σ q.2.2)) → Cells S Γ w us cs → fillA σ cs qs = some ds →
    ∃ vs : List Value, Instr.fill place us.toArray (ps.map fun p => (p.1, ev p.2)) = some vs.toArray ∧ Cells S Γ w vs ds
  | [], [], cs, us, ds, _, _, hc, hf => by
    simp only [fillA, Option.some.injEq] at hf
    subst hf
    exact ⟨us, rfl, hc⟩
  | [], _ :: _, _, _, _, hl, _, _, _ => by simp at hl
  | _ :: _, [], _, _, _, hl, _, _, _ => by simp at hl
  | p :: ps, q :: qs, cs, us, ds, hl, hp, hc, hf => by
    obtain ⟨off, s, x⟩ := q
    simp only [fillA] at hf
    split at hf <;> try (cases hf; done)
    rename_i hcc
    obtain ⟨h1, h2⟩ := hp 0 p _ rfl rfl
    obtain ⟨vs, hv1, hv2⟩ := cells_ok h2 hcc.2.2
    have hvl : vs.length = s := by rw [hv2.len]; exact hcc.1
    rw [List.map_cons, fill_one (us := vs) h1 hv1 hvl (by rw [List.size_toArray, hc.len]; exact hcc.2.1)]
    exact fillA_ok ps qs _ _ ds (by simpa using hl) (fun j p' q' h3 h4 => hp (j + 1) p' q' (by simpa using h3) (by simpa using h4)) (hc.splice hv2 off) hf

theorem do_bld (h : Holds G B S0 w0 Γ c a.tmps w) {o : Oper} {t : TypeId} {parts : Array (Nat × Operand)} {qs : List (Nat × Nat × XArg)} {i : TypeInfo} {z : Value} {dd : TypeDesc} {places : Array (Nat × Nat)} (ho : o.op = .build t parts) (hi : P.info? t = some i) (hz : i.zero = some z) (hz1 : z.cells.toList.all (·.oneCell') = true) (hd : P.underlying t = some dd)
    (hpl : (∃ fs, dd = .struct fs ∧ pureRun P (fs.mapM fun f => do pure (f.offset, ← sizeOf f.type) : Sem (Array (Nat × Nat))) = some places) ∨ ∃ n e s, dd = .array n e ∧ (P.info? e).map (·.size) = some s ∧ ∀ j, j < n → places[j]? = some (j * s, s))
    (hq : parts.toList.length = qs.length) (hqs : ∀ (j : Nat) (p : Nat × Operand) (q : Nat × Nat × XArg), parts.toList[j]? = some p → qs[j]? = some q → places[p.1]? = some (q.1, q.2.1) ∧ (∀ n e, dd = .array n e → p.1 < n) ∧ argT p.2 = some q.2.2)
    {r : Res} (hs : step P d c (.bld z.cells.toList qs) = some r) : Does G B S0 w0 Γ c P o a w r := by
  simp only [step] at hs
  split at hs <;> try (cases hs; done)
  rename_i cs hcs
  injection hs with hs; subst hs
  have hc0 : Cells (Free S0 B Γ w) Γ w z.cells.toList (z.cells.toList.map .v) := ⟨by simp, List.all_eq_true.1 hz1, fun j u x hu hx => by
    rw [List.getElem?_map, hu] at hx
    simp only [Option.map_some, Option.some.injEq] at hx
    subst hx; exact .v u⟩
  have hzr : (zeroValue t).run P w = .ok z w := by simp [zeroValue, typeInfo, hi, hz]
  rcases hpl with ⟨fs, rfl, hpr⟩ | ⟨n, e, s, rfl, hes, hpj⟩
  · obtain ⟨vs, hv1, hv2⟩ := fillA_ok (w := w) (Γ := Γ) (ev := a.eval) (place := (places[·]?)) parts.toList qs _ _ cs hq (fun j p q h1 h2 => ⟨(hqs j p q h1 h2).1, h.arg (hqs j p q h1 h2).2.2⟩) hc0 hcs
    have hpm := pureRun_sound P w _ _ hpr
    refine .pure (u := .agg vs.toArray) ?_ (.ag vs cs hv2.len hv2.one hv2.ok)
    simp only [execOp, ho, Instr.build, Sem.run_bind, hzr, Result.andThen_ok, run_underlying hd]
    rw [hpm]
    simp only [Result.andThen_ok]
    have : (parts.map fun x => (x.1, a.eval x.2)).toList = parts.toList.map fun p => (p.1, a.eval p.2) := by simp
    rw [this]
    simp only [Array.toArray_toList] at hv1
    rw [hv1]
    rfl
  · obtain ⟨ie, hie, hsz⟩ := Option.map_eq_some_iff.1 hes
    obtain ⟨vs, hv1, hv2⟩ := fillA_ok (w := w) (Γ := Γ) (ev := a.eval) (place := fun i => some (i * s, s)) parts.toList qs _ _ cs hq (fun j p q h1 h2 => by
      obtain ⟨h3, h4, h5⟩ := hqs j p q h1 h2
      rw [hpj _ (h4 n e rfl)] at h3
      exact ⟨h3, h.arg h5⟩) hc0 hcs
    refine .pure (u := .agg vs.toArray) ?_ (.ag vs cs hv2.len hv2.one hv2.ok)
    simp only [execOp, ho, Instr.build, Sem.run_bind, hzr, Result.andThen_ok, run_underlying hd, sizeOf, typeInfo, run_program, hie, Sem.run_pure, hsz]
    have : (parts.map fun x => (x.1, a.eval x.2)).toList = parts.toList.map fun p => (p.1, a.eval p.2) := by simp
    rw [this]
    simp only [Array.toArray_toList] at hv1
    rw [hv1]
    rfl

/-! ### stores -/
theorem splice_get {α : Type} {l ys : List α} {n : Nat} (h : n + ys.length ≤ l.length) (k : Nat) : (spliceL l n ys)[k]? = if k < n then l[k]? else if k < n + ys.length then ys[k - n]? else l[k]? := by
  unfold spliceL
  have h1 : (l.take n).length = n := by rw [List.length_take]; omega
  by_cases hk : k < n
  · rw [if_pos hk, List.append_assoc, List.getElem?_append_left (by omega), List.getElem?_take, if_pos hk]
  · rw [if_neg hk]
    by_cases hk2 : k < n + ys.length
    · rw [if_pos hk2, List.append_assoc, List.getElem?_append_right (by omega), h1, List.getElem?_append_left (by omega)]
    · rw [if_neg hk2, List.getElem?_append_right (by rw [List.length_append]; omega), List.length_append, h1, List.getElem?_drop]
      congr 1; omega
theorem splice_eq (cs : List AV) (off : Nat) (ys : List AV) : splice cs off ys = spliceL cs off ys := rfl
theorem flat_set {xs : List AV} {s i : Nat} {y : AV} (h : ∀ x, x ∈ xs → width x = s) (hi : i < xs.length) (hy : width y = s) : flat (xs.set i y) = spliceL (flat xs) (i * s) (cellsOf y) := by
  have h2 : ∀ x, x ∈ xs.set i y → width x = s := fun x hx => (List.mem_or_eq_of_mem_set hx).elim (h x) (fun e => by rw [e]; exact hy)
  have hb : i * s + s ≤ xs.length * s := by
    have : (i + 1) * s ≤ xs.length * s := Nat.mul_le_mul_right s hi
    rwa [Nat.add_mul, Nat.one_mul] at this
  unfold spliceL
  rw [show (cellsOf y).length = s from hy, show i * s + s = (i + 1) * s by rw [Nat.add_mul, Nat.one_mul], ← flat_take h, ← flat_drop h, List.set_eq_take_append_cons_drop, if_pos hi, flat_append]
  show flat (xs.take i) ++ (cellsOf y ++ flat (xs.drop (i + 1))) = _
  rw [List.append_assoc]
theorem splice_splice {l cs ys : List AV} {n s j : Nat} (hs : (l.drop n).take s = cs) (hn : n + s ≤ l.length) (hj : j + ys.length ≤ s) : spliceL l n (spliceL cs j ys) = spliceL l (n + j) ys := by
  have hcl : cs.length = s := by rw [← hs, List.length_take, List.length_drop]; omega
  have hsl : (spliceL cs j ys).length = s := by rw [spliceL_length (by omega), hcl]
  apply List.ext_getElem?
  intro k
  rw [splice_get (l := l) (n := n) (ys := spliceL cs j ys) (by omega), splice_get (l := l) (n := n + j) (ys := ys) (by omega), hsl]
  have hcs : ∀ m, m < s → cs[m]? = l[n + m]? := fun m hm => by rw [← hs, List.getElem?_take, if_pos hm, List.getElem?_drop]
  by_cases h1 : k < n
  · rw [if_pos h1, if_pos (by omega)]
  · rw [if_neg h1]
    by_cases h2 : k < n + s
    · rw [if_pos h2, splice_get (by omega)]
      by_cases h3 : k - n < j
      · rw [if_pos h3, if_pos (by omega), hcs _ (by omega)]; congr 1; omega
      · rw [if_neg h3]
        by_cases h4 : k - n < j + ys.length
        · rw [if_pos h4, if_neg (by omega), if_pos (by omega)]; congr 1; omega
        · rw [if_neg h4, if_neg (by omega), if_neg (by omega), hcs _ (by omega)]; congr 1; omega
    · rw [if_neg h2, if_neg (by omega), if_neg (by omega)]

/-- an owned row, some cells of which were written -/
theorem own_setRow {base e s n : Nat} {v : Value} {us : List Value} (hown : w.ownsRow base e s v n us) {b : Nat} (hb : v.ownBlock = some b) {p : Nat} {vs : List Value} (hp : p + vs.length ≤ us.length) : ∃ cur, w.heap[b]? = some (.cells cur e (0, 0)) ∧ p + vs.length ≤ cur.size ∧
    (w.setRow b (cur.toList.take p ++ vs ++ cur.toList.drop (p + vs.length)).toArray).ownsRow base e s v n (spliceL us p vs) ∧ w.grownBy (w.setRow b (cur.toList.take p ++ vs ++ cur.toList.drop (p + vs.length)).toArray) (some b) := by
  obtain ⟨hl, h2⟩ := hown
  rcases h2 with ⟨rfl, _⟩ | ⟨g, cap, cur, rfl, hg, hh, hnc, hcm, hcs, ht⟩
  · simp [Value.ownBlock] at hb
  · have : g = b := by simpa [Value.ownBlock] using hb
    subst this
    have hul : us.length ≤ cur.size := by rw [← ht, List.length_take]; simp; omega
    refine ⟨cur, hh, by omega, ⟨by rw [spliceL_length hp]; exact hl, .inr ⟨g, cap, _, rfl, hg, setRow_heap w g cur _ e _ hh, hnc, hcm, ?_, ?_⟩⟩, ⟨rfl, rfl, rfl, by simp [World.setRow], fun k _ hk => setRow_other w g k _ (fun e => hk (by rw [e]))⟩⟩
    · simp; omega
    · rw [← ht]
      unfold spliceL
      have hle : p + vs.length ≤ n * s := by rw [hl] at hp; exact hp
      simp only [List.toList_toArray]
      rw [List.append_assoc, List.take_append, List.take_append]
      have e1 : (cur.toList.take p).length = p := by rw [List.length_take]; simp; omega
      rw [List.take_of_length_le (by rw [e1]; omega), e1, List.take_of_length_le (l := vs) (by omega), List.take_take, Nat.min_eq_left (by omega), List.append_assoc]
      congr 2
      rw [List.drop_take]
      congr 1
      omega
/-- a store into an owned row -/
theorem own_store {base e s n : Nat} {v : Value} {us : List Value} (hown : w.ownsRow base e s v n us) {b : Nat} (hb : v.ownBlock = some b) {p : Nat} {vs : List Value} (hp : p + vs.length ≤ us.length) (h1 : ∀ u, u ∈ vs → u.oneCell' = true) :
    ∃ w', (storeCells ⟨b, p, none⟩ vs).run P w = .ok () w' ∧ w'.ownsRow base e s v n (spliceL us p vs) ∧ w.grownBy w' (some b) := by
  obtain ⟨cur, hh, hle, h2, h3⟩ := own_setRow hown hb hp
  have hr := run_storeCells_at P b p e vs 0 cur w hh (by omega) h1
  exact ⟨_, hr, h2, h3⟩

theorem do_store (h : Holds G B S0 w0 Γ c a.tmps w) {o : Oper} {t : TypeId} {p x : Operand} {pa xa : XArg} {s : Nat} {agg : Bool} (ho : o.op = .store t p x) (hp : argT p = some pa) (hx : argT x = some xa) (ht : sizeO P t = some (s, agg)) {r : Res} (hs : step P d c (.store s pa xa) = some r) : Does G B S0 w0 Γ c P o a w r := by
  have h1 := h.arg hp
  have h2 := h.arg hx
  obtain ⟨i, dd, hi, hd, hsz, hag, hs0, hs1⟩ := sizeO_ok ht
  simp only [step] at hs
  split at hs <;> try (cases hs; done)
  rename_i k g ver i' j e1
  rw [e1] at h1
  split at hs <;> try (cases hs; done)
  rename_i g' ob hlk
  split at hs <;> try (cases hs; done)
  rename_i hc
  obtain ⟨rfl, hver, hwx, hso⟩ := hc
  obtain ⟨oi, hΓ, hro, hlive, hnd⟩ := h.ref hlk hver.symm h1.ldO
  obtain ⟨vs, hv1, hv2⟩ := cells_ok h2 hso
  have hvl : vs.length = s := by rw [hv2.len]; exact hwx
  generalize hpv : a.eval p = pv at h1
  cases h1 with
  | oDead _ _ _ _ _ _ _ hd => exact (hnd ver hver.symm hd).elim
  | oLive _ _ _ _ _ b oi2 hl hb =>
  have := hlive ver oi2 hver.symm hl
  subst this
  obtain ⟨us, hA, hcs, hown⟩ := hro.at hb
  -- a store of these cells at this place makes the row so
  have fin : ∀ ys y, ob.xs[i']? = some ys → width y = ob.s → flat (ob.xs.set i' y) = spliceL (flat ob.xs) (i' * ob.s + j) (cellsOf (evalA c.σ xa)) → i' * ob.s + j + s ≤ (flat ob.xs).length →
      Does G B S0 w0 Γ c P o a w (.upd .any k (g', some { ob with xs := ob.xs.set i' y })) := fun ys y hy hwy hfl hle => by
    obtain ⟨w', hr, hown', hg⟩ := own_store (P := P) hown hb (p := i' * ob.s + j) (vs := vs) (by rw [hcs.len, hvl]; exact hle) hv2.one
    have hH := h.row_set k g' oi2 { ob with xs := ob.xs.set i' y } (some b) hg (fun b' e => ⟨oi2, by rw [hΓ], by injection e with e; subst e; exact hb⟩) (fun b' hb' => .inr ⟨oi2, by rw [hΓ], hb'⟩) (.inr ⟨by rw [hΓ], oi2, by rw [hΓ], .inl rfl⟩) fun hm => by
      have hc3 := hcs.splice hv2 (i' * ob.s + j)
      refine ⟨by rw [hro.ver]; simp, hro.s, hro.s0, fun x hx => (List.mem_or_eq_of_mem_set hx).elim (hro.wid x) (fun e => by rw [e]; exact hwy), spliceL us (i' * ob.s + j) vs, ?_, fun q u x hu hx => hm u x (hc3.ok q u x hu (by rw [splice_eq, ← hfl]; exact hx)), hc3.one, ?_⟩
      · rw [hc3.len, splice_eq, hfl]
      · simp only [List.length_set]; exact hown'
    refine ⟨.skip, undef, w', _, ?_, .inr ⟨rfl, rfl⟩, hH, .any _⟩
    have hcs2 : (a.eval x).cells.size = i.size := by rw [hv1, List.size_toArray, hvl, hsz]
    have hne : ¬ (a.eval x).cells.size ≠ i.size := fun e => e hcs2
    simp only [execOp, ho, Instr.storeAt, hpv, Instr.sureAddr, Sem.run_bind, Sem.run_pure, Result.andThen_ok, storeVar, sizeOf, typeInfo, run_program, hi, Sem.run_ite, if_neg hne]
    rw [hv1]
    simp only [List.toList_toArray]
    rw [hro.s, hr]; rfl
  split at hs <;> try (cases hs; done)
  · rename_i cs hy
    split at hs <;> try (cases hs; done)
    rename_i hle
    injection hs with hs; subst hs
    have hwcs : cs.length = ob.s := hro.wid _ (List.mem_of_getElem? hy)
    have hlt : i' < ob.xs.length := (List.getElem?_eq_some_iff.1 hy).1
    have hcl : (cellsOf (evalA c.σ xa)).length = s := hwx
    have hw1 : width (.ag (splice cs j (cellsOf (evalA c.σ xa)))) = ob.s := by
      show (spliceL cs j (cellsOf (evalA c.σ xa))).length = ob.s
      rw [spliceL_length (by omega)]; exact hwcs
    have hfl := flat_len hro.wid
    have hb2 : i' * ob.s + ob.s ≤ ob.xs.length * ob.s := by
      have : (i' + 1) * ob.s ≤ ob.xs.length * ob.s := Nat.mul_le_mul_right _ hlt
      rwa [Nat.add_mul, Nat.one_mul] at this
    refine fin _ _ hy hw1 ?_ (by omega)
    rw [flat_set hro.wid hlt hw1]
    show spliceL (flat ob.xs) (i' * ob.s) (spliceL cs j (cellsOf (evalA c.σ xa))) = _
    refine splice_splice (s := ob.s) ?_ (by omega) (by omega)
    apply List.ext_getElem?
    intro q
    rw [List.getElem?_take, List.getElem?_drop]
    by_cases hq : q < ob.s
    · rw [if_pos hq, flat_at hro.wid hy hq]; rfl
    · rw [if_neg hq, List.getElem?_eq_none (by omega)]
  · rename_i y hnag hy
    split at hs <;> try (cases hs; done)
    rename_i hle
    obtain ⟨rfl, rfl⟩ := hle
    injection hs with hs; subst hs
    have hlt : i' < ob.xs.length := (List.getElem?_eq_some_iff.1 hy).1
    have hos : ob.s = 1 := by
      have h3 := hro.wid _ (List.mem_of_getElem? hy)
      rw [← h3]
      cases y <;> first | rfl | exact absurd rfl (hnag _)
    have hb2 : i' * ob.s + ob.s ≤ ob.xs.length * ob.s := by
      have : (i' + 1) * ob.s ≤ ob.xs.length * ob.s := Nat.mul_le_mul_right _ hlt
      rwa [Nat.add_mul, Nat.one_mul] at this
    refine fin _ _ hy (by rw [hos]; exact hwx) ?_ (by rw [flat_len hro.wid]; omega)
    rw [flat_set hro.wid hlt (by rw [hos]; exact hwx), Nat.add_zero]
end
end Go.Proofs.Eng
