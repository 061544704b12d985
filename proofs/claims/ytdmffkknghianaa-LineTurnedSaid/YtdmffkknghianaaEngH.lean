/-
  The operations one by one: what a call owns: new rows, stores, append.
-/
import Derived.Test.YtdmffkknghianaaEngG
set_option linter.unusedSimpArgs false
set_option linter.unusedVariables false
namespace Go.Proofs.Eng
open Go Go.RowKit

section
variable {G : List (Value × AV)} {B : Nat} {S0 : Nat → Prop} {w0 w : World} {Γ : Gam} {c : Cfg} {a : Act} {P : Program} {d : Nat} {oi : OI} {ob : Ob}

/-- a new row of the call's own -/
theorem Holds.new (h : Holds G B S0 w0 Γ c a.tmps w) (k e s : Nat) (xs : List AV) (us : List Value) (cap : Nat) (cur : Array Value) (hcur : cur.size = cap * s) (hn : xs.length ≤ cap) (hcm : cap ≤ maxLen) (htake : cur.toList.take (xs.length * s) = us)
    (hc : Cells (Free S0 B Γ w) Γ w us (flat xs)) (hw : ∀ x, x ∈ xs → width x = s) (hs0 : 0 < s) :
    ∃ Γ', Holds G B S0 w0 Γ' ⟨c.σ, putAt c.η k ((look c.η k).1 + 1, some ⟨e, s, xs⟩)⟩ a.tmps (w.alloc (.cells cur e)) ∧
      Γ'.live k ((look c.η k).1 + 1) xs.length ⟨xs.length, .slice (some ⟨w.heap.size, 0, none⟩) xs.length cap, s⟩ := by
  have hBw : B ≤ w.heap.size := Nat.le_trans h.base h.below.size
  refine ⟨Γ.set k ((look c.η k).1 + 1, some ⟨xs.length, .slice (some ⟨w.heap.size, 0, none⟩) xs.length cap, s⟩), ?_, ⟨Gam.set_self _ _ _, rfl⟩⟩
  refine h.row_set k _ _ ⟨e, s, xs⟩ none (World.grownBy_alloc w _ none) (fun b e => by cases e) (fun b hb => .inl (by simp [Value.ownBlock] at hb; omega)) (.inl (by rw [h.gen k]; exact Nat.lt_succ_self _)) fun hm => ?_
  refine ⟨rfl, rfl, hs0, hw, us, hc.len, fun j u x hu hx => hm u x (hc.ok j u x hu hx), hc.one, ?_⟩
  refine ⟨by rw [hc.len, flat_len hw], .inr ⟨w.heap.size, cap, cur, rfl, hBw, heap_alloc_new w _, hn, hcm, hcur, htake⟩⟩

theorem live_os {S : Nat → Prop} {k g n s cap b : Nat} (h : Γ.live k g n ⟨n, .slice (some ⟨b, 0, none⟩) n cap, s⟩) (hn : n ≤ cap) (hcm : cap ≤ maxLen) : AVok S Γ w (.slice (some ⟨b, 0, none⟩) n cap) (.os k g n s 0 n) :=
  .osLive k g n s 0 n cap _ _ h rfl (by omega) hn hcm (fun _ => rfl) (fun _ => ⟨b, rfl, by simp⟩) (by simp)

theorem do_boxO (h : Holds G B S0 w0 Γ c a.tmps w) {o : Oper} {e : TypeId} {x : Operand} {xa : XArg} {s : Nat} (ho : o.op = .box e x) (hx : argT x = some xa) (hs0 : 0 < s) {r : Res} (hs : step P d c (.box e s true xa) = some r) : Does G B S0 w0 Γ c P o a w r := by
  have h1 := h.arg hx
  simp only [step] at hs
  split at hs <;> try (cases hs; done)
  rename_i hc
  injection hs with hs; subst hs
  obtain ⟨us, hu1, hu2⟩ := cells_ok h1 hc.2
  have hfl : flat [evalA c.σ xa] = cellsOf (evalA c.σ xa) := by simp [flat]
  have hw : ∀ x, x ∈ [evalA c.σ xa] → width x = s := fun x hx => by rw [List.mem_singleton.1 hx]; exact hc.1
  have hul : us.length = s := by rw [hu2.len]; exact hc.1
  obtain ⟨Γ', hH, hl⟩ := h.new d e s [evalA c.σ xa] us 1 us.toArray (by simp [hul]) (Nat.le_refl _) (by decide) (by simp [hul, List.take_of_length_le]) (by rw [hfl]; exact hu2) hw hs0
  refine ⟨_, .pointer (some ⟨w.heap.size, 0, none⟩), w.alloc (.cells us.toArray e), Γ', by simp [execOp, ho, Instr.box, newVar, run_newRow, hu1], .inl rfl, hH, ?_⟩
  have := AVok.oLive (S := Free S0 B Γ' (w.alloc (.cells us.toArray e))) (Γ := Γ') (w := w.alloc (.cells us.toArray e)) d _ 1 0 0 w.heap.size _ hl rfl
  simpa using this

/-! ### literals of slices -/
def spliceL {α : Type} (l : List α) (n : Nat) (ys : List α) : List α := l.take n ++ ys ++ l.drop (n + ys.length)
theorem spliceL_length {α : Type} {l : List α} {n : Nat} {ys : List α} (h : n + ys.length ≤ l.length) : (spliceL l n ys).length = l.length := by
  simp [spliceL]; omega
theorem foldl_set : ∀ (vs : List Value) (k off : Nat) (cells : Array Value), off + k + vs.length ≤ cells.size →
    ((vs.zipIdx k).foldl (fun cs (p : Value × Nat) => cs.setIfInBounds (off + p.2) p.1) cells).toList = spliceL cells.toList (off + k) vs
  | [], k, off, cells, _ => by simp [spliceL]
  | v :: vs, k, off, cells, h => by
    simp only [List.length_cons] at h
    rw [List.zipIdx_cons, List.foldl_cons, foldl_set vs (k + 1) off _ (by simp; omega)]
    have hlt : off + k < cells.toList.length := by simp; omega
    simp only [Array.toList_setIfInBounds, spliceL, List.length_cons]
    rw [show off + (k + 1) = off + k + 1 by omega]
    have e1 : (cells.toList.set (off + k) v).take (off + k + 1) = cells.toList.take (off + k) ++ [v] := by
      rw [List.take_succ_eq_append_getElem (by simpa using hlt), List.take_set_of_le (Nat.le_refl _)]
      simp
    have e2 : (cells.toList.set (off + k) v).drop (off + k + 1 + vs.length) = cells.toList.drop (off + k + (vs.length + 1)) := by
      rw [List.drop_set_of_lt (by omega)]
      congr 1; omega
    rw [e1, e2]; simp
theorem fill_one {place : Nat → Option (Nat × Nat)} {cells : Array Value} {i off s : Nat} {v : Value} {rest : List (Nat × Value)} {us : List Value} (hp : place i = some (off, s)) (hv : v.cells = us.toArray) (hl : us.length = s) (hle : off + s ≤ cells.size) :
    Instr.fill place cells ((i, v) :: rest) = Instr.fill place (spliceL cells.toList off us).toArray rest := by
  have h1 : (decide (v.cells.size ≠ s) || decide (off + v.cells.size > cells.size)) = false := by
    rw [hv]; simp [hl]; omega
  simp only [Instr.fill, hp]
  rw [if_neg (by simpa using h1)]
  congr 1
  rw [hv]
  apply Array.ext'
  have := foldl_set us 0 off cells (by omega)
  simp only [Nat.add_zero] at this
  rw [← this, ← Array.foldl_toList]
  simp

theorem fill_dense {σ : List AV} {S : Nat → Prop} {s : Nat} {ev : Operand → Value} : ∀ (xs : List (Operand × XArg)) (k : Nat), (∀ p, p ∈ xs → AVok S Γ w (ev p.1) (evalA σ p.2) ∧ width (evalA σ p.2) = s ∧ solid (evalA σ p.2) = true) →
    ∃ us, Cells S Γ w us (flat (xs.map fun p => evalA σ p.2)) ∧ us.length = xs.length * s ∧ ∀ cells : Array Value, (k + xs.length) * s ≤ cells.size →
      Instr.fill (fun i => some (i * s, s)) cells ((xs.zipIdx k).map fun p => (p.2, ev p.1.1)) = some (spliceL cells.toList (k * s) us).toArray
  | [], k, _ => ⟨[], .nil, by simp, fun cells _ => by simp [Instr.fill, spliceL]⟩
  | p :: xs, k, h => by
    obtain ⟨h1, h2, h3⟩ := h p List.mem_cons_self
    obtain ⟨us, hu1, hu2⟩ := cells_ok h1 h3
    have hul : us.length = s := by rw [hu2.len]; exact h2
    obtain ⟨vs, hv1, hv2, hv3⟩ := fill_dense xs (k + 1) (fun q hq => h q (List.mem_cons_of_mem _ hq))
    refine ⟨us ++ vs, ?_, by simp [hul, hv2, Nat.add_mul]; omega, fun cells hle => ?_⟩
    · show Cells S Γ w (us ++ vs) (cellsOf (evalA σ p.2) ++ flat (xs.map fun p => evalA σ p.2))
      exact hu2.append hv1
    · simp only [List.length_cons] at hle
      have hle1 : k * s + s ≤ cells.size := by
        have : (k + 1) * s ≤ (k + (xs.length + 1)) * s := Nat.mul_le_mul_right s (by omega)
        rw [Nat.add_mul, Nat.one_mul] at this; omega
      have hsz : (spliceL cells.toList (k * s) us).toArray.size = cells.size := by
        rw [List.size_toArray, spliceL_length (by simpa [hul] using hle1)]; simp
      have hv4 := hv3 (spliceL cells.toList (k * s) us).toArray (by rw [hsz, show k + 1 + xs.length = k + (xs.length + 1) by omega]; exact hle)
      rw [List.zipIdx_cons, List.map_cons, fill_one (us := us) rfl hu1 hul hle1, hv4]
      congr 2
      simp only [spliceL, List.length_append, hul]
      have hA : (cells.toList.take (k * s)).length = k * s := by rw [List.length_take]; simp; omega
      rw [show (k + 1) * s = k * s + s by rw [Nat.add_mul, Nat.one_mul]]
      rw [show (List.take (k * s) cells.toList ++ us ++ List.drop (k * s + s) cells.toList).take (k * s + s) = List.take (k * s) cells.toList ++ us from by
        rw [← show (List.take (k * s) cells.toList ++ us).length = k * s + s by rw [List.length_append, hA, hul]]; exact List.take_left]
      rw [show (List.take (k * s) cells.toList ++ us ++ List.drop (k * s + s) cells.toList).drop (k * s + s + vs.length) = cells.toList.drop (k * s + (s + vs.length)) from by
        rw [List.drop_append, List.drop_eq_nil_of_le (by rw [List.length_append, hA, hul]; omega), List.nil_append, List.drop_drop]
        congr 1
        rw [List.length_append, hA, hul]; omega]
      simp [List.append_assoc]

/-- a literal of a slice, its elements in order -/
theorem run_buildSlice {t e : TypeId} {i : TypeInfo} {z : Value} {s n : Nat} {parts : Array (Nat × Value)} {cells : Array Value} (hst : P.underlying t = some (.slice e)) (hi : P.info? e = some i) (hz : i.zero = some z) (hsz : i.size = s) (hbig : n * s ≤ 2 ^ 24)
    (hf : ∀ cs : Array Value, cs.size = n * s → Instr.fill (fun i => some (i * s, s)) cs parts.toList = some cells) : (Instr.buildSlice t n parts).run P w = .ok (.slice (some ⟨w.heap.size, 0, none⟩) n n) (w.alloc (.cells cells e)) := by
  subst hsz
  have hbig' : ¬ n * i.size > 2 ^ 24 := by omega
  simp only [Instr.buildSlice, Sem.run_bind, run_underlying hst, Result.andThen_ok, sizeOf, typeInfo, run_program, hi, Sem.run_pure, Sem.run_ite, if_neg hbig']
  by_cases h0 : n * i.size = 0
  · simp only [if_pos h0, Sem.run_pure, Result.andThen_ok]
    rw [hf _ (by simp)]
    simp [run_newRow]
  · simp only [if_neg h0, Sem.run_bind, zeroValue, typeInfo, run_program, hi, hz, Sem.run_pure, Result.andThen_ok]
    rw [hf _ (by simp)]
    simp [run_newRow]

theorem do_bldS (h : Holds G B S0 w0 Γ c a.tmps w) {o : Oper} {t e : TypeId} {parts : Array (Nat × Operand)} {xa : List XArg} {s n : Nat} {agg own : Bool} {i : TypeInfo} {z : Value} (ho : o.op = .buildSlice t n parts) (hst : P.underlying t = some (.slice e)) (ht : sizeO P e = some (s, agg)) (hi : P.info? e = some i) (hz : i.zero = some z)
    (hp : parts.toList.map (·.1) = List.range n) (hx : (parts.toList.map (·.2)).mapM argT = some xa) (hbig : n * s ≤ 2 ^ 24) {r : Res} (hs : step P d c (.bldS e s own xa) = some r) : Does G B S0 w0 Γ c P o a w r := by
  obtain ⟨ii, dd, hii, hd, hsz, hag, hs0, hs1⟩ := sizeO_ok ht
  rw [hi] at hii; injection hii with hii; subst hii
  simp only [step] at hs
  split at hs <;> try (cases hs; done)
  rename_i hall
  obtain ⟨hl, hargs⟩ := mapM_ok hx
  have hpl : parts.toList.length = n := by have := congrArg List.length hp; simpa using this
  have hxl : xa.length = n := by rw [hl, List.length_map, hpl]
  have hex : parts.toList = ((parts.toList.map (·.2)).zipIdx).map fun p => (p.2, p.1) := by
    apply List.ext_getElem?
    intro j
    rw [List.getElem?_map, List.getElem?_zipIdx, List.getElem?_map]
    rcases Nat.lt_or_ge j parts.toList.length with hj | hj
    · rw [List.getElem?_eq_getElem hj]
      have h2 : (parts.toList.map (·.1))[j]? = (List.range n)[j]? := by rw [hp]
      rw [List.getElem?_map, List.getElem?_eq_getElem hj, List.getElem?_range (by omega)] at h2
      simp only [Option.map_some, Option.some.injEq] at h2
      simp only [Option.map_some, Nat.zero_add]
      exact congrArg some (Prod.ext h2 rfl)
    · rw [List.getElem?_eq_none hj]; rfl
  have hz2 : ∀ p, p ∈ (parts.toList.map (·.2)).zip xa → AVok (Free S0 B Γ w) Γ w (a.eval p.1) (evalA c.σ p.2) ∧ width (evalA c.σ p.2) = s ∧ solid (evalA c.σ p.2) = true := fun p hp2 => by
    obtain ⟨j, hj, he⟩ := List.mem_iff_getElem.1 hp2
    have e1 : (parts.toList.map (·.2))[j]? = some p.1 := by
      rw [← he, List.getElem_zip, List.getElem?_eq_getElem]
    have e2 : xa[j]? = some p.2 := by
      rw [← he, List.getElem_zip, List.getElem?_eq_getElem]
    refine ⟨h.arg (hargs j _ _ e1 e2), ?_⟩
    have := List.all_eq_true.1 hall p.2 (List.mem_of_getElem? e2)
    simpa using this
  have hzl : ((parts.toList.map (·.2)).zip xa).length = n := by simp [hpl, hxl]
  have hm2 : ((parts.toList.map (·.2)).zip xa).map (fun p => evalA c.σ p.2) = xa.map (evalA c.σ) := by
    rw [show (fun p : Operand × XArg => evalA c.σ p.2) = evalA c.σ ∘ Prod.snd from rfl, ← List.map_map, List.map_snd_zip (by simp [hpl, hxl])]
  have hm1 : (((parts.toList.map (·.2)).zip xa).zipIdx).map (fun p => (p.2, a.eval p.1.1)) = (parts.map fun (i, x) => (i, a.eval x)).toList := by
    rw [Array.toList_map]
    conv => rhs; rw [hex]
    rw [List.map_map]
    apply List.ext_getElem?
    intro j
    simp only [List.getElem?_map, List.getElem?_zipIdx]
    rcases Nat.lt_or_ge j n with hj | hj
    · have q1 : j < (parts.toList.map (·.2)).length := by rw [List.length_map]; omega
      have q2 : j < ((parts.toList.map (·.2)).zip xa).length := by rw [hzl]; exact hj
      simp only [List.getElem?_eq_getElem q2, List.getElem_zip, List.getElem?_eq_getElem (show j < parts.toList.length by omega), Option.map_some]
      simp
    · have q1 : ((parts.toList.map (·.2)).zip xa)[j]? = none := List.getElem?_eq_none (by omega)
      have q2 : parts.toList[j]? = none := List.getElem?_eq_none (by omega)
      simp only [q1, q2]; rfl
  have key : ∃ us, Cells (Free S0 B Γ w) Γ w us (flat (xa.map (evalA c.σ))) ∧ us.length = n * s ∧ (execOp a.eval o).run P w = .ok (.value (.slice (some ⟨w.heap.size, 0, none⟩) n n)) (w.alloc (.cells us.toArray e)) := by
    obtain ⟨us, h1, h2, h3⟩ := fill_dense (w := w) (Γ := Γ) (ev := a.eval) ((parts.toList.map (·.2)).zip xa) 0 hz2
    rw [hm2] at h1
    rw [hzl] at h2
    refine ⟨us, h1, h2, ?_⟩
    have hr := run_buildSlice (P := P) (w := w) (n := n) (parts := parts.map fun (i, x) => (i, a.eval x)) (cells := us.toArray) hst hi hz hsz hbig fun cs hcs => by
      rw [← hm1, h3 cs (by rw [hzl, hcs, Nat.zero_add]; exact Nat.le_refl _)]
      congr 2
      simp only [spliceL, Nat.zero_mul, List.take_zero, List.nil_append, Nat.zero_add]
      rw [List.drop_eq_nil_of_le (by simp [hcs, h2]), List.append_nil]
    simp only [execOp, ho]
    rw [Sem.run_bind, hr]; rfl
  obtain ⟨us, hc, hul, hr⟩ := key
  have hw : ∀ x, x ∈ xa.map (evalA c.σ) → width x = s := fun x hx => by
    obtain ⟨y, hy, rfl⟩ := List.mem_map.1 hx
    have := List.all_eq_true.1 hall y hy
    simp only [Bool.and_eq_true, beq_iff_eq] at this
    exact this.1
  have hn24 : n ≤ 2 ^ 24 := Nat.le_trans (Nat.le_mul_of_pos_right n hs0) hbig
  have hnm : n ≤ maxLen := Nat.le_trans hn24 (by decide)
  have hll : (xa.map (evalA c.σ)).length = n := by rw [List.length_map, hxl]
  cases own with
  | false =>
    injection hs with hs; subst hs
    obtain ⟨hb, hf, hm⟩ := h.fresh (.cells us.toArray e)
    refine ⟨_, _, hr, hb, ?_⟩
    have := AVok.sl (S := Free S0 B Γ (w.alloc (.cells us.toArray e))) (Γ := Γ) (w := w.alloc (.cells us.toArray e)) (some ⟨w.heap.size, 0, none⟩) n s true (xa.map (evalA c.σ)) us (by omega) (fun _ => hll.symm) hw hc.len (by omega) (fun j u x q1 q2 => hm u x (hc.ok j u x q1 q2)) hc.one
      (fun _ => ⟨_, _, rfl, hf, .alloc⟩) (by simp)
    rw [hll] at this
    exact this
  | true =>
    injection hs with hs; subst hs
    rw [hxl]
    obtain ⟨Γ', hH, hl⟩ := h.new d e s (xa.map (evalA c.σ)) us n us.toArray (by simp [hul]) (by omega) hnm (by rw [hll]; simp [hul, List.take_of_length_le]) hc hw hs0
    rw [hll] at hl
    exact ⟨_, _, _, Γ', hr, .inl rfl, hH, live_os hl (Nat.le_refl _) hnm⟩
end
end Go.Proofs.Eng
