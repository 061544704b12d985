/-
  The operations one by one: append and make.
-/
import Derived.Test.YtdmffkknghianaaEngI
set_option linter.unusedSimpArgs false
set_option linter.unusedVariables false
namespace Go.Proofs.Eng
open Go Go.RowKit

section
variable {G : List (Value × AV)} {B : Nat} {S0 : Nat → Prop} {w0 w : World} {Γ : Gam} {c : Cfg} {a : Act} {P : Program} {d : Nat} {oi : OI} {ob : Ob}

/-- a slice whose elements are known, as it lies -/
theorem elems_ok (h : Holds G B S0 w0 Γ c a.tmps w) {s : Nat} {u : Value} {x : AV} {ys : List AV} (hx : AVok (Free S0 B Γ w) Γ w u x) (he : elems c.η s x = some ys) :
    ∃ A cp us, u = .slice A ys.length cp ∧ ys.length ≤ cp ∧ Cells (Free S0 B Γ w) Γ w us (flat ys) ∧ (∀ y, y ∈ ys → width y = s) ∧ (ys ≠ [] → ∃ g o, A = some ⟨g, o, none⟩ ∧ At w g o us) := by
  unfold elems at he
  split at he
  · injection he with he; subst he
    have := v_inv hx
    subst this
    exact ⟨none, 0, [], rfl, Nat.le_refl _, .nil, (fun y hy => by cases hy), fun hne => absurd rfl hne⟩
  · rename_i s' f xs
    split at he <;> try (cases he; done)
    rename_i hs; subst hs
    injection he with he; subst he
    cases hx with | sl A cp _ _ _ us hcp hf hw hul hcap hu h1 hA hN =>
    exact ⟨A, cp, us, rfl, hcp, ⟨hul, h1, hu⟩, hw, fun hne => by obtain ⟨g, o, q1, _, q3⟩ := hA hne; exact ⟨g, o, q1, q3⟩⟩
  · rename_i k g ver s' lo n
    split at he <;> try (cases he; done)
    rename_i g' ob hlk
    split at he <;> try (cases he; done)
    rename_i hc
    obtain ⟨rfl, hver, rfl, hos, hln⟩ := hc
    injection he with he; subst he
    obtain ⟨oi, hΓ, hro, hlive, hnd⟩ := h.ref hlk hver.symm hx.ldS
    cases hx with
    | osDead _ _ _ _ _ _ cp A hd2 hcp hcm hA hN => exact (hnd ver hver.symm hd2).elim
    | osLive _ _ _ _ _ _ cp A oi2 hl hsi hn hcp hcm hwh hA hN =>
      have := hlive ver oi2 hver.symm hl
      subst this
      have hlen : ((ob.xs.drop lo).take n).length = n := by rw [List.length_take, List.length_drop]; omega
      have hw2 : ∀ y, y ∈ (ob.xs.drop lo).take n → width y = s' := fun y hy => by rw [← hos]; exact hro.wid y (List.mem_of_mem_drop (List.mem_of_mem_take hy))
      by_cases h0 : 0 < n
      · obtain ⟨b, hb, rfl⟩ := hA h0
        obtain ⟨us, hAt, hcs, _⟩ := hro.at hb
        refine ⟨_, cp, (us.drop (lo * s')).take (n * s'), by rw [hlen], by rw [hlen]; exact hcp, ?_, hw2, fun _ => ⟨b, lo * s', rfl, ?_⟩⟩
        · rw [flat_take (s := s') (fun y hy => by rw [← hos]; exact hro.wid y (List.mem_of_mem_drop hy)), flat_drop (s := s') (fun y hy => by rw [← hos]; exact hro.wid y hy)]
          exact (hcs.drop _).take _
        · have := (hAt.drop (lo * s')).take (n * s')
          rw [Nat.zero_add] at this
          exact this
      · have hn0 : n = 0 := by omega
        subst hn0
        exact ⟨A, cp, [], by simp, by simp, .nil, (fun y hy => by simp at hy), fun hne => absurd (by simp) hne⟩
  · cases he

/-- nothing is appended -/
theorem run_append_zero {t ty e : TypeId} {i : TypeInfo} (ht : P.underlying t = some (.slice e)) (hi : P.info? e = some i) {A A' : Option Addr} {n cp cp' : Nat} (hn : n ≤ cp) : (Builtin.append_ #[t, t] ty #[.slice A n cp, .slice A' 0 cp']).run P w = .ok (.slice A n cp) w := by
  have hf : (Builtin.firstCells i.size 0 (.slice A' 0 cp')).run P w = .ok #[] w := by
    cases A' with
    | none => rfl
    | some b => simp [Builtin.firstCells, loadCells, loadCellsFrom]
  cases A with
  | none => simp [Builtin.append_, run_underlying ht, sizeOf, typeInfo, hi, Builtin.lenOf, hn, hf]
  | some b => simp [Builtin.append_, run_underlying ht, sizeOf, typeInfo, hi, Builtin.lenOf, hn, hf, storeCells]

theorem do_app (h : Holds G B S0 w0 Γ c a.tmps w) {o : Oper} {t e : TypeId} {x y : Operand} {xa ya : XArg} {s bytes : Nat} {agg : Bool} {i : TypeInfo} {z : Value} (ho : o.op = .call { callee := .builtin .append, args := #[x, y], argTypes := #[t, t] }) (hx : argT x = some xa) (hy : argT y = some ya)
    (ht : P.underlying t = some (.slice e)) (hse : sizeO P e = some (s, agg)) (hi : P.info? e = some i) (hz : i.zero = some z) (hzs : z.cells.size = s) (hby : i.bytes = bytes) {r : Res} (hs : step P d c (.app e s bytes xa ya) = some r) : Does G B S0 w0 Γ c P o a w r := by
  have h1 := h.arg hx
  have h2 := h.arg hy
  obtain ⟨ii, dd, hii, hd, hsz, hag, hs0, hs1⟩ := sizeO_ok hse
  rw [hi] at hii; injection hii with hii; subst hii
  have hBw : B ≤ w.heap.size := Nat.le_trans h.base h.below.size
  simp only [step] at hs
  split at hs <;> try (cases hs; done)
  rename_i ys hys
  obtain ⟨A', cp', us, hyv, hycp, hyc, hyw, hyA⟩ := elems_ok h h2 hys
  have hml : maxLen = 9223372036854775807 := rfl
  have hrun : ∀ v w', (Builtin.append_ #[t, t] o.type #[a.eval x, a.eval y]).run P w = .ok v w' → (execOp a.eval o).run P w = .ok (.value v) w' := fun v w' hr => by
    simp only [execOp, ho, resolve, invoke, builtin, Sem.run_bind, Sem.run_pure, Result.andThen_ok, List.map_toArray, List.map_cons, List.map_nil, hr]
  -- a new row
  have fresh : ∀ (xs : List AV) (vs : List Value) (A : Option Addr) (cp : Nat), a.eval x = .slice A xs.length cp → cp ≤ xs.length → Cells (Free S0 B Γ w) Γ w vs (flat xs) → (∀ y, y ∈ xs → width y = s) → (xs ≠ [] → ∃ g o, A = some ⟨g, o, none⟩ ∧ At w g o vs) → ys ≠ [] →
      (xs.length + ys.length) * bytes ≤ 100000000000000 → xs.length + ys.length ≤ 100000000000000 →
      Does G B S0 w0 Γ c P o a w (.upd (.os d ((look c.η d).1 + 1) (xs.length + ys.length) s 0 (xs.length + ys.length)) d ((look c.η d).1 + 1, some ⟨e, s, xs ++ ys⟩)) := fun xs vs A cp hv hcp hvc hxw hxA hne hb1 hb2 => by
    obtain ⟨g, of, rfl, hAt⟩ := hyA hne
    have hyl : 0 < ys.length := List.length_pos_iff.2 hne
    have hvl : vs.length = xs.length * s := by rw [hvc.len, flat_len hxw]
    have hul : us.length = ys.length * s := by rw [hyc.len, flat_len hyw]
    have hAt' : ∀ j v, us[j]? = some v → w.cell? ((⟨g, of, none⟩ : Addr).add j) = some v := fun j v hj => by rw [Addr.add_lit]; exact hAt j v hj
    have hall : Cells (Free S0 B Γ w) Γ w (vs ++ us) (flat (xs ++ ys)) := by rw [flat_append]; exact hvc.append hyc
    have hwall : ∀ y, y ∈ xs ++ ys → width y = s := fun y hy => (List.mem_append.1 hy).elim (hxw y) (hyw y)
    have hdr : Holds G B S0 w0 Γ c a.tmps w.drew := h.grow ((Below.refl _ w).drew)
    have hcd : Cells (Free S0 B Γ w.drew) Γ w.drew (vs ++ us) (flat (xs ++ ys)) := Cells.mono (S := Free S0 B Γ w) (w := w) (S' := Free S0 B Γ w.drew) (w' := w.drew) (fun b hb => ⟨hb, rfl⟩) (.refl _) hall
    have cont : ∀ old, old < xs.length + ys.length → (Builtin.append_ #[t, t] o.type #[a.eval x, a.eval y]).run P w = .ok (.slice (some ⟨w.heap.size, 0, none⟩) (xs.length + ys.length) (grownCap w (xs.length + ys.length) old e))
        (w.drew.alloc (.cells (vs.toArray ++ us.toArray ++ Builtin.zeroCells z.cells (grownCap w (xs.length + ys.length) old e - (xs.length + ys.length))) e)) →
        Does G B S0 w0 Γ c P o a w (.upd (.os d ((look c.η d).1 + 1) (xs.length + ys.length) s 0 (xs.length + ys.length)) d ((look c.η d).1 + 1, some ⟨e, s, xs ++ ys⟩)) := fun old hold hr => by
      have hge := grownCap_ge w (xs.length + ys.length) old e
      have hcm := grownCap_le_maxLen w (xs.length + ys.length) old e (by omega)
      obtain ⟨Γ', hH, hl⟩ := hdr.new d e s (xs ++ ys) (vs ++ us) (grownCap w (xs.length + ys.length) old e) (vs.toArray ++ us.toArray ++ Builtin.zeroCells z.cells (grownCap w (xs.length + ys.length) old e - (xs.length + ys.length)))
        (by
          simp only [Array.size_append, List.size_toArray, size_zeroCells, hzs, hvl, hul, ← Nat.add_mul]
          congr 1; omega)
        (by rw [List.length_append]; exact hge) hcm
        (by
          simp only [Array.toList_append, List.length_append]
          rw [show (xs.length + ys.length) * s = (vs ++ us).length by rw [List.length_append, hvl, hul, Nat.add_mul]]
          exact List.take_left) hcd hwall hs0
      rw [List.length_append] at hl
      exact ⟨_, _, _, Γ', hrun _ _ hr, .inl rfl, hH, live_os hl hge hcm⟩
    cases A with
    | none =>
      have hx0 : xs = [] := by
        by_cases hx0 : xs = []
        · exact hx0
        · obtain ⟨_, _, q, _⟩ := hxA hx0; cases q
      subst hx0
      have hv0 : vs = [] := List.eq_nil_of_length_eq_zero (by simpa using hvl)
      subst hv0
      have hcp0 : cp = 0 := by simpa using hcp
      subst hcp0
      refine cont 0 (by simpa using hyl) ?_
      rw [hv, hyv]
      have := run_append_nil (P := P) w t o.type e i z ht hi hz ⟨g, of, none⟩ ys.length cp' us (by rw [hsz]; exact hul) hAt' hyl (by omega) (by rw [hby]; simp only [List.length_nil, Nat.zero_add] at hb1; omega)
      simpa using this
    | some b =>
      refine cont cp (by omega) ?_
      rw [hv, hyv]
      refine run_append_grow (P := P) w t o.type e i z ht hi hz b xs.length cp vs (by rw [hsz]; exact hvl) ?_ ⟨g, of, none⟩ ys.length cp' us (by rw [hsz]; exact hul) hAt' (by omega) (by omega) (growslice_fits (by omega) (by rw [hby]; omega))
      intro j v hj
      have hne2 : xs ≠ [] := by
        intro q
        rw [q] at hvl
        have : vs = [] := List.eq_nil_of_length_eq_zero (by simpa using hvl)
        rw [this] at hj; simp at hj
      obtain ⟨g2, o2, q1, q2⟩ := hxA hne2
      injection q1 with q1; subst q1
      rw [Addr.add_lit]; exact q2 j v hj
  split at hs
  · rename_i k g ver s' n e1
    rw [e1] at h1
    split at hs <;> try (cases hs; done)
    rename_i g' ob hlk
    split at hs
    · rename_i hc
      obtain ⟨rfl, hver, rfl, rfl, hos, hoe, hb1, hb2⟩ := hc
      injection hs with hs; subst hs
      obtain ⟨oi, hΓ, hro, hlive, hnd⟩ := h.ref hlk hver.symm h1.ldS
      generalize hxv : a.eval x = xv at h1
      cases h1 with
      | osDead _ _ _ _ _ _ cp A hd2 hcp hcm hA hN => exact (hnd n hver.symm hd2).elim
      | osLive _ _ _ _ _ _ cp A oi2 hl hsi hn hcp hcm hwh hA hN =>
        have := hlive n oi2 hver.symm hl
        subst this
        have hval := hwh rfl
        obtain ⟨vs, hv3, hv4, hv5, hown⟩ := hro.cells
        rw [hos, hoe, hver, hval] at hown
        by_cases hne : ys = []
        · subst hne
          have hr := run_append_zero (P := P) (w := w) (ty := o.type) ht hi (A := A) (A' := A') (n := n) (cp := cp) (cp' := cp') hcp
          rw [hxv, hyv] at hrun
          have hr := hrun _ _ hr
          have hH := h.row_set k g' oi2 { ob with xs := ob.xs ++ [] } none ⟨rfl, rfl, rfl, Nat.le_refl _, fun _ _ _ => rfl⟩ (fun b q => by cases q) (fun b' hb' => .inr ⟨oi2, by rw [hΓ], hb'⟩) (.inr ⟨by rw [hΓ], oi2, by rw [hΓ], .inl rfl⟩) fun hm => by
            refine ⟨by rw [hro.ver]; simp, hro.s, hro.s0, by simpa using hro.wid, vs, by simpa using hv3, fun q u x hu hx => hm u x (hv4 q u x hu (by simpa using hx)), hv5, ?_⟩
            simp only [List.append_nil]
            rw [hos, hoe, hver, hval]; exact hown
          refine ⟨_, _, w, _, hr, .inl rfl, hH, ?_⟩
          simp only [List.length_nil, Nat.add_zero]
          exact .osLive k g' n s' 0 n cp A oi2 ⟨by rw [Gam.set_self], hl.2⟩ hsi hn hcp hcm hwh hA hN
        · obtain ⟨g, of, rfl, hAt⟩ := hyA hne
          have hAt' : ∀ j v, us[j]? = some v → w.cell? ((⟨g, of, none⟩ : Addr).add j) = some v := fun j v hj => by rw [Addr.add_lit]; exact hAt j v hj
          have hul : us.length = ys.length * s' := by rw [hyc.len, flat_len hyw]
          have hyl : 0 < ys.length := List.length_pos_iff.2 hne
          obtain ⟨v', w', hr0, hown', hg, _⟩ := run_append_own (P := P) w B t o.type e i z s' bytes ht hi hz hsz hby hzs hs0 (.slice A n cp) n vs hown ⟨g, of, none⟩ ys.length cp' us hul hAt' hyc.one (by omega) (by omega) hBw
          rw [hxv, hyv] at hrun
          have hr := hrun _ _ hr0
          have hcells : Cells (Free S0 B Γ w) Γ w (vs ++ us) (flat (ob.xs ++ ys)) := by rw [flat_append]; exact (Cells.mk hv3 hv5 hv4).append hyc
          have hvl : vs.length = n * s' := hown.1
          have hoo := hro.s
          have hvb : v'.ownBlock = Value.ownBlock (.slice A n cp) ∨ v'.ownBlock = some w.heap.size := by
            by_cases hroom : n + ys.length ≤ cp
            · rcases hown.2 with ⟨q, q2⟩ | ⟨b0, cap0, cur0, q, _, q3, _, _, q6, _⟩
              · injection q with q4 q5 q6; omega
              · injection q with q4 q5 q7
                subst q4; subst q7
                have hr2 := run_append_room (P := P) w t o.type e i ht hi b0 n cp cur0 q3 ⟨g, of, none⟩ ys.length cp' us (by rw [hsz]; exact hul) hAt' hyc.one hroom (by rw [hsz, hul, q6, ← Nat.add_mul]; exact Nat.mul_le_mul_right _ hroom)
                rw [hr0] at hr2
                injection hr2 with hr2 _
                left; rw [hr2]; rfl
            · right
              cases A with
              | none =>
                rcases hown.2 with ⟨q, q2⟩ | ⟨b0, cap0, cur0, q, _⟩
                · injection q with q4 q5 q6
                  subst q5; subst q6
                  have hr2 := run_append_nil (P := P) w t o.type e i z ht hi hz ⟨g, of, none⟩ ys.length cp' us (by rw [hsz]; exact hul) hAt' hyl (by omega) (by rw [hby]; simp only [Nat.zero_add] at hb1; omega)
                  rw [hr0] at hr2
                  injection hr2 with hr2 _
                  rw [hr2]; rfl
                · injection q with q4; cases q4
              | some b =>
                have hb0 : b = ⟨b.block, 0, none⟩ := by
                  rcases hown.2 with ⟨q, q2⟩ | ⟨b0, cap0, cur0, q, _⟩
                  · injection q with q4; cases q4
                  · injection q with q4; injection q4 with q4; rw [q4]
                have hr2 := run_append_grow (P := P) w t o.type e i z ht hi hz b n cp vs (by rw [hsz]; exact hown.1) (fun j u hj => by
                  have := hown.cells (g := b.block) rfl j u hj
                  rw [← hb0] at this; exact this) ⟨g, of, none⟩ ys.length cp' us (by rw [hsz]; exact hul) hAt' (by omega) (by omega) (growslice_fits (by omega) (by rw [hby]; omega))
                rw [hr0] at hr2
                injection hr2 with hr2 _
                rw [hr2]; rfl
          have hH := h.row_set k g' ⟨n + ys.length, v', s'⟩ { ob with xs := ob.xs ++ ys } (Value.ownBlock (.slice A n cp)) hg (fun b q => ⟨oi2, by rw [hΓ], by rw [hval]; exact q⟩) (fun b' hb' => by
              simp only [] at hb'
              rcases hvb with q | q
              · rw [q] at hb'; exact .inr ⟨oi2, by rw [hΓ], by rw [hval]; exact hb'⟩
              · rw [q] at hb'; injection hb' with hb'; subst hb'; exact .inl (Nat.le_refl _)) (.inr ⟨by rw [hΓ], oi2, by rw [hΓ], .inr (by rw [hl.2]; show n < n + ys.length; omega)⟩) fun hm => by
            refine ⟨by simp [hver], hos.symm, by rw [hos]; exact hs0, fun y hy => (List.mem_append.1 hy).elim (hro.wid y) (fun q => by rw [hos]; exact hyw y q), vs ++ us, hcells.len, fun q u x hu hx => hm u x (hcells.ok q u x hu hx), hcells.one, ?_⟩
            simp only [List.length_append, hver, hos, hoe]; exact hown'
          obtain ⟨A2, cp2, rfl⟩ : ∃ A2 cp2, v' = .slice A2 (n + ys.length) cp2 := by
            rcases hown'.2 with ⟨q, q2⟩ | ⟨b2, cap2, cur2, q, _⟩
            · omega
            · exact ⟨_, _, q⟩
          refine ⟨_, _, w', _, hr, .inl rfl, hH, ?_⟩
          rcases hown'.2 with ⟨q, q2⟩ | ⟨b2, cap2, cur2, q, q2, q3, q4, q5, q6, q7⟩
          · omega
          · injection q with q8 q9 q10
            subst q8; subst q10
            exact .osLive k g' _ s' 0 _ cp2 _ ⟨n + ys.length, _, s'⟩ ⟨by rw [Gam.set_self], rfl⟩ rfl (by omega) q4 q5 (fun _ => rfl) (fun _ => ⟨b2, rfl, by simp⟩) (by simp)
    · split at hs <;> try (cases hs; done)
      rename_i hc
      obtain ⟨rfl, hver, hnm, rfl, hos, hoe⟩ := hc
      injection hs with hs; subst hs
      obtain ⟨oi, hΓ, hro, hlive, hnd⟩ := h.ref hlk hver.symm h1.ldS
      generalize hxv : a.eval x = xv at h1
      cases h1 with
      | osDead _ _ _ _ _ _ cp A hd2 hcp hcm hA hN => exact (hnd ver hver.symm hd2).elim
      | osLive _ _ _ _ _ _ cp A oi2 hl hsi hn hcp hcm hwh hA hN =>
        have := hlive ver oi2 hver.symm hl
        subst this
        have hval := hwh rfl
        obtain ⟨vs, hv3, hv4, hv5, hown⟩ := hro.cells
        rw [hos, hoe, hver, hval] at hown
        have hflen : (flat ob.xs).length = ver * s' := by rw [flat_len hro.wid, hver, hos]
        have hul : us.length = ys.length * s' := by rw [hyc.len, flat_len hyw]
        have hle : n * s' + us.length ≤ vs.length := by
          rw [hul, hv3, hflen, ← Nat.add_mul]; exact Nat.mul_le_mul_right _ hnm
        have hw2 : ∀ y, y ∈ ob.xs.take n ++ ys ++ ob.xs.drop (n + ys.length) → width y = ob.s := fun y hy => by
          rcases List.mem_append.1 hy with hy | hy
          · rcases List.mem_append.1 hy with hy | hy
            · exact hro.wid y (List.mem_of_mem_take hy)
            · rw [hos]; exact hyw y hy
          · exact hro.wid y (List.mem_of_mem_drop hy)
        have hlen2 : (ob.xs.take n ++ ys ++ ob.xs.drop (n + ys.length)).length = ver := by simp; omega
        have hfl2 : flat (ob.xs.take n ++ ys ++ ob.xs.drop (n + ys.length)) = splice (flat ob.xs) (n * s') (flat ys) := by
          rw [flat_append, flat_append, flat_take hro.wid, flat_drop hro.wid, hos]
          unfold Go.Proofs.Eng.splice
          rw [flat_len hyw, Nat.add_mul]
        have hcells : Cells (Free S0 B Γ w) Γ w (spliceL vs (n * s') us) (splice (flat ob.xs) (n * s') (flat ys)) := (Cells.mk hv3 hv5 hv4).splice hyc (n * s')
        have fin : ∀ w', (Builtin.append_ #[t, t] o.type #[a.eval x, a.eval y]).run P w = .ok (.slice A (n + ys.length) cp) w' → w'.ownsRow B e s' (.slice A ver cp) ver (spliceL vs (n * s') us) → (w.grownBy w' none ∨ ∃ b, (Value.slice A ver cp).ownBlock = some b ∧ w.grownBy w' (some b)) →
            Does G B S0 w0 Γ c P o a w (.upd (.os k g' ver s' 0 (n + ys.length)) k (g', some { ob with xs := ob.xs.take n ++ ys ++ ob.xs.drop (n + ys.length) })) := fun w' hr hown' hg => by
          have hr := hrun _ _ hr
          have hcommon : ∀ row, w.grownBy w' row → (∀ b, row = some b → ∃ oi, (Γ k).2 = some oi ∧ oi.val.ownBlock = some b) → Holds G B S0 w0 (Γ.set k (g', some oi2)) ⟨c.σ, putAt c.η k (g', some { ob with xs := ob.xs.take n ++ ys ++ ob.xs.drop (n + ys.length) })⟩ a.tmps w' := fun row hg hrow =>
            h.row_set k g' oi2 _ row hg hrow (fun b' hb' => .inr ⟨oi2, by rw [hΓ], hb'⟩) (.inr ⟨by rw [hΓ], oi2, by rw [hΓ], .inl rfl⟩) fun hm => by
              refine ⟨by rw [hro.ver]; simp only [hlen2, hver], hro.s, hro.s0, hw2, spliceL vs (n * s') us, by rw [hcells.len, hfl2], fun q u x hu hx => hm u x (hcells.ok q u x hu (by rw [← hfl2]; exact hx)), hcells.one, ?_⟩
              simp only [hlen2, hos, hoe, hval]; exact hown'
          have hH : Holds G B S0 w0 (Γ.set k (g', some oi2)) ⟨c.σ, putAt c.η k (g', some { ob with xs := ob.xs.take n ++ ys ++ ob.xs.drop (n + ys.length) })⟩ a.tmps w' := by
            rcases hg with hg | ⟨b, hb, hg⟩
            · exact hcommon none hg (fun b q => by cases q)
            · exact hcommon (some b) hg (fun b' q => by injection q with q; subst q; exact ⟨oi2, by rw [hΓ], by rw [hval]; exact hb⟩)
          refine ⟨_, _, w', _, hr, .inl rfl, hH, ?_⟩
          have hncp : ver ≤ cp := by
            rcases hown.2 with ⟨q, q2⟩ | ⟨b0, cap0, cur0, q, _, _, q4, _⟩
            · omega
            · injection q with _ _ q3; omega
          exact .osLive k g' ver s' 0 _ cp A oi2 ⟨by rw [Gam.set_self], hl.2⟩ hsi (by omega) (by omega) hcm hwh (fun q => by
            rcases hown.2 with ⟨q1, q2⟩ | ⟨b0, cap0, cur0, q1, _⟩
            · omega
            · injection q1 with q1; exact ⟨b0, by rw [hval, q1]; rfl, by rw [q1]; simp⟩) hN
        by_cases hne : ys = []
        · subst hne
          have hu0 : us = [] := List.eq_nil_of_length_eq_zero (by simpa using hul)
          subst hu0
          have hr := run_append_zero (P := P) (w := w) (ty := o.type) ht hi (A := A) (A' := A') (n := n) (cp := cp) (cp' := cp') hcp
          refine fin w (by rw [hxv, hyv]; simpa using hr) ?_ (.inl ⟨rfl, rfl, rfl, Nat.le_refl _, fun _ _ _ => rfl⟩)
          simpa [spliceL] using hown
        · obtain ⟨g, of, rfl, hAt⟩ := hyA hne
          have hAt' : ∀ j v, us[j]? = some v → w.cell? ((⟨g, of, none⟩ : Addr).add j) = some v := fun j v hj => by rw [Addr.add_lit]; exact hAt j v hj
          have hyl : 0 < ys.length := List.length_pos_iff.2 hne
          obtain ⟨b, hA2, hncp⟩ : ∃ b, A = some ⟨b, 0, none⟩ ∧ ver ≤ cp := by
            rcases hown.2 with ⟨q, q2⟩ | ⟨b0, cap0, cur0, q, _, _, q4, _⟩
            · omega
            · injection q with q1 _ q3; exact ⟨b0, q1, by omega⟩
          subst hA2
          obtain ⟨cur, hh, hle2, hown', hg⟩ := own_setRow hown (b := b) rfl hle
          have hr := run_append_room (P := P) w t o.type e i ht hi b n cp cur hh ⟨g, of, none⟩ ys.length cp' us (by rw [hsz]; exact hul) hAt' hyc.one (by omega) (by rw [hsz]; exact hle2)
          rw [hsz] at hr
          exact fin _ (by rw [hxv, hyv]; exact hr) hown' (.inr ⟨b, rfl, hg⟩)
  · rename_i s' xs e1
    rw [e1] at h1
    split at hs
    · rename_i hc
      obtain ⟨rfl, hne, hb1, hb2⟩ := hc
      injection hs with hs; subst hs
      generalize hxv : a.eval x = xv at h1
      cases h1 with | sl A cp _ _ _ vs hcp hf hw hul hcap hu h1 hA hN =>
      exact fresh xs vs A cp hxv (by rw [hf rfl]; exact Nat.le_refl _) ⟨hul, h1, hu⟩ hw (fun q => by obtain ⟨g, o, q1, _, q3⟩ := hA q; exact ⟨g, o, q1, q3⟩) hne hb1 hb2
    · split at hs <;> try (cases hs; done)
      rename_i hc
      obtain ⟨rfl, rfl⟩ := hc
      injection hs with hs; subst hs
      generalize hxv : a.eval x = xv at h1
      cases h1 with | sl A cp _ _ _ vs hcp hf hw hul hcap hu h1 hA hN =>
      have hr := run_append_zero (P := P) (w := w) (ty := o.type) ht hi (A := A) (A' := A') (n := xs.length) (cp := cp) (cp' := cp') hcp
      rw [hxv, hyv] at hrun
      exact .pure (hrun _ _ hr) (.sl A cp s' true xs vs hcp hf hw hul hcap hu h1 hA hN)
  · rename_i e1
    rw [e1] at h1
    have hxv := v_inv h1
    split at hs
    · rename_i hne
      subst hne
      injection hs with hs; subst hs
      have hr := run_append_zero (P := P) (w := w) (ty := o.type) ht hi (A := none) (A' := A') (n := 0) (cp := 0) (cp' := cp') (Nat.le_refl _)
      rw [hxv, hyv] at hrun
      exact .pure (hrun _ _ hr) (.v _)
    · rename_i hne
      split at hs <;> try (cases hs; done)
      rename_i hc
      injection hs with hs; subst hs
      have := fresh [] [] none 0 hxv (Nat.le_refl _) .nil (fun y hy => by cases hy) (fun q => absurd rfl q) hne (by simpa using hc.1) (by simpa using hc.2)
      simpa using this
  · cases hs
end
end Go.Proofs.Eng
