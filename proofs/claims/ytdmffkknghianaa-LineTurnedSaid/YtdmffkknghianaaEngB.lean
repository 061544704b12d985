/-
  What becomes of the knowledge of a frame's slots: a slot is set, memory is made, an owned row changes, is made new, or is given up.
-/
import Derived.Test.YtdmffkknghianaaEngA
set_option linter.unusedSimpArgs false
set_option linter.unusedVariables false
namespace Go.Proofs.Eng
open Go Go.RowKit

variable {G : List (Value × AV)} {B : Nat} {S0 : Nat → Prop} {w0 w w' : World} {Γ Γ' : Gam} {c : Cfg} {tmps : Array Value}

theorem Holds.put (h : Holds G B S0 w0 Γ c tmps w) (t : Nat) {u : Value} {x : AV} (hx : AVok (Free S0 B Γ w) Γ w u x) : Holds G B S0 w0 Γ ⟨c.σ.set t x, c.η⟩ (tmps.setIfInBounds t u) w where
  below := h.below
  base := h.base
  size := by simp [h.size]
  tmp := by
    intro t' u' x' hu' hx'
    by_cases e : t = t'
    · subst e
      have ht : t < tmps.size := by
        rcases Nat.lt_or_ge t tmps.size with h1 | h1
        · exact h1
        · rw [Array.setIfInBounds_eq_of_size_le h1, Array.getElem?_eq_none h1] at hu'; cases hu'
      rw [Array.getElem?_setIfInBounds_self_of_lt ht] at hu'
      rw [List.getElem?_set_self (by rw [h.size]; exact ht)] at hx'
      injection hu' with e1; injection hx' with e2
      subst e1; subst e2; exact hx
    · rw [Array.getElem?_setIfInBounds_ne e] at hu'
      rw [List.getElem?_set_ne e] at hx'
      exact h.tmp t' u' x' hu' hx'
  ghost := h.ghost
  gen := h.gen
  non := h.non
  row := h.row
  apart := h.apart

theorem own_of_lt {base n s : Nat} {e : TypeId} {v : Value} {xs : List Value} (h : w.ownsRow base e s v n xs) {b : Nat} (hb : v.ownBlock = some b) : base ≤ b ∧ b < w.heap.size := h.lt b hb

theorem RowM.lt {S0 : Nat → Prop} {B : Nat} {Γ : Gam} {w : World} {oi : OI} {ob : Ob} (h : RowM S0 B Γ w oi ob) {b : Nat} (hb : oi.val.ownBlock = some b) : B ≤ b ∧ b < w.heap.size := by
  rcases h with h | h
  · obtain ⟨us, _, _, _, h6⟩ := h.cells
    exact h6.lt b hb
  · obtain ⟨b', l, o, h1, h2, h3, _⟩ := h.ents
    rw [hb] at h1; injection h1 with h1; subst h1
    exact ⟨h2, (Array.getElem?_eq_some_iff.1 h3).1⟩
theorem RowM.kept {S0 : Nat → Prop} {B : Nat} {Γ Γ' : Gam} {w w' : World} {oi : OI} {ob : Ob} {row : Option Nat} (h : RowM S0 B Γ w oi ob) (hm : ∀ u x, AVok (Free S0 B Γ w) Γ w u x → AVok (Free S0 B Γ' w') Γ' w' u x) (hg : w.grownBy w' row)
    (hne : ∀ b, oi.val.ownBlock = some b → row = some b → False) : RowM S0 B Γ' w' oi ob := by
  rcases h with h2 | h
  · obtain ⟨us, h3, h4, h5, h6⟩ := h2.cells
    refine .inl ⟨h2.ver, h2.s, h2.s0, h2.wid, us, h3, fun j u x hu hx => hm u x (h4 j u x hu hx), h5, h6.kept hg ?_⟩
    cases hv : oi.val.ownBlock with
    | none => exact .inl rfl
    | some b => exact .inr fun e2 => hne b hv e2.symm
  · obtain ⟨b, l, o, h1, h2, h3, h4, h5⟩ := h.ents
    refine .inr ⟨h.s, h.ver, b, l, o, h1, h2, ?_, h4, h5.imp (fun ⟨e0, es, clock, q1, q2, q3⟩ => ⟨e0, es, clock, q1, q2, fun j e x he hx => ?_⟩) id⟩
    · rw [hg.block b (Array.getElem?_eq_some_iff.1 h3).1 (fun e => hne b h1 e.symm)]; exact h3
    · obtain ⟨kx, vx, p1, p2, p3⟩ := q3 j e x he hx
      exact ⟨kx, vx, p1, hm _ _ p2, hm _ _ p3⟩
/-- what refers to a row refers to no map -/
theorem MapOk.no {S0 : Nat → Prop} {B : Nat} {Γ : Gam} {w : World} {oi : OI} {ob : Ob} {k g ver : Nat} (h : MapOk S0 B Γ w oi ob) (h1 : (Γ k).2 = some oi) (hg : (Γ k).1 = g) (hv : ver = ob.xs.length) (hx : (∃ oi', Γ.live k g ver oi') ∨ Γ.dead k g ver) : False := by
  obtain ⟨b, l, o, _, _, _, h4, _⟩ := h.ents
  have h0 := h.ver
  rw [h4] at hv
  simp only [List.length_cons] at hv
  rcases hx with ⟨oi', hl⟩ | hd
  · have : oi' = oi := by have := hl.1; rw [this] at h1; injection h1
    subst this
    have := hl.2; omega
  · rcases hd with hd | ⟨_, hd⟩
    · omega
    · have := hd oi h1; omega
theorem AVok.ldO {S : Nat → Prop} {Γ : Gam} {w : World} {u : Value} {k g ver i j : Nat} (h : AVok S Γ w u (.o k g ver i j)) : (∃ oi', Γ.live k g ver oi') ∨ Γ.dead k g ver := by
  cases h with
  | oLive _ _ _ _ _ b oi hl hb => exact .inl ⟨oi, hl⟩
  | oDead _ _ _ _ _ _ _ hd => exact .inr hd
theorem AVok.ldS {S : Nat → Prop} {Γ : Gam} {w : World} {u : Value} {k g ver s lo n : Nat} (h : AVok S Γ w u (.os k g ver s lo n)) : (∃ oi', Γ.live k g ver oi') ∨ Γ.dead k g ver := by
  cases h with
  | osLive _ _ _ _ _ _ c A oi hl hs hn hc hcm hwh hA hN => exact .inl ⟨oi, hl⟩
  | osDead _ _ _ _ _ _ c A hd hc hcm hA hN => exact .inr hd
/-- memory was made, or nothing; what was there is as it was -/
theorem Holds.grow (h : Holds G B S0 w0 Γ c tmps w) (hb : Below w.heap.size w w') : Holds G B S0 w0 Γ c tmps w' := by
  have hBw : B ≤ w.heap.size := Nat.le_trans h.base h.below.size
  have hS : ∀ b, Free S0 B Γ w b → Free S0 B Γ w' b ∧ w'.heap[b]? = w.heap[b]? := fun b ⟨h1, h2, h3⟩ => ⟨⟨Nat.lt_of_lt_of_le h1 hb.size, h2, h3⟩, hb.block b h1⟩
  exact {
    below := h.below.trans (hb.mono hBw)
    base := h.base
    size := h.size
    tmp := fun t u x hu hx => (h.tmp t u x hu hx).mono hS (.refl _)
    ghost := fun p hp => (h.ghost p hp).mono hS (.refl _)
    gen := h.gen
    non := h.non
    row := fun k ob hk => by
      obtain ⟨oi, h1, h2⟩ := h.row k ob hk
      exact ⟨oi, h1, h2.kept (row := none) (fun u x hx => hx.mono hS (.refl _)) ⟨hb.os, hb.tape, hb.output, hb.size, fun k hk _ => hb.block k hk⟩ (fun b _ e => by cases e)⟩
    apart := h.apart }

def Gam.set (Γ : Gam) (k : Nat) (r : Nat × Option OI) : Gam := fun k' => if k = k' then r else Γ k'
theorem Gam.set_self (Γ : Gam) (k : Nat) (r : Nat × Option OI) : Γ.set k r k = r := if_pos rfl
theorem Gam.set_ne (Γ : Gam) {k k' : Nat} (r : Nat × Option OI) (h : k ≠ k') : Γ.set k r k' = Γ k' := if_neg h

theorem Gam.set_le {k g' : Nat} {o' : Option OI}
    (hup : (Γ k).1 < g' ∨ ((Γ k).1 = g' ∧ ∀ oi', o' = some oi' → ∃ oi, (Γ k).2 = some oi ∧ (oi' = oi ∨ oi.ver < oi'.ver))) : Γ.le (Γ.set k (g', o')) := by
  refine ⟨fun k' g ver oi hl => ?_, fun k' g ver hd => ?_⟩
  · by_cases e : k = k'
    · subst e
      obtain ⟨h1, h2⟩ := hl
      rw [h1] at hup
      rcases hup with h3 | ⟨h3, h4⟩
      · exact .inr (.inl (by rw [Gam.set_self]; exact h3))
      · simp only at h3
        subst h3
        cases o' with
        | none => exact .inr (.inr ⟨by rw [Gam.set_self], fun oi' h => by rw [Gam.set_self] at h; cases h⟩)
        | some oi' =>
          obtain ⟨oi2, h5, h6⟩ := h4 oi' rfl
          simp only [Option.some.injEq] at h5
          subst h5
          rcases h6 with h6 | h6
          · subst h6; exact .inl ⟨by rw [Gam.set_self], h2⟩
          · exact .inr (.inr ⟨by rw [Gam.set_self], fun oi3 h => by rw [Gam.set_self] at h; simp only [Option.some.injEq] at h; subst h; omega⟩)
    · exact .inl ⟨by rw [Gam.set_ne _ _ e]; exact hl.1, hl.2⟩
  · by_cases e : k = k'
    · subst e
      unfold Gam.dead at hd ⊢
      rw [Gam.set_self]
      rcases hup with h3 | ⟨h3, h4⟩
      · rcases hd with hd | ⟨hd, _⟩
        · exact .inl (by simp only; omega)
        · exact .inl (by simp only; omega)
      · rcases hd with hd | ⟨hd, hv⟩
        · exact .inl (by simp only; omega)
        · refine .inr ⟨by simp only; omega, fun oi' h => ?_⟩
          obtain ⟨oi, h5, h6⟩ := h4 oi' h
          have := hv oi h5
          rcases h6 with h6 | h6
          · subst h6; exact this
          · omega
    · unfold Gam.dead at hd ⊢
      rw [Gam.set_ne _ _ e]; exact hd

/-- an owned row changes, or a new one is made at this key -/
theorem Holds.row_setM (h : Holds G B S0 w0 Γ c tmps w) (k g' : Nat) (oi' : OI) (ob' : Ob) (row : Option Nat) (hg : w.grownBy w' row)
    (hrow : ∀ b, row = some b → ∃ oi, (Γ k).2 = some oi ∧ oi.val.ownBlock = some b)
    (hblk : ∀ b, oi'.val.ownBlock = some b → w.heap.size ≤ b ∨ ∃ oi, (Γ k).2 = some oi ∧ oi.val.ownBlock = some b)
    (hup : (Γ k).1 < g' ∨ ((Γ k).1 = g' ∧ ∃ oi, (Γ k).2 = some oi ∧ (oi' = oi ∨ oi.ver < oi'.ver)))
    (hr : (∀ u x, AVok (Free S0 B Γ w) Γ w u x → AVok (Free S0 B (Γ.set k (g', some oi')) w') (Γ.set k (g', some oi')) w' u x) → RowM S0 B (Γ.set k (g', some oi')) w' oi' ob') :
    Holds G B S0 w0 (Γ.set k (g', some oi')) ⟨c.σ, putAt c.η k (g', some ob')⟩ tmps w' := by
  have hBw : B ≤ w.heap.size := Nat.le_trans h.base h.below.size
  have hle : Γ.le (Γ.set k (g', some oi')) := Gam.set_le (hup.imp id fun ⟨h1, h2⟩ => ⟨h1, fun oi2 h3 => by injection h3 with h3; subst h3; exact h2⟩)
  have hlt : ∀ k' oi b, (Γ k').2 = some oi → oi.val.ownBlock = some b → B ≤ b ∧ b < w.heap.size := fun k' oi b h1 h2 => by
    cases hl : (look c.η k').2 with
    | none => rw [h.non k' hl] at h1; cases h1
    | some ob =>
      obtain ⟨oi2, h3, h4⟩ := h.row k' ob hl
      rw [h1] at h3; injection h3 with h3; subst h3
      exact h4.lt h2
  have hS : ∀ b, Free S0 B Γ w b → Free S0 B (Γ.set k (g', some oi')) w' b ∧ w'.heap[b]? = w.heap[b]? := fun b ⟨h1, h2, h3⟩ => by
    refine ⟨⟨Nat.lt_of_lt_of_le h1 hg.size, h2, fun k' oi hk => ?_⟩, hg.block b h1 fun e => ?_⟩
    · by_cases e : k = k'
      · subst e
        rw [Gam.set_self] at hk
        injection hk with hk; subst hk
        intro hb
        rcases hblk b hb with h4 | ⟨oi2, h4, h5⟩
        · omega
        · exact h3 k oi2 h4 h5
      · rw [Gam.set_ne _ _ e] at hk
        exact h3 k' oi hk
    · obtain ⟨oi, h4, h5⟩ := hrow b e.symm
      exact h3 k oi h4 h5
  have hm : ∀ u x, AVok (Free S0 B Γ w) Γ w u x → AVok (Free S0 B (Γ.set k (g', some oi')) w') (Γ.set k (g', some oi')) w' u x := fun u x hx => hx.mono hS hle
  exact {
    below := h.below.grown hg hBw fun b e => by obtain ⟨oi, h1, h2⟩ := hrow b e; exact (hlt k oi b h1 h2).1
    base := h.base
    size := h.size
    tmp := fun t u x hu hx => hm u x (h.tmp t u x hu hx)
    ghost := fun p hp => hm p.1 p.2 (h.ghost p hp)
    gen := fun k' => by
      simp only [look_putAt]
      by_cases e : k = k'
      · subst e; rw [Gam.set_self, if_pos rfl]
      · rw [Gam.set_ne _ _ e, if_neg e]; exact h.gen k'
    non := fun k' hk => by
      simp only [look_putAt] at hk
      by_cases e : k = k'
      · subst e; rw [if_pos rfl] at hk; cases hk
      · rw [if_neg e] at hk; rw [Gam.set_ne _ _ e]; exact h.non k' hk
    row := fun k' ob hk => by
      simp only [look_putAt] at hk
      by_cases e : k = k'
      · subst e
        rw [if_pos rfl] at hk
        injection hk with hk; subst hk
        exact ⟨oi', by rw [Gam.set_self], hr hm⟩
      · rw [if_neg e] at hk
        obtain ⟨oi, h1, h2⟩ := h.row k' ob hk
        refine ⟨oi, by rw [Gam.set_ne _ _ e]; exact h1, h2.kept hm hg fun b hv e2 => ?_⟩
        obtain ⟨oi2, h7, h8⟩ := hrow b e2
        exact h.apart k' k oi oi2 b (fun e3 => e e3.symm) h1 h7 hv h8
    apart := fun k1 k2 oi1 oi2 b hne h1 h2 hb1 hb2 => by
      by_cases e1 : k = k1
      · subst e1
        rw [Gam.set_self] at h1
        injection h1 with h1; subst h1
        rw [Gam.set_ne _ _ hne] at h2
        rcases hblk b hb1 with h4 | ⟨oi3, h4, h5⟩
        · have := (hlt k2 oi2 b h2 hb2).2; omega
        · exact h.apart k k2 oi3 oi2 b hne h4 h2 h5 hb2
      · rw [Gam.set_ne _ _ e1] at h1
        by_cases e2 : k = k2
        · subst e2
          rw [Gam.set_self] at h2
          injection h2 with h2; subst h2
          rcases hblk b hb2 with h4 | ⟨oi3, h4, h5⟩
          · have := (hlt k1 oi1 b h1 hb1).2; omega
          · exact h.apart k1 k oi1 oi3 b hne h1 h4 hb1 h5
        · rw [Gam.set_ne _ _ e2] at h2
          exact h.apart k1 k2 oi1 oi2 b hne h1 h2 hb1 hb2 }

theorem Holds.row_set (h : Holds G B S0 w0 Γ c tmps w) (k g' : Nat) (oi' : OI) (ob' : Ob) (row : Option Nat) (hg : w.grownBy w' row)
    (hrow : ∀ b, row = some b → ∃ oi, (Γ k).2 = some oi ∧ oi.val.ownBlock = some b)
    (hblk : ∀ b, oi'.val.ownBlock = some b → w.heap.size ≤ b ∨ ∃ oi, (Γ k).2 = some oi ∧ oi.val.ownBlock = some b)
    (hup : (Γ k).1 < g' ∨ ((Γ k).1 = g' ∧ ∃ oi, (Γ k).2 = some oi ∧ (oi' = oi ∨ oi.ver < oi'.ver)))
    (hr : (∀ u x, AVok (Free S0 B Γ w) Γ w u x → AVok (Free S0 B (Γ.set k (g', some oi')) w') (Γ.set k (g', some oi')) w' u x) → RowOk S0 B (Γ.set k (g', some oi')) w' oi' ob') :
    Holds G B S0 w0 (Γ.set k (g', some oi')) ⟨c.σ, putAt c.η k (g', some ob')⟩ tmps w' := h.row_setM k g' oi' ob' row hg hrow hblk hup fun hm => .inl (hr hm)
/-- an owned row is given up: nobody writes it from here on -/
theorem Holds.drop (h : Holds G B S0 w0 Γ c tmps w) (k : Nat) : Holds G B S0 w0 (Γ.set k ((Γ k).1, none)) ⟨c.σ, putAt c.η k ((look c.η k).1, none)⟩ tmps w ∧
    (∀ u x, AVok (Free S0 B Γ w) Γ w u x → AVok (Free S0 B (Γ.set k ((Γ k).1, none)) w) (Γ.set k ((Γ k).1, none)) w u x) ∧
    (∀ oi b, (Γ k).2 = some oi → oi.val.ownBlock = some b → Free S0 B (Γ.set k ((Γ k).1, none)) w b) := by
  have hle : Γ.le (Γ.set k ((Γ k).1, none)) := Gam.set_le (.inr ⟨rfl, fun _ h => by cases h⟩)
  have hS : ∀ b, Free S0 B Γ w b → Free S0 B (Γ.set k ((Γ k).1, none)) w b ∧ w.heap[b]? = w.heap[b]? := fun b ⟨h1, h2, h3⟩ => by
    refine ⟨⟨h1, h2, fun k' oi hk => ?_⟩, rfl⟩
    by_cases e : k = k'
    · subst e; rw [Gam.set_self] at hk; cases hk
    · rw [Gam.set_ne _ _ e] at hk; exact h3 k' oi hk
  have hm : ∀ u x, AVok (Free S0 B Γ w) Γ w u x → AVok (Free S0 B (Γ.set k ((Γ k).1, none)) w) (Γ.set k ((Γ k).1, none)) w u x := fun u x hx => hx.mono hS hle
  refine ⟨?_, hm, ?_⟩
  · exact {
    below := h.below
    base := h.base
    size := h.size
    tmp := fun t u x hu hx => hm u x (h.tmp t u x hu hx)
    ghost := fun p hp => hm p.1 p.2 (h.ghost p hp)
    gen := fun k' => by
      simp only [look_putAt]
      by_cases e : k = k'
      · subst e; rw [Gam.set_self, if_pos rfl]; exact h.gen k
      · rw [Gam.set_ne _ _ e, if_neg e]; exact h.gen k'
    non := fun k' hk => by
      simp only [look_putAt] at hk
      by_cases e : k = k'
      · subst e; rw [Gam.set_self]
      · rw [if_neg e] at hk; rw [Gam.set_ne _ _ e]; exact h.non k' hk
    row := fun k' ob hk => by
      simp only [look_putAt] at hk
      by_cases e : k = k'
      · subst e; rw [if_pos rfl] at hk; cases hk
      · rw [if_neg e] at hk
        obtain ⟨oi, h1, h2⟩ := h.row k' ob hk
        exact ⟨oi, by rw [Gam.set_ne _ _ e]; exact h1, h2.kept (row := none) hm ⟨rfl, rfl, rfl, Nat.le_refl _, fun _ _ _ => rfl⟩ (fun b _ e => by cases e)⟩
    apart := fun k1 k2 oi1 oi2 b hne h1 h2 hb1 hb2 => by
      by_cases e1 : k = k1
      · subst e1; rw [Gam.set_self] at h1; cases h1
      · rw [Gam.set_ne _ _ e1] at h1
        by_cases e2 : k = k2
        · subst e2; rw [Gam.set_self] at h2; cases h2
        · rw [Gam.set_ne _ _ e2] at h2
          exact h.apart k1 k2 oi1 oi2 b hne h1 h2 hb1 hb2 }
  · intro oi b h1 h2
    cases hl : (look c.η k).2 with
    | none => rw [h.non k hl] at h1; cases h1
    | some ob =>
      obtain ⟨oi2, h3, h4⟩ := h.row k ob hl
      rw [h1] at h3; injection h3 with h3; subst h3
      obtain ⟨h7, h8⟩ := h4.lt h2
      refine ⟨h8, .inr h7, fun k' oi' hk hb => ?_⟩
      by_cases e : k = k'
      · subst e; rw [Gam.set_self] at hk; cases hk
      · rw [Gam.set_ne _ _ e] at hk
        exact h.apart k k' oi oi' b e h1 hk h2 hb

theorem sliceN {A : Option Addr} {p : Prop} [Decidable p] {f : Addr → Addr} (h : A ≠ none) : (if p then A else A.map f) ≠ none := by
  split <;> simp_all
/-- an owned row that is given up, as plain data -/
theorem Holds.row_data (h : Holds G B S0 w0 Γ c tmps w) {k g ver : Nat} {ob : Ob} (hk : look c.η k = (g, some ob)) (hv : ver = ob.xs.length) {u : Value} (hx : AVok (Free S0 B Γ w) Γ w u (.os k g ver ob.s 0 ver)) :
    AVok (Free S0 B (Γ.set k ((Γ k).1, none)) w) (Γ.set k ((Γ k).1, none)) w u (.sl ob.s false ob.xs) := by
  obtain ⟨_, hm, hfree⟩ := h.drop k
  obtain ⟨oi, h1, h2⟩ := h.row k ob (by rw [hk])
  have hg : (Γ k).1 = g := by rw [h.gen k, hk]
  have h2 := h2.resolve_right fun q => q.no h1 hg hv hx.ldS
  obtain ⟨us, h3, h4, h5, h6⟩ := h2.cells
  cases hx with
  | osLive _ _ _ _ _ _ c' A oi2 hl hs hn hc hcm hwh hA hN =>
    rw [hl.1] at h1; injection h1 with h1; subst h1
    have hval := hwh rfl
    subst hv
    rcases h6.2 with ⟨h7, h8⟩ | ⟨b, cap, cur, h7, h8, h9, h10, h11, h12, h13⟩
    · rw [h7] at hval
      injection hval with e1 e2 e3
      exact absurd e1.symm hN
    · rw [h7] at hval
      injection hval with e1 e2 e3
      rw [← e1, ← e3]
      refine .sl _ cap ob.s false ob.xs us h10 (by simp) h2.wid h3 (Nat.le_trans h10 h11) (fun j u x hu hx => hm u x (h4 j u x hu hx)) h5 (fun hne => ?_) (by simp)
      refine ⟨b, 0, rfl, hfree oi2 b (by rw [hl.1]) (by rw [h7]; rfl), fun j u hj => ?_⟩
      have := h6.cells (g := b) (by rw [h7]; rfl) j u hj
      rw [Nat.zero_add]
      rw [← this]
      congr 1
      unfold Addr.add; split <;> simp_all
  | osDead _ _ _ _ _ _ _ _ hd =>
    rcases hd with hd | ⟨_, hd⟩
    · omega
    · have := hd oi h1
      rw [h2.ver] at this
      omega
theorem Holds.box_data (h : Holds G B S0 w0 Γ c tmps w) {k g : Nat} {ob : Ob} {y : AV} (hk : look c.η k = (g, some ob)) (hy : ob.xs = [y]) {u : Value} (hx : AVok (Free S0 B Γ w) Γ w u (.o k g 1 0 0)) :
    AVok (Free S0 B (Γ.set k ((Γ k).1, none)) w) (Γ.set k ((Γ k).1, none)) w u (.ptr y) := by
  obtain ⟨_, hm, hfree⟩ := h.drop k
  obtain ⟨oi, h1, h2⟩ := h.row k ob (by rw [hk])
  have hg : (Γ k).1 = g := by rw [h.gen k, hk]
  have h2 := h2.resolve_right fun q => q.no h1 hg (by rw [hy]; rfl) hx.ldO
  obtain ⟨us, h3, h4, h5, h6⟩ := h2.cells
  have hf : flat ob.xs = cellsOf y := by rw [hy]; simp [flat]
  rw [hf] at h3 h4
  cases hx with
  | oLive _ _ _ _ _ b oi2 hl hb =>
    rw [hl.1] at h1; injection h1 with h1; subst h1
    rw [Nat.zero_mul]
    refine .ptr b 0 y us h3 h5 (fun j u x hu hx => hm u x (h4 j u x hu hx)) (hfree oi2 b (by rw [hl.1]) hb) (fun j u hj => ?_)
    have := h6.cells (g := b) hb j u hj
    rw [Nat.zero_add]
    rw [← this]
    congr 1
    unfold Addr.add; split <;> simp_all
  | oDead _ _ _ _ _ _ _ hd =>
    rcases hd with hd | ⟨_, hd⟩
    · omega
    · have := hd oi h1
      rw [h2.ver, hy] at this
      simp at this
end Go.Proofs.Eng
