/-
  What is handed out of a call as plain data.
-/
import Derived.Test.YtdmffkknghianaaEngK
import Derived.Still
set_option linter.unusedSimpArgs false
set_option linter.unusedVariables false
namespace Go.Proofs.Eng
open Go Go.RowKit
def Gam.none : Gam := fun _ => (0, Option.none)
section
variable {G : List (Value × AV)} {B : Nat} {S0 : Nat → Prop} {w0 w : World} {Γ : Gam} {c c1 : Cfg} {a : Act} {P : Program}

/-! ### what is handed out -/
def elemR (f : AV → Option AV) : AV → Option AV
  | .ag cs => (cs.mapM f).map .ag
  | x => f x
def reify (η : List (Nat × (Nat × Option Ob))) : Nat → AV → Option AV
  | 0, _ => none
  | n + 1, x => match x with
    | .any => some .any
    | .v u => some (.v u)
    | .sl s f xs => (xs.mapM (elemR (reify η n))).map (.sl s f)
    | .ag cs => (cs.mapM (reify η n)).map .ag
    | .ifc t x => (reify η n x).map (.ifc t)
    | .ptr x => (elemR (reify η n) x).map .ptr
    | .tup xs => (xs.mapM (reify η n)).map .tup
    | .fn f caps => (caps.mapM (reify η n)).map (.fn f)
    | .bm f fs => (fs.mapM (reify η n)).map (.bm f)
    | .os k g ver s lo m => match look η k with
      | (g', some ob) => if g' = g ∧ ob.xs.length = ver ∧ ob.s = s ∧ lo + m ≤ ver then (((ob.xs.drop lo).take m).mapM (elemR (reify η n))).map (.sl s false) else none
      | _ => none
    | .o k g ver i j => match look η k with
      | (g', some ob) => if g' = g ∧ ob.xs.length = ver ∧ j = 0 then match ob.xs[i]? with
        | some y => (elemR (reify η n) y).map .ptr
        | none => none else none
      | _ => none
    | .mp .. => none
    | .it .. => none

theorem mapM_some {α β : Type} {f : α → Option β} : ∀ {l : List α} {ys : List β}, l.mapM f = some ys → ys.length = l.length ∧ ∀ (j : Nat) (x : α) (y : β), l[j]? = some x → ys[j]? = some y → f x = some y
  | [], xs, h => by simp at h; subst h; exact ⟨rfl, fun j x y h => by simp at h⟩
  | x :: l, xs, h => by
    simp only [List.mapM_cons, Option.bind_eq_bind, Option.bind_eq_some_iff, Option.pure_def, Option.some.injEq] at h
    obtain ⟨y, hy, zs, hzs, rfl⟩ := h
    obtain ⟨h1, h2⟩ := mapM_some hzs
    refine ⟨by simp [h1], fun j x' y' hj hk => ?_⟩
    cases j with
    | zero => simp at hj hk; rw [← hj, ← hk]; exact hy
    | succ j => exact h2 j x' y' (by simpa using hj) (by simpa using hk)
theorem mapM_append' {α β : Type} {f : α → Option β} : ∀ {l m : List α} {ys zs : List β}, l.mapM f = some ys → m.mapM f = some zs → (l ++ m).mapM f = some (ys ++ zs)
  | [], m, ys, zs, h, k => by simp at h; subst h; exact k
  | x :: l, m, ys, zs, h, k => by
    simp only [List.mapM_cons, Option.bind_eq_bind, Option.bind_eq_some_iff, Option.pure_def, Option.some.injEq] at h
    obtain ⟨y, hy, ys', hys, rfl⟩ := h
    simp only [List.cons_append, List.mapM_cons, Option.bind_eq_bind, hy, Option.bind_some, mapM_append' hys k, Option.pure_def]
theorem reify_not_ag {η : List (Nat × (Nat × Option Ob))} {n : Nat} {x y : AV} (h : reify η n x = some y) (hx : ∀ cs, x ≠ .ag cs) : ∀ cs, y ≠ .ag cs := by
  intro cs e
  subst e
  cases n with
  | zero => cases h
  | succ n =>
    cases x <;> simp only [reify] at h <;> first | exact absurd rfl (hx _) | (simp at h; done) | skip
    all_goals repeat' (first | (obtain ⟨_, _, q⟩ := Option.map_eq_some_iff.1 h; cases q; done) | (cases h; done) | split at h)
theorem elemR_cells {η : List (Nat × (Nat × Option Ob))} {n : Nat} {x y : AV} (h : elemR (reify η n) x = some y) : (cellsOf x).mapM (reify η n) = some (cellsOf y) := by
  unfold elemR at h
  split at h
  · obtain ⟨l, hl, rfl⟩ := Option.map_eq_some_iff.1 h
    exact hl
  · rename_i x' hx
    have e1 : cellsOf x = [x] := by unfold cellsOf; split <;> first | exact absurd rfl (hx _) | rfl
    have hy := reify_not_ag h (fun cs e => hx cs e)
    have e2 : cellsOf y = [y] := by unfold cellsOf; split <;> first | exact absurd rfl (hy _) | rfl
    rw [e1, e2]
    simp [h]
theorem elems_cells {η : List (Nat × (Nat × Option Ob))} {n : Nat} : ∀ {xs ys : List AV}, xs.mapM (elemR (reify η n)) = some ys → (flat xs).mapM (reify η n) = some (flat ys)
  | [], ys, h => by simp at h; subst h; rfl
  | x :: xs, ys, h => by
    simp only [List.mapM_cons, Option.bind_eq_bind, Option.bind_eq_some_iff, Option.pure_def, Option.some.injEq] at h
    obtain ⟨y, hy, ys', hys, rfl⟩ := h
    exact mapM_append' (elemR_cells hy) (elems_cells hys)
theorem elemR_width {η : List (Nat × (Nat × Option Ob))} {n : Nat} {x y : AV} (h : elemR (reify η n) x = some y) : width y = width x := (mapM_some (elemR_cells h)).1

/-- all blocks below this count -/
def All (S0 : Nat → Prop) (B : Nat) (w : World) (b : Nat) : Prop := b < w.heap.size ∧ (S0 b ∨ B ≤ b)

theorem reify_ok {tmps : Array Value} (h : Holds G B S0 w0 Γ c tmps w) : ∀ (n : Nat) (u : Value) (x y : AV), AVok (Free S0 B Γ w) Γ w u x → reify c.η n x = some y → AVok (All S0 B w) Gam.none w u y
  | 0, _, _, _, _, h => by cases h
  | n + 1, u, x, y, hx, hr => by
    have ih := reify_ok h n
    have hcells : ∀ {us : List Value} {cs ds : List AV}, Cells (Free S0 B Γ w) Γ w us cs → cs.mapM (reify c.η n) = some ds → Cells (All S0 B w) Gam.none w us ds := @fun us cs ds hc hm => by
      obtain ⟨h1, h2⟩ := mapM_some hm
      refine ⟨hc.len.trans h1.symm, hc.one, fun j u x hu hx => ?_⟩
      have hlt : j < us.length := (List.getElem?_eq_some_iff.1 hu).1
      have hj := List.getElem?_eq_getElem (l := cs) (i := j) (by rw [← hc.len]; exact hlt)
      exact ih u _ x (hc.ok j u _ hu hj) (h2 j _ x hj hx)
    have hF : ∀ b, Free S0 B Γ w b → All S0 B w b := fun b ⟨q1, q2, _⟩ => ⟨q1, q2⟩
    cases x with
    | any => simp only [reify, Option.some.injEq] at hr; subst hr; exact .any u
    | v z => simp only [reify, Option.some.injEq] at hr; subst hr; have := v_inv hx; subst this; exact .v u
    | sl s f xs =>
      simp only [reify] at hr
      obtain ⟨ys, hys, rfl⟩ := Option.map_eq_some_iff.1 hr
      cases hx with | sl A cp _ _ _ us hcp hf hw hl hcap hu h1 hA hN =>
      have hc := hcells ⟨hl, h1, hu⟩ (elems_cells hys)
      obtain ⟨e1, e2⟩ := mapM_some hys
      have := AVok.sl (S := All S0 B w) (Γ := Gam.none) (w := w) A cp s f ys us (by omega) (fun q => by rw [hf q, e1]) (fun y hy => by
        obtain ⟨j, hj, he⟩ := List.mem_iff_getElem.1 hy
        have hj2 : j < xs.length := by omega
        have := e2 j xs[j] ys[j] (List.getElem?_eq_getElem hj2) (List.getElem?_eq_getElem hj)
        rw [← he, elemR_width this]
        exact hw _ (List.getElem_mem _)) hc.len (by omega) hc.ok h1 (fun hne => by
        obtain ⟨g, o, q1, q2, q3⟩ := hA (by intro q; rw [q] at e1; exact hne (List.eq_nil_of_length_eq_zero (by simpa using e1)))
        exact ⟨g, o, q1, hF g q2, q3⟩) hN
      rw [e1] at this
      exact this
    | ag cs =>
      simp only [reify] at hr
      obtain ⟨ys, hys, rfl⟩ := Option.map_eq_some_iff.1 hr
      cases hx with | ag vs _ hl h1 hu =>
      have hc := hcells ⟨hl, h1, hu⟩ hys
      exact .ag vs ys hc.len h1 hc.ok
    | ifc t x =>
      simp only [reify] at hr
      obtain ⟨z, hz, rfl⟩ := Option.map_eq_some_iff.1 hr
      cases hx with | ifc _ v _ hx =>
      exact .ifc t v z (ih v x z hx hz)
    | ptr x =>
      simp only [reify] at hr
      obtain ⟨z, hz, rfl⟩ := Option.map_eq_some_iff.1 hr
      cases hx with | ptr g o _ us hl h1 hu hS hA =>
      have hc := hcells ⟨hl, h1, hu⟩ (elemR_cells hz)
      exact .ptr g o z us hc.len h1 hc.ok (hF g hS) hA
    | tup xs =>
      simp only [reify] at hr
      obtain ⟨ys, hys, rfl⟩ := Option.map_eq_some_iff.1 hr
      obtain ⟨e1, e2⟩ := mapM_some hys
      cases hx with | tup vs _ hl hu =>
      refine .tup vs ys (hl.trans e1.symm) fun j u x q1 q2 => ?_
      have hj : j < xs.length := by rw [← e1]; exact (List.getElem?_eq_some_iff.1 q2).1
      exact ih u _ x (hu j u _ q1 (List.getElem?_eq_getElem hj)) (e2 j _ x (List.getElem?_eq_getElem hj) q2)
    | fn f caps =>
      simp only [reify] at hr
      obtain ⟨ys, hys, rfl⟩ := Option.map_eq_some_iff.1 hr
      obtain ⟨e1, e2⟩ := mapM_some hys
      cases hx with | fn _ vs _ hl hu =>
      refine .fn f vs ys (hl.trans e1.symm) fun j u x q1 q2 => ?_
      have hj : j < caps.length := by rw [← e1]; exact (List.getElem?_eq_some_iff.1 q2).1
      exact ih u _ x (hu j u _ q1 (List.getElem?_eq_getElem hj)) (e2 j _ x (List.getElem?_eq_getElem hj) q2)
    | bm f fs =>
      simp only [reify] at hr
      obtain ⟨ys, hys, rfl⟩ := Option.map_eq_some_iff.1 hr
      obtain ⟨e1, e2⟩ := mapM_some hys
      cases hx with | bm _ vs _ hl hu =>
      refine .bm f vs ys (hl.trans e1.symm) fun j u x q1 q2 => ?_
      have hj : j < fs.length := by rw [← e1]; exact (List.getElem?_eq_some_iff.1 q2).1
      exact ih u _ x (hu j u _ q1 (List.getElem?_eq_getElem hj)) (e2 j _ x (List.getElem?_eq_getElem hj) q2)
    | o k g ver i j =>
      simp only [reify] at hr
      split at hr <;> try (cases hr; done)
      rename_i g' ob hlk
      split at hr <;> try (cases hr; done)
      rename_i hc
      obtain ⟨rfl, hver, rfl⟩ := hc
      split at hr <;> try (cases hr; done)
      rename_i x hxi
      obtain ⟨y, hy, rfl⟩ := Option.map_eq_some_iff.1 hr
      obtain ⟨oi, hk0, hro, hlive, hnd⟩ := Holds.ref (a := { tmps := tmps, defers := [] }) h hlk hver.symm hx.ldO
      cases hx with
      | oDead _ _ _ _ _ _ _ hd => exact (hnd _ hver.symm hd).elim
      | oLive _ _ _ _ _ b oi2 hl hb =>
        have := hlive _ oi2 hver.symm hl
        subst this
        obtain ⟨us, hAt, hcs, hown⟩ := hro.at hb
        have he := hcs.elem hro.wid hxi
        have hc4 := hcells he (elemR_cells hy)
        obtain ⟨hb1, hb2⟩ := hown.lt b hb
        have hA2 := (hAt.drop (i * ob.s)).take ob.s
        rw [Nat.zero_add] at hA2
        rw [Nat.add_zero, hro.s]
        exact .ptr b (i * ob.s) y _ hc4.len hc4.one hc4.ok ⟨hb2, .inr hb1⟩ hA2
    | mp k g => simp only [reify] at hr; cases hr
    | it k g => simp only [reify] at hr; cases hr
    | os k g ver s lo m =>
      simp only [reify] at hr
      split at hr <;> try (cases hr; done)
      rename_i g' ob hlk
      split at hr <;> try (cases hr; done)
      rename_i hc
      obtain ⟨rfl, hver, hos, hlm⟩ := hc
      obtain ⟨ys, hys, rfl⟩ := Option.map_eq_some_iff.1 hr
      obtain ⟨e1, e2⟩ := mapM_some hys
      have hlen : ((ob.xs.drop lo).take m).length = m := by rw [List.length_take, List.length_drop]; omega
      have hyl : ys.length = m := e1.trans hlen
      obtain ⟨oi, hk0, hro, _, _⟩ := Holds.ref (a := { tmps := tmps, defers := [] }) h hlk hver.symm hx.ldS
      have hk1 : (Γ k).2 = some oi := by rw [hk0]
      have hgen : (Γ k).1 = g' := by rw [h.gen k, hlk]
      have hwy : ∀ y, y ∈ ys → width y = s := fun y hy => by
        obtain ⟨j, hj, he⟩ := List.mem_iff_getElem.1 hy
        have hj2 : j < ((ob.xs.drop lo).take m).length := by omega
        have := e2 j _ ys[j] (List.getElem?_eq_getElem hj2) (List.getElem?_eq_getElem hj)
        rw [← he, elemR_width this, ← hos]
        exact hro.wid _ (List.mem_of_mem_drop (List.mem_of_mem_take (List.getElem_mem _)))
      cases hx with
      | osDead _ _ _ _ _ _ cp A hd hcp hcm hA hN =>
        rcases hd with hd | ⟨_, hd⟩
        · omega
        · have := hd oi hk1; rw [hro.ver] at this; omega
      | osLive _ _ _ _ _ _ cp A oi2 hl hs hn hcp hcm hwh hA hN =>
        have : oi2 = oi := by have := hl.1; rw [show Γ k = (g', some oi) from by rw [← hgen, ← hk1]] at this; injection this with _ q; injection q with q; exact q.symm
        subst this
        by_cases h0 : 0 < m
        · obtain ⟨b, hb, rfl⟩ := hA h0
          obtain ⟨us, hAt, hcs, hown⟩ := hro.at hb
          have hc3 : Cells (Free S0 B Γ w) Γ w ((us.drop (lo * s)).take (m * s)) (flat ((ob.xs.drop lo).take m)) := by
            rw [flat_take (s := s) (fun y hy => by rw [← hos]; exact hro.wid y (List.mem_of_mem_drop hy)), flat_drop (s := s) (fun y hy => by rw [← hos]; exact hro.wid y hy)]
            exact (hcs.drop _).take _
          have hc4 := hcells hc3 (elems_cells hys)
          obtain ⟨hb1, hb2⟩ := hown.lt b hb
          have := AVok.sl (S := All S0 B w) (Γ := Gam.none) (w := w) (some ⟨b, lo * s, none⟩) cp s false ys _ (by omega) (by simp) hwy hc4.len (by omega) hc4.ok hc4.one (fun _ => ⟨b, lo * s, rfl, ⟨hb2, .inr hb1⟩, by
            have := (hAt.drop (lo * s)).take (m * s)
            rw [Nat.zero_add] at this
            exact this⟩) (by simp)
          rw [hyl] at this
          exact this
        · have hm0 : m = 0 := by omega
          subst hm0
          have hy0 : ys = [] := List.eq_nil_of_length_eq_zero hyl
          subst hy0
          exact .sl A cp s false [] [] (Nat.zero_le _) (by simp) (fun _ h => by cases h) rfl (Nat.zero_le _) (fun j u x hu => by simp at hu) (fun _ h => by cases h) (fun h => absurd rfl h) hN

/-! ### what is made anew -/
def scalC : AV → Bool
  | .v _ => true
  | _ => false
def scalE : AV → Bool
  | .v _ => true
  | .ag cs => cs.all scalC
  | _ => false
theorem scalE_cells {x y : AV} (h : scalE x = true) (hy : y ∈ cellsOf x) : ∃ z, y = .v z := by
  cases x with
  | v z => simp only [cellsOf, List.mem_singleton] at hy; exact ⟨z, hy⟩
  | ag cs =>
    simp only [scalE, List.all_eq_true] at h
    have := h y hy
    cases y <;> simp [scalC] at this
    exact ⟨_, rfl⟩
  | _ => simp [scalE] at h
def rowN (η : List (Nat × (Nat × Option Ob))) : AV → Option AV
  | .v u => some (.v u)
  | .os k g ver s lo m => match look η k with
    | (g', some ob) => if g' = g ∧ ob.xs.length = ver ∧ ob.s = s ∧ lo + m ≤ ver ∧ ((ob.xs.drop lo).take m).all scalE = true then some (.sl s false ((ob.xs.drop lo).take m)) else none
    | _ => none
  | _ => none
/-- what is plain, or a row of plain elements that the call made -/
def reifyN (η : List (Nat × (Nat × Option Ob))) : AV → Option AV
  | .tup xs => (xs.mapM (rowN η)).map .tup
  | x => rowN η x
/-- the blocks that a call has made -/
def NewB (B : Nat) (w : World) (b : Nat) : Prop := B ≤ b ∧ b < w.heap.size
theorem rowN_ok {tmps : Array Value} (h : Holds G B S0 w0 Γ c tmps w) {u : Value} {x y : AV} (hx : AVok (Free S0 B Γ w) Γ w u x) (hr : rowN c.η x = some y) : AVok (NewB B w) Gam.none w u y := by
  unfold rowN at hr
  split at hr
  · injection hr with hr; subst hr; have := v_inv hx; subst this; exact .v u
  · rename_i k g ver s lo m
    split at hr <;> try (cases hr; done)
    rename_i g' ob hk
    split at hr <;> try (cases hr; done)
    rename_i hc
    obtain ⟨rfl, rfl, rfl, hm, hall⟩ := hc
    injection hr with hr; subst hr
    obtain ⟨oi, hk1, hro, hlive, hnd⟩ := Holds.ref (a := { tmps := tmps, defers := [] }) h hk rfl hx.ldS
    have hlen : ((ob.xs.drop lo).take m).length = m := by rw [List.length_take, List.length_drop]; omega
    have hwy : ∀ y, y ∈ (ob.xs.drop lo).take m → width y = ob.s := fun y hy => hro.wid _ (List.mem_of_mem_drop (List.mem_of_mem_take hy))
    cases hx with
    | osDead _ _ _ _ _ _ cp A hd hcp hcm hA hN => exact (hnd _ rfl hd).elim
    | osLive _ _ _ _ _ _ cp A oi2 hl hs hn hcp hcm hwh hA hN =>
      have := hlive _ oi2 rfl hl
      subst this
      by_cases h0 : 0 < m
      · obtain ⟨b, hb, rfl⟩ := hA h0
        obtain ⟨us, hAt, hcs, hown⟩ := hro.at hb
        have hc3 : Cells (Free S0 B Γ w) Γ w ((us.drop (lo * ob.s)).take (m * ob.s)) (flat ((ob.xs.drop lo).take m)) := by
          rw [flat_take (s := ob.s) (fun y hy => hro.wid y (List.mem_of_mem_drop hy)), flat_drop (s := ob.s) (fun y hy => hro.wid y hy)]
          exact (hcs.drop _).take _
        obtain ⟨hb1, hb2⟩ := hown.lt b hb
        have := AVok.sl (S := NewB B w) (Γ := Gam.none) (w := w) (some ⟨b, lo * ob.s, none⟩) cp ob.s false ((ob.xs.drop lo).take m) _ (by omega) (by simp) hwy hc3.len (by omega) (fun j u x q1 q2 => by
          obtain ⟨z, hz, hxz⟩ := List.mem_flatMap.1 (List.mem_of_getElem? q2)
          obtain ⟨v, rfl⟩ := scalE_cells (List.all_eq_true.1 hall z hz) hxz
          have := v_inv (hc3.ok j u _ q1 q2)
          subst this; exact .v u) hc3.one (fun _ => ⟨b, lo * ob.s, rfl, ⟨hb1, hb2⟩, by
          have := (hAt.drop (lo * ob.s)).take (m * ob.s)
          rw [Nat.zero_add] at this
          exact this⟩) (by simp)
        rw [hlen] at this
        exact this
      · have hm0 : m = 0 := by omega
        subst hm0
        exact .sl A cp ob.s false [] [] (Nat.zero_le _) (by simp) (fun _ h => by cases h) rfl (Nat.zero_le _) (fun j u x hu => by simp at hu) (fun _ h => by cases h) (fun h => absurd rfl h) hN
  · cases hr
theorem reifyN_ok {tmps : Array Value} (h : Holds G B S0 w0 Γ c tmps w) {u : Value} {x y : AV} (hx : AVok (Free S0 B Γ w) Γ w u x) (hr : reifyN c.η x = some y) : AVok (NewB B w) Gam.none w u y := by
  unfold reifyN at hr
  split at hr
  · rename_i xs
    obtain ⟨ys, hys, rfl⟩ := Option.map_eq_some_iff.1 hr
    obtain ⟨e1, e2⟩ := mapM_some hys
    cases hx with | tup vs _ hl hu =>
    refine .tup vs ys (by omega) fun j u y q1 q2 => ?_
    have hj : j < xs.length := by rw [← e1]; exact (List.getElem?_eq_some_iff.1 q2).1
    exact rowN_ok h (hu j u _ q1 (List.getElem?_eq_getElem hj)) (e2 j _ y (List.getElem?_eq_getElem hj) q2)
  · exact rowN_ok h hx hr
end
end Go.Proofs.Eng
