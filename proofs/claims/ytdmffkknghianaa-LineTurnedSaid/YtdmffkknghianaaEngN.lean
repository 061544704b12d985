/-
  Knowing less; and what is handed out of a call as plain data.
-/
import Derived.Test.YtdmffkknghianaaEngM
set_option linter.unusedSimpArgs false
set_option linter.unusedVariables false
namespace Go.Proofs.Eng
open Go Go.RowKit

inductive LeA : AV → AV → Prop
  | any (x : AV) : LeA x .any
  | refl (x : AV) : LeA x x
  | full (s : Nat) (xs : List AV) : LeA (.sl s true xs) (.sl s false xs)
def LeO (p q : Nat × Option Ob) : Prop := p.1 = q.1 ∧ (q.2 = none ∨ q.2 = p.2)
structure Le (c c1 : Cfg) : Prop where
  len : c.σ.length = c1.σ.length
  tmp : ∀ (t : Nat) (x y : AV), c.σ[t]? = some x → c1.σ[t]? = some y → LeA x y
  own : ∀ k, LeO (look c.η k) (look c1.η k)

theorem LeA.ok {S : Nat → Prop} {Γ : Gam} {w : World} {u : Value} {x y : AV} (h : LeA x y) (hx : AVok S Γ w u x) : AVok S Γ w u y := by
  cases h with
  | any => exact .any _
  | refl => exact hx
  | full s xs =>
    cases hx with | sl A c _ _ _ us hc hf hw hl hcap hu h1 hA hN => exact .sl A c s false xs us hc (by simp) hw hl hcap hu h1 hA hN

section
variable {G : List (Value × AV)} {B : Nat} {S0 : Nat → Prop} {w0 w : World} {Γ : Gam} {c c1 : Cfg} {a : Act} {P : Program}

theorem Holds.le {tmps : Array Value} (h : Holds G B S0 w0 Γ c tmps w) (hl : Le c c1) : ∃ Γ', Holds G B S0 w0 Γ' c1 tmps w := by
  refine ⟨fun k => if (look c1.η k).2 = none then ((Γ k).1, none) else Γ k, ?_⟩
  generalize hΓ' : (fun k => if (look c1.η k).2 = none then ((Γ k).1, none) else Γ k : Gam) = Γ'
  have g1 : ∀ k, (look c1.η k).2 = none → Γ' k = ((Γ k).1, none) := fun k hk => by rw [← hΓ']; simp only [hk, if_true]
  have g2 : ∀ k, (look c1.η k).2 ≠ none → Γ' k = Γ k := fun k hk => by rw [← hΓ']; simp only [if_neg hk]
  have hle : Γ.le Γ' := by
    refine ⟨fun k g ver oi hlv => ?_, fun k g ver hd => ?_⟩
    · by_cases hk : (look c1.η k).2 = none
      · refine .inr (.inr ⟨by rw [g1 k hk]; exact congrArg Prod.fst hlv.1, fun oi' h' => by rw [g1 k hk] at h'; cases h'⟩)
      · exact .inl ⟨by rw [g2 k hk]; exact hlv.1, hlv.2⟩
    · by_cases hk : (look c1.η k).2 = none
      · unfold Gam.dead at hd ⊢
        rw [g1 k hk]
        rcases hd with hd | ⟨hd, _⟩
        · exact .inl hd
        · exact .inr ⟨hd, fun oi' h' => by cases h'⟩
      · unfold Gam.dead at hd ⊢
        rw [g2 k hk]; exact hd
  have hsome : ∀ k oi, (Γ' k).2 = some oi → (Γ k).2 = some oi := fun k oi hk => by
    by_cases hk2 : (look c1.η k).2 = none
    · rw [g1 k hk2] at hk; cases hk
    · rw [g2 k hk2] at hk; exact hk
  have hm : ∀ u x, AVok (Free S0 B Γ w) Γ w u x → AVok (Free S0 B Γ' w) Γ' w u x := fun u x hx => hx.mono (fun b ⟨q1, q2, q3⟩ => ⟨⟨q1, q2, fun k oi hk => q3 k oi (hsome k oi hk)⟩, rfl⟩) hle
  exact {
    below := h.below
    base := h.base
    size := hl.len.symm.trans h.size
    tmp := fun t u y hu hy => by
      have hlt : t < c1.σ.length := (List.getElem?_eq_some_iff.1 hy).1
      have hx : c.σ[t]? = some (c.σ[t]'(by rw [hl.len]; exact hlt)) := List.getElem?_eq_getElem _
      exact (hl.tmp t _ y hx hy).ok (hm u _ (h.tmp t u _ hu hx))
    ghost := fun p hp => hm p.1 p.2 (h.ghost p hp)
    gen := fun k => by
      rw [← (hl.own k).1, ← h.gen k]
      by_cases hk : (look c1.η k).2 = none
      · rw [g1 k hk]
      · rw [g2 k hk]
    non := fun k hk => by rw [g1 k hk]
    row := fun k ob hk => by
      have hne : (look c1.η k).2 ≠ none := by rw [hk]; simp
      have hk2 : (look c.η k).2 = some ob := by
        rcases (hl.own k).2 with q | q
        · exact absurd q hne
        · rw [← q]; exact hk
      obtain ⟨oi, q1, q2⟩ := h.row k ob hk2
      exact ⟨oi, by rw [g2 k hne]; exact q1, q2.kept (row := none) hm ⟨rfl, rfl, rfl, Nat.le_refl _, fun _ _ _ => rfl⟩ (fun b _ e => by cases e)⟩
    apart := fun k k' oi oi' b hne q1 q2 q3 => h.apart k k' oi oi' b hne (hsome k oi q1) (hsome k' oi' q2) q3 }
theorem Sits.le (h : Sits G B S0 w0 c a w) (hl : Le c c1) : Sits G B S0 w0 c1 a w := ⟨h.1, let ⟨_, h2⟩ := h.2; h2.le hl⟩


theorem Holds.reput {tmps : Array Value} (h : Holds G B S0 w0 Γ c tmps w) (t : Nat) {x : AV} (hx : ∀ u, tmps[t]? = some u → AVok (Free S0 B Γ w) Γ w u x) : Holds G B S0 w0 Γ ⟨c.σ.set t x, c.η⟩ tmps w where
  below := h.below
  base := h.base
  size := by simp [h.size]
  tmp := by
    intro t' u' x' hu' hx'
    by_cases e : t = t'
    · subst e
      have ht : t < tmps.size := (Array.getElem?_eq_some_iff.1 hu').1
      rw [List.getElem?_set_self (by rw [h.size]; exact ht)] at hx'
      injection hx' with e2; subst e2
      exact hx u' hu'
    · rw [List.getElem?_set_ne e] at hx'
      exact h.tmp t' u' x' hu' hx'
  ghost := h.ghost
  gen := h.gen
  non := h.non
  row := h.row
  apart := h.apart
theorem Holds.remap {tmps : Array Value} (h : Holds G B S0 w0 Γ c tmps w) (f : AV → AV) (hx : ∀ (t : Nat) (u : Value) (x : AV), tmps[t]? = some u → c.σ[t]? = some x → AVok (Free S0 B Γ w) Γ w u (f x)) : Holds G B S0 w0 Γ ⟨c.σ.map f, c.η⟩ tmps w where
  below := h.below
  base := h.base
  size := by simp [h.size]
  tmp := by
    intro t' u' x' hu' hx'
    simp only [List.getElem?_map] at hx'
    cases e : c.σ[t']? with
    | none => rw [e] at hx'; cases hx'
    | some y =>
      rw [e] at hx'
      injection hx' with e2; subst e2
      exact hx t' u' y hu' e
  ghost := h.ghost
  gen := h.gen
  non := h.non
  row := h.row
  apart := h.apart
def toData (k g ver s : Nat) (xs : List AV) : AV → AV
  | .os k' g' ver' s' lo n => if k' = k ∧ g' = g ∧ ver' = ver ∧ s' = s ∧ lo = 0 ∧ n = ver then .sl s false xs else .os k' g' ver' s' lo n
  | x => x
/-- an owned row is given up: from here on it is plain data -/
def giveT (c : Cfg) (t : Nat) : Option Cfg :=
  match c.σ.getD t .any with
  | .os k g ver s lo n => match look c.η k with
    | (g', some ob) => if g' = g ∧ ob.xs.length = ver ∧ ob.s = s ∧ lo = 0 ∧ n = ver then some ⟨c.σ.map (toData k g ver s ob.xs), putAt c.η k (g, none)⟩ else none
    | _ => none
  | _ => none
theorem Sits.give (h : Sits G B S0 w0 c a w) {t : Nat} (hg : giveT c t = some c1) : Sits G B S0 w0 c1 a w := by
  obtain ⟨hd, Γ, hH⟩ := h
  unfold giveT at hg
  split at hg <;> try (cases hg; done)
  rename_i k g ver s lo n e
  split at hg <;> try (cases hg; done)
  rename_i g' ob hlk
  split at hg <;> try (cases hg; done)
  rename_i hc
  obtain ⟨rfl, rfl, rfl, rfl, rfl⟩ := hc
  injection hg with hg; subst hg
  obtain ⟨h1, _, _⟩ := hH.drop k
  have hg2 : (look c.η k).1 = g' := by rw [hlk]
  rw [hg2] at h1
  refine ⟨hd, _, h1.remap (c := ⟨c.σ, putAt c.η k (g', none)⟩) _ fun t u x hu hx => ?_⟩
  have h3 := h1.tmp t u x hu hx
  unfold toData
  split
  · split
    · rename_i hc
      obtain ⟨rfl, rfl, rfl, rfl, rfl, rfl⟩ := hc
      exact hH.row_data hlk rfl (hH.tmp t u _ hu hx)
    · exact h3
  · exact h3
def toPtr (k g : Nat) (y : AV) : AV → AV
  | .o k' g' ver i j => if k' = k ∧ g' = g ∧ ver = 1 ∧ i = 0 ∧ j = 0 then .ptr y else .o k' g' ver i j
  | x => x
/-- an owned box is given up: from here on it is plain data -/
def giveP (c : Cfg) (t : Nat) : Option Cfg :=
  match c.σ.getD t .any with
  | .o k g _ _ _ => match look c.η k with
    | (g', some ob) => match ob.xs with
      | [y] => if g' = g then some ⟨c.σ.map (toPtr k g y), putAt c.η k (g, none)⟩ else none
      | _ => none
    | _ => none
  | _ => none
theorem Sits.giveP (h : Sits G B S0 w0 c a w) {t : Nat} (hg : Eng.giveP c t = some c1) : Sits G B S0 w0 c1 a w := by
  obtain ⟨hd, Γ, hH⟩ := h
  unfold Eng.giveP at hg
  split at hg <;> try (cases hg; done)
  rename_i k g _ _ _ e
  split at hg <;> try (cases hg; done)
  rename_i g' ob hlk
  split at hg <;> try (cases hg; done)
  rename_i y hy
  split at hg <;> try (cases hg; done)
  rename_i hc
  subst hc
  injection hg with hg; subst hg
  obtain ⟨h1, _, _⟩ := hH.drop k
  have hg2 : (look c.η k).1 = g' := by rw [hlk]
  rw [hg2] at h1
  refine ⟨hd, _, h1.remap (c := ⟨c.σ, putAt c.η k (g', none)⟩) _ fun t u x hu hx => ?_⟩
  have h3 := h1.tmp t u x hu hx
  unfold toPtr
  split
  · split
    · rename_i hc
      obtain ⟨rfl, rfl, rfl, rfl, rfl⟩ := hc
      exact hH.box_data hlk hy (hH.tmp t u _ hu hx)
    · exact h3
  · exact h3
/-- a row or a box is given up -/
def giveA (c : Cfg) (t : Nat) : Option Cfg :=
  match giveT c t with
  | some c1 => some c1
  | none => Eng.giveP c t
theorem Sits.giveA (h : Sits G B S0 w0 c a w) {t : Nat} (hg : Eng.giveA c t = some c1) : Sits G B S0 w0 c1 a w := by
  unfold Eng.giveA at hg
  split at hg
  · rename_i h1; injection hg with hg; subst hg; exact h.give h1
  · exact h.giveP hg
theorem giveA_of {t : Nat} (hg : giveT c t = some c1) : Eng.giveA c t = some c1 := by unfold Eng.giveA; rw [hg]
theorem giveA_ofP {t : Nat} (h0 : giveT c t = none) (hg : Eng.giveP c t = some c1) : Eng.giveA c t = some c1 := by unfold Eng.giveA; rw [h0]; exact hg
end
end Go.Proofs.Eng
