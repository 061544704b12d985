/-
  The greedy cut, volume by volume: no cut that holds has its ends later, or has fewer; stretches in a row.
-/
import Derived.Test.YtnpdpkeackicmaaVn
set_option linter.unusedSimpArgs false
set_option linter.unusedVariables false
namespace Go.Proofs.Ytnpdpkeackicmaa
open Go Go.Proofs.Eng
set_option maxRecDepth 100000
set_option maxHeartbeats 4000000
/-- the lines of the first so many articles -/
def pre (A : List (Int × Int)) (k : Nat) : Int := smM (A.take k)
theorem pre_step {A : List (Int × Int)} {k : Nat} (h : k < A.length) : pre A (k + 1) = pre A k + (A.getD k (0, 0)).2 := by
  unfold pre; rw [take_snoc (d := (0, 0)) h, smM_snoc]
theorem smM_app (a b : List (Int × Int)) : smM (a ++ b) = smM a + smM b := by
  induction a with
  | nil => rw [List.nil_append, smM_nil]; omega
  | cons p a ih => rw [List.cons_append, smM_cons, smM_cons, ih]; omega
theorem seg_pre {A : List (Int × Int)} {b e : Nat} (h : b ≤ e) : smM (seg A b e) = pre A e - pre A b := by
  have : A.take e = A.take b ++ seg A b e := by
    unfold seg
    have h1 : (A.take e).take b = A.take b := by rw [List.take_take, Nat.min_eq_left h]
    rw [← h1, List.take_append_drop]
  unfold pre
  rw [this, smM_app]
  omega
theorem pre_mono {A : List (Int × Int)} (hA : ∀ p, p ∈ A → gA p) {b e : Nat} (h : b ≤ e) : pre A b ≤ pre A e := by
  have := seg_pre (A := A) h
  have hb := smM_b (l := seg A b e) fun p hp => hA p (seg_mem hp)
  omega
/-- what the greedy cut does from an article on -/
def flB (R : Int) (A : List (Int × Int)) (b : Nat) : List Int := fl R ((A.drop b).map Prod.snd) 0 b
theorem flB_zero (R : Int) (A : List (Int × Int)) : flB R A 0 = filL R A := by unfold flB; rw [List.drop_zero]; rfl
theorem flB_len (R : Int) (A : List (Int × Int)) (b : Nat) : (flB R A b).length = nb R ((A.drop b).map Prod.snd) 0 + 1 := fl_len _ _ _ _
theorem flB_go {R : Int} {A : List (Int × Int)} (hall : ∀ p, p ∈ A → p.2 ≤ R) : ∀ (k i b : Nat), i + k = A.length → b < i → smM (seg A b i) ≤ R →
    ∃ e, i ≤ e ∧ e ≤ A.length ∧ smM (seg A b e) ≤ R ∧ ((e = A.length ∧ fl R ((A.drop i).map Prod.snd) (smM (seg A b i)) i = [(A.length : Int)]) ∨ (e < A.length ∧ R < smM (seg A b (e + 1)) ∧ fl R ((A.drop i).map Prod.snd) (smM (seg A b i)) i = (e : Int) :: flB R A e))
  | 0, i, b, hi, hb, hs => by
    have : i = A.length := by omega
    subst this
    refine ⟨A.length, Nat.le_refl _, Nat.le_refl _, hs, .inl ⟨rfl, ?_⟩⟩
    rw [List.drop_length]; rfl
  | k + 1, i, b, hi, hb, hs => by
    have h1 : i < A.length := by omega
    have hm := hall _ (getD_mem (d := (0, 0)) h1)
    have hsn : smM (seg A b (i + 1)) = smM (seg A b i) + (A.getD i (0, 0)).2 := by rw [seg_snoc h1 (by omega), smM_snoc]
    have hd := drop_at (d := (0, 0)) h1
    rw [hd, List.map_cons, fl]
    by_cases hc : smM (seg A b i) + (A.getD i (0, 0)).2 > R
    · rw [if_pos hc]
      refine ⟨i, Nat.le_refl _, by omega, hs, .inr ⟨h1, by omega, ?_⟩⟩
      congr 1
      unfold flB
      rw [hd, List.map_cons, fl, if_neg (by omega), Int.zero_add]
    · rw [if_neg hc, ← hsn]
      obtain ⟨e, e1, e2, e3, e4⟩ := flB_go hall k (i + 1) b (by omega) (by omega) (by omega)
      exact ⟨e, by omega, e2, e3, e4⟩
theorem flB_first {R : Int} {A : List (Int × Int)} (hall : ∀ p, p ∈ A → p.2 ≤ R) {b : Nat} (hb : b < A.length) :
    ∃ e, b < e ∧ e ≤ A.length ∧ smM (seg A b e) ≤ R ∧ ((e = A.length ∧ flB R A b = [(A.length : Int)]) ∨ (e < A.length ∧ R < smM (seg A b (e + 1)) ∧ flB R A b = (e : Int) :: flB R A e)) := by
  have hm := hall _ (getD_mem (d := (0, 0)) hb)
  have hone := sm_one A hb
  obtain ⟨e, e1, e2, e3, e4⟩ := flB_go hall (A.length - (b + 1)) (b + 1) b (by omega) (by omega) (by omega)
  have hfl : flB R A b = fl R ((A.drop (b + 1)).map Prod.snd) (smM (seg A b (b + 1))) (b + 1) := by
    unfold flB
    rw [drop_at (d := (0, 0)) hb, List.map_cons, fl, if_neg (by omega), Int.zero_add, hone]
  rw [hfl]
  exact ⟨e, by omega, e2, e3, e4⟩
theorem flB_mono {R : Int} {A : List (Int × Int)} (hA : ∀ p, p ∈ A → gA p) (hall : ∀ p, p ∈ A → p.2 ≤ R) (hR : 0 ≤ R) : ∀ (k b y : Nat), b + k = y → y ≤ A.length → (flB R A y).length ≤ (flB R A b).length
  | 0, b, y, h, hy => by rw [show b = y by omega]; exact Nat.le_refl _
  | k + 1, b, y, h, hy => by
    have ih := flB_mono hA hall hR k (b + 1) y (by omega) hy
    have hb : b < A.length := by omega
    have hm := hall _ (getD_mem (d := (0, 0)) hb)
    have hg := hA _ (getD_mem (d := (0, 0)) hb)
    unfold gA at hg
    have : (flB R A (b + 1)).length ≤ (flB R A b).length := by
      rw [flB_len, flB_len, drop_at (d := (0, 0)) hb, List.map_cons, nb, if_neg (by omega)]
      have := nb_mono (R := R) (t := (A.drop (b + 1)).map Prod.snd) (c := 0) (c' := 0 + (A.getD b (0, 0)).2) (fun x hx => by
        obtain ⟨p, hp, rfl⟩ := List.mem_map.1 hx
        have h1 := hall p (List.mem_of_mem_drop hp)
        have h2 := hA p (List.mem_of_mem_drop hp)
        unfold gA at h2
        omega) (Int.le_refl _) (by omega) (by omega)
      omega
    omega
/-- a stretch leaves one less behind it -/
theorem str_less {R : Int} {A : List (Int × Int)} (hA : ∀ p, p ∈ A → gA p) (hall : ∀ p, p ∈ A → p.2 ≤ R) (hR : 0 ≤ R) {b x y : Nat} (hb : b ≤ x) (hxy : x < y) (hy : y < A.length) (hs : R < smM (seg A x (y + 1))) : (flB R A y).length + 1 ≤ (flB R A b).length := by
  obtain ⟨e, e1, e2, e3, e4⟩ := flB_first hall (b := b) (by omega)
  have p1 := seg_pre (A := A) (b := x) (e := y + 1) (by omega)
  have p2 := pre_mono hA hb
  have hey : e ≤ y := by
    rcases Nat.lt_or_ge y e with h | h
    · have p3 := seg_pre (A := A) (b := b) (e := e) (by omega)
      have p4 := pre_mono hA (b := y + 1) (e := e) (by omega)
      omega
    · exact h
  rcases e4 with ⟨q, _⟩ | ⟨_, _, h⟩
  · omega
  · have := flB_mono hA hall hR (y - e) e y (by omega) (by omega)
    rw [h, List.length_cons]; omega
/-- no cut that holds has its ends later, or has fewer -/
theorem dom {R : Int} {A : List (Int × Int)} (hA : ∀ p, p ∈ A → gA p) (hall : ∀ p, p ∈ A → p.2 ≤ R) : ∀ (E : List Int) (b' b : Nat), b' ≤ b → b < A.length → vErr A.length b' E = 0 → (vSeg A b' E).any (buP R) = false →
    (flB R A b).length ≤ E.length ∧ ∀ v, v < (flB R A b).length → E.getD v 0 ≤ (flB R A b).getD v 0
  | [], b', b, h1, h2, hv, hs => by
    unfold vErr at hv
    split at hv
    · omega
    · cases hv
  | x :: T, b', b, h1, h2, hv, hs => by
    obtain ⟨v1, v2, v3, v4⟩ := vErr_cons hv
    obtain ⟨q, rfl⟩ : ∃ q : Nat, x = (q : Int) := ⟨x.toNat, by omega⟩
    simp only [vSeg, toNat_cast, List.any_cons, Bool.or_eq_false_iff] at hs
    have hs1 : ¬ R < smM (seg A b' q) := of_decide_eq_false hs.1
    obtain ⟨e, e1, e2, e3, e4⟩ := flB_first hall h2
    have hqe : q ≤ e := by
      rcases Nat.lt_or_ge e q with h | h
      · rcases e4 with ⟨h3, _⟩ | ⟨h3, h4, _⟩
        · omega
        · have p1 := seg_pre (A := A) (b := b) (e := e + 1) (by omega)
          have p2 := seg_pre (A := A) (b := b') (e := q) (by omega)
          have p3 := pre_mono hA h1
          have p4 := pre_mono hA (b := e + 1) (e := q) (by omega)
          omega
      · exact h
    rcases e4 with ⟨h3, h5⟩ | ⟨h3, h4, h5⟩
    · rw [h5]
      refine ⟨by simp, fun v hv => ?_⟩
      have : v = 0 := by simpa using hv
      subst this
      exact v2
    · obtain ⟨i1, i2⟩ := dom hA hall T q e hqe h3 v4 hs.2
      rw [h5]
      refine ⟨by simp only [List.length_cons]; omega, fun v hv => ?_⟩
      match v, hv with
      | 0, _ => show (q : Int) ≤ (e : Int); omega
      | v + 1, hv => simp only [List.getD_cons_succ]; exact i2 v (by simpa using hv)
/-! ### stretches in a row -/
def whyP : Int → List Int → List (Int × Int)
  | _, [] => []
  | b, e :: T => (b, e) :: whyP e T
theorem whyP_len : ∀ (b : Int) (E : List Int), (whyP b E).length = E.length
  | _, [] => rfl
  | b, e :: T => by simp only [whyP, List.length_cons, whyP_len e T]
theorem whyP_app : ∀ (b : Int) (E : List Int) (e : Int), whyP b (E ++ [e]) = whyP b E ++ [((b :: E).getD E.length 0, e)]
  | _, [], _ => rfl
  | b, x :: T, e => by
    simp only [List.cons_append, whyP, List.length_cons, List.getD_cons_succ, whyP_app x T e]
/-- each begins where the one before ends, and has too many lines -/
def Chn (R : Int) (A : List (Int × Int)) : Nat → List (Int × Int) → Prop
  | _, [] => True
  | b, p :: T => ∃ q : Nat, p = ((b : Int), (q : Int)) ∧ b < q ∧ q < A.length ∧ R < smM (seg A b (q + 1)) ∧ Chn R A q T
theorem chn_why {R : Int} {A : List (Int × Int)} (hall : ∀ p, p ∈ A → p.2 ≤ R) : ∀ (k b : Nat), b + k = A.length → b < A.length → Chn R A b (whyP b (flB R A b).dropLast) := by
  intro k
  induction k using Nat.strongRecOn with
  | ind k ih =>
    intro b h hb
    obtain ⟨e, e1, e2, e3, e4⟩ := flB_first hall hb
    rcases e4 with ⟨_, h5⟩ | ⟨h3, h4, h5⟩
    · rw [h5]; exact trivial
    · have hne : flB R A e ≠ [] := fun q => by have := flB_len R A e; rw [q] at this; cases this
      rw [h5, List.dropLast_cons_of_ne_nil hne]
      exact ⟨e, rfl, e1, h3, h4, ih (A.length - e) (by omega) e (by omega) h3⟩
end Go.Proofs.Ytnpdpkeackicmaa

