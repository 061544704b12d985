/-
  What halves and shares that prove each other say: their sums.
-/
import Derived.Test.YtlfkldemainjnaaLawB
set_option linter.unusedSimpArgs false
set_option linter.unusedVariables false
namespace Go.Proofs.Ytlfkldemainjnaa
open Go Go.Proofs.Eng
set_option maxRecDepth 100000
def dot : List Int → List Int → Int
  | a :: t, b :: u => a * b + dot t u
  | _, _ => 0
theorem dot_set : ∀ (t vs : List Int) (j : Nat) (s : Int), j < t.length → dot (t.set j (t.getD j 0 + s)) vs = dot t vs + s * vs.getD j 0
  | [], _, _, _, h => by simp at h
  | a :: t, [], j, s, h => by
    cases j with
    | zero => simp [dot]
    | succ j => simp [dot]
  | a :: t, b :: u, j, s, h => by
    cases j with
    | zero =>
      simp only [List.set_cons_zero, List.getD_cons_zero, dot]
      rw [Int.add_mul]; omega
    | succ j =>
      simp only [List.set_cons_succ, List.getD_cons_succ, dot]
      rw [dot_set t u j s (by simpa using h)]; omega
theorem dot_add {t vs : List Int} {p : Int × Int} {s : Int} (ht : t.length = 7) (h0 : 0 ≤ p.1) (h1 : p.1 < p.2) (h2 : p.2 < 7) : dot (addP t p s) vs = dot t vs + s * (vs.getD p.1.toNat 0 + vs.getD p.2.toNat 0) := by
  unfold addP
  show dot ((add1 t p.1 s).set p.2.toNat ((add1 t p.1 s).getD p.2.toNat 0 + s)) vs = _
  rw [dot_set _ _ _ _ (by rw [add1_len]; omega)]
  unfold add1
  rw [dot_set _ _ _ _ (by omega), Int.mul_add]; omega
theorem dot_le : ∀ (t vs : List Int), (∀ x, x ∈ t → x ≤ 2) → (∀ x, x ∈ vs → 0 ≤ x) → vs.length ≤ t.length → dot t vs ≤ 2 * vs.sum
  | [], vs, _, _, h => by
    have : vs = [] := List.length_eq_zero_iff.1 (by simpa using h)
    subst this; simp [dot]
  | a :: t, [], _, _, _ => by simp [dot]
  | a :: t, b :: u, h1, h2, h => by
    have ih := dot_le t u (fun x hx => h1 x (List.mem_cons_of_mem _ hx)) (fun x hx => h2 x (List.mem_cons_of_mem _ hx)) (by simpa using h)
    have ha := h1 a List.mem_cons_self
    have hb := h2 b List.mem_cons_self
    have : a * b ≤ 2 * b := Int.mul_le_mul_of_nonneg_right ha hb
    simp only [dot, List.sum_cons]; omega
theorem dot_zero : ∀ (vs : List Int), dot [0, 0, 0, 0, 0, 0, 0] vs = 0
  | [] => rfl
  | [a] => by simp [dot]
  | [a, b] => by simp [dot]
  | [a, b, c] => by simp [dot]
  | [a, b, c, d] => by simp [dot]
  | [a, b, c, d, e] => by simp [dot]
  | [a, b, c, d, e, f] => by simp [dot]
  | a :: b :: c :: d :: e :: f :: g :: u => by simp [dot]
theorem tog_dot {l : List (Int × Int)} {vs sh : List Int} (hl : ∀ p, p ∈ l → 0 ≤ p.1 ∧ p.1 < p.2 ∧ p.2 < 7) (h2 : ∀ p, p ∈ l → 2 ≤ vs.getD p.1.toNat 0 + vs.getD p.2.toNat 0) (hs : ∀ j, 0 ≤ sh.getD j 0) :
    ∀ i, i ≤ l.length → i ≤ sh.length → 2 * (sh.take i).sum ≤ dot (tog l sh i) vs
  | 0, _, _ => by rw [show tog l sh 0 = [0, 0, 0, 0, 0, 0, 0] from rfl, dot_zero]; simp
  | i + 1, h, h' => by
    have ih := tog_dot hl h2 hs i (by omega) (by omega)
    have hm := getD_mem (l := l) (d := (0, 0)) (i := i) (by omega)
    obtain ⟨p0, p1, p2⟩ := hl _ hm
    rw [show tog l sh (i + 1) = addP (tog l sh i) (l.getD i (0, 0)) (sh.getD i 0) from rfl, dot_add (tog_len l sh i) p0 p1 p2, sum_take (by omega)]
    have := Int.mul_le_mul_of_nonneg_left (h2 _ hm) (hs i)
    omega
theorem half_ok {m : Int} {l : List (Int × Int)} {vs : List Int} (h : halfE m l vs = 0) : chkE m l = 0 ∧ (vs.length : Int) = m ∧ vs.all okH = true ∧ paidB l vs = true := by
  unfold halfE at h
  split at h
  · rename_i q; exact absurd h q
  · rename_i q1
    split at h
    · rename_i q; exact absurd h q
    · rename_i q2
      split at h
      · rename_i q3
        have := hlv_ok (by simpa using q2 : hlvE vs m = 0)
        exact ⟨by simpa using q1, this.1, this.2, q3⟩
      · exact absurd h (by decide)
theorem shared_ok {m : Int} {l : List (Int × Int)} {sh : List Int} (h : sharedE m l sh = 0) : chkE m l = 0 ∧ sh.length = l.length ∧ sh.all okH = true ∧ borneB l sh = true := by
  unfold sharedE at h
  split at h
  · rename_i q; exact absurd h q
  · rename_i q1
    split at h
    · rename_i q; exact absurd h q
    · rename_i q2
      split at h
      · rename_i q3
        have := hlv_ok (by simpa using q2 : hlvE sh l.length = 0)
        exact ⟨by simpa using q1, by have := this.1; omega, this.2, q3⟩
      · exact absurd h (by decide)
theorem weak_any {m : Int} {l : List (Int × Int)} {vs sh : List Int} (h1 : halfE m l vs = 0) (h2 : sharedE m l sh = 0) : sh.sum ≤ vs.sum := by
  obtain ⟨a1, a2', a3, a4⟩ := half_ok h1
  obtain ⟨_, b2, b3, b4⟩ := shared_ok h2
  obtain ⟨c1, c2, c3, c4⟩ := chk_ok a1
  have hne : tog l sh sh.length ≠ [] := fun h => by have := tog_len l sh sh.length; rw [h] at this; simp at this
  have ht := (mxF_le (b := 2) hne).1 (by unfold borneB at b4; simpa using b4)
  have hd := dot_le (tog l sh sh.length) vs ht (fun x hx => (okH_iff.1 (List.all_eq_true.1 a3 x hx)).1) (by rw [tog_len]; omega)
  have hg := tog_dot (l := l) (vs := vs) (sh := sh) (fun p hp => ⟨(c4 p hp).1, (c4 p hp).2.1, by have := (c4 p hp).2.2; omega⟩) (fun p hp => by
    have q := List.all_eq_true.1 a4 p hp
    have q2 := (c4 p hp).2.2
    unfold dueB at q
    rw [decide_eq_true (show p.2 < (vs.length : Int) by omega), Bool.true_and] at q
    simp only [Bool.not_eq_true', decide_eq_false_iff_not] at q
    omega) (fun j => (getD_ok b3 j).1) sh.length (by omega) (Nat.le_refl _)
  rw [List.take_length] at hg
  omega
theorem tot_ok {vs : List Int} (h : vs.all okH = true) : totE vs vs.length = vs.sum := by unfold totE; rw [if_pos rfl, if_pos h]
end Go.Proofs.Ytlfkldemainjnaa

