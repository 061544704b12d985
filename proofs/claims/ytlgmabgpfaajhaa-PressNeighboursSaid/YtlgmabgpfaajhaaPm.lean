/-
  When sheets are printed: the greatest sums.
-/
import Derived.Test.YtlgmabgpfaajhaaPh
set_option linter.unusedSimpArgs false
set_option linter.unusedVariables false
namespace Go.Proofs.Ytlgmabgpfaajhaa
open Go Go.Proofs.Eng
theorem last_fst (z : List (Int × Int)) : ∀ i, i ≤ z.length → (lastN z i).1 = sumI (hoL 0 (z.take i))
  | 0, _ => rfl
  | i + 1, h => by
    rw [ho_snoc (by omega), sumI_snoc, ← last_fst z i (by omega)]; rfl
/-- what is set up to place q, and printed from there to place p -/
def prS (z : List (Int × Int)) (p q : Nat) : Int := sumI (hoL 0 (z.take (q + 1))) + sumI (hoL 1 ((z.take (p + 1)).drop q))
/-- the greatest of the first sums -/
def moN (z : List (Int × Int)) (p : Nat) : Nat → Int
  | 0 => 0
  | j + 1 => mx2 (moN z p j) (prS z p j)
theorem ho_app (m : Int) (a b : List (Int × Int)) : hoL m (a ++ b) = hoL m a ++ hoL m b := List.map_append
theorem sumI_app (a b : List Int) : sumI (a ++ b) = sumI a + sumI b := by
  have key : ∀ (b : List Int) (x : Int), b.foldl (· + ·) x = x + b.foldl (· + ·) 0 := by
    intro b
    induction b with
    | nil => intro x; simp
    | cons y t ih => intro x; simp only [List.foldl_cons]; rw [ih (x + y), ih (0 + y)]; omega
  unfold sumI
  rw [List.foldl_append, key b]
theorem prS_snoc {z : List (Int × Int)} {p q : Nat} (hp : p + 1 < z.length) (hq : q ≤ p + 1) : prS z (p + 1) q = (if q = p + 1 then sumI (hoL 0 (z.take (p + 2))) else prS z p q) + (z.getD (p + 1) (0, 0)).2 := by
  unfold prS
  rw [take_snoc (i := p + 1) (d := (0, 0)) hp, List.drop_append_of_le_length (by rw [List.length_take]; omega), ho_app, sumI_app]
  have e : sumI (hoL 1 [z.getD (p + 1) (0, 0)]) = (z.getD (p + 1) (0, 0)).2 := by simp [hoL, hrs, sumI]
  rw [e]
  by_cases h : q = p + 1
  · subst h
    rw [if_pos rfl]
    have e2 : (z.take (p + 1)).drop (p + 1) = [] := List.drop_eq_nil_of_le (by rw [List.length_take]; omega)
    rw [e2, show z.take (p + 2) = z.take (p + 1) ++ [z.getD (p + 1) (0, 0)] from take_snoc hp]
    show _ + (0 + _) = _
    omega
  · rw [if_neg h]; omega
theorem prS_pos {z : List (Int × Int)} {b : Int} (h0 : 0 ≤ b) (hb : ∀ p, p ∈ z → bS b p) (p q : Nat) : 0 ≤ prS z p q := by
  have h1 := sumI_b (l := hoL 0 (z.take (q + 1))) h0 (ho_b fun x hx => hb x (List.mem_of_mem_take hx))
  have h2 := sumI_b (l := hoL 1 ((z.take (p + 1)).drop q)) h0 (ho_b fun x hx => hb x (List.mem_of_mem_take (List.mem_of_mem_drop hx)))
  unfold prS; omega
theorem mx_sh (a b c : Int) : mx2 (a + c) (b + c) = mx2 a b + c := by unfold mx2; split <;> split <;> omega
theorem mx_comm (a b : Int) : mx2 a b = mx2 b a := by unfold mx2; split <;> split <;> omega
theorem mx_zero {x : Int} (h : 0 ≤ x) : mx2 0 x = x := by unfold mx2; split <;> omega
theorem mx_left (a b : Int) : a ≤ mx2 a b ∧ b ≤ mx2 a b := by unfold mx2; split <;> omega
theorem moN_next {z : List (Int × Int)} {b : Int} (h0 : 0 ≤ b) (hb : ∀ p, p ∈ z → bS b p) {p : Nat} (hp : p + 1 < z.length) : ∀ j, 1 ≤ j → j ≤ p + 1 → moN z (p + 1) j = moN z p j + (z.getD (p + 1) (0, 0)).2
  | 0, h, _ => by omega
  | 1, _, _ => by
    have e1 := prS_snoc (q := 0) hp (by omega)
    rw [if_neg (by omega)] at e1
    have g0 := prS_pos h0 hb p 0
    have g1 := prS_pos h0 hb (p + 1) 0
    have m1 : moN z (p + 1) 1 = prS z (p + 1) 0 := mx_zero g1
    have m0 : moN z p 1 = prS z p 0 := mx_zero g0
    rw [m1, m0, e1]
  | j + 2, _, h => by
    have ih := moN_next h0 hb hp (j + 1) (by omega) (by omega)
    have e1 := prS_snoc (q := j + 1) hp (by omega)
    rw [if_neg (by omega)] at e1
    show mx2 (moN z (p + 1) (j + 1)) (prS z (p + 1) (j + 1)) = mx2 (moN z p (j + 1)) (prS z p (j + 1)) + _
    rw [ih, e1, mx_sh]
/-- the greatest sum is when the sheet is printed -/
theorem moN_last {z : List (Int × Int)} {b : Int} (h0 : 0 ≤ b) (hb : ∀ p, p ∈ z → bS b p) : ∀ p, p < z.length → moN z p (p + 1) = (lastN z (p + 1)).2
  | 0, h => by
    have hp := hb _ (getD_mem (l := z) (d := (0, 0)) h)
    unfold bS at hp
    have e : prS z 0 0 = (z.getD 0 (0, 0)).1 + (z.getD 0 (0, 0)).2 := by
      unfold prS
      rw [take_snoc (i := 0) (d := (0, 0)) h]
      simp [hoL, hrs, sumI]
    show mx2 0 (prS z 0 0) = mx2 (0 + (z.getD 0 (0, 0)).1) 0 + (z.getD 0 (0, 0)).2
    rw [e, mx_zero (by omega), mx_comm, mx_zero (by omega)]
    omega
  | p + 1, h => by
    have ih := moN_last h0 hb p (by omega)
    have e1 := moN_next h0 hb h (p + 1) (by omega) (by omega)
    have e2 := prS_snoc (q := p + 1) h (by omega)
    rw [if_pos rfl] at e2
    show mx2 (moN z (p + 1) (p + 1)) (prS z (p + 1) (p + 1)) = _
    rw [e1, e2, mx_sh, ih, ← last_fst z (p + 2) (by omega), mx_comm]
    rfl
theorem moN_ge {z : List (Int × Int)} {p : Nat} : ∀ j q, q < j → prS z p q ≤ moN z p j
  | 0, q, h => by omega
  | j + 1, q, h => by
    rcases Nat.lt_succ_iff_lt_or_eq.1 h with h | rfl
    · exact Int.le_trans (moN_ge j q h) (mx_left _ _).1
    · exact (mx_left _ _).2
theorem pl_pr {z : List (Int × Int)} (p : Nat) (h : 0 < z.length) : plS z p = prS z (z.length - 1) p := by
  unfold plS prS
  rw [show z.length - 1 + 1 = z.length by omega, List.take_length]
theorem pl_le {z : List (Int × Int)} {b : Int} (h0 : 0 ≤ b) (hb : ∀ p, p ∈ z → bS b p) {p : Nat} (hp : p < z.length) : plS z p ≤ (lastN z z.length).2 := by
  have h1 := moN_last h0 hb (z.length - 1) (by omega)
  rw [show z.length - 1 + 1 = z.length by omega] at h1
  rw [pl_pr p (by omega), ← h1]
  exact moN_ge _ _ hp
end Go.Proofs.Ytlgmabgpfaajhaa

