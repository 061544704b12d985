/-
  Walks outright: steps to neighbours, and when two steps lie in one lane.
-/
import Derived.Test.YtehffacmphpknaaDoorLanes
set_option linter.unusedSimpArgs false
set_option linter.unusedVariables false
namespace Go.Proofs.Quire
/-- a step to a neighbour -/
def unitD (d : Int × Int) : Prop := d = (1, 0) ∨ d = (-1, 0) ∨ d = (0, 1) ∨ d = (0, -1)
theorem turn_unit {q : Option Bool} {d : Int × Int} (h : unitD d) : unitD (turn q d) := by
  rcases q with _ | _ | _ <;> rcases h with rfl | rfl | rfl | rfl <;> simp [turn, unitD]
theorem wgo_units (cs : List UInt8) : ∀ q p d, unitD d → ∀ k, k < (wgo q p d cs).length → ∃ u, unitD u ∧ ptAt (p :: wgo q p d cs) (k + 1) = ((ptAt (p :: wgo q p d cs) k).1 + u.1, (ptAt (p :: wgo q p d cs) k).2 + u.2) := by
  induction cs with
  | nil =>
    intro q p d hd k hk
    simp only [wgo, List.length_singleton] at hk ⊢
    obtain rfl : k = 0 := by omega
    exact ⟨turn q d, turn_unit hd, rfl⟩
  | cons c cs ih =>
    intro q p d hd k hk
    rcases k with _ | k
    · exact ⟨turn q d, turn_unit hd, rfl⟩
    · have h2 := ih (some (c == 118)) (p.1 + (turn q d).1, p.2 + (turn q d).2) (turn q d) (turn_unit hd) k (by simpa [wgo] using hk)
      obtain ⟨u, hu, he⟩ := h2
      exact ⟨u, hu, by simpa [wgo, ptAt] using he⟩
theorem walk_unit (cs : List UInt8) (k : Nat) (hk : k + 1 < (walkL cs).length) : ∃ u, unitD u ∧ ptAt (walkL cs) (k + 1) = ((ptAt (walkL cs) k).1 + u.1, (ptAt (walkL cs) k).2 + u.2) :=
  wgo_units cs none (0, 0) (1, 0) (.inl rfl) k (by simpa [walkL] using hk)
theorem walk_bound (cs : List UInt8) : ∀ k, k < (walkL cs).length → (-(k : Int) ≤ (ptAt (walkL cs) k).1 ∧ (ptAt (walkL cs) k).1 ≤ k) ∧ -(k : Int) ≤ (ptAt (walkL cs) k).2 ∧ (ptAt (walkL cs) k).2 ≤ k := by
  intro k
  induction k with
  | zero => intro _; simp [walkL, ptAt]
  | succ k ih =>
    intro hk
    have h1 := ih (by omega)
    obtain ⟨u, hu, he⟩ := walk_unit cs k hk
    rw [he]
    rcases hu with rfl | rfl | rfl | rfl <;> simp only <;> omega
/-- twice the middle of a step -/
def laneS (P : List (Int × Int)) (i : Nat) : Int × Int := ((ptAt P i).1 + (ptAt P (i + 1)).1, (ptAt P i).2 + (ptAt P (i + 1)).2)
theorem lane_sum (cs : List UInt8) (i j : Nat) (hi : i + 1 < (walkL cs).length) (hj : j + 1 < (walkL cs).length) :
    laneB (walkL cs) i j = ((laneS (walkL cs) i).1 == (laneS (walkL cs) j).1 && (laneS (walkL cs) i).2 == (laneS (walkL cs) j).2) := by
  obtain ⟨u, hu, he⟩ := walk_unit cs i hi
  obtain ⟨v, hv, hf⟩ := walk_unit cs j hj
  unfold laneB laneS
  rw [he, hf]
  generalize ptAt (walkL cs) i = p
  generalize ptAt (walkL cs) j = q
  obtain ⟨a, b⟩ := p
  obtain ⟨c, d⟩ := q
  rw [Bool.eq_iff_iff]
  simp only [Bool.or_eq_true, Bool.and_eq_true, beq_iff_eq, Prod.mk.injEq]
  rcases hu with rfl | rfl | rfl | rfl <;> rcases hv with rfl | rfl | rfl | rfl <;> simp only <;> omega
/-- what is still to come of a walk that has come to p by d -/
def restW (p d : Int × Int) : List UInt8 → List (Int × Int)
  | [] => []
  | c :: cs => wgo (some (c == 118)) p d cs
theorem walk_rest (cs : List UInt8) : walkL cs = [(0, 0), (1, 0)] ++ restW (1, 0) (1, 0) cs := by
  cases cs <;> rfl
theorem rest_step (p d : Int × Int) (c : UInt8) (cs : List UInt8) : restW p d (c :: cs) = (p.1 + (turn (some (c == 118)) d).1, p.2 + (turn (some (c == 118)) d).2) :: restW (p.1 + (turn (some (c == 118)) d).1, p.2 + (turn (some (c == 118)) d).2) (turn (some (c == 118)) d) cs := by
  cases cs <;> rfl
/-- directions by numbers, from east by quarters to the left -/
def dirN (n : Nat) : Int × Int := if n % 4 = 0 then (1, 0) else if n % 4 = 1 then (0, 1) else if n % 4 = 2 then (-1, 0) else (0, -1)
theorem dir_left (n : Nat) : turn (some true) (dirN n) = dirN (n + 5) := by
  have h : n % 4 = 0 ∨ n % 4 = 1 ∨ n % 4 = 2 ∨ n % 4 = 3 := by omega
  unfold dirN
  rcases h with h | h | h | h <;> (have h2 : (n + 5) % 4 = (n % 4 + 1) % 4 := by omega) <;> rw [h2, h] <;> simp [turn]
theorem dir_right (n : Nat) : turn (some false) (dirN n) = dirN (n + 3) := by
  have h : n % 4 = 0 ∨ n % 4 = 1 ∨ n % 4 = 2 ∨ n % 4 = 3 := by omega
  unfold dirN
  rcases h with h | h | h | h <;> (have h2 : (n + 3) % 4 = (n % 4 + 3) % 4 := by omega) <;> rw [h2, h] <;> simp [turn]
theorem chkL_ok {m : Nat} {a b : UInt8} {s : List UInt8} (h1 : s.length ≤ m) (h2 : ∀ c ∈ s, c = a ∨ c = b) : chkL m a b s = 0 := by
  unfold chkL
  rw [if_neg (by omega), if_pos (List.all_eq_true.2 fun c hc => by simpa using h2 c hc)]
end Go.Proofs.Quire
