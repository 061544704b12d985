/-
  Package short's Ways, Count and Arches at any words of the first letters.
-/
import Derived.Test.YtlbepjmiligpcaaDoorMost
import Derived.Test.YtlbepjmiligpcaaDoorMissing
set_option linter.unusedSimpArgs false
set_option linter.unusedVariables false
namespace Go.Proofs.YtlbepjmiligpcaaDoor
open Go.RowKit Go.Proofs.Short Go.Lib

def wayL (a b : List UInt8) : Int := if chks [a, b] = 0 then (waysL a b : Nat) else 0
/-- a row that can be read, and an error -/
def RowErr (w : World) (l : List Nat) (err : Int) (e : Ending) (w' : World) : Prop :=
  Below w.heap.size w w' ∧ ∃ A c, e = .returned (.tuple #[.slice A l.length c, .int .i64 err]) ∧ Rd w' A l.length (ints l)
theorem rd_nil (w : World) (A : Option Addr) : Rd w A 0 [] := ⟨rfl, fun h => by omega⟩
set_option maxHeartbeats 400000 in
theorem wayS_any (a b : List UInt8) (w : World) (ha : a.length ≤ maxLen) (hb : b.length ≤ maxLen) :
    Calls Tryd.prog 8 #[.string ⟨a.toArray⟩, .string ⟨b.toArray⟩] w fun e w' => e = .returned (.tuple #[.int .i64 (wayL a b), .int .i64 (chks [a, b])]) ∧ Below w.heap.size w w' := by
  by_cases hz : chks [a, b] = 0
  · refine (ways_any a b w hz).mono ?_
    rintro e w' ⟨rfl, h⟩
    exact ⟨by unfold wayL; rw [if_pos hz, hz], h⟩
  · have hh : wayL a b = 0 := by unfold wayL; rw [if_neg hz]
    have hz2 : (chks [a, b] != 0) = true := by simp [hz]
    have HH := Lib.hid hh; clear hh hz
    go_enter Tryd.func8, Tryd.ntmps8
    go_wp2_with (go_at_call 21; refine (checkTwo a b _ _ ha hb).mono ?_; rintro e w1 ⟨rfl, hb1⟩)
    go_ret2
    rw [HH.out]
    exact ⟨rfl, hb1⟩
theorem letters_any (x : List UInt8) (z : Int) (w : World) (hx : x.length ≤ maxLen) :
    Calls Tryd.prog 24 #[.string ⟨x.toArray⟩, .int .i64 z] w fun e w' => e = .returned (.int .i64 (letE x z)) ∧ Below w.heap.size w w' := by
  unfold letE
  by_cases hz : chk x = 0
  · rw [if_pos hz]
    by_cases hr : z < 1 ∨ 6 < z
    · rw [if_pos hr]; exact letters_range x z w hz hr
    · rw [if_neg hr]
      have h := letters_in x z.toNat w hz (by omega) (by omega)
      rw [Int.toNat_of_nonneg (by omega)] at h
      exact h
  · rw [if_neg hz]; exact letters_chk x z w hx hz
theorem letE_zero {x : List UInt8} {z : Int} (h : letE x z = 0) : chk x = 0 ∧ 1 ≤ z.toNat ∧ z.toNat ≤ 6 ∧ (z.toNat : Int) = z ∧ allIn z.toNat x = true := by
  unfold letE at h
  by_cases hz : chk x = 0
  · rw [if_pos hz] at h
    by_cases hr : z < 1 ∨ 6 < z
    · rw [if_pos hr] at h; exact absurd h (by decide)
    · rw [if_neg hr] at h
      refine ⟨hz, by omega, by omega, by omega, ?_⟩
      cases ha : allIn z.toNat x with
      | true => rfl
      | false =>
        have : (x.all fun b => (alphaL z.toNat).contains b) = false := ha
        rw [this] at h; exact absurd h (by decide)
  · rw [if_neg hz] at h; exact absurd h hz
def arcL (x : List UInt8) (z : Int) : List Nat := if letE x z = 0 then archesL z.toNat 0 [] x else []
theorem archesL_le (k : Nat) : ∀ (w : List UInt8) (i : Nat) (m : List UInt8), (archesL k i m w).length ≤ w.length
  | [], _, _ => Nat.le_refl _
  | a :: w, i, m => by
    have e1 : archesL k i m (a :: w) = if (if a ∈ m then m else a :: m).length = k then (i + 1) :: archesL k (i + 1) [] w else archesL k (i + 1) (if a ∈ m then m else a :: m) w := rfl
    rw [e1]
    generalize (if a ∈ m then m else a :: m) = m'
    by_cases h : m'.length = k
    · rw [if_pos h]; have := archesL_le k w (i + 1) []; simp only [List.length_cons]; omega
    · rw [if_neg h]; have := archesL_le k w (i + 1) m'; simp only [List.length_cons]; omega
theorem archesS_any (x : List UInt8) (z : Int) (w : World) (hx : x.length ≤ maxLen) :
    Calls Tryd.prog 10 #[.string ⟨x.toArray⟩, .int .i64 z] w (RowErr w (arcL x z) (letE x z)) := by
  by_cases h : letE x z = 0
  · obtain ⟨hz, h1, h6, he, hin⟩ := letE_zero h
    have e := arches_ok x z.toNat w hz h1 h6 hin
    rw [he] at e
    refine e.mono ?_
    rintro e w' ⟨hb, v, rfl, hown⟩
    obtain ⟨A, c, rfl⟩ := ownsRow_shape hown
    unfold arcL
    rw [if_pos h, h]
    exact ⟨hb, A, c, rfl, rd_own hown⟩
  · refine (arches_err x z (letE x z) w (fun W => letters_any x z W hx) h).mono ?_
    rintro e w' ⟨rfl, hb⟩
    unfold arcL
    rw [if_neg h]
    exact ⟨hb, none, 0, rfl, rd_nil _ _⟩
theorem alpha_okc {k : Nat} {c : UInt8} (h : c ∈ alphaL k) : okc c = true := by
  have h4 : c ∈ [97, 98, 99, 100, 101, 102] := List.mem_of_mem_take h
  simp at h4
  rcases h4 with rfl | rfl | rfl | rfl | rfl | rfl <;> decide
theorem chk_alpha {k : Nat} {x : List UInt8} (h : ∀ c ∈ x, c ∈ alphaL k) (hl : x.length ≤ 10) : chk x = 0 := by
  unfold chk
  rw [if_neg (by omega), if_pos (List.all_eq_true.2 fun c hc => alpha_okc (h c hc))]
theorem letE_alpha {k : Nat} {x : List UInt8} (h : ∀ c ∈ x, c ∈ alphaL k) (hl : x.length ≤ 10) (h1 : 1 ≤ k) (h6 : k ≤ 6) : letE x (k : Int) = 0 := by
  unfold letE
  rw [if_pos (chk_alpha h hl), if_neg (by omega), if_pos]
  refine List.all_eq_true.2 fun c hc => ?_
  rw [Int.toNat_natCast, List.contains_iff_mem]; exact h c hc
theorem count_alpha {k : Nat} {x : List UInt8} (h : ∀ c ∈ x, c ∈ alphaL k) (hl : x.length ≤ 10) (W : World) :
    Calls Tryd.prog 9 #[.string ⟨x.toArray⟩] W fun e w' => e = .returned (.tuple #[.int .i64 ((partsL [x]).length : Nat), .int .i64 0]) ∧ Below W.heap.size W w' := by
  have e := count_any partsOf_said x W (by unfold maxLen; omega)
  have hz := chk_alpha h hl
  unfold cntL at e
  rw [if_pos hz, hz] at e
  exact e
theorem arches_alpha {k : Nat} {x : List UInt8} (h : ∀ c ∈ x, c ∈ alphaL k) (hl : x.length ≤ 10) (h1 : 1 ≤ k) (h6 : k ≤ 6) (W : World) :
    Calls Tryd.prog 10 #[.string ⟨x.toArray⟩, .int .i64 k] W (RowErr W (archesL k 0 [] x) 0) := by
  have e := archesS_any x (k : Int) W (by unfold maxLen; omega)
  have hz := letE_alpha h hl h1 h6
  unfold arcL at e
  rw [if_pos hz, hz, Int.toNat_natCast] at e
  exact e
theorem ways_alpha {k : Nat} {x y : List UInt8} (hx : ∀ c ∈ x, c ∈ alphaL k) (hy : ∀ c ∈ y, c ∈ alphaL k) (hlx : x.length ≤ 10) (hly : y.length ≤ 10) (W : World) :
    Calls Tryd.prog 8 #[.string ⟨x.toArray⟩, .string ⟨y.toArray⟩] W fun e w' => e = .returned (.tuple #[.int .i64 (waysL x y : Nat), .int .i64 0]) ∧ Below W.heap.size W w' := by
  have e := wayS_any x y W (by unfold maxLen; omega) (by unfold maxLen; omega)
  have hz : chks [x, y] = 0 := by
    show (if chk x = 0 then (if chk y = 0 then 0 else chk y) else chk x) = 0
    rw [chk_alpha hx hlx, chk_alpha hy hly]; rfl
  unfold wayL at e
  rw [if_pos hz, hz] at e
  exact e
end Go.Proofs.YtlbepjmiligpcaaDoor
