/-
  Plain mathematics: first places, each at the first place behind the one before; ways of opposite words.
-/
import Derived.Test.YtalildjhighlhaaMathF
namespace Go.Proofs.Short
theorem first_cons {c : UInt8} {p : List UInt8} : ∀ {w : List UInt8} {i : Nat} {l : List Nat}, firstL i w (c :: p) = some l →
    ∃ j rest, l = (i + j) :: rest ∧ j < w.length ∧ w[j]? = some c ∧ (∀ m, m < j → w[m]? ≠ some c) ∧ firstL (i + j + 1) (w.drop (j + 1)) p = some rest
  | [], i, l, h => by cases h
  | a :: w, i, l, h => by
    have e : firstL i (a :: w) (c :: p) = if a = c then (firstL (i + 1) w p).map (i :: ·) else firstL (i + 1) w (c :: p) := rfl
    rw [e] at h
    by_cases hac : a = c
    · rw [if_pos hac] at h
      cases hr : firstL (i + 1) w p with
      | none => rw [hr] at h; cases h
      | some rest =>
        rw [hr] at h
        obtain rfl : i :: rest = l := by simpa using h
        exact ⟨0, rest, rfl, by simp, by simp [hac], fun m hm => by omega, hr⟩
    · rw [if_neg hac] at h
      obtain ⟨j, rest, h1, h2, h3, h4, h5⟩ := first_cons h
      refine ⟨j + 1, rest, by rw [h1]; congr 1; omega, by simp; omega, by simpa using h3, fun m hm => ?_, ?_⟩
      · cases m with
        | zero => simpa using hac
        | succ m => simpa using h4 m (by omega)
      · rw [show i + (j + 1) + 1 = i + 1 + j + 1 by omega]; exact h5
theorem first_left {w p : List UInt8} {i : Nat} : (firstL i w p).isSome = leftL w p := by
  rw [firstL_pl, Bool.eq_iff_iff, ← waysR_pos, ← plL_length w i p]
  cases plL w i p <;> simp
theorem first_len {w p : List UInt8} {i : Nat} {l : List Nat} (h : firstL i w p = some l) : l.length = p.length := by
  rw [firstL_pl] at h
  exact plL_each w i p l (List.mem_of_head? h)
theorem ways_back (w p : List UInt8) : waysL w.reverse p.reverse = waysL w p := by
  rw [waysL_eq, waysL_eq, waysR_rev]
end Go.Proofs.Short
