/-
  Plain mathematics: what is left of a word by a bit for each of its letters, and how often.
-/
import Derived.Test.YtalildjhighlhaaMathB
namespace Go.Proofs.Short
/-- what is left of a word by a bit for each of its letters -/
def takenL : List UInt8 → Nat → List UInt8
  | [], _ => []
  | a :: w, s => if s % 2 = 1 then a :: takenL w (s / 2) else takenL w (s / 2)
theorem count_pairs {α β : Type} [BEq β] (f : Nat → β) (p : β) : ∀ m, ((List.range (2 * m)).map f).count p = ((List.range m).map fun i => f (2 * i)).count p + ((List.range m).map fun i => f (2 * i + 1)).count p
  | 0 => rfl
  | m + 1 => by
    have ih := count_pairs (α := α) f p m
    have e : 2 * (m + 1) = 2 * m + 1 + 1 := by omega
    rw [e, List.range_succ, List.range_succ, List.range_succ (n := m)]
    simp only [List.map_append, List.count_append, List.map_cons, List.map_nil] at ih ⊢
    omega
theorem taken_even (a : UInt8) (w : List UInt8) (i : Nat) : takenL (a :: w) (2 * i) = takenL w i := by
  have h1 : (2 * i) % 2 = 0 := by omega
  have h2 : 2 * i / 2 = i := by omega
  conv => lhs; unfold takenL
  rw [h1, h2]; rfl
theorem taken_odd (a : UInt8) (w : List UInt8) (i : Nat) : takenL (a :: w) (2 * i + 1) = a :: takenL w i := by
  have h1 : (2 * i + 1) % 2 = 1 := by omega
  have h2 : (2 * i + 1) / 2 = i := by omega
  conv => lhs; unfold takenL
  rw [h1, h2]; rfl
theorem taken_count (p : List UInt8) : ∀ w : List UInt8, ((List.range (2 ^ w.length)).map (takenL w)).count p = (subs w).count p
  | [] => rfl
  | a :: w => by
    rw [List.length_cons, Nat.pow_succ, Nat.mul_comm, count_pairs (α := UInt8)]
    have e1 : (fun i => takenL (a :: w) (2 * i)) = takenL w := funext fun i => taken_even a w i
    have e2 : ((List.range (2 ^ w.length)).map fun i => takenL (a :: w) (2 * i + 1)) = ((List.range (2 ^ w.length)).map (takenL w)).map (a :: ·) := by
      rw [List.map_map]; exact List.map_congr_left fun i _ => taken_odd a w i
    have hp : ((List.range (2 ^ w.length)).map (takenL w)).Perm (subs w) := List.perm_iff_count.2 fun q => taken_count q w
    rw [e1, e2, taken_count p w]
    show _ = (subs w ++ (subs w).map (a :: ·)).count p
    rw [List.count_append, (hp.map (a :: ·)).count_eq]
  termination_by w => w.length
theorem taken_perm (w : List UInt8) : ((List.range (2 ^ w.length)).map (takenL w)).Perm (subs w) := List.perm_iff_count.2 fun q => taken_count q w
theorem taken_sub : ∀ (w : List UInt8) (s : Nat), (takenL w s).Sublist w
  | [], _ => List.Sublist.refl _
  | a :: w, s => by
    unfold takenL
    split
    · exact (taken_sub w _).cons_cons a
    · exact (taken_sub w _).cons a
/-- the i-th round of the walk: the bit of the i-th letter -/
theorem taken_snoc : ∀ (w : List UInt8) (a : UInt8) (s : Nat), takenL (w ++ [a]) s = takenL w s ++ if s / 2 ^ w.length % 2 = 1 then [a] else []
  | [], a, s => by simp [takenL]; 
  | b :: w, a, s => by
    have e : s / 2 / 2 ^ w.length = s / 2 ^ (w.length + 1) := by rw [Nat.div_div_eq_div_mul, Nat.pow_succ, Nat.mul_comm]
    show takenL (b :: (w ++ [a])) s = _
    unfold takenL
    rw [taken_snoc w a, e]
    by_cases h : s % 2 = 1
    · simp [h]
    · simp [h]
theorem taken_take (w : List UInt8) (s i : Nat) (h : i < w.length) : takenL (w.take (i + 1)) s = takenL (w.take i) s ++ if s / 2 ^ i % 2 = 1 then [w[i]] else [] := by
  rw [List.take_succ_eq_append_getElem h, taken_snoc, List.length_take_of_le (by omega)]
end Go.Proofs.Short
