/-
  Folds by numbers, and the creases of all folds as letters: mirror images, and one fold more.
-/
import Derived.Test.YtehffacmphpknaaDoorFactM
import Derived.Test.YtehffacmphpknaaDoorFoldH
import Derived.Test.YtehffacmphpknaaDoorPile
set_option linter.unusedSimpArgs false
set_option linter.unusedVariables false
namespace Go.Proofs.Quire
theorem getD_map0 {α β : Type} (g : α → β) (l : List α) (i : Nat) (d : α) : (l.map g).getD i (g d) = g (l.getD i d) := by
  rw [List.getD_eq_getElem?_getD, List.getD_eq_getElem?_getD, List.getElem?_map]
  cases l[i]? <;> rfl
theorem creC_val (f : List Bool) (i : Nat) (h : i < 2 ^ f.length - 1) : (creC f).getD i 0 = 118 ∨ (creC f).getD i 0 = 104 := by
  unfold creC
  rw [List.getD_eq_getElem?_getD, List.getElem?_map, List.getElem?_range h]
  simp only [Option.map_some, Option.getD_some]
  split
  · exact .inl rfl
  · exact .inr rfl
theorem creS_C (f : List Bool) (h : f.length ≤ 6) : creS f = (creC f).map UInt8.ofNat := by unfold creS; rw [(closed f h).2.2]
theorem creS_nat (f : List Bool) (h : f.length ≤ 6) (i : Nat) (hi : i < 2 ^ f.length - 1) : ((creS f).getD i 0).toNat = (creC f).getD i 0 := by
  rw [creS_C f h, show (0 : UInt8) = UInt8.ofNat 0 from rfl, getD_map0]
  rcases creC_val f i hi with e | e <;> rw [e] <;> rfl
theorem mirror_of (f : List Bool) (h : f.length ≤ 5) (i : Nat) (hi : i < 2 ^ f.length - 1) (hne : i + 1 ≠ 2 ^ f.length / 2) : ((creS f).getD i 0).toNat ≠ ((creS f).getD (2 ^ f.length - 2 - i) 0).toNat := by
  rw [creS_nat f (by omega) i hi, creS_nat f (by omega) _ (by omega)]
  have := range_all (folds_all mir_k f h) hi
  rw [Bool.or_eq_true] at this
  rcases this with e | e
  · exact absurd (Nat.eq_of_beq_eq_true e) hne
  · intro e2; rw [e2] at e; simp at e
/-- what a crease becomes with one fold more, as a number -/
def moreU (o : Bool) (c : List UInt8) (i : Nat) : Nat := if i % 2 = 1 then (c.getD (i / 2) 0).toNat else if decide (i % 4 = 0) = o then 118 else 104
theorem more_of (o : Bool) (f : List Bool) (h : f.length ≤ 5) (i : Nat) (hi : i < 2 * 2 ^ f.length - 1) : ((creS (f ++ [o])).getD i 0).toNat = moreU o (creS f) i := by
  have hl : (f ++ [o]).length = f.length + 1 := by simp
  have hp : 2 ^ (f ++ [o]).length = 2 * 2 ^ f.length := by rw [hl, Nat.pow_succ]; omega
  rw [creS_nat _ (by omega) i (by omega)]
  have hb : morB o f = true := by cases o; exact folds_all moru_k f h; exact folds_all moro_k f h
  have h1 := Nat.eq_of_beq_eq_true (range_all hb hi)
  rw [h1]
  unfold moreN moreU
  by_cases h2 : i % 2 = 1
  · rw [if_pos h2, show Nat.beq (i % 2) 1 = true by rw [h2]; rfl, creS_nat f (by omega) _ (by omega)]; rfl
  · rw [if_neg h2, show Nat.beq (i % 2) 1 = false by rw [show i % 2 = 0 by omega]; rfl]
    by_cases h4 : i % 4 = 0
    · rw [show Nat.beq (i % 4) 0 = true by rw [h4]; rfl, show decide (i % 4 = 0) = true by simpa using h4]
      cases o <;> rfl
    · rw [show Nat.beq (i % 4) 0 = false by rw [show i % 4 = 2 by omega]; rfl, show decide (i % 4 = 0) = false by simpa using h4]
      cases o <;> rfl
end Go.Proofs.Quire
namespace Go.Proofs.YtehffacmphpknaaDoor
open Go.RowKit Go.Lib Go.Proofs.Quire

def wayU (o : Bool) : UInt8 := if o then 111 else 117
theorem chkL_all2 {m : Nat} {a b : UInt8} {s : List UInt8} (h1 : s.length ≤ m) (h2 : ∀ c ∈ s, c = a ∨ c = b) : chkL m a b s = 0 := by
  unfold chkL
  rw [if_neg (by omega), if_pos (List.all_eq_true.2 fun c hc => by simpa using h2 c hc)]
theorem bitL_mem {b k : Nat} {c : UInt8} (hc : c ∈ foldsOf b k) : c = 111 ∨ c = 117 := by
  obtain ⟨i, _, rfl⟩ := List.mem_map.1 hc
  unfold bitL; split
  · exact .inr rfl
  · exact .inl rfl
theorem foldsOf_ok (b k : Nat) (hk : k ≤ 6) : chkF (foldsOf b k) = 0 := chkL_all2 (by rw [foldsOf_len]; exact hk) (fun c hc => bitL_mem hc)
theorem foldsOf_more (b k : Nat) (hk : k ≤ 5) (o : Bool) : chkF (foldsOf b k ++ [wayU o]) = 0 :=
  chkL_all2 (by rw [List.length_append, foldsOf_len]; simp; omega) (fun c hc => by
    rcases List.mem_append.1 hc with h | h
    · exact bitL_mem h
    · rw [List.mem_singleton.1 h]; cases o <;> simp [wayU])
theorem foldsB_more (cs : List UInt8) (o : Bool) : foldsB (cs ++ [wayU o]) = foldsB cs ++ [o] := by
  unfold foldsB; rw [List.map_append]; cases o <;> rfl
end Go.Proofs.YtehffacmphpknaaDoor
