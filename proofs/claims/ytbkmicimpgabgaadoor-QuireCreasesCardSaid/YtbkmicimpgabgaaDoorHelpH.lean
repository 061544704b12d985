/-
  Folds by numbers have no error; a pile tells its folds.
-/
import Derived.Test.YtbkmicimpgabgaaDoorFoldHa
import Derived.Test.YtbkmicimpgabgaaDoorFactT
import Derived.Test.YtbkmicimpgabgaaDoorFactQ
set_option linter.unusedSimpArgs false
set_option linter.unusedVariables false
namespace Go.Proofs.YtbkmicimpgabgaaDoor
open Go.RowKit Go.Lib Go.Proofs.Quire

theorem chkL_all2 {m : Nat} {a b : UInt8} {s : List UInt8} (h1 : s.length ≤ m) (h2 : ∀ c ∈ s, c = a ∨ c = b) : chkL m a b s = 0 := by
  unfold chkL
  rw [if_neg (by omega), if_pos (List.all_eq_true.2 fun c hc => by simpa using h2 c hc)]
theorem bitL_mem {b k : Nat} {c : UInt8} (hc : c ∈ foldsOf b k) : c = 111 ∨ c = 117 := by
  obtain ⟨i, _, rfl⟩ := List.mem_map.1 hc
  unfold bitL; split
  · exact .inr rfl
  · exact .inl rfl
theorem foldsOf_ok (b k : Nat) (hk : k ≤ 6) : chkF (foldsOf b k) = 0 := chkL_all2 (by rw [foldsOf_len]; exact hk) (fun c hc => bitL_mem hc)
/-- one power of two as it stands in the walk -/
theorem shl_one (k N : Nat) (hN : 2 ^ k = N) (h64 : N ≤ 64) : wrap64 ((2 : Int) ^ k) = (N : Int) := by
  rw [show ((2 : Int) ^ k) = (((2 : Nat) ^ k : Nat) : Int) by push_cast; rfl, hN]
  simp only [wrap64]; omega
theorem pow_le64 (k : Nat) (hk : k ≤ 6) : 1 ≤ 2 ^ k ∧ 2 ^ k ≤ 64 := ⟨Nat.one_le_two_pow, Nat.le_trans (Nat.pow_le_pow_right (by omega) hk) (by decide)⟩
theorem byte_at (cs : List UInt8) (k : Nat) (hk : k < cs.length) (hb : k < (⟨cs.toArray⟩ : ByteArray).size) : (⟨cs.toArray⟩ : ByteArray)[k] = cs.getD k 0 := by
  rw [getD_lt _ _ _ hk]
  show cs.toArray[k] = _
  rw [List.getElem_toArray]
theorem way_back (f : List Bool) (h : f.length ≤ 6) : waysOf (pileL f) = f.map wayOf := by
  have ht := folds_all way_k f h
  rw [pileL_C f h]; exact beq_iff_eq.1 ht
theorem foldsB_way (f : List Bool) : foldsB (f.map wayOf) = f := by
  unfold foldsB
  rw [List.map_map]
  induction f with
  | nil => rfl
  | cons o f ih => rw [List.map_cons, ih]; cases o <;> rfl
/-- piles tell their folds -/
theorem pile_inj (f g : List Bool) (hf : f.length ≤ 6) (hg : g.length ≤ 6) (h : pileL f = pileL g) : f = g := by
  have h1 := way_back f hf
  rw [h, way_back g hg] at h1
  rw [← foldsB_way f, ← foldsB_way g, h1]
theorem ones_pow : ∀ k, k ≤ 6 → onesN (2 ^ k) = 1 := by decide
end Go.Proofs.YtbkmicimpgabgaaDoor
