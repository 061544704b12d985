/-
  Folds by numbers have no error; a pile tells its folds.
-/
import Derived.Test.YtbkmicimpgabgaaDoorFoldHa
import Derived.Test.YtbkmicimpgabgaaDoorFactT
import Derived.Test.YtbkmicimpgabgaaDoorFactQ
import Derived.Test.YtbkmicimpgabgaaDoorFolded
set_option linter.unusedSimpArgs false
set_option linter.unusedVariables false
namespace Go.Proofs.YtbkmicimpgabgaaDoor
open Go.RowKit Go.Lib Go.Proofs.Quire

theorem chkL_all2 {m : Nat} {a b : UInt8} {s : List UInt8} (h1 : s.length ≤ m) (h2 : ∀ c ∈ s, c = a ∨ c = b) : chkL m a b s = 0 := by
  unfold chkL
  rw [if_neg (by omega), if_pos (List.all_eq_true.2 fun c hc => by simpa using h2 c hc)]
theorem bitL_mem {b k : Nat} {c : UInt8} (hc : c ∈ foldsOf b k) : c = 111 ∨ c = 117 := by
  obtain ⟨i, _, rfl⟩ := List.mem_map.1 hc
  unfold bitL; split
  · exact .inr rfl
  · exact .inl rfl
theorem foldsOf_ok (b k : Nat) (hk : k ≤ 6) : chkF (foldsOf b k) = 0 := chkL_all2 (by rw [foldsOf_len]; exact hk) (fun c hc => bitL_mem hc)
/-- one power of two as it stands in the walk -/
theorem shl_one (k N : Nat) (hN : 2 ^ k = N) (h64 : N ≤ 64) : wrap64 ((2 : Int) ^ k) = (N : Int) := by
  rw [show ((2 : Int) ^ k) = (((2 : Nat) ^ k : Nat) : Int) by push_cast; rfl, hN]
  simp only [wrap64]; omega
theorem pow_le64 (k : Nat) (hk : k ≤ 6) : 1 ≤ 2 ^ k ∧ 2 ^ k ≤ 64 := ⟨Nat.one_le_two_pow, Nat.le_trans (Nat.pow_le_pow_right (by omega) hk) (by decide)⟩
theorem byte_at (cs : List UInt8) (k : Nat) (hk : k < cs.length) (hb : k < (⟨cs.toArray⟩ : ByteArray).size) : (⟨cs.toArray⟩ : ByteArray)[k] = cs.getD k 0 := by
  rw [getD_lt _ _ _ hk]
  show cs.toArray[k] = _
  rw [List.getElem_toArray]
theorem way_back (f : List Bool) (h : f.length ≤ 6) : waysOf (pileL f) = f.map wayOf := by
  have ht := folds_all way_k f h
  rw [pileL_C f h]; exact beq_iff_eq.1 ht
theorem foldsB_way (f : List Bool) : foldsB (f.map wayOf) = f := by
  unfold foldsB
  rw [List.map_map]
  induction f with
  | nil => rfl
  | cons o f ih => rw [List.map_cons, ih]; cases o <;> rfl
/-- piles tell their folds -/
theorem pile_inj (f g : List Bool) (hf : f.length ≤ 6) (hg : g.length ≤ 6) (h : pileL f = pileL g) : f = g := by
  have h1 := way_back f hf
  rw [h, way_back g hg] at h1
  rw [← foldsB_way f, ← foldsB_way g, h1]
theorem ones_pow : ∀ k, k ≤ 6 → onesN (2 ^ k) = 1 := by decide
theorem twE_nodup (n : Nat) : ∀ (xs : List Nat) (seen : List Bool), seen.length = n → xs.Nodup → (∀ x ∈ xs, x < n ∧ seen.getD x false = false) → twE n seen (xs.map fun x : Nat => (x : Int)) = 0
  | [], _, _, _, _ => rfl
  | x :: xs, seen, hs, hn, hx => by
    obtain ⟨h1, h2⟩ := hx x (List.mem_cons_self ..)
    rw [List.map_cons, twE, if_neg (by omega), Int.toNat_natCast, if_neg (by rw [h2]; decide)]
    rw [List.nodup_cons] at hn
    refine twE_nodup n xs _ (by rw [List.length_set]; exact hs) hn.2 (fun y hy => ?_)
    obtain ⟨h3, h4⟩ := hx y (List.mem_cons_of_mem _ hy)
    refine ⟨h3, ?_⟩
    have hne : x ≠ y := fun e => hn.1 (by rw [e]; exact hy)
    rw [List.getD_eq_getElem?_getD, List.getElem?_set_ne hne, ← List.getD_eq_getElem?_getD]; exact h4
theorem fold_back (f : List Bool) (h : f.length ≤ 6) : foldedP ((pileL f).map fun x : Nat => (x : Int)) = (f.map wayOf, 0) := by
  obtain ⟨p1, p2, p3, _⟩ := perm_of f h
  rw [← pileL_C f h] at p1 p2 p3
  have hz : pileE ((pileL f).map fun x : Nat => (x : Int)) = 0 := by
    have h64 := (pow_le64 f.length h).2
    unfold pileE
    rw [List.length_map, p1, if_neg (by omega), if_pos (ones_pow f.length h)]
    refine twE_nodup (2 ^ f.length) (pileL f) _ (by simp) p3 (fun x hx => ⟨p2 x hx, ?_⟩)
    rw [List.getD_eq_getElem?_getD, List.getElem?_replicate]; split <;> rfl
  have hm : ((pileL f).map fun x : Nat => (x : Int)).map Int.toNat = pileL f := by
    rw [List.map_map]
    conv => rhs; rw [← List.map_id (pileL f)]
    exact List.map_congr_left fun a _ => by simp
  unfold foldedP
  rw [if_pos hz, hm, way_back f h, foldsB_way, if_pos rfl]
end Go.Proofs.YtbkmicimpgabgaaDoor
namespace Go.Proofs.Quire
theorem foldsB_back (l : List UInt8) (h : ∀ c ∈ l, c = 111 ∨ c = 117) : (foldsB l).map wayOf = l := by
  unfold foldsB
  rw [List.map_map]
  conv => rhs; rw [← List.map_id l]
  refine List.map_congr_left fun c hc => ?_
  rcases h c hc with rfl | rfl <;> rfl
end Go.Proofs.Quire
