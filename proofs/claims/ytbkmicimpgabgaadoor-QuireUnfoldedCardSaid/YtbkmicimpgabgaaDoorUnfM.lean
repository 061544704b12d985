/-
  QuireUnfolded's columns: how many there are, how long they are, and what they come to.
-/
import Derived.Test.YtbkmicimpgabgaaDoorUnfN
import Derived.Test.YtbkmicimpgabgaaDoorFactT
import Derived.Test.YtbkmicimpgabgaaDoorFactQ
set_option linter.unusedSimpArgs false
set_option linter.unusedVariables false
namespace Go.Proofs.YtbkmicimpgabgaaDoor
open Go.Proofs.Quire

theorem unf_of (f : List Bool) (h : f.length ≤ 6) : unfL f.reverse [pileL f] = (List.range (2 ^ f.length)).map fun i => [i] := by
  have ht := folds_all unf_k f h
  rw [pileL_C f h]; exact beq_iff_eq.1 ht
theorem unfS_len (o : Bool) : ∀ (cs l r : List (List Nat)), (unfS o cs l r).1.length = l.length + cs.length ∧ (unfS o cs l r).2.length = r.length + cs.length
  | [], l, r => by simp [unfS]
  | c :: cs, l, r => by
    obtain ⟨h1, h2⟩ := unfS_len o cs (l ++ [lowO o c]) (r ++ [uppO o c])
    rw [unfS]; simp at h1 h2 ⊢; omega
theorem low_len (o : Bool) (c : List Nat) (h : Nat) (hc : c.length = 2 * h) : (lowO o c).length = h ∧ (uppO o c).length = h := by
  unfold lowO uppO; cases o <;> simp [hc] <;> omega
theorem unfS_col (o : Bool) (h : Nat) : ∀ (cs l r : List (List Nat)), (∀ c ∈ cs, c.length = 2 * h) → (∀ c ∈ l, c.length = h) → (∀ c ∈ r, c.length = h) →
    (∀ c ∈ (unfS o cs l r).1, c.length = h) ∧ (∀ c ∈ (unfS o cs l r).2, c.length = h)
  | [], l, r, _, hl, hr => ⟨hl, hr⟩
  | c :: cs, l, r, hc, hl, hr => by
    obtain ⟨h1, h2⟩ := low_len o c h (hc c (List.mem_cons_self ..))
    rw [unfS]
    refine unfS_col o h cs _ _ (fun d hd => hc d (List.mem_cons_of_mem _ hd)) (fun d hd => ?_) (fun d hd => ?_)
    · rcases List.mem_append.1 hd with hd | hd
      · exact hl d hd
      · rw [List.mem_singleton.1 hd]; exact h1
    · rcases List.mem_append.1 hd with hd | hd
      · exact hr d hd
      · rw [List.mem_singleton.1 hd]; exact h2
theorem unf1_shape (o : Bool) (cs : List (List Nat)) (h : Nat) (hc : ∀ c ∈ cs, c.length = 2 * h) : (unf1 o cs).length = 2 * cs.length ∧ ∀ c ∈ unf1 o cs, c.length = h := by
  obtain ⟨h1, h2⟩ := unfS_len o cs [] []
  obtain ⟨h3, h4⟩ := unfS_col o h cs [] [] hc (fun c hc => by simp at hc) (fun c hc => by simp at hc)
  unfold unf1
  refine ⟨by simp [h1, h2]; omega, fun c hc => ?_⟩
  rcases List.mem_append.1 hc with hc | hc
  · exact h3 c hc
  · exact h4 c (List.mem_reverse.1 hc)
theorem unfS_step (o : Bool) (cs l r : List (List Nat)) (i : Nat) (h : i < cs.length) :
    unfS o (cs.drop i) l r = unfS o (cs.drop (i + 1)) (l ++ [lowO o (cs.getD i [])]) (r ++ [uppO o (cs.getD i [])]) := by
  rw [drop_cons cs i [] h]; rfl
theorem unfL_take (F : List Bool) (j : Nat) (h : j < F.length) (cs : List (List Nat)) :
    unfL (F.take (j + 1)).reverse cs = unfL (F.take j).reverse (unf1 (F.getD j false) cs) := by
  have e : F.take (j + 1) = F.take j ++ [F.getD j false] := by
    rw [List.take_add_one, List.getD_eq_getElem?_getD, List.getElem?_eq_getElem h]; rfl
  rw [e, List.reverse_append]; rfl
end Go.Proofs.YtbkmicimpgabgaaDoor
