/-
  A row of columns behind a row of columns; a grown row's own block.
-/
import Derived.Test.YtbkmicimpgabgaaDoorUnfM
set_option linter.unusedSimpArgs false
set_option linter.unusedVariables false
namespace Go.Proofs.YtbkmicimpgabgaaDoor
open Go.RowKit Go.Lib Go.Proofs.Quire

theorem own_arr {w : World} {B : Nat} {e : TypeId} {A : Option Addr} {n c : Nat} {xs : List Value} (h : w.ownsRow B e 1 (.slice A n c) n xs) (h0 : 0 < n) : ∃ g, A = some ⟨g, 0, none⟩ ∧ B ≤ g ∧ Arr w g xs := by
  have hl : xs.length = n := by have := h.1; omega
  rcases h.2 with ⟨_, rfl⟩ | ⟨g, cap, cur, hv, hg, hh, hnc, _, hcs, ht⟩
  · omega
  · injection hv with hA _ _
    refine ⟨g, hA, hg, (Array.getElem?_eq_some_iff.1 hh).1, fun j hj => ⟨?_, by simp [World.frozen?, hh]⟩⟩
    simp only [World.cell?, hh]
    have : cur[j]? = xs[j]? := by
      rw [← ht, List.getElem?_take, if_pos (by omega), Array.getElem?_toList]
    simp [this, List.getD_eq_getElem?_getD, List.getElem?_eq_getElem hj]
/-- a row of columns behind another -/
theorem append_cols {ops : Array Oper} {rest : List Oper} {o : Oper} {a : Act} {Q : Exit → Act → World → Prop} (w0 : World) (hgd : o.guard = none) (s x : Operand)
    (ho : o.op = .call { callee := .builtin .append, args := #[s, x], argTypes := #[41, 41] })
    (B n : Nat) (v : Value) (xs ys : List Value) (acc dols : List (List Nat)) (g m c2 : Nat) (hs : a.eval s = v) (hx : a.eval x = .slice (some ⟨g, 0, none⟩) m c2)
    (hown : w0.ownsRow B 23 1 v n xs) (heach : EachN w0 (ownL v) xs acc) (harr : Arr w0 g ys) (heach2 : EachN w0 (ownL v) ys dols) (hm : ys.length = m) (hn : acc.length = n) (hn1 : n ≤ 500) (hm1 : m ≤ 500) (hB : B ≤ w0.heap.size)
    (h : ∀ A c w', Cols w' [] A (acc ++ dols) → n + m ≤ c → Keep (ownL v) w0 w' → wpList Tryd.prog ops Q rest (a.put o.dst (.slice A (n + m) c)) w') :
    wpList Tryd.prog ops Q (o :: rest) a w0 := by
  obtain ⟨i0, hi, hz0, hz1, hz2⟩ := info_parts Tryd.infoR
  have hd : dols.length = m := by rw [← hm, heach2.1]
  refine wpList_append_own_at _ hgd s x 41 ho B 23 i0 (.slice none 0 0) 1 24 Tryd.underlying41 hi hz0 hz1 hz2 rfl (by decide) v n _ hs hown ⟨g, 0, none⟩ m c2 ys hx (by omega) (fun j u hj => ?_) (fun u hu => ?_) (by unfold maxLen; omega) (by omega) hB ?_
  · have hjl := (List.getElem?_eq_some_iff.1 hj).1
    have ea : (⟨g, 0, none⟩ : Addr).add j = ⟨g, j, none⟩ := by unfold Addr.add; split <;> simp_all
    rw [ea, (harr.2 j hjl).1, List.getD_eq_getElem?_getD, hj]; rfl
  · obtain ⟨j, hj, rfl⟩ := List.mem_iff_getElem.1 hu
    obtain ⟨A, c, h1, _⟩ := heach2.2 j (by rw [← heach2.1]; exact hj)
    rw [List.getElem?_eq_getElem hj] at h1
    have h1 := Option.some.inj h1
    rw [h1]; rfl
  · intro v' w' h1 h2 _ h4
    obtain ⟨A, c, rfl⟩ := ownsRow_shape h1
    have hK : Keep (ownL v) w0 w' := Keep.of_grown h2 (fun k e => by unfold ownL; rw [e]; simp)
    have he := (heach.append heach2).keep hK (fun k hk => hk)
    have hlen : (acc ++ dols).length = n + m := by rw [List.length_append, hn, hd]
    have hcap : n + m ≤ c := by
      rcases h1.2 with ⟨hv, hz⟩ | ⟨_, cap, _, hv, _, _, hcap, _⟩
      · injection hv with _ _ h; omega
      · injection hv with _ _ h; omega
    refine h A c w' ?_ hcap hK
    exact he.cols (X := []) (B := B) (c := c) (by rw [hlen]; exact h1) (by simp) (by simp)
/-- a row of columns, and one more behind it, its length by a name of its own -/
theorem append_col3 {ops : Array Oper} {rest : List Oper} {o : Oper} {a : Act} {Q : Exit → Act → World → Prop} (w0 : World) (hgd : o.guard = none) (s x : Operand)
    (ho : o.op = .call { callee := .builtin .append, args := #[s, x], argTypes := #[41, 41] })
    (B n : Nat) (v : Value) (X : List Nat) (xs : List Value) (acc : List (List Nat)) (l : List Nat) (Al : Option Addr) (nl cl : Nat) (hnl : l.length = nl) (hs : a.eval s = v)
    (hown : w0.ownsRow B 23 1 v n xs) (heach : EachN w0 (ownL v ++ X) xs acc) (hl : RdW w0 (ownL v ++ X) Al nl (ints l)) (hcap : nl ≤ cl) (g : Nat) (hgz : w0.heap.size = g) (hx : a.eval x = .slice (some ⟨g, 0, none⟩) 1 1) (hn : n ≤ 1000) (hB : B ≤ w0.heap.size)
    (h : ∀ A c xs' w', w'.ownsRow B 23 1 (.slice A (n + 1) c) (n + 1) xs' → EachN w' (ownL (.slice A (n + 1) c) ++ X) xs' (acc ++ [l]) → Keep (ownL v) w0 w' → (∀ k, k ∈ ownL (.slice A (n + 1) c) → k ∈ ownL v ∨ w0.heap.size < k) → wpList Tryd.prog ops Q rest (a.put o.dst (.slice A (n + 1) c)) w') :
    wpList Tryd.prog ops Q (o :: rest) a (w0.alloc (.cells #[.slice Al nl cl] 23)) := by
  subst hnl
  exact append_col2 w0 hgd s x ho B n v X xs acc l Al cl hs hown heach hl hcap g hgz hx hn hB h
theorem arr_rdw {w : World} {g n : Nat} {l : List Nat} (h : Arr w g (ints l)) (hl : l.length = n) {X : List Nat} (hX : g ∉ X) : RdW w X (some ⟨g, 0, none⟩) n (ints l) := by
  have := h.rdI (X := X) hX
  rw [hl] at this
  exact ⟨this, fun _ => ⟨g, rfl, h⟩⟩
end Go.Proofs.YtbkmicimpgabgaaDoor
