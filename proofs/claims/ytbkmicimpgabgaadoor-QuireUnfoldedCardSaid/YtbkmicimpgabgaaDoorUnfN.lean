/-
  Rows of columns for QuireUnfolded: one more behind a row and whose block it has, a row turned round, a row behind a row.
-/
import Derived.Test.YtbkmicimpgabgaaDoorFold
import Derived.Test.YtbkmicimpgabgaaDoorShelfV
import Derived.Test.YtbkmicimpgabgaaDoorCloneH
set_option linter.unusedSimpArgs false
set_option linter.unusedVariables false
namespace Go.Proofs.YtbkmicimpgabgaaDoor
open Go.RowKit Go.Lib Go.Proofs.Quire Go.Sort

def encS (p : Option Addr × Nat × Nat) : Value := .slice p.1 p.2.1 p.2.2
def unS : Value → Option Addr × Nat × Nat
  | .slice A n c => (A, n, c)
  | _ => (none, 0, 0)
theorem EachN.encs {w : World} {X : List Nat} {xs : List Value} {cols : List (List Nat)} (h : EachN w X xs cols) : xs = (xs.map unS).map encS := by
  rw [List.map_map]
  refine (List.map_id' xs).symm.trans (List.map_congr_left (fun v hv => ?_))
  obtain ⟨j, hj, rfl⟩ := List.mem_iff_getElem.1 hv
  obtain ⟨A, c, h1, _⟩ := h.2 j (by rw [← h.1]; exact hj)
  rw [List.getElem?_eq_getElem hj] at h1
  injection h1 with h1
  rw [h1]; rfl
theorem EachN.reverse {w : World} {X : List Nat} {xs : List Value} {cols : List (List Nat)} (h : EachN w X xs cols) : EachN w X xs.reverse cols.reverse := by
  refine ⟨by simp [h.1], fun j hj => ?_⟩
  rw [List.length_reverse] at hj
  obtain ⟨A, c, h1, h2⟩ := h.2 (cols.length - 1 - j) (by omega)
  have e : cols.reverse.getD j [] = cols.getD (cols.length - 1 - j) [] := by
    rw [List.getD_eq_getElem?_getD, List.getElem?_reverse hj, ← List.getD_eq_getElem?_getD]
  rw [e]
  exact ⟨A, c, by rw [List.getElem?_reverse (by rw [h.1]; exact hj), h.1]; exact h1, h2⟩
theorem EachN.append {w : World} {X : List Nat} {xs ys : List Value} {cols dols : List (List Nat)} (h : EachN w X xs cols) (h' : EachN w X ys dols) : EachN w X (xs ++ ys) (cols ++ dols) := by
  refine ⟨by simp [h.1, h'.1], fun j hj => ?_⟩
  rw [List.length_append] at hj
  by_cases hlt : j < cols.length
  · obtain ⟨A, c, h1, h2⟩ := h.2 j hlt
    have e : (cols ++ dols).getD j [] = cols.getD j [] := by rw [List.getD_eq_getElem?_getD, List.getElem?_append_left hlt, ← List.getD_eq_getElem?_getD]
    rw [e]
    exact ⟨A, c, by rw [List.getElem?_append_left (by rw [h.1]; exact hlt)]; exact h1, h2⟩
  · obtain ⟨A, c, h1, h2⟩ := h'.2 (j - cols.length) (by omega)
    have e : (cols ++ dols).getD j [] = dols.getD (j - cols.length) [] := by rw [List.getD_eq_getElem?_getD, List.getElem?_append_right (by omega), ← List.getD_eq_getElem?_getD]
    rw [e]
    exact ⟨A, c, by rw [List.getElem?_append_right (by rw [h.1]; omega), h.1]; exact h1, h2⟩
def RevRPost (g : Nat) (xs : List Value) (w : World) (e : Ending) (w' : World) : Prop := e = .returned (.tuple #[]) ∧ Arr w' g xs ∧ Keep [g] w w'
/-- a row of rows is turned round -/
theorem reverseR_any (g c : Nat) (zs : List (Option Addr × Nat × Nat)) (w : World) (h : Arr w g (zs.map encS)) (hn : zs.length ≤ 1000) :
    Calls Tryd.prog 30 #[.slice (some ⟨g, 0, none⟩) zs.length c] w (RevRPost g (zs.map encS).reverse w) := by
  have hH : Holds encS w g 0 zs.toArray := fun j hj => by
    have hj' : j < zs.length := by simpa using hj
    obtain ⟨h1, h2⟩ := h.2 j (by simpa using hj')
    refine ⟨?_, ?_⟩
    · rw [Nat.zero_add, h1, getElem!_pos zs.toArray j hj, getD_lt _ _ _ (by simpa using hj')]; simp
    · rw [Nat.zero_add]; exact h2
  have hR := AnyE.slices_Reverse Tryd.revR encS (fun _ => rfl) g 0 c zs w hH (by omega)
  change Calls Tryd.prog 30 _ _ _ at hR
  refine hR.mono ?_
  rintro e w2 ⟨rfl, n, hw2⟩
  have hk : Keep [g] w w2 := by
    rw [hw2]
    refine Keep.of_grown (X := [g]) (row := some g) ⟨rfl, rfl, rfl, by simp, fun k hk hne => ?_⟩ (fun k e => by cases e; simp)
    have : g ≠ k := fun e => hne (by rw [e])
    simp [putRow, mapBlock, Sort.ahead, Array.getElem?_modify, this]
  refine ⟨rfl, ⟨Nat.lt_of_lt_of_le h.1 hk.size, fun j hj => ?_⟩, hk⟩
  have hj' : j < zs.length := by simpa using hj
  have hr : j < zs.reverse.length := by simpa using hj'
  have hc := cell?_putRow encS (Sort.ahead w n) g 0 zs.toArray zs.reverse.toArray hH (by simp) j (by simpa using hj')
  rw [Nat.zero_add, ← hw2, getElem!_pos zs.reverse.toArray j (by simpa using hj')] at hc
  refine ⟨by rw [hc, ← List.map_reverse, getD_lt _ _ _ (by simpa using hj')]; simp, ?_⟩
  have hf := (h.2 j (by simpa using hj')).2
  rw [hw2]
  rw [frozen?_putRow]; exact hf
/-- a row of columns, and one more behind it; the block that it has is its own or a new one -/
theorem append_col2 {ops : Array Oper} {rest : List Oper} {o : Oper} {a : Act} {Q : Exit → Act → World → Prop} (w0 : World) (hgd : o.guard = none) (s x : Operand)
    (ho : o.op = .call { callee := .builtin .append, args := #[s, x], argTypes := #[41, 41] })
    (B n : Nat) (v : Value) (X : List Nat) (xs : List Value) (acc : List (List Nat)) (l : List Nat) (Al : Option Addr) (cl : Nat) (hs : a.eval s = v)
    (hown : w0.ownsRow B 23 1 v n xs) (heach : EachN w0 (ownL v ++ X) xs acc) (hl : RdW w0 (ownL v ++ X) Al l.length (ints l)) (hcap : l.length ≤ cl) (g : Nat) (hgz : w0.heap.size = g) (hx : a.eval x = .slice (some ⟨g, 0, none⟩) 1 1) (hn : n ≤ 1000) (hB : B ≤ w0.heap.size)
    (h : ∀ A c xs' w', w'.ownsRow B 23 1 (.slice A (n + 1) c) (n + 1) xs' → EachN w' (ownL (.slice A (n + 1) c) ++ X) xs' (acc ++ [l]) → Keep (ownL v) w0 w' → (∀ k, k ∈ ownL (.slice A (n + 1) c) → k ∈ ownL v ∨ w0.heap.size < k) → wpList Tryd.prog ops Q rest (a.put o.dst (.slice A (n + 1) c)) w') :
    wpList Tryd.prog ops Q (o :: rest) a (w0.alloc (.cells #[.slice Al l.length cl] 23)) := by
  subst hgz
  obtain ⟨i0, hi, hz0, hz1, hz2⟩ := info_parts Tryd.infoR
  have hk0 : Keep [] w0 (w0.alloc (.cells #[.slice Al l.length cl] 23)) := (Keep.refl _ _).alloc _
  have hsz : (w0.alloc (.cells #[.slice Al l.length cl] 23)).heap.size = w0.heap.size + 1 := by simp
  refine wpList_append_own_at _ hgd s x 41 ho B 23 i0 (.slice none 0 0) 1 24 Tryd.underlying41 hi hz0 hz1 hz2 rfl (by decide) v n _ hs (hown.alloc _) ⟨w0.heap.size, 0, none⟩ 1 1 [.slice Al l.length cl] hx rfl (cell_one_new _ _ _) (fun u hu => by rw [List.mem_singleton.1 hu]; rfl) (by unfold maxLen; omega) (by omega) (by rw [hsz]; omega) ?_
  intro v' w' h1 h2 _ h4
  obtain ⟨A, c, rfl⟩ := ownsRow_shape h1
  have hK : Keep (ownL v) (w0.alloc (.cells #[.slice Al l.length cl] 23)) w' := Keep.of_grown h2 (fun k e => by unfold ownL; rw [e]; simp)
  have hm0 : ∀ k, k ∈ ownL (Value.slice A (n + 1) c) → k ∈ ownL v ∨ w0.heap.size < k := fun k hk => by
    have e := mem_ownL hk
    rcases h4 with h4 | h4
    · left; unfold ownL; rw [← h4, e]; simp
    · right; rw [e] at h4; injection h4 with h4; omega
  have hm : ∀ k, k ∈ ownL v ++ (ownL (Value.slice A (n + 1) c) ++ X) → k ∈ ownL v ++ X ∨ (w0.alloc (.cells #[.slice Al l.length cl] 23)).heap.size ≤ k := fun k hk => by
    rcases List.mem_append.1 hk with hk | hk
    · exact .inl (List.mem_append_left _ hk)
    · rcases List.mem_append.1 hk with hk | hk
      · rcases hm0 k hk with h5 | h5
        · exact .inl (List.mem_append_left _ h5)
        · exact .inr (by omega)
      · exact .inl (List.mem_append_right _ hk)
  have he2 := (heach.keep (Y := []) hk0 (by simp)).snoc (c := cl) (hl.keep (Y := []) hk0 (by simp)) hcap
  have he3 := (he2.more hm).keep hK (fun k hk => List.mem_append_left _ hk)
  exact h A c _ w' h1 (he3.more (fun k hk => .inl (List.mem_append_right _ hk))) ((Keep.mono hk0 (by simp)).trans hK) hm0
/-- the lower or the upper half of a column, read -/
theorem rd_drop {w : World} {g o n : Nat} {l : List Nat} (h : Rd w (some ⟨g, o, none⟩) n (ints l)) (k : Nat) (hk : k ≤ n) : Rd w (some ⟨g, o + k, none⟩) (n - k) (ints (l.drop k)) := by
  have hl : l.length = n := by have := h.1; simpa using this
  refine ⟨by simp [hl], fun h0 => ?_⟩
  obtain ⟨g', o', hA, hg, hx, hc⟩ := h.2 (by omega)
  simp only [Option.some.injEq, Addr.mk.injEq, and_true] at hA
  obtain ⟨rfl, rfl⟩ := hA
  refine ⟨g, o + k, rfl, hg, hx, fun j hj => ?_⟩
  rw [Nat.add_assoc, hc (k + j) (by omega), ints_getD _ _ (by omega), ints_getD _ _ (by rw [List.length_drop]; omega)]
  congr 2
  rw [List.getD_eq_getElem?_getD, List.getD_eq_getElem?_getD, List.getElem?_drop]
theorem rd_take {w : World} {g o n : Nat} {l : List Nat} (h : Rd w (some ⟨g, o, none⟩) n (ints l)) (k : Nat) (hk : k ≤ n) : Rd w (some ⟨g, o, none⟩) k (ints (l.take k)) := by
  have hl : l.length = n := by have := h.1; simpa using this
  refine ⟨by simp; omega, fun h0 => ?_⟩
  obtain ⟨g', o', hA, hg, hx, hc⟩ := h.2 (by omega)
  refine ⟨g', o', hA, hg, hx, fun j hj => ?_⟩
  rw [hc j (by omega), ints_getD _ _ (by omega), ints_getD _ _ (by rw [List.length_take]; omega)]
  congr 2
  rw [List.getD_eq_getElem?_getD, List.getD_eq_getElem?_getD, List.getElem?_take, if_pos hj]
end Go.Proofs.YtbkmicimpgabgaaDoor
