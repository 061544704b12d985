/-
  Memory of a call's own: blocks that are known cell by cell (Arr), rows that are read (Rd), and what a step keeps (Keep).
-/
import Derived.Test.YtbkmicimpgabgaaDoorProg
import Derived.WalkKit
import Derived.WalkSpells
import Derived.WalkLawsBesides
import Derived.Deep.QuietTactic
import Derived.BigQuiet
import Derived.Lib.Hide
import Derived.RowKit
import Derived.Laws.Rows
import Derived.Laws.StructEq
import Derived.KernelRfl
import Derived.RegionTactic
import Derived.ChangeAlike
import Derived.Laws.AppendOwnNone
set_option linter.unusedSimpArgs false
set_option linter.unusedVariables false
namespace Go.Proofs.YtbkmicimpgabgaaDoor
open Go.RowKit Go.Lib

theorem ret_bool {a b : Bool} (h : a = b) : Ending.returned (.bool a) = .returned (.bool b) := by rw [h]
theorem ret_int {k : IntKind} {a b : Int} (h : a = b) : Ending.returned (.int k a) = .returned (.int k b) := by rw [h]

/-- nothing but the blocks X has turned of what was there -/
structure Keep (X : List Nat) (w w' : World) : Prop where
  os : w'.os = w.os
  tape : w'.tape = w.tape
  output : w'.output = w.output
  size : w.heap.size ≤ w'.heap.size
  block : ∀ k, k < w.heap.size → k ∉ X → w'.heap[k]? = w.heap[k]?
theorem Keep.refl (X : List Nat) (w : World) : Keep X w w := ⟨rfl, rfl, rfl, Nat.le_refl _, fun _ _ _ => rfl⟩
theorem Keep.trans {X : List Nat} {a b c : World} (h : Keep X a b) (k : Keep X b c) : Keep X a c :=
  ⟨k.os.trans h.os, k.tape.trans h.tape, k.output.trans h.output, Nat.le_trans h.size k.size, fun i hi hx => (k.block i (Nat.lt_of_lt_of_le hi h.size) hx).trans (h.block i hi hx)⟩
theorem Keep.mono {X Y : List Nat} {w w' : World} (h : Keep X w w') (hs : ∀ k, k ∈ X → k ∈ Y ∨ w.heap.size ≤ k) : Keep Y w w' :=
  ⟨h.os, h.tape, h.output, h.size, fun k hk hy => h.block k hk (fun hx => by rcases hs k hx with h1 | h1; exact hy h1; omega)⟩
theorem Keep.then {X Y : List Nat} {a b c : World} (h : Keep X a b) (k : Keep Y b c) (hs : ∀ i, i ∈ Y → i ∈ X ∨ a.heap.size ≤ i) : Keep X a c :=
  ⟨k.os.trans h.os, k.tape.trans h.tape, k.output.trans h.output, Nat.le_trans h.size k.size, fun i hi hx => (k.block i (Nat.lt_of_lt_of_le hi h.size) (fun hy => by rcases hs i hy with h1 | h1; exact hx h1; omega)).trans (h.block i hi hx)⟩
theorem Keep.of_below {X : List Nat} {w w' : World} (h : Below w.heap.size w w') : Keep X w w' := ⟨h.os, h.tape, h.output, h.size, fun k hk _ => h.block k hk⟩
theorem Keep.of_grown {X : List Nat} {w w' : World} {row : Option Nat} (h : w.grownBy w' row) (hr : ∀ k, row = some k → k ∈ X) : Keep X w w' :=
  ⟨h.os, h.tape, h.output, h.size, fun k hk hx => h.block k hk (fun e => hx (hr k e.symm))⟩
theorem Keep.below {X : List Nat} {B : Nat} {w w' : World} (h : Keep X w w') (hB : B ≤ w.heap.size) (hX : ∀ k, k ∈ X → B ≤ k) : Below B w w' :=
  ⟨h.os, h.tape, h.output, h.size, fun k hk => h.block k (by omega) (fun hx => by have := hX k hx; omega)⟩
theorem Keep.drewN {X : List Nat} {a w : World} (h : Keep X a w) (n : Nat) : Keep X a (w.drewN n) := ⟨h.os, h.tape, h.output, h.size, h.block⟩
theorem Keep.alloc {X : List Nat} {a w : World} (h : Keep X a w) (o : Obj) : Keep X a (w.alloc o) :=
  h.trans ⟨rfl, rfl, rfl, by simp, fun k hk _ => Below.heap_alloc _ _ _ hk⟩
theorem Keep.setCell {X : List Nat} {a w : World} (h : Keep X a w) {p : Addr} (hp : p.block ∈ X ∨ a.heap.size ≤ p.block) (u : Value) : Keep X a (w.setCell p u) :=
  ⟨h.os, h.tape, h.output, by simpa [World.setCell] using h.size, fun k hk hx => (Below.heap_setCell _ _ _ _ (fun e => by rcases hp with h1 | h1; exact hx (e ▸ h1); omega)).trans (h.block k hk hx)⟩
theorem Keep.cell {X : List Nat} {w w' : World} (h : Keep X w w') {p : Addr} (hp : p.block < w.heap.size) (hx : p.block ∉ X) : w'.cell? p = w.cell? p := World.cell?_of_block (w := w) (h.block p.block hp hx)
theorem Keep.frozen {X : List Nat} {w w' : World} (h : Keep X w w') {p : Addr} (hp : p.block < w.heap.size) (hx : p.block ∉ X) : w'.frozen? p = w.frozen? p := World.frozen?_of_block (w := w) (h.block p.block hp hx)

/-- a block whose first cells are known, and can be written -/
def Arr (w : World) (g : Nat) (xs : List Value) : Prop :=
  g < w.heap.size ∧ ∀ j, j < xs.length → w.cell? ⟨g, j, none⟩ = some (xs.getD j (.bool false)) ∧ w.frozen? ⟨g, j, none⟩ = false
theorem Arr.keep {X : List Nat} {w w' : World} {g : Nat} {xs : List Value} (h : Arr w g xs) (hk : Keep X w w') (hx : g ∉ X) : Arr w' g xs :=
  ⟨Nat.lt_of_lt_of_le h.1 hk.size, fun j hj => ⟨(hk.cell (p := ⟨g, j, none⟩) h.1 hx).trans (h.2 j hj).1, (hk.frozen (p := ⟨g, j, none⟩) h.1 hx).trans (h.2 j hj).2⟩⟩
theorem Arr.below {w w' : World} {g : Nat} {xs : List Value} (h : Arr w g xs) (hb : Below w.heap.size w w') : Arr w' g xs := h.keep (X := []) (.of_below hb) (by simp)
theorem Arr.drewN {w : World} {g : Nat} {xs : List Value} (h : Arr w g xs) (n : Nat) : Arr (w.drewN n) g xs := h
theorem Arr.set {w : World} {g : Nat} {xs : List Value} (h : Arr w g xs) (j : Nat) (hj : j < xs.length) (v : Value) : Arr (w.setCell ⟨g, j, none⟩ v) g (xs.set j v) := by
  refine ⟨by simpa [World.setCell] using h.1, fun i hi => ?_⟩
  rw [List.length_set] at hi
  refine ⟨?_, by rw [World.frozen?_setCell]; exact (h.2 i hi).2⟩
  by_cases e : i = j
  · subst e
    rw [World.cell?_setCell_same _ _ _ (h.2 i hi).1, List.getD_eq_getElem?_getD, List.getElem?_set_self hi]; rfl
  · rw [World.cell?_setCell_other _ _ _ _ (by intro e'; injection e' with _ e' _; exact e e'.symm), (h.2 i hi).1, List.getD_eq_getElem?_getD, List.getD_eq_getElem?_getD, List.getElem?_set_ne (fun e' => e e'.symm)]
theorem Arr.other {w : World} {g : Nat} {xs : List Value} (h : Arr w g xs) {p : Addr} (hp : p.block ≠ g) (v : Value) : Arr (w.setCell p v) g xs :=
  ⟨by simpa [World.setCell] using h.1, fun i hi => ⟨by rw [World.cell?_setCell_other _ _ _ _ (by rintro rfl; exact hp rfl)]; exact (h.2 i hi).1, by rw [World.frozen?_setCell]; exact (h.2 i hi).2⟩⟩
theorem Arr.new (w : World) (xs : List Value) (e : TypeId) : Arr (w.alloc (.cells xs.toArray e)) w.heap.size xs := by
  refine ⟨by simp, fun j hj => ⟨?_, by simp⟩⟩
  rw [World.cell?_alloc_new]
  rw [List.getElem?_toArray, List.getD_eq_getElem?_getD, List.getElem?_eq_getElem hj]; rfl
theorem Arr.alloc {w : World} {g : Nat} {xs : List Value} (h : Arr w g xs) (o : Obj) : Arr (w.alloc o) g xs := h.keep (X := []) ((Keep.refl _ _).alloc o) (by simp)

/-- a row that is read: n elements of one cell each, not in the blocks X -/
def RdX (w : World) (X : List Nat) (A : Option Addr) (n : Nat) (xs : List Value) : Prop :=
  xs.length = n ∧ (0 < n → ∃ g o, A = some ⟨g, o, none⟩ ∧ g < w.heap.size ∧ g ∉ X ∧ ∀ j, j < n → w.cell? ⟨g, o + j, none⟩ = some (xs.getD j (.bool false)))
abbrev Rd (w : World) (A : Option Addr) (n : Nat) (xs : List Value) : Prop := RdX w [] A n xs
theorem RdX.keep {X Y : List Nat} {w w' : World} {A : Option Addr} {n : Nat} {xs : List Value} (h : RdX w X A n xs) (hk : Keep Y w w') (hs : ∀ k, k ∈ Y → k ∈ X) : RdX w' X A n xs :=
  ⟨h.1, fun hn => by
    obtain ⟨g, o, hA, hg, hx, hc⟩ := h.2 hn
    exact ⟨g, o, hA, Nat.lt_of_lt_of_le hg hk.size, hx, fun j hj => (hk.cell (p := ⟨g, o + j, none⟩) hg (fun e => hx (hs _ e))).trans (hc j hj)⟩⟩
theorem RdX.below {X : List Nat} {w w' : World} {A : Option Addr} {n : Nat} {xs : List Value} (h : RdX w X A n xs) (hb : Below w.heap.size w w') : RdX w' X A n xs := h.keep (Y := []) (.of_below hb) (by simp)
theorem RdX.drewN {X : List Nat} {w : World} {A : Option Addr} {n : Nat} {xs : List Value} (h : RdX w X A n xs) (k : Nat) : RdX (w.drewN k) X A n xs := h
theorem RdX.mono {X Y : List Nat} {w : World} {A : Option Addr} {n : Nat} {xs : List Value} (h : RdX w X A n xs) (hs : ∀ k, k ∈ Y → k ∈ X) : RdX w Y A n xs :=
  ⟨h.1, fun hn => by obtain ⟨g, o, hA, hg, hx, hc⟩ := h.2 hn; exact ⟨g, o, hA, hg, fun e => hx (hs _ e), hc⟩⟩
/-- with blocks that are not there yet -/
theorem RdX.more {X Y : List Nat} {w : World} {A : Option Addr} {n : Nat} {xs : List Value} (h : RdX w X A n xs) (hs : ∀ k, k ∈ Y → k ∈ X ∨ w.heap.size ≤ k) : RdX w Y A n xs :=
  ⟨h.1, fun hn => by
    obtain ⟨g, o, hA, hg, hx, hc⟩ := h.2 hn
    refine ⟨g, o, hA, hg, fun e => ?_, hc⟩
    rcases hs _ e with h1 | h1
    · exact hx h1
    · omega⟩
theorem Arr.rd {w : World} {g : Nat} {xs : List Value} (h : Arr w g xs) {X : List Nat} (hx : g ∉ X) : RdX w X (some ⟨g, 0, none⟩) xs.length xs :=
  ⟨rfl, fun _ => ⟨g, 0, rfl, h.1, hx, fun j hj => by rw [Nat.zero_add]; exact (h.2 j hj).1⟩⟩
theorem rd_nil (w : World) (X : List Nat) (A : Option Addr) : RdX w X A 0 [] := ⟨rfl, fun h => absurd h (by omega)⟩

theorem getD_lt {α : Type} (l : List α) (k : Nat) (d : α) (h : k < l.length) : l.getD k d = l[k] := by rw [List.getD_eq_getElem?_getD, List.getElem?_eq_getElem h]; rfl
theorem drop_cons {α : Type} (l : List α) (k : Nat) (d : α) (h : k < l.length) : l.drop k = l.getD k d :: l.drop (k + 1) := by rw [List.drop_eq_getElem_cons h, getD_lt _ _ _ h]
theorem take_succ {α : Type} (l : List α) (k : Nat) (d : α) (h : k < l.length) : l.take (k + 1) = l.take k ++ [l.getD k d] := by rw [List.take_succ_eq_append_getElem h, getD_lt _ _ _ h]
/-- numbers as values -/
def ints (l : List Nat) : List Value := l.map fun n : Nat => Value.int .i64 (n : Int)
@[simp] theorem ints_length (l : List Nat) : (ints l).length = l.length := by simp [ints]
theorem ints_getD (l : List Nat) (k : Nat) (h : k < l.length) (d : Value) : (ints l).getD k d = .int .i64 ((l.getD k 0 : Nat) : Int) := by
  rw [getD_lt _ _ _ (by simpa using h), getD_lt _ _ _ h]; simp [ints]
theorem ints_set (l : List Nat) (k n : Nat) : (ints l).set k (.int .i64 (n : Int)) = ints (l.set k n) := by simp [ints]
def bools (l : List Bool) : List Value := l.map Value.bool
@[simp] theorem bools_length (l : List Bool) : (bools l).length = l.length := by simp [bools]
theorem bools_getD (l : List Bool) (k : Nat) (h : k < l.length) (d : Value) : (bools l).getD k d = .bool (l.getD k false) := by
  rw [getD_lt _ _ _ (by simpa using h), getD_lt _ _ _ h]; simp [bools]
theorem bools_set (l : List Bool) (k : Nat) (b : Bool) : (bools l).set k (.bool b) = bools (l.set k b) := by simp [bools]
def u8s (l : List Nat) : List Value := l.map fun n : Nat => Value.int .u8 (n : Int)
@[simp] theorem u8s_length (l : List Nat) : (u8s l).length = l.length := by simp [u8s]
theorem u8s_getD (l : List Nat) (k : Nat) (h : k < l.length) (d : Value) : (u8s l).getD k d = .int .u8 ((l.getD k 0 : Nat) : Int) := by
  rw [getD_lt _ _ _ (by simpa using h), getD_lt _ _ _ h]; simp [u8s]
theorem u8s_set (l : List Nat) (k n : Nat) : (u8s l).set k (.int .u8 (n : Int)) = u8s (l.set k n) := by simp [u8s]
end Go.Proofs.YtbkmicimpgabgaaDoor
