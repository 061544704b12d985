/-
  Rows of the call's own that grow, iterators, and what keeps them.
-/
import Derived.Test.YtbkmicimpgabgaaDoorBase
import Derived.Lib.OthersKept
import Derived.Maps.AppendAt
set_option linter.unusedSimpArgs false
set_option linter.unusedVariables false
namespace Go.Proofs.YtbkmicimpgabgaaDoor
open Go.RowKit Go.Lib

theorem info_parts {P : Program} {e : TypeId} {z : Value} {s b : Nat} (h : (P.info? e).map (fun i => (i.zero, i.size, i.bytes)) = some (some z, s, b)) : ∃ i : TypeInfo, P.info? e = some i ∧ i.zero = some z ∧ i.size = s ∧ i.bytes = b := by
  obtain ⟨i, hi, he⟩ := Option.map_eq_some_iff.1 h
  injection he with h1 h2; injection h2 with h2 h3
  exact ⟨i, hi, h1, h2, h3⟩
theorem grownBy_iterAt (w : World) (k : Nat) (s : ByteArray) (p : Nat) (row : Option Nat) (h : row = some k) : w.grownBy (w.iterAt k s p) row :=
  ⟨rfl, rfl, rfl, by simp [iterAt_size], fun j _ hj => iterAt_other w k j s p (fun e => hj (by rw [h, e]))⟩
theorem grown_below {w w' : World} (h : Below w.heap.size w w') (row : Option Nat) : w.grownBy w' row := ⟨h.os, h.tape, h.output, h.size, fun k hk _ => h.block k hk⟩
theorem Keep.grown {p : Nat} {w w' : World} (h : Keep [p] w w') : w.grownBy w' (some p) := ⟨h.os, h.tape, h.output, h.size, fun k hk hne => h.block k hk (by simpa using hne)⟩
theorem next_l {P : Program} (wr : World) (I : Nat) (a : List UInt8) (pos : Nat) (c : UInt8) (hit : wr.heap[I]? = some (.stringIter ⟨a.toArray⟩ pos)) (hc : a[pos]? = some c) (h128 : c.toNat < 128) (ty : TypeId) :
    (Instr.next (.pointer (some ⟨I, 0, none⟩)) true ty).run P wr = .ok (.tuple #[.bool true, .int .i64 pos, .int .i32 c.toNat]) (wr.iterAt I ⟨a.toArray⟩ (pos + 1)) := by
  obtain ⟨hp, rfl⟩ := List.getElem?_eq_some_iff.1 hc
  exact run_next_ascii_at wr I ⟨a.toArray⟩ pos ty hit (by simpa [ByteArray.size] using hp) h128
theorem next_l_end {P : Program} (wr : World) (I : Nat) (a : List UInt8) (pos : Nat) (hit : wr.heap[I]? = some (.stringIter ⟨a.toArray⟩ pos)) (hp : ¬ pos < a.length) (ty : TypeId) :
    (Instr.next (.pointer (some ⟨I, 0, none⟩)) true ty).run P wr = .ok (.tuple #[.bool false]) wr :=
  run_next_end_at wr I ⟨a.toArray⟩ pos ty hit (by simpa [ByteArray.size] using hp)
section
variable {w : World} {base : Nat} {e : TypeId} {size n : Nat} {v : Value} {xs : List Value}
theorem ownsRow_shape (h : w.ownsRow base e size v n xs) : ∃ A c, v = .slice A n c := by
  rcases h.2 with ⟨rfl, rfl⟩ | ⟨g, cap, cur, rfl, _⟩
  · exact ⟨none, 0, rfl⟩
  · exact ⟨_, _, rfl⟩
theorem own_cells (h : w.ownsRow base e size v n xs) {k : Nat} (hk : v.ownBlock = some k) : ∃ cur, w.heap[k]? = some (.cells cur e (0, 0)) := by
  rcases h.2 with ⟨rfl, rfl⟩ | ⟨g, cap, cur, rfl, _, hh, _⟩
  · simp [Value.ownBlock] at hk
  · have : g = k := by simpa [Value.ownBlock] using hk
    subst this
    exact ⟨cur, hh⟩
theorem ownsRow_ne_it (h : w.ownsRow base e size v n xs) {I : Nat} {s : ByteArray} {p : Nat} (hit : w.heap[I]? = some (.stringIter s p)) : v.ownBlock ≠ some I := fun e => by
  obtain ⟨cur, hc⟩ := own_cells h e
  rw [hit] at hc; cases hc
theorem ownsRow_it (h : w.ownsRow base e size v n xs) {I : Nat} {s : ByteArray} {p : Nat} (hit : w.heap[I]? = some (.stringIter s p)) (p' : Nat) : (w.iterAt I s p').ownsRow base e size v n xs :=
  h.kept (grownBy_iterAt w I s p' (some I) rfl) (.inr (ownsRow_ne_it h hit))
theorem it_grown {w' : World} (h : w.ownsRow base e size v n xs) {I : Nat} {s : ByteArray} {p : Nat} (hit : w.heap[I]? = some (.stringIter s p)) (hg : w.grownBy w' v.ownBlock) : w'.heap[I]? = some (.stringIter s p) :=
  (hg.block I (Array.getElem?_eq_some_iff.1 hit).1 (fun e => ownsRow_ne_it h hit e.symm)).trans hit
theorem below_own {w0 w' : World} (h : w.ownsRow base e size v n xs) {B : Nat} (hb : Below B w0 w) (hB : B ≤ base) (hBw : B ≤ w.heap.size) (hg : w.grownBy w' v.ownBlock) : Below B w0 w' :=
  hb.grown hg hBw (fun k e => by have := (h.lt k e).1; omega)
theorem own_below {w' : World} (h : w.ownsRow base e size v n xs) (hb : Below w.heap.size w w') : w'.ownsRow base e size v n xs :=
  h.kept (grown_below hb none) (by cases hv : v.ownBlock <;> simp)
theorem own_keep {w' : World} {X : List Nat} (h : w.ownsRow base e size v n xs) (hk : Keep X w w') (hX : ∀ k, v.ownBlock = some k → k ∉ X) : w'.ownsRow base e size v n xs := by
  rcases h.2 with ⟨rfl, rfl⟩ | ⟨g, cap, cur, rfl, hg, hh, hr⟩
  · exact ⟨h.1, .inl ⟨rfl, rfl⟩⟩
  · exact ⟨h.1, .inr ⟨g, cap, cur, rfl, hg, (hk.block g (Array.getElem?_eq_some_iff.1 hh).1 (hX g rfl)).trans hh, hr⟩⟩
end
/-- the cells of an owned row read as they lie -/
theorem own_rd {w : World} {base : Nat} {e : TypeId} {A : Option Addr} {n c : Nat} {xs : List Value} (h : w.ownsRow base e 1 (.slice A n c) n xs) {X : List Nat} (hX : ∀ k, k ∈ X → k < base) : RdX w X A n xs := by
  have hl : xs.length = n := by have := h.1; omega
  refine ⟨hl, fun hn => ?_⟩
  rcases h.2 with ⟨_, rfl⟩ | ⟨g, cap, cur, hv, hg, hh, hnc, _, hcs, ht⟩
  · omega
  · injection hv with hA _ _
    refine ⟨g, 0, hA, (Array.getElem?_eq_some_iff.1 hh).1, fun hx => by have := hX g hx; omega, fun j hj => ?_⟩
    have hjc : j < cur.size := by omega
    rw [Nat.zero_add]
    simp only [World.cell?, hh]
    have : cur[j]? = xs[j]? := by
      rw [← ht, List.getElem?_take, if_pos (by omega), Array.getElem?_toList]
    simp [this, List.getD_eq_getElem?_getD, List.getElem?_eq_getElem (show j < xs.length by omega)]
theorem it_keep {w w' : World} {X : List Nat} (hk : Keep X w w') {I : Nat} {s : ByteArray} {p : Nat} (hit : w.heap[I]? = some (.stringIter s p)) (hX : I ∉ X) : w'.heap[I]? = some (.stringIter s p) :=
  (hk.block I (Array.getElem?_eq_some_iff.1 hit).1 hX).trans hit
theorem Arr.grown {w w' : World} {g : Nat} {xs : List Value} {row : Option Nat} (h : Arr w g xs) (hg : w.grownBy w' row) (hne : some g ≠ row) : Arr w' g xs :=
  ⟨Nat.lt_of_lt_of_le h.1 hg.size, fun j hj => ⟨(World.cell?_of_block (w := w) (a := ⟨g, j, none⟩) (hg.block g h.1 hne)).trans (h.2 j hj).1, (World.frozen?_of_block (w := w) (a := ⟨g, j, none⟩) (hg.block g h.1 hne)).trans (h.2 j hj).2⟩⟩
theorem alloc_it {w : World} {o : Obj} {I : Nat} {s : ByteArray} {p : Nat} (hit : w.heap[I]? = some (.stringIter s p)) : (w.alloc o).heap[I]? = some (.stringIter s p) :=
  (Below.heap_alloc _ _ I (Array.getElem?_eq_some_iff.1 hit).1).trans hit
theorem byte_eq (k : UInt8) (n : Nat) (hn : n < 256) : ((k.toNat : Int) == (n : Int)) = (k == UInt8.ofNat n) := by
  rw [Bool.eq_iff_iff]; simp only [beq_iff_eq]
  constructor
  · intro h; exact UInt8.toNat_inj.1 (by rw [UInt8.toNat_ofNat']; omega)
  · rintro rfl; rw [UInt8.toNat_ofNat']; omega
end Go.Proofs.YtbkmicimpgabgaaDoor
