/-
  Package quire's columnsOfSquares, creaseOf and crease.
-/
import Derived.Test.YtbkmicimpgabgaaDoorTurn
set_option linter.unusedSimpArgs false
set_option linter.unusedVariables false
namespace Go.Proofs.YtbkmicimpgabgaaDoor
open Go.RowKit Go.Lib Go.Proofs.Quire

/-- a row of numbers that is read, and a block of its own that may be written -/
def RdW (w : World) (X : List Nat) (A : Option Addr) (n : Nat) (xs : List Value) : Prop :=
  RdX w X A n xs ∧ (0 < n → ∃ g, A = some ⟨g, 0, none⟩ ∧ Arr w g xs)
theorem RdW.keep {X Y : List Nat} {w w' : World} {A : Option Addr} {n : Nat} {xs : List Value} (h : RdW w X A n xs) (hk : Keep Y w w') (hs : ∀ k, k ∈ Y → k ∈ X) : RdW w' X A n xs :=
  ⟨h.1.keep hk hs, fun hn => by
    obtain ⟨g, hA, ha⟩ := h.2 hn
    obtain ⟨g', o', hA', _, hx, _⟩ := h.1.2 hn
    rw [hA] at hA'
    simp only [Option.some.injEq, Addr.mk.injEq, and_true] at hA'
    exact ⟨g, hA, ha.keep hk (fun e => hx (by rw [← hA'.1]; exact hs _ e))⟩⟩
theorem RdW.mono {X Y : List Nat} {w : World} {A : Option Addr} {n : Nat} {xs : List Value} (h : RdW w X A n xs) (hs : ∀ k, k ∈ Y → k ∈ X) : RdW w Y A n xs := ⟨h.1.mono hs, h.2⟩
theorem RdW.more {X Y : List Nat} {w : World} {A : Option Addr} {n : Nat} {xs : List Value} (h : RdW w X A n xs) (hs : ∀ k, k ∈ Y → k ∈ X ∨ w.heap.size ≤ k) : RdW w Y A n xs := ⟨h.1.more hs, h.2⟩
/-- a row of columns that is read, each a row of numbers -/
def Cols (w : World) (X : List Nat) (A : Option Addr) (cols : List (List Nat)) : Prop :=
  0 < cols.length → ∃ g o, A = some ⟨g, o, none⟩ ∧ g < w.heap.size ∧ g ∉ X ∧ ∀ i, i < cols.length → ∃ Ai ci, w.cell? ⟨g, o + i, none⟩ = some (.slice Ai (cols.getD i []).length ci) ∧ RdW w X Ai (cols.getD i []).length (ints (cols.getD i [])) ∧ (cols.getD i []).length ≤ ci
theorem Cols.keep {X Y : List Nat} {w w' : World} {A : Option Addr} {cols : List (List Nat)} (h : Cols w X A cols) (hk : Keep Y w w') (hs : ∀ k, k ∈ Y → k ∈ X) : Cols w' X A cols := fun hn => by
  obtain ⟨g, o, hA, hg, hx, hc⟩ := h hn
  refine ⟨g, o, hA, Nat.lt_of_lt_of_le hg hk.size, hx, fun i hi => ?_⟩
  obtain ⟨Ai, ci, h1, h2, h3⟩ := hc i hi
  exact ⟨Ai, ci, (hk.cell (p := ⟨g, o + i, none⟩) hg (fun e => hx (hs _ e))).trans h1, h2.keep hk hs, h3⟩
theorem Cols.mono {X Y : List Nat} {w : World} {A : Option Addr} {cols : List (List Nat)} (h : Cols w X A cols) (hs : ∀ k, k ∈ Y → k ∈ X ∨ w.heap.size ≤ k) : Cols w Y A cols := fun hn => by
  obtain ⟨g, o, hA, hg, hx, hc⟩ := h hn
  refine ⟨g, o, hA, hg, fun e => ?_, fun i hi => ?_⟩
  · rcases hs _ e with h1 | h1
    · exact hx h1
    · omega
  · obtain ⟨Ai, ci, h1, h2, h3⟩ := hc i hi
    exact ⟨Ai, ci, h1, h2.more hs, h3⟩

def MarksPost (a : List Nat) (w : World) (e : Ending) (w' : World) : Prop :=
  ∃ g, e = .returned (.slice (some ⟨g, 0, none⟩) a.length a.length) ∧ w.heap.size ≤ g ∧ Arr w' g (ints a) ∧ Below w.heap.size w w'
set_option maxRecDepth 100000 in
set_option maxHeartbeats 2000000 in
theorem columns_any (p : Nat) (A1 Ac : Option Addr) (N ct cc : Nat) (v2 : Value) (cols : List (List Nat)) (w : World) (hp : Arr w p [.slice Ac cols.length cc, .slice A1 N ct, v2])
    (hc : Cols w [] Ac cols) (hN : N ≤ 1000) (hm : cols.length ≤ 1000) (hx : ∀ c ∈ cols, c.length ≤ 1000 ∧ ∀ x ∈ c, x < N) :
    Calls Tryd.prog 70 #[.pointer (some ⟨p, 0, none⟩)] w (MarksPost (marks cols 0 (List.replicate N 0)) w) := by
  have hmk := run_make_ints N hN
  have hb0 : Below w.heap.size w (w.alloc (.cells (ints (List.replicate N 0)).toArray 3)) := (Below.refl _ w).alloc (Nat.le_refl _) _
  have ha0 : Arr (w.alloc (.cells (ints (List.replicate N 0)).toArray 3)) w.heap.size (ints (List.replicate N 0)) := Arr.new w _ _
  obtain ⟨a0, h0⟩ : ∃ a0 : List Nat, Hid (List.replicate N 0 = a0) := ⟨_, rfl⟩
  obtain ⟨r, hr⟩ : ∃ r, Hid (marks cols 0 (List.replicate N 0) = r) := ⟨_, rfl⟩
  rw [hr.out]
  have hrl : Hid (r.length = N) := by show _ = _; rw [← hr.out, marks_len, List.length_replicate]
  have hst : Hid (marks (cols.drop 0) 0 a0 = r) := by rw [← h0.out]; exact hr.out
  have hl0 : Hid (a0.length = N) := by show _ = _; rw [← h0.out, List.length_replicate]
  rw [h0.out] at hmk hb0 ha0
  have HX := Lib.hid hx
  have c0 : w.cell? ⟨p, 0, none⟩ = some (.slice Ac cols.length cc) := (hp.2 0 (by simp)).1
  have c1 : w.cell? ⟨p, 1, none⟩ = some (.slice A1 N ct) := (hp.2 1 (by simp)).1
  have hpl := hp.1
  clear hr h0 hx
  go_enter Tryd.func70, Tryd.ntmps70
  go_wp2_with (fail)
  generalize w.alloc (.cells (ints a0).toArray 3) = W1 at hb0 ha0 ⊢
  go_loopw [19] (fun v wr => ∃ (i : Nat) (a : List Nat), i ≤ cols.length ∧ v = .int .i64 i ∧ Hid (a.length = N) ∧ Arr wr w.heap.size (ints a) ∧ Below w.heap.size w wr ∧ Hid (marks (cols.drop i) i a = r)) (fun v _ => cols.length - (RowKit.intOf v).toNat)
  case atStart => exact ⟨0, a0, Nat.zero_le _, rfl, hl0, ha0, hb0, hst⟩
  case round =>
    clear hb0 ha0 hst hl0
    obtain ⟨i, a, hi, rfl, hla, ha, hbr, hf⟩ := hrel
    by_cases hlt : i < cols.length
    · obtain ⟨g, o, rfl, hg, _, hcc⟩ := hc (by omega)
      obtain ⟨Ai, ci, hcell0, ⟨hrd, _⟩, _⟩ := hcc i hlt
      have hcell := (hbr.cell (p := ⟨g, o + i, none⟩) hg).trans hcell0
      have hstep : Hid (marks (cols.drop (i + 1)) (i + 1) (markCol i (cols.getD i []) a) = r) := by show _ = _; rw [← hf.out, drop_cons cols i [] hlt]; rfl
      obtain ⟨hx1, hx2⟩ := HX.out (cols.getD i []) (by rw [getD_lt _ _ _ hlt]; exact List.getElem_mem _)
      have HX2 := Lib.hid hx2
      clear hcell0
      generalize cols.getD i [] = col at hcell hrd hstep hx1 HX2
      have HRD := Lib.hid hrd
      have hin : Hid (marks (cols.drop (i + 1)) (i + 1) (markCol i (col.drop 0) a) = r) := hstep
      clear hcc hx2 hrd
      go_wp2_with (fail)
      go_loopw [26] (fun v wr => ∃ (k : Nat) (a : List Nat), k ≤ col.length ∧ v = .int .i64 k ∧ Hid (a.length = N) ∧ Arr wr w.heap.size (ints a) ∧ Below w.heap.size w wr ∧ Hid (marks (cols.drop (i + 1)) (i + 1) (markCol i (col.drop k) a) = r)) (fun v _ => col.length - (RowKit.intOf v).toNat)
      case atStart => exact ⟨0, a, Nat.zero_le _, rfl, hla, ha, hbr, hin⟩
      case round =>
        clear hcell ha hbr
        obtain ⟨k, a, hk, rfl, hla, ha, hbr, hf2⟩ := hrel
        by_cases hkl : k < col.length
        · obtain ⟨gi, oi, rfl, hgi, _, hci⟩ := HRD.out.2 (by omega)
          have hcx := (hbr.cell (p := ⟨gi, oi + k, none⟩) hgi).trans (hci k hkl)
          rw [ints_getD _ _ hkl] at hcx
          have hxk : col.getD k 0 < N := HX2.out _ (by rw [getD_lt _ _ _ hkl]; exact List.getElem_mem _)
          have hst2 : Hid (marks (cols.drop (i + 1)) (i + 1) (markCol i (col.drop (k + 1)) (a.set (col.getD k 0) i)) = r) := by show _ = _; rw [← hf2.out, drop_cons col k 0 hkl]; rfl
          generalize col.getD k 0 = x at hcx hxk hst2
          obtain ⟨hb, hfz⟩ := ha.2 x (by rw [ints_length, hla.out]; exact hxk)
          rw [ints_getD _ _ (by rw [hla.out]; exact hxk)] at hb
          have ha2 := ha.set x (by rw [ints_length, hla.out]; exact hxk) (.int .i64 (i : Int))
          rw [ints_set] at ha2
          have HA2 := Lib.hid ha2
          have hl2 : Hid ((a.set x i).length = N) := by show _ = _; rw [List.length_set]; exact hla.out
          have hb2 := hbr.setCell (p := ⟨w.heap.size, x, none⟩) (Nat.le_refl _) (.int .i64 (i : Int))
          have HB2 := Lib.hid hb2
          clear hci ha ha2 hb2
          go_wp2_with (fail)
          exact ⟨⟨k + 1, a.set x i, by omega, by go_num, hl2, HA2.out, HB2.out, hst2⟩, by simp [RowKit.intOf]; omega⟩
        · have e : col.drop k = [] := List.drop_eq_nil_of_le (by omega)
          have hst2 : Hid (marks (cols.drop (i + 1)) (i + 1) a = r) := by show _ = _; rw [← hf2.out, e]; rfl
          clear e
          go_wp2_with (fail)
          exact ⟨⟨i + 1, a, by omega, by go_num, hla, ha, hbr, hst2⟩, by simp [RowKit.intOf]; omega⟩
    · have hR : Hid (a = r) := by show _ = _; rw [← hf.out, List.drop_eq_nil_of_le (by omega)]; rfl
      rw [hR.out] at ha
      clear hR hf
      go_wp2_with (fail)
      go_ret
      exact ⟨w.heap.size, by rw [hrl.out]; rfl, Nat.le_refl _, ha, hbr⟩
theorem creaseOf_any (b : UInt8) (t : Bool) (w : World) :
    Calls Tryd.prog 71 #[.int .u8 b.toNat, .bool t] w fun e w' => e = .returned (.int .u8 (crOf (b == 111) t : Nat)) ∧ w' = w := by
  have hb : ((b.toNat : Int) == 111) = (b == 111) := byte_eq b 111 (by omega)
  generalize (b == 111) = o at hb ⊢
  cases o <;> cases t
  all_goals
    go_enter Tryd.func71, Tryd.ntmps71
    go_wp2
    go_ret
    exact ⟨rfl, rfl⟩
end Go.Proofs.YtbkmicimpgabgaaDoor
