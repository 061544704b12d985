/-
  Two steps in the same lane: package quire's sameLane.
-/
import Derived.Test.YtbkmicimpgabgaaDoorWalk
set_option linter.unusedSimpArgs false
set_option linter.unusedVariables false
namespace Go.Proofs.Quire
def ptAt (P : List (Int × Int)) (i : Nat) : Int × Int := P.getD i (0, 0)
def laneB (P : List (Int × Int)) (i j : Nat) : Bool := (ptAt P i == ptAt P j && ptAt P (i + 1) == ptAt P (j + 1)) || (ptAt P i == ptAt P (j + 1) && ptAt P (i + 1) == ptAt P j)
end Go.Proofs.Quire
namespace Go.Proofs.YtbkmicimpgabgaaDoor
open Go.RowKit Go.Lib Go.Proofs.Quire

/-- the cells of a row of points -/
def RdPAt (w : World) (g o n : Nat) (P : List (Int × Int)) : Prop :=
  g < w.heap.size ∧ ∀ j, j < n → w.cell? ⟨g, o + j * 2, none⟩ = some (.int .i64 (ptAt P j).1) ∧ w.cell? ⟨g, o + j * 2 + 1, none⟩ = some (.int .i64 (ptAt P j).2)
def RdP (w : World) (A : Option Addr) (n : Nat) (P : List (Int × Int)) : Prop := P.length = n ∧ (0 < n → ∃ g o, A = some ⟨g, o, none⟩ ∧ RdPAt w g o n P)
theorem RdPAt.below {w w' : World} {g o n : Nat} {P : List (Int × Int)} (h : RdPAt w g o n P) (hb : Below w.heap.size w w') : RdPAt w' g o n P :=
  ⟨Nat.lt_of_lt_of_le h.1 hb.size, fun j hj => ⟨(hb.cell (p := ⟨g, o + j * 2, none⟩) h.1).trans (h.2 j hj).1, (hb.cell (p := ⟨g, o + j * 2 + 1, none⟩) h.1).trans (h.2 j hj).2⟩⟩
theorem RdP.below {w w' : World} {A : Option Addr} {n : Nat} {P : List (Int × Int)} (h : RdP w A n P) (hb : Below w.heap.size w w') : RdP w' A n P :=
  ⟨h.1, fun hn => by obtain ⟨g, o, hA, hat⟩ := h.2 hn; exact ⟨g, o, hA, hat.below hb⟩⟩
theorem pvals_get (P : List (Int × Int)) : ∀ k, k < P.length → (pvals P)[k * 2]? = some (.int .i64 (ptAt P k).1) ∧ (pvals P)[k * 2 + 1]? = some (.int .i64 (ptAt P k).2) := by
  induction P with
  | nil => intro k h; simp at h
  | cons p P ih =>
    intro k hk
    rcases k with _ | k
    · exact ⟨rfl, rfl⟩
    · have := ih k (by simpa using hk)
      rw [show (k + 1) * 2 = k * 2 + 1 + 1 by omega]
      exact this
theorem own_rdP {w : World} {B : Nat} {A : Option Addr} {n c : Nat} {P : List (Int × Int)} (h : w.ownsRow B 62 2 (.slice A n c) n (pvals P)) (hn : P.length = n) : RdP w A n P := by
  refine ⟨hn, fun h0 => ?_⟩
  rcases h.2 with ⟨_, rfl⟩ | ⟨g, cap, cur, hv, hg, hh, hnc, _, hcs, ht⟩
  · omega
  · injection hv with hA _ _
    refine ⟨g, 0, hA, (Array.getElem?_eq_some_iff.1 hh).1, fun j hj => ?_⟩
    have hc : ∀ k, k < n * 2 → cur[k]? = (pvals P)[k]? := fun k hk => by
      rw [← ht, List.getElem?_take, if_pos (by omega), Array.getElem?_toList]
    obtain ⟨h1, h2⟩ := pvals_get P j (by omega)
    simp only [World.cell?, hh, Nat.zero_add]
    rw [hc _ (by omega), hc _ (by omega), h1, h2]
    exact ⟨rfl, rfl⟩

/-- two points are equal where both numbers are -/
theorem eq_pair (a b c d : Int) (W : World) : (Op.equalIn 10000 62 (.agg #[.int .i64 a, .int .i64 b]) (.agg #[.int .i64 c, .int .i64 d])).run Tryd.prog W = .ok (a == c && b == d) W := by
  have hu := Tryd.underlying3
  have hagg := Tryd.isAgg3
  have hsz := Tryd.sizeOf3
  rw [show (10000 : Nat) = 9999 + 1 from rfl, Op.equalIn]
  simp only [Sem.run_bind, run_underlying Tryd.underlying62, Result.andThen_ok]
  simp only [Std.Legacy.Range.forIn_eq_forIn_range', Std.Legacy.Range.size, Nat.sub_zero, Nat.add_sub_cancel, Nat.div_one, List.range'_succ, List.range'_zero, List.forIn_cons, List.forIn_nil]
  go_simp
  by_cases h1 : a = c
  · by_cases h2 : b = d <;> simp [h1, h2]
  · simp [h1]

theorem pair_beq (a b c d : Int) : ((a, b) == (c, d)) = (a == c && b == d) := by rw [Bool.eq_iff_iff]; simp
set_option maxRecDepth 100000 in
set_option maxHeartbeats 8000000 in
theorem sameLane_any (A : Option Addr) (n c i j : Nat) (P : List (Int × Int)) (w : World) (hrd : RdP w A n P) (hn : n ≤ 100) (hi : i + 1 < n) (hj : j + 1 < n) :
    Calls Tryd.prog 55 #[.slice A n c, .int .i64 i, .int .i64 j] w fun e w' => e = .returned (.bool (laneB P i j)) ∧ Below w.heap.size w w' := by
  obtain ⟨g, o, rfl, hg, hat⟩ := hrd.2 (by omega)
  obtain ⟨i1, i2⟩ := hat i (by omega)
  obtain ⟨i3, i4⟩ := hat (i + 1) hi
  obtain ⟨j1, j2⟩ := hat j (by omega)
  obtain ⟨j3, j4⟩ := hat (j + 1) hj
  have hst : Hid (laneB P i j = ((ptAt P i == ptAt P j && ptAt P (i + 1) == ptAt P (j + 1)) || (ptAt P i == ptAt P (j + 1) && ptAt P (i + 1) == ptAt P j))) := rfl
  rw [hst.out]
  generalize ptAt P i = p1 at i1 i2 ⊢
  generalize ptAt P (i + 1) = p2 at i3 i4 ⊢
  generalize ptAt P j = q1 at j1 j2 ⊢
  generalize ptAt P (j + 1) = q2 at j3 j4 ⊢
  obtain ⟨a1, b1⟩ := p1
  obtain ⟨a2, b2⟩ := p2
  obtain ⟨c1, d1⟩ := q1
  obtain ⟨c2, d2⟩ := q2
  rw [pair_beq, pair_beq, pair_beq, pair_beq]
  have qA := eq_pair a1 b1 c1 d1
  have qB := eq_pair a2 b2 c2 d2
  have qC := eq_pair a1 b1 c2 d2
  have qD := eq_pair a2 b2 c1 d1
  clear hat hst hrd
  obtain ⟨r, hr⟩ : ∃ r, Hid (((a1 == c1 && b1 == d1) && (a2 == c2 && b2 == d2) || (a1 == c2 && b1 == d2) && (a2 == c1 && b2 == d1)) = r) := ⟨_, rfl⟩
  rw [hr.out]
  have hcases : Hid (((a1 == c1 && b1 == d1) = true ∧ (a2 == c2 && b2 == d2) = true ∧ r = true) ∨
      ((a1 == c1 && b1 == d1) = true ∧ (a2 == c2 && b2 == d2) = false ∧ (a1 == c2 && b1 == d2) = true ∧ (a2 == c1 && b2 == d1) = r) ∨
      ((a1 == c1 && b1 == d1) = true ∧ (a2 == c2 && b2 == d2) = false ∧ (a1 == c2 && b1 == d2) = false ∧ r = false) ∨
      ((a1 == c1 && b1 == d1) = false ∧ (a1 == c2 && b1 == d2) = true ∧ (a2 == c1 && b2 == d1) = r) ∨
      ((a1 == c1 && b1 == d1) = false ∧ (a1 == c2 && b1 == d2) = false ∧ r = false)) := by
    show _ ∨ _
    have := hr.out
    cases h1 : (a1 == c1 && b1 == d1) <;> cases h2 : (a2 == c2 && b2 == d2) <;> cases h3 : (a1 == c2 && b1 == d2) <;> simp_all
  clear hr
  simp only at i1 i2 i3 i4 j1 j2 j3 j4
  go_enter Tryd.func55, Tryd.ntmps55
  go_wp2
  go_region
  · have hb0 : Below w.heap.size w (((w.alloc (.cells #[.int .i64 a1, .int .i64 b1] 62)).alloc (.cells #[.int .i64 a2, .int .i64 b2] 62)).drew) := (((Below.refl _ w).alloc (Nat.le_refl _) _).alloc (by simp) _).drew
    have f0 : (((w.alloc (.cells #[.int .i64 a1, .int .i64 b1] 62)).alloc (.cells #[.int .i64 a2, .int .i64 b2] 62)).drew).cell? ⟨w.heap.size, 0, none⟩ = some (.int .i64 a1) := by go_simp
    have f1 : (((w.alloc (.cells #[.int .i64 a1, .int .i64 b1] 62)).alloc (.cells #[.int .i64 a2, .int .i64 b2] 62)).drew).cell? ⟨w.heap.size, 1, none⟩ = some (.int .i64 b1) := by go_simp
    have t0 : (((w.alloc (.cells #[.int .i64 a1, .int .i64 b1] 62)).alloc (.cells #[.int .i64 a2, .int .i64 b2] 62)).drew).cell? ⟨w.heap.size + 1, 0, none⟩ = some (.int .i64 a2) := by go_simp
    have t1 : (((w.alloc (.cells #[.int .i64 a1, .int .i64 b1] 62)).alloc (.cells #[.int .i64 a2, .int .i64 b2] 62)).drew).cell? ⟨w.heap.size + 1, 1, none⟩ = some (.int .i64 b2) := by go_simp
    generalize (((w.alloc (.cells #[.int .i64 a1, .int .i64 b1] 62)).alloc (.cells #[.int .i64 a2, .int .i64 b2] 62)).drew) = W1 at hb0 f0 f1 t0 t1 ⊢
    have k1 := (hb0.cell (p := ⟨g, o + j * 2, none⟩) hg).trans j1
    have k2 := (hb0.cell (p := ⟨g, o + j * 2 + 1, none⟩) hg).trans j2
    have k3 := (hb0.cell (p := ⟨g, o + (j + 1) * 2, none⟩) hg).trans j3
    have k4 := (hb0.cell (p := ⟨g, o + (j + 1) * 2 + 1, none⟩) hg).trans j4
    clear i1 i2 i3 i4 j1 j2 j3 j4
    rcases hcases.out with ⟨hA, hB, hR⟩ | ⟨hA, hB, hC, hR⟩ | ⟨hA, hB, hC, hR⟩ | ⟨hA, hC, hR⟩ | ⟨hA, hC, hR⟩
    all_goals
      have HR := Lib.hid hR
      try clear hR
      go_wp2_with (fail)
      go_quiet (fail)
      go_wp2_with (fail)
      go_ret
      exact ⟨ret_bool (by first | exact HR.out | exact HR.out.symm | (rw [HR.out]; rfl)), below_drewN hb0 _⟩
  · have hb0 : Below w.heap.size w (((w.alloc (.cells #[.int .i64 a2, .int .i64 b2] 62)).alloc (.cells #[.int .i64 a1, .int .i64 b1] 62)).drew) := (((Below.refl _ w).alloc (Nat.le_refl _) _).alloc (by simp) _).drew
    have f0 : (((w.alloc (.cells #[.int .i64 a2, .int .i64 b2] 62)).alloc (.cells #[.int .i64 a1, .int .i64 b1] 62)).drew).cell? ⟨w.heap.size + 1, 0, none⟩ = some (.int .i64 a1) := by go_simp
    have f1 : (((w.alloc (.cells #[.int .i64 a2, .int .i64 b2] 62)).alloc (.cells #[.int .i64 a1, .int .i64 b1] 62)).drew).cell? ⟨w.heap.size + 1, 1, none⟩ = some (.int .i64 b1) := by go_simp
    have t0 : (((w.alloc (.cells #[.int .i64 a2, .int .i64 b2] 62)).alloc (.cells #[.int .i64 a1, .int .i64 b1] 62)).drew).cell? ⟨w.heap.size, 0, none⟩ = some (.int .i64 a2) := by go_simp
    have t1 : (((w.alloc (.cells #[.int .i64 a2, .int .i64 b2] 62)).alloc (.cells #[.int .i64 a1, .int .i64 b1] 62)).drew).cell? ⟨w.heap.size, 1, none⟩ = some (.int .i64 b2) := by go_simp
    generalize (((w.alloc (.cells #[.int .i64 a2, .int .i64 b2] 62)).alloc (.cells #[.int .i64 a1, .int .i64 b1] 62)).drew) = W1 at hb0 f0 f1 t0 t1 ⊢
    have k1 := (hb0.cell (p := ⟨g, o + j * 2, none⟩) hg).trans j1
    have k2 := (hb0.cell (p := ⟨g, o + j * 2 + 1, none⟩) hg).trans j2
    have k3 := (hb0.cell (p := ⟨g, o + (j + 1) * 2, none⟩) hg).trans j3
    have k4 := (hb0.cell (p := ⟨g, o + (j + 1) * 2 + 1, none⟩) hg).trans j4
    clear i1 i2 i3 i4 j1 j2 j3 j4
    rcases hcases.out with ⟨hA, hB, hR⟩ | ⟨hA, hB, hC, hR⟩ | ⟨hA, hB, hC, hR⟩ | ⟨hA, hC, hR⟩ | ⟨hA, hC, hR⟩
    all_goals
      have HR := Lib.hid hR
      try clear hR
      go_wp2_with (fail)
      go_quiet (fail)
      go_wp2_with (fail)
      go_ret
      exact ⟨ret_bool (by first | exact HR.out | exact HR.out.symm | (rw [HR.out]; rfl)), below_drewN hb0 _⟩
end Go.Proofs.YtbkmicimpgabgaaDoor
