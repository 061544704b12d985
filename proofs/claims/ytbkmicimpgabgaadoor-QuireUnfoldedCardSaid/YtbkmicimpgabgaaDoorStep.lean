/-
  The walker's steps: ahead, left and right.
-/
import Derived.Test.YtbkmicimpgabgaaDoorBase
import Derived.StillTailTactics
set_option linter.unusedSimpArgs false
set_option linter.unusedVariables false
namespace Go.Proofs.YtbkmicimpgabgaaDoor
open Go.RowKit Go.Lib

/-- where a walker stands, and where it goes -/
def Wkr (w : World) (p : Nat) (x y dx dy : Int) : Prop := Arr w p [.int .i64 x, .int .i64 y, .int .i64 dx, .int .i64 dy]
def AheadPost (p : Nat) (x y dx dy : Int) (w : World) (e : Ending) (w' : World) : Prop :=
  e = .returned (.agg #[.int .i64 x, .int .i64 y]) ∧ Keep [p] w w' ∧ Wkr w' p x y dx dy

set_option maxRecDepth 100000 in
set_option maxHeartbeats 1000000 in
theorem ahead_any (p : Nat) (x y dx dy : Int) (w : World) (h : Wkr w p x y dx dy) (hx : -1000 ≤ x ∧ x ≤ 1000) (hy : -1000 ≤ y ∧ y ≤ 1000) (hdx : -1000 ≤ dx ∧ dx ≤ 1000) (hdy : -1000 ≤ dy ∧ dy ≤ 1000) :
    Calls Tryd.prog 60 #[.pointer (some ⟨p, 0, none⟩)] w (AheadPost p (x + dx) (y + dy) dx dy w) := by
  obtain ⟨hx0, hx1⟩ := hx
  obtain ⟨hy0, hy1⟩ := hy
  obtain ⟨hdx0, hdx1⟩ := hdx
  obtain ⟨hdy0, hdy1⟩ := hdy
  have hlt := h.1
  have c0 : w.cell? ⟨p, 0, none⟩ = some (.int .i64 x) := (h.2 0 (by simp)).1
  have c1 : w.cell? ⟨p, 1, none⟩ = some (.int .i64 y) := (h.2 1 (by simp)).1
  have c2 : w.cell? ⟨p, 2, none⟩ = some (.int .i64 dx) := (h.2 2 (by simp)).1
  have c3 : w.cell? ⟨p, 3, none⟩ = some (.int .i64 dy) := (h.2 3 (by simp)).1
  have f0 : w.frozen? ⟨p, 0, none⟩ = false := (h.2 0 (by simp)).2
  have f1 : w.frozen? ⟨p, 1, none⟩ = false := (h.2 1 (by simp)).2
  go_enter Tryd.func60, Tryd.ntmps60
  go_wp2
  go_region
  go_wp2
  go_region
  go_wp2
  have hr := (((h.set 0 (by simp) (.int .i64 (x + dx))).set 1 (by simp) (.int .i64 (y + dy))).alloc (.cells #[.int .i64 (x + dx), .int .i64 (y + dy)] 62)).drewN 2
  exact bodyPost_ret (v := .agg #[.int .i64 (x + dx), .int .i64 (y + dy)]) (by simp [results, Tryd.results60, go_sem]) rfl
    ⟨rfl, ((((Keep.refl [p] w).setCell (.inl (by simp)) _).setCell (.inl (by simp)) _).alloc _).drewN 2, hr⟩
set_option maxRecDepth 100000 in
set_option maxHeartbeats 1000000 in
theorem left_any (p : Nat) (x y dx dy : Int) (w : World) (h : Wkr w p x y dx dy) (hx : -1000 ≤ x ∧ x ≤ 1000) (hy : -1000 ≤ y ∧ y ≤ 1000) (hdx : -1000 ≤ dx ∧ dx ≤ 1000) (hdy : -1000 ≤ dy ∧ dy ≤ 1000) :
    Calls Tryd.prog 62 #[.pointer (some ⟨p, 0, none⟩)] w (AheadPost p (x + -dy) (y + dx) (-dy) dx w) := by
  have HA := fun W h => ahead_any p x y (-dy) dx W h hx hy ⟨by omega, by omega⟩ hdx
  obtain ⟨hdx0, hdx1⟩ := hdx
  obtain ⟨hdy0, hdy1⟩ := hdy
  have hlt := h.1
  have c2 : w.cell? ⟨p, 2, none⟩ = some (.int .i64 dx) := (h.2 2 (by simp)).1
  have c3 : w.cell? ⟨p, 3, none⟩ = some (.int .i64 dy) := (h.2 3 (by simp)).1
  have f2 : w.frozen? ⟨p, 2, none⟩ = false := (h.2 2 (by simp)).2
  have f3 : w.frozen? ⟨p, 3, none⟩ = false := (h.2 3 (by simp)).2
  go_enter Tryd.func62, Tryd.ntmps62
  go_wp2
  go_region
  go_wp2_with (fail)
  have hW : Wkr ((((w.setCell ⟨p, 2, none⟩ (.int .i64 (-dy))).setCell ⟨p, 3, none⟩ (.int .i64 dx)).alloc (.cells #[.int .i64 0, .int .i64 0] 62)).drew) p x y (-dy) dx :=
    (((h.set 2 (by simp) (.int .i64 (-dy))).set 3 (by simp) (.int .i64 dx)).alloc (.cells #[.int .i64 0, .int .i64 0] 62)).drewN 1
  have hK : Keep [p] w ((((w.setCell ⟨p, 2, none⟩ (.int .i64 (-dy))).setCell ⟨p, 3, none⟩ (.int .i64 dx)).alloc (.cells #[.int .i64 0, .int .i64 0] 62)).drew) :=
    ((((Keep.refl [p] w).setCell (.inl (by simp)) _).setCell (.inl (by simp)) _).alloc _).drewN 1
  have hN : Arr ((((w.setCell ⟨p, 2, none⟩ (.int .i64 (-dy))).setCell ⟨p, 3, none⟩ (.int .i64 dx)).alloc (.cells #[.int .i64 0, .int .i64 0] 62)).drew) w.heap.size [.int .i64 0, .int .i64 0] := by
    have := Arr.new ((w.setCell ⟨p, 2, none⟩ (.int .i64 (-dy))).setCell ⟨p, 3, none⟩ (.int .i64 dx)) [.int .i64 0, .int .i64 0] 62
    simp only [World.size_setCell] at this
    exact this.drewN 1
  generalize (((w.setCell ⟨p, 2, none⟩ (.int .i64 (-dy))).setCell ⟨p, 3, none⟩ (.int .i64 dx)).alloc (.cells #[.int .i64 0, .int .i64 0] 62)).drew = W1 at hW hK hN ⊢
  refine (HA _ hW).mono ?_; rintro e w1 ⟨rfl, hk, hr⟩
  have hN1 := hN.keep hk (by simp; omega)
  have n0 : w1.cell? ⟨w.heap.size, 0, none⟩ = some (.int .i64 0) := (hN1.2 0 (by simp)).1
  have n1 : w1.cell? ⟨w.heap.size, 1, none⟩ = some (.int .i64 0) := (hN1.2 1 (by simp)).1
  have m0 : w1.frozen? ⟨w.heap.size, 0, none⟩ = false := (hN1.2 0 (by simp)).2
  have m1 : w1.frozen? ⟨w.heap.size, 1, none⟩ = false := (hN1.2 1 (by simp)).2
  go_wp2_with (fail)
  exact bodyPost_ret (v := .agg #[.int .i64 (x + -dy), .int .i64 (y + dx)]) (by simp [results, Tryd.results62, go_sem, n0, n1]) rfl
    ⟨rfl, (((hK.trans hk).setCell (.inr (Nat.le_refl _)) _).setCell (.inr (Nat.le_refl _)) _), (hr.other (by simp; omega) _).other (by simp; omega) _⟩
set_option maxRecDepth 100000 in
set_option maxHeartbeats 1000000 in
theorem right_any (p : Nat) (x y dx dy : Int) (w : World) (h : Wkr w p x y dx dy) (hx : -1000 ≤ x ∧ x ≤ 1000) (hy : -1000 ≤ y ∧ y ≤ 1000) (hdx : -1000 ≤ dx ∧ dx ≤ 1000) (hdy : -1000 ≤ dy ∧ dy ≤ 1000) :
    Calls Tryd.prog 61 #[.pointer (some ⟨p, 0, none⟩)] w (AheadPost p (x + dy) (y + -dx) dy (-dx) w) := by
  have HA := fun W h => ahead_any p x y dy (-dx) W h hx hy hdy ⟨by omega, by omega⟩
  obtain ⟨hdx0, hdx1⟩ := hdx
  obtain ⟨hdy0, hdy1⟩ := hdy
  have hlt := h.1
  have c2 : w.cell? ⟨p, 2, none⟩ = some (.int .i64 dx) := (h.2 2 (by simp)).1
  have c3 : w.cell? ⟨p, 3, none⟩ = some (.int .i64 dy) := (h.2 3 (by simp)).1
  have f2 : w.frozen? ⟨p, 2, none⟩ = false := (h.2 2 (by simp)).2
  have f3 : w.frozen? ⟨p, 3, none⟩ = false := (h.2 3 (by simp)).2
  go_enter Tryd.func61, Tryd.ntmps61
  go_wp2
  go_region
  go_wp2_with (fail)
  have hW : Wkr ((((w.setCell ⟨p, 2, none⟩ (.int .i64 dy)).setCell ⟨p, 3, none⟩ (.int .i64 (-dx))).alloc (.cells #[.int .i64 0, .int .i64 0] 62)).drew) p x y dy (-dx) :=
    (((h.set 2 (by simp) (.int .i64 dy)).set 3 (by simp) (.int .i64 (-dx))).alloc (.cells #[.int .i64 0, .int .i64 0] 62)).drewN 1
  have hK : Keep [p] w ((((w.setCell ⟨p, 2, none⟩ (.int .i64 dy)).setCell ⟨p, 3, none⟩ (.int .i64 (-dx))).alloc (.cells #[.int .i64 0, .int .i64 0] 62)).drew) :=
    ((((Keep.refl [p] w).setCell (.inl (by simp)) _).setCell (.inl (by simp)) _).alloc _).drewN 1
  have hN : Arr ((((w.setCell ⟨p, 2, none⟩ (.int .i64 dy)).setCell ⟨p, 3, none⟩ (.int .i64 (-dx))).alloc (.cells #[.int .i64 0, .int .i64 0] 62)).drew) w.heap.size [.int .i64 0, .int .i64 0] := by
    have := Arr.new ((w.setCell ⟨p, 2, none⟩ (.int .i64 dy)).setCell ⟨p, 3, none⟩ (.int .i64 (-dx))) [.int .i64 0, .int .i64 0] 62
    simp only [World.size_setCell] at this
    exact this.drewN 1
  generalize (((w.setCell ⟨p, 2, none⟩ (.int .i64 dy)).setCell ⟨p, 3, none⟩ (.int .i64 (-dx))).alloc (.cells #[.int .i64 0, .int .i64 0] 62)).drew = W1 at hW hK hN ⊢
  refine (HA _ hW).mono ?_; rintro e w1 ⟨rfl, hk, hr⟩
  have hN1 := hN.keep hk (by simp; omega)
  have n0 : w1.cell? ⟨w.heap.size, 0, none⟩ = some (.int .i64 0) := (hN1.2 0 (by simp)).1
  have n1 : w1.cell? ⟨w.heap.size, 1, none⟩ = some (.int .i64 0) := (hN1.2 1 (by simp)).1
  have m0 : w1.frozen? ⟨w.heap.size, 0, none⟩ = false := (hN1.2 0 (by simp)).2
  have m1 : w1.frozen? ⟨w.heap.size, 1, none⟩ = false := (hN1.2 1 (by simp)).2
  go_wp2_with (fail)
  exact bodyPost_ret (v := .agg #[.int .i64 (x + dy), .int .i64 (y + -dx)]) (by simp [results, Tryd.results61, go_sem, n0, n1]) rfl
    ⟨rfl, (((hK.trans hk).setCell (.inr (Nat.le_refl _)) _).setCell (.inr (Nat.le_refl _)) _), (hr.other (by simp; omega) _).other (by simp; omega) _⟩
end Go.Proofs.YtbkmicimpgabgaaDoor
