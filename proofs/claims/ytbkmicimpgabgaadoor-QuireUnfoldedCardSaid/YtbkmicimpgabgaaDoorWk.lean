/-
  The calls of the statements' helper works, each at its own input.
-/
import Derived.Test.YtbkmicimpgabgaaDoorFolded
import Derived.Test.YtbkmicimpgabgaaDoorSame
import Derived.Test.YtbkmicimpgabgaaDoorProves
set_option linter.unusedSimpArgs false
set_option linter.unusedVariables false
namespace Go.Proofs.YtbkmicimpgabgaaDoor
open Go.RowKit Go.Lib Go.Proofs.Quire

theorem small (n : Nat) (h : n ≤ 1000) : n ≤ maxLen := by unfold maxLen; omega
def RowC (l : List Nat) (n : Nat) (z : Int) (w : World) (e : Ending) (w' : World) : Prop := (∃ A c, e = .returned (.tuple #[.slice A n c, .int .i64 z]) ∧ Rd w' A n (ints l)) ∧ Below w.heap.size w w'
def ValC (v : Value) (w : World) (e : Ending) (w' : World) : Prop := e = .returned v ∧ Below w.heap.size w w'
theorem RowEPost.c {l : List Nat} {z : Int} {w : World} {e : Ending} {w' : World} (h : RowEPost l z w e w') {l' : List Nat} {n : Nat} {z' : Int} (h1 : l = l') (h2 : l'.length = n) (h3 : z = z') : RowC l' n z' w e w' := by
  subst h1; subst h2; subst h3
  obtain ⟨A, c, h4, h5, h6⟩ := h
  exact ⟨⟨A, c, h4, h5⟩, h6⟩
theorem StrEPost.c {l : List UInt8} {z : Int} {w : World} {e : Ending} {w' : World} (h : StrEPost l z w e w') {l' : List UInt8} {z' : Int} (h1 : l = l') (h3 : z = z') : ValC (.tuple #[.string ⟨l'.toArray⟩, .int .i64 z']) w e w' := by
  subst h1; subst h3; exact h
theorem same_self (l : List Nat) (n : Nat) (hl : l.length = n) (hn : n ≤ 1000) (A A' : Option Addr) (c c' : Nat) (w : World) (h : Rd w A n (ints l)) (h' : Rd w A' n (ints l)) :
    Calls Tryd.prog 12 #[.slice A n c, .slice A' n c'] w (ValC (.bool true) w) := by
  subst hl
  exact (same_any A A' c c' l l w h h' (small _ hn) (small _ hn)).mono fun e w' ⟨he, q, hw⟩ => ⟨by rw [he]; simp, by rw [hw]; exact below_drewN (Below.refl _ _) _⟩
theorem alike_self (l : List (Int × Int)) (n : Nat) (hl : l.length = n) (hn : n ≤ 1000) (A A' : Option Addr) (c c' : Nat) (w : World) (h : RdP w A n l) (h' : RdP w A' n l) :
    Calls Tryd.prog 34 #[.slice A n c, .slice A' n c'] w (ValC (.bool true) w) := by
  subst hl
  exact (alike_any A A' c c' l l w h h' hn hn).mono fun e w' ⟨he, q, hw⟩ => ⟨by rw [he]; simp, by rw [hw]; exact below_drewN (Below.refl _ _) _⟩
/-- a row of numbers that was just laid -/
theorem rd_new (w : World) (l : List Nat) (n : Nat) (hl : l.length = n) : Rd (w.alloc (.cells (ints l).toArray 3)) (some ⟨w.heap.size, 0, none⟩) n (ints l) := by
  subst hl; exact (Arr.new w (ints l) 3).rdI (X := []) (by simp)

theorem ev_end : endR [111, 111] = .tuple #[.int .i64 0, .int .i64 2, .int .i64 0] := by kernel_rfl
theorem ev_why : whyR [118, 118, 118] = .tuple #[.int .i64 0, .int .i64 2, .int .i64 0] := by kernel_rfl
theorem ev_lanes : lanesR [118, 118, 118, 118] = .tuple #[.int .i64 0, .int .i64 4, .int .i64 0] := by kernel_rfl
theorem ev_nolanes : lanesR [118, 118, 104] = .tuple #[.int .i64 0, .int .i64 0, .int .i64 13] := by kernel_rfl
theorem k_pile (w : World) : Calls Tryd.prog 8 #[.string ⟨#[111, 117]⟩] w (RowC [3, 0, 1, 2] 4 0 w) :=
  (pileP_any [111, 117] w (small _ (by decide))).mono fun _ _ h => h.c (by decide +kernel) rfl (by decide +kernel)

def TwoC (l m : List Nat) (n : Nat) (z : Int) (w : World) (e : Ending) (w' : World) : Prop := (∃ A c A' c', e = .returned (.tuple #[.slice A n c, .slice A' n c', .int .i64 z]) ∧ Rd w' A n (ints l) ∧ Rd w' A' n (ints m)) ∧ Below w.heap.size w w'
theorem TwoRowsPost.c {l m : List Nat} {z : Int} {w : World} {e : Ending} {w' : World} (h : TwoRowsPost l m z w e w') {l' m' : List Nat} {n : Nat} {z' : Int} (h1 : l = l') (h1' : m = m') (h2 : l'.length = n) (h2' : m'.length = n) (h3 : z = z') : TwoC l' m' n z' w e w' := by
  subst h1; subst h1'; subst h2; subst h3
  obtain ⟨A, c, A', c', h4, h5, h6, h7⟩ := h
  rw [h2'] at h4 h6
  exact ⟨⟨A, c, A', c', h4, h5, h6⟩, h7⟩
theorem k_pages (w : World) : Calls Tryd.prog 10 #[.string ⟨#[111, 111]⟩] w (TwoC [7, 2, 3, 6] [8, 1, 4, 5] 4 0 w) :=
  (pages_any [111, 111] w (small _ (by decide))).mono fun _ _ h => h.c (by decide +kernel) (by decide +kernel) rfl rfl (by decide +kernel)

theorem k_creases (w : World) : Calls Tryd.prog 13 #[.string ⟨#[117, 111]⟩] w (ValC (.tuple #[.string ⟨#[118, 104, 104]⟩, .int .i64 0]) w) :=
  (creases_any [117, 111] w (small _ (by decide))).mono fun _ _ h => h.c (l' := [118, 104, 104]) (by decide +kernel) (by decide +kernel)

theorem k_end (w : World) : Calls Tryd.prog 15 #[.string ⟨#[111, 111]⟩] w (ValC (.tuple #[.int .i64 0, .int .i64 2, .int .i64 0]) w) :=
  (end_any [111, 111] w (small _ (by decide))).mono fun _ _ ⟨he, hb⟩ => ⟨he.trans (congrArg Ending.returned ev_end), hb⟩

theorem k_folds (w : World) : Calls Tryd.prog 19 #[.string ⟨#[104, 118, 118]⟩] w (ValC (.tuple #[.string ⟨#[111, 117]⟩, .int .i64 0]) w) :=
  (folds_any [104, 118, 118] w (small _ (by decide))).mono fun _ _ h => h.c (l' := [111, 117]) (by decide +kernel) (by decide +kernel)

theorem k_lost (w : World) : Calls Tryd.prog 19 #[.string ⟨#[118, 118, 118]⟩] w (ValC (.tuple #[.string ⟨#[]⟩, .int .i64 12]) w) :=
  (folds_any [118, 118, 118] w (small _ (by decide))).mono fun _ _ h => h.c (l' := []) (by decide +kernel) (by decide +kernel)

theorem k_folded (A : Option Addr) (c : Nat) (w : World) (h : Rd w A 4 (ints [3, 0, 1, 2])) : Calls Tryd.prog 25 #[.slice A 4 c] w (ValC (.tuple #[.string ⟨#[111, 117]⟩, .int .i64 0]) w) :=
  (folded_any A c [3, 0, 1, 2] w (by rw [show zs [3, 0, 1, 2] = ints [3, 0, 1, 2] from rfl]; exact h) (small _ (by decide))).mono fun _ _ h => h.c (l' := [111, 117]) (by decide +kernel) (by decide +kernel)

theorem k_none (A : Option Addr) (c : Nat) (w : World) (h : Rd w A 4 (ints [0, 1, 2, 3])) : Calls Tryd.prog 25 #[.slice A 4 c] w (ValC (.tuple #[.string ⟨#[]⟩, .int .i64 12]) w) :=
  (folded_any A c [0, 1, 2, 3] w (by rw [show zs [0, 1, 2, 3] = ints [0, 1, 2, 3] from rfl]; exact h) (small _ (by decide))).mono fun _ _ h => h.c (l' := []) (by decide +kernel) (by decide +kernel)

def PtsC (P : List (Int × Int)) (n : Nat) (z : Int) (w : World) (e : Ending) (w' : World) : Prop := (∃ A c, e = .returned (.tuple #[.slice A n c, .int .i64 z]) ∧ RdP w' A n P) ∧ Below w.heap.size w w'
theorem WalkRPost.c {P : List (Int × Int)} {z : Int} {w : World} {e : Ending} {w' : World} (h : WalkRPost w z P e w') {P' : List (Int × Int)} {n : Nat} {z' : Int} (h1 : P = P') (h2 : P'.length = n) (h3 : z = z') : PtsC P' n z' w e w' := by
  subst h1; subst h2; subst h3
  obtain ⟨A, c, h4, h5, h6⟩ := h
  exact ⟨⟨A, c, h4, h5⟩, h6⟩
def PtC (P : List (Int × Int)) (n : Nat) (w : World) (e : Ending) (w' : World) : Prop := (∃ A c, e = .returned (.slice A n c) ∧ RdP w' A n P) ∧ Below w.heap.size w w'
theorem PtsPost.c {P : List (Int × Int)} {w : World} {e : Ending} {w' : World} (h : PtsPost P w e w') {n : Nat} (h2 : P.length = n) : PtC P n w e w' := by
  subst h2
  obtain ⟨A, c, h4, h5, h6⟩ := h
  exact ⟨⟨A, c, h4, h5⟩, h6⟩
theorem k_walk (w : World) : Calls Tryd.prog 32 #[.string ⟨#[118, 118, 104]⟩] w (PtsC [(0, 0), (1, 0), (1, 1), (0, 1), (0, 2)] 5 0 w) :=
  (walkR_any [118, 118, 104] w (small _ (by decide))).mono fun _ _ h => h.c (by decide +kernel) rfl (by decide +kernel)

theorem k_points (A : Option Addr) (c : Nat) (w : World) (h : Rd w A 10 (pvals [(0, 0), (1, 0), (1, 1), (0, 1), (0, 2)])) : Calls Tryd.prog 35 #[.slice A 10 c] w (PtC [(0, 0), (1, 0), (1, 1), (0, 1), (0, 2)] 5 w) :=
  (points_any A c [(0, 0), (1, 0), (1, 1), (0, 1), (0, 2)] w h (by decide)).mono fun _ _ h => h.c rfl

theorem k_why (w : World) (hT : Tab w) : Calls Tryd.prog 21 #[.string ⟨#[118, 118, 118]⟩] w (ValC (.tuple #[.int .i64 0, .int .i64 2, .int .i64 0]) w) :=
  (why_any [118, 118, 118] w hT (small _ (by decide))).mono fun _ _ ⟨he, hb⟩ => ⟨he.trans (congrArg Ending.returned ev_why), hb⟩

theorem k_lanes (w : World) : Calls Tryd.prog 33 #[.string ⟨#[118, 118, 118, 118]⟩] w (ValC (.tuple #[.int .i64 0, .int .i64 4, .int .i64 0]) w) :=
  (lanes_any [118, 118, 118, 118] w (small _ (by decide))).mono fun _ _ ⟨he, hb⟩ => ⟨he.trans (congrArg Ending.returned ev_lanes), hb⟩

theorem k_nolanes (w : World) : Calls Tryd.prog 33 #[.string ⟨#[118, 118, 104]⟩] w (ValC (.tuple #[.int .i64 0, .int .i64 0, .int .i64 13]) w) :=
  (lanes_any [118, 118, 104] w (small _ (by decide))).mono fun _ _ ⟨he, hb⟩ => ⟨he.trans (congrArg Ending.returned ev_nolanes), hb⟩

theorem k_proves2 (w : World) (hT : Tab w) : Calls Tryd.prog 23 #[.string ⟨#[118, 118, 118]⟩, .int .i64 0, .int .i64 2] w (ValC (.int .i64 0) w) :=
  (proves_any [118, 118, 118] 0 2 w hT (small _ (by decide)) (by decide) (by decide)).mono fun _ _ ⟨he, hb⟩ => ⟨he.trans (ret_int (by decide +kernel)), hb⟩

theorem k_proves1 (w : World) (hT : Tab w) : Calls Tryd.prog 23 #[.string ⟨#[118, 118, 118]⟩, .int .i64 0, .int .i64 1] w (ValC (.int .i64 14) w) :=
  (proves_any [118, 118, 118] 0 1 w hT (small _ (by decide)) (by decide) (by decide)).mono fun _ _ ⟨he, hb⟩ => ⟨he.trans (ret_int (by decide +kernel)), hb⟩

end Go.Proofs.YtbkmicimpgabgaaDoor
