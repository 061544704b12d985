/-
  The calls of QuireKnown, each at its own input.
-/
import Derived.Test.YtkidghliglmjgacDoorWorks
namespace Go.Proofs.YtkidghliglmjgacDoor
open Go.RowKit Go.Lib Go.Proofs.Quire

theorem n_p1 (w : World) : Calls Tryd.prog 4 #[.string ⟨#[111]⟩] w (RowC [1, 0] 2 0 w) :=
  (pileP_any [111] w (small _ (by decide))).mono fun _ _ h => h.c (by decide +kernel) rfl (by decide +kernel)

theorem n_p2 (w : World) : Calls Tryd.prog 4 #[.string ⟨#[111, 111]⟩] w (RowC [1, 2, 3, 0] 4 0 w) :=
  (pileP_any [111, 111] w (small _ (by decide))).mono fun _ _ h => h.c (by decide +kernel) rfl (by decide +kernel)

theorem n_p3 (w : World) : Calls Tryd.prog 4 #[.string ⟨#[117, 111]⟩] w (RowC [2, 1, 0, 3] 4 0 w) :=
  (pileP_any [117, 111] w (small _ (by decide))).mono fun _ _ h => h.c (by decide +kernel) rfl (by decide +kernel)

theorem n_p4 (w : World) : Calls Tryd.prog 4 #[.string ⟨#[111, 111, 111]⟩] w (RowC [1, 6, 5, 2, 3, 4, 7, 0] 8 0 w) :=
  (pileP_any [111, 111, 111] w (small _ (by decide))).mono fun _ _ h => h.c (by decide +kernel) rfl (by decide +kernel)

theorem n_p5 (w : World) : Calls Tryd.prog 4 #[.string ⟨#[]⟩] w (RowC [0] 1 0 w) :=
  (pileP_any [] w (small _ (by decide))).mono fun _ _ h => h.c (by decide +kernel) rfl (by decide +kernel)

theorem n_pg (w : World) : Calls Tryd.prog 7 #[.string ⟨#[111]⟩] w (TwoC [3, 2] [4, 1] 2 0 w) :=
  (pages_any [111] w (small _ (by decide))).mono fun _ _ h => h.c (by decide +kernel) (by decide +kernel) rfl rfl (by decide +kernel)

theorem n_c1 (w : World) : Calls Tryd.prog 8 #[.string ⟨#[111]⟩] w (ValC (.tuple #[.string ⟨#[118]⟩, .int .i64 0]) w) :=
  (creases_any [111] w (small _ (by decide))).mono fun _ _ h => h.c (l' := [118]) (by decide +kernel) (by decide +kernel)

theorem n_c2 (w : World) : Calls Tryd.prog 8 #[.string ⟨#[111, 111]⟩] w (ValC (.tuple #[.string ⟨#[118, 118, 104]⟩, .int .i64 0]) w) :=
  (creases_any [111, 111] w (small _ (by decide))).mono fun _ _ h => h.c (l' := [118, 118, 104]) (by decide +kernel) (by decide +kernel)

theorem n_c3 (w : World) : Calls Tryd.prog 8 #[.string ⟨#[111, 117]⟩] w (ValC (.tuple #[.string ⟨#[104, 118, 118]⟩, .int .i64 0]) w) :=
  (creases_any [111, 117] w (small _ (by decide))).mono fun _ _ h => h.c (l' := [104, 118, 118]) (by decide +kernel) (by decide +kernel)

theorem n_c4 (w : World) : Calls Tryd.prog 8 #[.string ⟨#[111, 111, 111]⟩] w (ValC (.tuple #[.string ⟨#[118, 118, 104, 118, 118, 104, 104]⟩, .int .i64 0]) w) :=
  (creases_any [111, 111, 111] w (small _ (by decide))).mono fun _ _ h => h.c (l' := [118, 118, 104, 118, 118, 104, 104]) (by decide +kernel) (by decide +kernel)

theorem n_f1 (w : World) : Calls Tryd.prog 9 #[.string ⟨#[]⟩] w (ValC (.tuple #[.string ⟨#[]⟩, .int .i64 0]) w) :=
  (folds_any [] w (small _ (by decide))).mono fun _ _ h => h.c (l' := []) (by decide +kernel) (by decide +kernel)

theorem n_f2 (w : World) : Calls Tryd.prog 9 #[.string ⟨#[118, 118]⟩] w (ValC (.tuple #[.string ⟨#[]⟩, .int .i64 5]) w) :=
  (folds_any [118, 118] w (small _ (by decide))).mono fun _ _ h => h.c (l' := []) (by decide +kernel) (by decide +kernel)

theorem n_ev1 : whyR [118, 118, 104] = .tuple #[.int .i64 0, .int .i64 0, .int .i64 13] := by kernel_rfl
theorem n_ev2 : endR [] = .tuple #[.int .i64 1, .int .i64 0, .int .i64 0] := by kernel_rfl
theorem n_ev3 : lanesR [118, 118, 118] = .tuple #[.int .i64 0, .int .i64 0, .int .i64 13] := by kernel_rfl
theorem n_why (w : World) (hT : Tab w) : Calls Tryd.prog 10 #[.string ⟨#[118, 118, 104]⟩] w (ValC (.tuple #[.int .i64 0, .int .i64 0, .int .i64 13]) w) :=
  (why_any [118, 118, 104] w hT (small _ (by decide))).mono fun _ _ ⟨he, hb⟩ => ⟨he.trans (congrArg Ending.returned n_ev1), hb⟩

theorem n_w1 (w : World) : Calls Tryd.prog 11 #[.string ⟨#[]⟩] w (PtsC [(0, 0), (1, 0)] 2 0 w) :=
  (walkR_any [] w (small _ (by decide))).mono fun _ _ h => h.c (by decide +kernel) rfl (by decide +kernel)

theorem n_end (w : World) : Calls Tryd.prog 12 #[.string ⟨#[]⟩] w (ValC (.tuple #[.int .i64 1, .int .i64 0, .int .i64 0]) w) :=
  (end_any [] w (small _ (by decide))).mono fun _ _ ⟨he, hb⟩ => ⟨he.trans (congrArg Ending.returned n_ev2), hb⟩

theorem n_lan (w : World) : Calls Tryd.prog 13 #[.string ⟨#[118, 118, 118]⟩] w (ValC (.tuple #[.int .i64 0, .int .i64 0, .int .i64 13]) w) :=
  (lanes_any [118, 118, 118] w (small _ (by decide))).mono fun _ _ ⟨he, hb⟩ => ⟨he.trans (congrArg Ending.returned n_ev3), hb⟩

theorem n_w2 (w : World) : Calls Tryd.prog 11 #[.string ⟨#[118, 111]⟩] w (PtsC [] 0 10 w) :=
  (walkR_any [118, 111] w (small _ (by decide))).mono fun _ _ h => h.c (by decide +kernel) rfl (by decide +kernel)

theorem n_fd1 (A : Option Addr) (c : Nat) (w : World) (h : Rd w A 3 (ints [0, 1, 2])) : Calls Tryd.prog 14 #[.slice A 3 c] w (ValC (.tuple #[.string ⟨#[]⟩, .int .i64 5]) w) :=
  (folded_any A c [0, 1, 2] w (by rw [show zs [0, 1, 2] = ints [0, 1, 2] from rfl]; exact h) (small _ (by decide))).mono fun _ _ h => h.c (l' := []) (by decide +kernel) (by decide +kernel)

theorem n_fd2 (A : Option Addr) (c : Nat) (w : World) (h : Rd w A 2 (ints [0, 2])) : Calls Tryd.prog 14 #[.slice A 2 c] w (ValC (.tuple #[.string ⟨#[]⟩, .int .i64 2]) w) :=
  (folded_any A c [0, 2] w (by rw [show zs [0, 2] = ints [0, 2] from rfl]; exact h) (small _ (by decide))).mono fun _ _ h => h.c (l' := []) (by decide +kernel) (by decide +kernel)

theorem n_fd3 (A : Option Addr) (c : Nat) (w : World) (h : Rd w A 2 (ints [1, 1])) : Calls Tryd.prog 14 #[.slice A 2 c] w (ValC (.tuple #[.string ⟨#[]⟩, .int .i64 6]) w) :=
  (folded_any A c [1, 1] w (by rw [show zs [1, 1] = ints [1, 1] from rfl]; exact h) (small _ (by decide))).mono fun _ _ h => h.c (l' := []) (by decide +kernel) (by decide +kernel)

theorem n_pts (A : Option Addr) (c : Nat) (w : World) (h : Rd w A 4 (pvals [(0, 0), (1, 0)])) : Calls Tryd.prog 16 #[.slice A 4 c] w (PtC [(0, 0), (1, 0)] 2 w) :=
  (points_any A c [(0, 0), (1, 0)] w h (by decide)).mono fun _ _ h => h.c rfl

theorem n_pr1 (w : World) (hT : Tab w) : Calls Tryd.prog 17 #[.string ⟨#[118, 118, 118]⟩, .int .i64 2, .int .i64 0] w (ValC (.int .i64 7) w) :=
  (proves_any [118, 118, 118] 2 0 w hT (small _ (by decide)) (by decide) (by decide)).mono fun _ _ ⟨he, hb⟩ => ⟨he.trans (ret_int (by decide +kernel)), hb⟩

theorem n_pr2 (w : World) (hT : Tab w) : Calls Tryd.prog 17 #[.string ⟨#[118, 118, 118]⟩, .int .i64 0, .int .i64 3] w (ValC (.int .i64 2) w) :=
  (proves_any [118, 118, 118] 0 3 w hT (small _ (by decide)) (by decide) (by decide)).mono fun _ _ ⟨he, hb⟩ => ⟨he.trans (ret_int (by decide +kernel)), hb⟩

theorem n_ck1 (w : World) : Calls Tryd.prog 18 #[.string ⟨#[111, 111, 111, 111, 111, 111, 111]⟩] w (ValC (.int .i64 19) w) :=
  (check_any ⟨#[111, 111, 111, 111, 111, 111, 111]⟩ w (by show 7 ≤ maxLen; unfold maxLen; omega)).mono fun _ _ ⟨he, hb⟩ => ⟨he.trans (ret_int (by decide +kernel)), hb⟩

theorem n_ck2 (w : World) : Calls Tryd.prog 18 #[.string ⟨#[111, 120]⟩] w (ValC (.int .i64 10) w) :=
  (check_any ⟨#[111, 120]⟩ w (by show 2 ≤ maxLen; unfold maxLen; omega)).mono fun _ _ ⟨he, hb⟩ => ⟨he.trans (ret_int (by decide +kernel)), hb⟩

end Go.Proofs.YtkidghliglmjgacDoor
