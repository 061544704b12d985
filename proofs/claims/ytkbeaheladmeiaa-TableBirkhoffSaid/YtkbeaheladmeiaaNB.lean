/-
  Package table's checkNumbers, Proves, listsOfRows, Bar; the law's lists of plans.
-/
import Derived.Test.YtkbeaheladmeiaaNA
set_option linter.unusedSimpArgs false
set_option linter.unusedVariables false
namespace Go.Proofs.Ytkbeaheladmeiaa
open Go Go.Proofs.Eng
set_option maxRecDepth 100000
set_option maxHeartbeats 2000000
theorem reify_box {η : Heap} {k g e s n : Nat} {x : AV} (hk : Go.Proofs.Eng.look η k = (g, some ⟨e, s, [x]⟩)) : reify η (n + 1) (.o k g 1 0 0) = (elemR (reify η n) x).map .ptr := by
  simp only [reify, hk]
  simp
/-- a list that is nil if it has no element -/
def lv (l : List Int) : AV := match l with | [] => nilA | x :: t => al false (x :: t)
theorem lv_isL (l : List Int) : isL (lv l) l := by
  cases l with
  | nil => exact .inr ⟨rfl, rfl⟩
  | cons x t => exact .inl ⟨false, rfl⟩
def aLv (L : List (List Int)) : AV := .sl 1 false (L.map lv)
/-- all lists of rows -/
def lrL : Nat → List (List Int)
  | 1 => [[], [0]]
  | 2 => [[], [0], [1], [0, 1]]
  | 3 => [[], [0], [1], [2], [0, 1], [0, 2], [1, 2], [0, 1, 2]]
  | _ => [[], [0], [1], [2], [3], [0, 1], [0, 2], [0, 3], [1, 2], [1, 3], [2, 3], [0, 1, 2], [0, 1, 3], [0, 2, 3], [1, 2, 3], [0, 1, 2, 3]]
/-- all plans -/
def plL : Nat → List (List Int)
  | 1 => [[0]]
  | 2 => [[0, 1], [1, 0]]
  | 3 => [[0, 1, 2], [0, 2, 1], [1, 0, 2], [1, 2, 0], [2, 0, 1], [2, 1, 0]]
  | _ => [[0, 1, 2, 3], [0, 1, 3, 2], [0, 2, 1, 3], [0, 2, 3, 1], [0, 3, 1, 2], [0, 3, 2, 1], [1, 0, 2, 3], [1, 0, 3, 2], [1, 2, 0, 3], [1, 2, 3, 0], [1, 3, 0, 2], [1, 3, 2, 0], [2, 0, 1, 3], [2, 0, 3, 1], [2, 1, 0, 3], [2, 1, 3, 0], [2, 3, 0, 1], [2, 3, 1, 0], [3, 0, 1, 2], [3, 0, 2, 1], [3, 1, 0, 2], [3, 1, 2, 0], [3, 2, 0, 1], [3, 2, 1, 0]]
theorem lr_1 : Runs Try.prog xf 65 [ai 1] (aLv (lrL 1)) := Runs.exec (fr := fun _ => false) (fuel := 1000) 20 (by kernel_rfl)
theorem lr_2 : Runs Try.prog xf 65 [ai 2] (aLv (lrL 2)) := Runs.exec (fr := fun _ => false) (fuel := 1000) 20 (by kernel_rfl)
theorem lr_3 : Runs Try.prog xf 65 [ai 3] (aLv (lrL 3)) := Runs.exec (fr := fun _ => false) (fuel := 1000) 20 (by kernel_rfl)
theorem lr_4 : Runs Try.prog xf 65 [ai 4] (aLv (lrL 4)) := Runs.exec (fr := fun _ => false) (fuel := 1000) 20 (by kernel_rfl)
theorem pl_1 : Runs Try.prog xf 15 [ai 1] (aT (plL 1)) := Runs.exec (fr := fun _ => false) (fuel := 1000) 20 (by kernel_rfl)
theorem pl_2 : Runs Try.prog xf 15 [ai 2] (aT (plL 2)) := Runs.exec (fr := fun _ => false) (fuel := 1000) 20 (by kernel_rfl)
theorem pl_3 : Runs Try.prog xf 15 [ai 3] (aT (plL 3)) := Runs.exec (fr := fun _ => false) (fuel := 1000) 20 (by kernel_rfl)
theorem pl_4 : Runs Try.prog xf 15 [ai 4] (aT (plL 4)) := Runs.exec (fr := fun _ => false) (fuel := 1000) 20 (by kernel_rfl)
theorem lr_run {n : Nat} (h1 : 1 ≤ n) (h4 : n ≤ 4) : Runs Try.prog xf 65 [ai n] (aLv (lrL n)) := by
  match n, h1, h4 with
  | 1, _, _ => exact lr_1
  | 2, _, _ => exact lr_2
  | 3, _, _ => exact lr_3
  | 4, _, _ => exact lr_4
end Go.Proofs.Ytkbeaheladmeiaa

