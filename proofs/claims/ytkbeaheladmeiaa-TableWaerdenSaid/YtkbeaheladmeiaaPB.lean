/-
  Package table's checkNumbers, Proves, listsOfRows, Bar; the law's lists of plans.
-/
import Derived.Test.YtkbeaheladmeiaaPA
set_option linter.unusedSimpArgs false
set_option linter.unusedVariables false
namespace Go.Proofs.Ytkbeaheladmeiaa
open Go Go.Proofs.Eng
set_option maxRecDepth 100000
set_option maxHeartbeats 2000000
/-- a list that is nil if it has no element -/
def lv (l : List Int) : AV := match l with | [] => nilA | x :: t => al false (x :: t)
/-- all plans -/
def plL : Nat → List (List Int)
  | 1 => [[0]]
  | 2 => [[0, 1], [1, 0]]
  | 3 => [[0, 1, 2], [0, 2, 1], [1, 0, 2], [1, 2, 0], [2, 0, 1], [2, 1, 0]]
  | _ => [[0, 1, 2, 3], [0, 1, 3, 2], [0, 2, 1, 3], [0, 2, 3, 1], [0, 3, 1, 2], [0, 3, 2, 1], [1, 0, 2, 3], [1, 0, 3, 2], [1, 2, 0, 3], [1, 2, 3, 0], [1, 3, 0, 2], [1, 3, 2, 0], [2, 0, 1, 3], [2, 0, 3, 1], [2, 1, 0, 3], [2, 1, 3, 0], [2, 3, 0, 1], [2, 3, 1, 0], [3, 0, 1, 2], [3, 0, 2, 1], [3, 1, 0, 2], [3, 1, 2, 0], [3, 2, 0, 1], [3, 2, 1, 0]]
theorem pl_1 : Runs Try.prog xf 15 [ai 1] (aT (plL 1)) := Runs.exec (fr := fun _ => false) (fuel := 1000) 20 (by kernel_rfl)
theorem pl_2 : Runs Try.prog xf 15 [ai 2] (aT (plL 2)) := Runs.exec (fr := fun _ => false) (fuel := 1000) 20 (by kernel_rfl)
theorem pl_3 : Runs Try.prog xf 15 [ai 3] (aT (plL 3)) := Runs.exec (fr := fun _ => false) (fuel := 1000) 20 (by kernel_rfl)
theorem pl_4 : Runs Try.prog xf 15 [ai 4] (aT (plL 4)) := Runs.exec (fr := fun _ => false) (fuel := 1000) 20 (by kernel_rfl)
theorem pl_run {n : Nat} (h1 : 1 ≤ n) (h4 : n ≤ 4) : Runs Try.prog xf 15 [ai n] (aT (plL n)) := by
  match n, h1, h4 with
  | 1, _, _ => exact pl_1
  | 2, _, _ => exact pl_2
  | 3, _, _ => exact pl_3
  | 4, _, _ => exact pl_4
end Go.Proofs.Ytkbeaheladmeiaa

