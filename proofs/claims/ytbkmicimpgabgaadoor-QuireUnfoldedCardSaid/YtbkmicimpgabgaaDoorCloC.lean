/-
  The strip behind six folds, a quarter of all.
-/
import Derived.Test.YtbkmicimpgabgaaDoorClo0
set_option linter.unusedSimpArgs false
set_option linter.unusedVariables false
namespace Go.Proofs.Quire
theorem clo_ouuuuu : closedB [true, false, false, false, false, false] = true := by kernel_rfl
theorem clo_ouuuuo : closedB [true, false, false, false, false, true] = true := by kernel_rfl
theorem clo_ouuuou : closedB [true, false, false, false, true, false] = true := by kernel_rfl
theorem clo_ouuuoo : closedB [true, false, false, false, true, true] = true := by kernel_rfl
theorem clo_ouuouu : closedB [true, false, false, true, false, false] = true := by kernel_rfl
theorem clo_ouuouo : closedB [true, false, false, true, false, true] = true := by kernel_rfl
theorem clo_ouuoou : closedB [true, false, false, true, true, false] = true := by kernel_rfl
theorem clo_ouuooo : closedB [true, false, false, true, true, true] = true := by kernel_rfl
theorem clo_ououuu : closedB [true, false, true, false, false, false] = true := by kernel_rfl
theorem clo_ououuo : closedB [true, false, true, false, false, true] = true := by kernel_rfl
theorem clo_ououou : closedB [true, false, true, false, true, false] = true := by kernel_rfl
theorem clo_ououoo : closedB [true, false, true, false, true, true] = true := by kernel_rfl
theorem clo_ouoouu : closedB [true, false, true, true, false, false] = true := by kernel_rfl
theorem clo_ouoouo : closedB [true, false, true, true, false, true] = true := by kernel_rfl
theorem clo_ouooou : closedB [true, false, true, true, true, false] = true := by kernel_rfl
theorem clo_ouoooo : closedB [true, false, true, true, true, true] = true := by kernel_rfl
end Go.Proofs.Quire
