/-
  The strip behind six folds, a quarter of all.
-/
import Derived.Test.YtbkmicimpgabgaaDoorClo0
set_option linter.unusedSimpArgs false
set_option linter.unusedVariables false
namespace Go.Proofs.Quire
theorem clo_uuuuuu : closedB [false, false, false, false, false, false] = true := by kernel_rfl
theorem clo_uuuuuo : closedB [false, false, false, false, false, true] = true := by kernel_rfl
theorem clo_uuuuou : closedB [false, false, false, false, true, false] = true := by kernel_rfl
theorem clo_uuuuoo : closedB [false, false, false, false, true, true] = true := by kernel_rfl
theorem clo_uuuouu : closedB [false, false, false, true, false, false] = true := by kernel_rfl
theorem clo_uuuouo : closedB [false, false, false, true, false, true] = true := by kernel_rfl
theorem clo_uuuoou : closedB [false, false, false, true, true, false] = true := by kernel_rfl
theorem clo_uuuooo : closedB [false, false, false, true, true, true] = true := by kernel_rfl
theorem clo_uuouuu : closedB [false, false, true, false, false, false] = true := by kernel_rfl
theorem clo_uuouuo : closedB [false, false, true, false, false, true] = true := by kernel_rfl
theorem clo_uuouou : closedB [false, false, true, false, true, false] = true := by kernel_rfl
theorem clo_uuouoo : closedB [false, false, true, false, true, true] = true := by kernel_rfl
theorem clo_uuoouu : closedB [false, false, true, true, false, false] = true := by kernel_rfl
theorem clo_uuoouo : closedB [false, false, true, true, false, true] = true := by kernel_rfl
theorem clo_uuooou : closedB [false, false, true, true, true, false] = true := by kernel_rfl
theorem clo_uuoooo : closedB [false, false, true, true, true, true] = true := by kernel_rfl
end Go.Proofs.Quire
