/-
  The strip behind six folds, a quarter of all.
-/
import Derived.Test.YtbkmicimpgabgaaDoorClo0
set_option linter.unusedSimpArgs false
set_option linter.unusedVariables false
namespace Go.Proofs.Quire
theorem clo_uouuuu : closedB [false, true, false, false, false, false] = true := by kernel_rfl
theorem clo_uouuuo : closedB [false, true, false, false, false, true] = true := by kernel_rfl
theorem clo_uouuou : closedB [false, true, false, false, true, false] = true := by kernel_rfl
theorem clo_uouuoo : closedB [false, true, false, false, true, true] = true := by kernel_rfl
theorem clo_uououu : closedB [false, true, false, true, false, false] = true := by kernel_rfl
theorem clo_uououo : closedB [false, true, false, true, false, true] = true := by kernel_rfl
theorem clo_uouoou : closedB [false, true, false, true, true, false] = true := by kernel_rfl
theorem clo_uouooo : closedB [false, true, false, true, true, true] = true := by kernel_rfl
theorem clo_uoouuu : closedB [false, true, true, false, false, false] = true := by kernel_rfl
theorem clo_uoouuo : closedB [false, true, true, false, false, true] = true := by kernel_rfl
theorem clo_uoouou : closedB [false, true, true, false, true, false] = true := by kernel_rfl
theorem clo_uoouoo : closedB [false, true, true, false, true, true] = true := by kernel_rfl
theorem clo_uooouu : closedB [false, true, true, true, false, false] = true := by kernel_rfl
theorem clo_uooouo : closedB [false, true, true, true, false, true] = true := by kernel_rfl
theorem clo_uoooou : closedB [false, true, true, true, true, false] = true := by kernel_rfl
theorem clo_uooooo : closedB [false, true, true, true, true, true] = true := by kernel_rfl
end Go.Proofs.Quire
