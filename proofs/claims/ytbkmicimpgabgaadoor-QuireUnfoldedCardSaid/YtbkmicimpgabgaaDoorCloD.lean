/-
  The strip behind six folds, a quarter of all.
-/
import Derived.Test.YtbkmicimpgabgaaDoorClo0
set_option linter.unusedSimpArgs false
set_option linter.unusedVariables false
namespace Go.Proofs.Quire
theorem clo_oouuuu : closedB [true, true, false, false, false, false] = true := by kernel_rfl
theorem clo_oouuuo : closedB [true, true, false, false, false, true] = true := by kernel_rfl
theorem clo_oouuou : closedB [true, true, false, false, true, false] = true := by kernel_rfl
theorem clo_oouuoo : closedB [true, true, false, false, true, true] = true := by kernel_rfl
theorem clo_oououu : closedB [true, true, false, true, false, false] = true := by kernel_rfl
theorem clo_oououo : closedB [true, true, false, true, false, true] = true := by kernel_rfl
theorem clo_oouoou : closedB [true, true, false, true, true, false] = true := by kernel_rfl
theorem clo_oouooo : closedB [true, true, false, true, true, true] = true := by kernel_rfl
theorem clo_ooouuu : closedB [true, true, true, false, false, false] = true := by kernel_rfl
theorem clo_ooouuo : closedB [true, true, true, false, false, true] = true := by kernel_rfl
theorem clo_ooouou : closedB [true, true, true, false, true, false] = true := by kernel_rfl
theorem clo_ooouoo : closedB [true, true, true, false, true, true] = true := by kernel_rfl
theorem clo_oooouu : closedB [true, true, true, true, false, false] = true := by kernel_rfl
theorem clo_oooouo : closedB [true, true, true, true, false, true] = true := by kernel_rfl
theorem clo_ooooou : closedB [true, true, true, true, true, false] = true := by kernel_rfl
theorem clo_oooooo : closedB [true, true, true, true, true, true] = true := by kernel_rfl
end Go.Proofs.Quire
