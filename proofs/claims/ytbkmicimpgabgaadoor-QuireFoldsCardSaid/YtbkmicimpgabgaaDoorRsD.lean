/-
  The reference behind six folds, a quarter of all.
-/
import Derived.Test.YtbkmicimpgabgaaDoorRs
set_option linter.unusedSimpArgs false
set_option linter.unusedVariables false
namespace Go.Proofs.Quire
theorem rs_oouuuu : refB [true, true, false, false, false, false] = true := by kernel_rfl
theorem rs_oouuuo : refB [true, true, false, false, false, true] = true := by kernel_rfl
theorem rs_oouuou : refB [true, true, false, false, true, false] = true := by kernel_rfl
theorem rs_oouuoo : refB [true, true, false, false, true, true] = true := by kernel_rfl
theorem rs_oououu : refB [true, true, false, true, false, false] = true := by kernel_rfl
theorem rs_oououo : refB [true, true, false, true, false, true] = true := by kernel_rfl
theorem rs_oouoou : refB [true, true, false, true, true, false] = true := by kernel_rfl
theorem rs_oouooo : refB [true, true, false, true, true, true] = true := by kernel_rfl
theorem rs_ooouuu : refB [true, true, true, false, false, false] = true := by kernel_rfl
theorem rs_ooouuo : refB [true, true, true, false, false, true] = true := by kernel_rfl
theorem rs_ooouou : refB [true, true, true, false, true, false] = true := by kernel_rfl
theorem rs_ooouoo : refB [true, true, true, false, true, true] = true := by kernel_rfl
theorem rs_oooouu : refB [true, true, true, true, false, false] = true := by kernel_rfl
theorem rs_oooouo : refB [true, true, true, true, false, true] = true := by kernel_rfl
theorem rs_ooooou : refB [true, true, true, true, true, false] = true := by kernel_rfl
theorem rs_oooooo : refB [true, true, true, true, true, true] = true := by kernel_rfl
end Go.Proofs.Quire
