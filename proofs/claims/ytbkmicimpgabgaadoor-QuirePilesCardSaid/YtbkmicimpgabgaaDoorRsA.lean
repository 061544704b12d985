/-
  The reference behind six folds, a half of all.
-/
import Derived.Test.YtbkmicimpgabgaaDoorRs
set_option linter.unusedSimpArgs false
set_option linter.unusedVariables false
namespace Go.Proofs.Quire
theorem rs_uuuuuu : refB [false, false, false, false, false, false] = true := by kernel_rfl
theorem rs_uuuuuo : refB [false, false, false, false, false, true] = true := by kernel_rfl
theorem rs_uuuuou : refB [false, false, false, false, true, false] = true := by kernel_rfl
theorem rs_uuuuoo : refB [false, false, false, false, true, true] = true := by kernel_rfl
theorem rs_uuuouu : refB [false, false, false, true, false, false] = true := by kernel_rfl
theorem rs_uuuouo : refB [false, false, false, true, false, true] = true := by kernel_rfl
theorem rs_uuuoou : refB [false, false, false, true, true, false] = true := by kernel_rfl
theorem rs_uuuooo : refB [false, false, false, true, true, true] = true := by kernel_rfl
theorem rs_uuouuu : refB [false, false, true, false, false, false] = true := by kernel_rfl
theorem rs_uuouuo : refB [false, false, true, false, false, true] = true := by kernel_rfl
theorem rs_uuouou : refB [false, false, true, false, true, false] = true := by kernel_rfl
theorem rs_uuouoo : refB [false, false, true, false, true, true] = true := by kernel_rfl
theorem rs_uuoouu : refB [false, false, true, true, false, false] = true := by kernel_rfl
theorem rs_uuoouo : refB [false, false, true, true, false, true] = true := by kernel_rfl
theorem rs_uuooou : refB [false, false, true, true, true, false] = true := by kernel_rfl
theorem rs_uuoooo : refB [false, false, true, true, true, true] = true := by kernel_rfl
end Go.Proofs.Quire
namespace Go.Proofs.Quire
theorem rs_uouuuu : refB [false, true, false, false, false, false] = true := by kernel_rfl
theorem rs_uouuuo : refB [false, true, false, false, false, true] = true := by kernel_rfl
theorem rs_uouuou : refB [false, true, false, false, true, false] = true := by kernel_rfl
theorem rs_uouuoo : refB [false, true, false, false, true, true] = true := by kernel_rfl
theorem rs_uououu : refB [false, true, false, true, false, false] = true := by kernel_rfl
theorem rs_uououo : refB [false, true, false, true, false, true] = true := by kernel_rfl
theorem rs_uouoou : refB [false, true, false, true, true, false] = true := by kernel_rfl
theorem rs_uouooo : refB [false, true, false, true, true, true] = true := by kernel_rfl
theorem rs_uoouuu : refB [false, true, true, false, false, false] = true := by kernel_rfl
theorem rs_uoouuo : refB [false, true, true, false, false, true] = true := by kernel_rfl
theorem rs_uoouou : refB [false, true, true, false, true, false] = true := by kernel_rfl
theorem rs_uoouoo : refB [false, true, true, false, true, true] = true := by kernel_rfl
theorem rs_uooouu : refB [false, true, true, true, false, false] = true := by kernel_rfl
theorem rs_uooouo : refB [false, true, true, true, false, true] = true := by kernel_rfl
theorem rs_uoooou : refB [false, true, true, true, true, false] = true := by kernel_rfl
theorem rs_uooooo : refB [false, true, true, true, true, true] = true := by kernel_rfl
end Go.Proofs.Quire
