/-
  The reference behind six folds, the other half.
-/
import Derived.Test.YtbkmicimpgabgaaDoorRs
set_option linter.unusedSimpArgs false
set_option linter.unusedVariables false
namespace Go.Proofs.Quire
theorem rs_ouuuuu : refB [true, false, false, false, false, false] = true := by kernel_rfl
theorem rs_ouuuuo : refB [true, false, false, false, false, true] = true := by kernel_rfl
theorem rs_ouuuou : refB [true, false, false, false, true, false] = true := by kernel_rfl
theorem rs_ouuuoo : refB [true, false, false, false, true, true] = true := by kernel_rfl
theorem rs_ouuouu : refB [true, false, false, true, false, false] = true := by kernel_rfl
theorem rs_ouuouo : refB [true, false, false, true, false, true] = true := by kernel_rfl
theorem rs_ouuoou : refB [true, false, false, true, true, false] = true := by kernel_rfl
theorem rs_ouuooo : refB [true, false, false, true, true, true] = true := by kernel_rfl
theorem rs_ououuu : refB [true, false, true, false, false, false] = true := by kernel_rfl
theorem rs_ououuo : refB [true, false, true, false, false, true] = true := by kernel_rfl
theorem rs_ououou : refB [true, false, true, false, true, false] = true := by kernel_rfl
theorem rs_ououoo : refB [true, false, true, false, true, true] = true := by kernel_rfl
theorem rs_ouoouu : refB [true, false, true, true, false, false] = true := by kernel_rfl
theorem rs_ouoouo : refB [true, false, true, true, false, true] = true := by kernel_rfl
theorem rs_ouooou : refB [true, false, true, true, true, false] = true := by kernel_rfl
theorem rs_ouoooo : refB [true, false, true, true, true, true] = true := by kernel_rfl
end Go.Proofs.Quire
namespace Go.Proofs.Quire
theorem rs_oouuuu : refB [true, true, false, false, false, false] = true := by kernel_rfl
theorem rs_oouuuo : refB [true, true, false, false, false, true] = true := by kernel_rfl
theorem rs_oouuou : refB [true, true, false, false, true, false] = true := by kernel_rfl
theorem rs_oouuoo : refB [true, true, false, false, true, true] = true := by kernel_rfl
theorem rs_oououu : refB [true, true, false, true, false, false] = true := by kernel_rfl
theorem rs_oououo : refB [true, true, false, true, false, true] = true := by kernel_rfl
theorem rs_oouoou : refB [true, true, false, true, true, false] = true := by kernel_rfl
theorem rs_oouooo : refB [true, true, false, true, true, true] = true := by kernel_rfl
theorem rs_ooouuu : refB [true, true, true, false, false, false] = true := by kernel_rfl
theorem rs_ooouuo : refB [true, true, true, false, false, true] = true := by kernel_rfl
theorem rs_ooouou : refB [true, true, true, false, true, false] = true := by kernel_rfl
theorem rs_ooouoo : refB [true, true, true, false, true, true] = true := by kernel_rfl
theorem rs_oooouu : refB [true, true, true, true, false, false] = true := by kernel_rfl
theorem rs_oooouo : refB [true, true, true, true, false, true] = true := by kernel_rfl
theorem rs_ooooou : refB [true, true, true, true, true, false] = true := by kernel_rfl
theorem rs_oooooo : refB [true, true, true, true, true, true] = true := by kernel_rfl
end Go.Proofs.Quire
