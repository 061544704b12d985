/-
  From the condition on the listed tables to the fact that the walks ask; opening the arguments of the statements.
-/
import Derived.Test.YtbkmicimpgabgaaDoorRows
import Derived.Test.YtbkmicimpgabgaaDoorBits
import Derived.ProofKit
import Derived.OpenShut
import Derived.ShutString
import Derived.ChangeOld
import Derived.Carry
import Derived.Lay
import Derived.Lib.LaidTab
import Derived.Stop.LaidErr
import Derived.MakeChecks
set_option linter.unusedSimpArgs false
set_option linter.unusedVariables false
namespace Go.Proofs.YtbkmicimpgabgaaDoor
open Go.RowKit Go.Lib Go.Proofs.Quire Go.ChangeShapes Go.WideShapes Go.ChangeAt

theorem laidOutT : laidOutB Tryd.prog = true := by kernel_rfl
theorem tab_of_laid {W : World} (hL : laidMetH Tryd.prog [("math/bits.deBruijn32tab", Rows.laid_math_bits_deBruijn32tab), ("math/bits.deBruijn64tab", Rows.laid_math_bits_deBruijn64tab)] W) : Tab W := by
  rw [MakeChecks.laidMetH_plain _ _ _ (by kernel_rfl)] at hL
  have h2 := laidMet.tail hL
  have hT : TabIs Tryd.prog W "math/bits.deBruijn64tab" .u8 (tab64.map fun n : Nat => (n : Int)) :=
    tabIs_of_head (g := 1) (t := 91) (e := 5) (n := 64) (by kernel_rfl) (by kernel_rfl) Tryd.underlying91 Tryd.underlying5 (by kernel_rfl) (by kernel_rfl) h2
  intro j hj
  have h := hT.cell (g := 1) (by kernel_rfl) j (by simpa [tab64] using hj)
  rw [h]
  have hl : j < tab64.length := by simpa [tab64] using hj
  rw [getD_lt _ _ _ (by simpa using hl), getD_lt _ _ _ hl]
  simp
end Go.Proofs.YtbkmicimpgabgaaDoor
