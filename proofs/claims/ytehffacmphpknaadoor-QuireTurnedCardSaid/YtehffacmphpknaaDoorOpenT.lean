/-
  From the condition on four listed tables to the fact that the walks ask.
-/
import Derived.Test.YtehffacmphpknaaDoorOpenQ
set_option linter.unusedSimpArgs false
set_option linter.unusedVariables false
namespace Go.Proofs.YtehffacmphpknaaDoor
open Go.RowKit Go.Lib Go.ChangeShapes Go.WideShapes Go.ChangeAt

theorem tab_of_laid4 {W : World} (hL : laidMetH Tryd.prog [("math/bits.deBruijn32tab", Rows.laid_math_bits_deBruijn32tab), ("math/bits.deBruijn64tab", Rows.laid_math_bits_deBruijn64tab), ("unicode/utf8.acceptRanges", Rows.laid_unicode_utf8_acceptRanges), ("unicode/utf8.first", Rows.laid_unicode_utf8_first)] W) : Tab W := by
  rw [MakeChecks.laidMetH_plain _ _ _ (by kernel_rfl)] at hL
  have h2 := laidMet.tail hL
  have hT : TabIs Tryd.prog W "math/bits.deBruijn64tab" .u8 (Go.Proofs.Quire.tab64.map fun n : Nat => (n : Int)) :=
    tabIs_of_head (g := 3) (t := 142) (e := 5) (n := 64) (by kernel_rfl) (by kernel_rfl) Tryd.underlying142 Tryd.underlying5 (by kernel_rfl) (by kernel_rfl) h2
  intro j hj
  have h := hT.cell (g := 3) (by kernel_rfl) j (by simpa [Go.Proofs.Quire.tab64] using hj)
  rw [h]
  have hl : j < Go.Proofs.Quire.tab64.length := by simpa [Go.Proofs.Quire.tab64] using hj
  rw [getD_lt _ _ _ (by simpa using hl), getD_lt _ _ _ hl]
  simp
end Go.Proofs.YtehffacmphpknaaDoor
