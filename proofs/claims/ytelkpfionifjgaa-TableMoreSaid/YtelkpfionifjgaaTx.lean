/-
  TableMore: the law.
-/
import Derived.Test.YtelkpfionifjgaaTw1
import Derived.Test.YtelkpfionifjgaaTw2
import Derived.Test.YtelkpfionifjgaaTw3
import Derived.Test.YtelkpfionifjgaaTw4
set_option linter.unusedSimpArgs false
set_option linter.unusedVariables false
namespace Go.Proofs.Ytelkpfionifjgaa
open Go Go.Proofs.Eng
set_option maxRecDepth 100000
set_option maxHeartbeats 4000000
theorem more_law {a b e z1 z2 z3 : Int} {D H : List Int} (ha : 0 ≤ a ∧ a ≤ 255) (he : 0 ≤ e ∧ e ≤ 255) (hD : D.length = 16) (hH : H.length = 8) (bD : ∀ x, x ∈ D → 0 ≤ x ∧ x ≤ 255) (b1 : 0 ≤ z1 ∧ z1 ≤ 255) (b2 : 0 ≤ z2 ∧ z2 ≤ 255) (b3 : 0 ≤ z3 ∧ z3 ≤ 255) (hW : Runs Try.prog xf 28 [] (.v (.bool true))) :
    Runs Try.prog xf 9 [ldg a b e D H, u8 z1, u8 z2, u8 z3] (.v (.bool true)) := by
  obtain ⟨T, hg, hfree⟩ := free_run (b := b) ha he hD hH bD
  generalize hn : sz a = n at *
  have hn1 := hg.n1
  have hn4 := hg.n4
  have hl := hg.len
  rcases (by omega : n = 1 ∨ n = 2 ∨ n = 3 ∨ n = 4) with rfl | rfl | rfl | rfl
  · match T, hl with
    | [R0], _ => exact more_1 hg hD hH hfree b1 b2 b3 hW
  · match T, hl with
    | [R0, R1], _ => exact more_2 hg hD hH hfree b1 b2 b3 hW
  · match T, hl with
    | [R0, R1, R2], _ => exact more_3 hg hD hH hfree b1 b2 b3 hW
  · match T, hl with
    | [R0, R1, R2, R3], _ => exact more_4 hg hD hH hfree b1 b2 b3 hW
end Go.Proofs.Ytelkpfionifjgaa

