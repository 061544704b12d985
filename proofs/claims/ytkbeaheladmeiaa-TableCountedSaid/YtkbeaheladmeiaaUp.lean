/-
  TableCounted: the law.
-/
import Derived.Test.YtkbeaheladmeiaaMI
import Derived.Test.YtkbeaheladmeiaaMJ
import Derived.Test.YtkbeaheladmeiaaMK
import Derived.Test.YtkbeaheladmeiaaML
set_option linter.unusedSimpArgs false
set_option linter.unusedVariables false
namespace Go.Proofs.Ytkbeaheladmeiaa
open Go Go.Proofs.Eng
set_option maxRecDepth 100000
set_option maxHeartbeats 4000000
theorem counted_law {a b e : Int} {D H : List Int} (ha : 0 ≤ a ∧ a ≤ 255) (hb : 0 ≤ b ∧ b ≤ 255) (hD : D.length = 16) (hH : H.length = 8) (bH : ∀ x, x ∈ H → 0 ≤ x ∧ x ≤ 255) (hW : Runs Try.prog xf 28 [] (.v (.bool true))) :
    Runs Try.prog xf 7 [ldg a b e D H] (.v (.bool true)) := by
  obtain ⟨_, h1, h4⟩ := sz_b ha
  rcases (by omega : sz a = 1 ∨ sz a = 2 ∨ sz a = 3 ∨ sz a = 4) with h | h | h | h
  · exact counted_1 h ha hb hD hH bH hW
  · exact counted_2 h ha hb hD hH bH hW
  · exact counted_3 h ha hb hD hH bH hW
  · exact counted_4 h ha hb hD hH bH hW
end Go.Proofs.Ytkbeaheladmeiaa

