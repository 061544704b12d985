/-
  TableBirkhoff: the law.
-/
import Derived.Test.YtkbeaheladmeiaaBd1
import Derived.Test.YtkbeaheladmeiaaBd2
import Derived.Test.YtkbeaheladmeiaaBd3
import Derived.Test.YtkbeaheladmeiaaBd4
set_option linter.unusedSimpArgs false
set_option linter.unusedVariables false
namespace Go.Proofs.Ytkbeaheladmeiaa
open Go Go.Proofs.Eng
set_option maxRecDepth 100000
set_option maxHeartbeats 4000000
theorem birk_law {a b e : Int} {D H : List Int} (ha : 0 ≤ a ∧ a ≤ 255) (hb : 0 ≤ b ∧ b ≤ 255) (hD : D.length = 16) (hH : H.length = 8) (bH : ∀ x, x ∈ H → 0 ≤ x ∧ x ≤ 255) (hW : Runs Try.prog xf 28 [] (.v (.bool true))) :
    Runs Try.prog xf 3 [ldg a b e D H] (.v (.bool true)) := by
  obtain ⟨_, h1, h4⟩ := sz_b ha
  rcases (by omega : sz a = 1 ∨ sz a = 2 ∨ sz a = 3 ∨ sz a = 4) with h | h | h | h
  · exact birk_1 h ha hb hD hH bH hW
  · exact birk_2 h ha hb hD hH bH hW
  · exact birk_3 h ha hb hD hH bH hW
  · exact birk_4 h ha hb hD hH bH hW
end Go.Proofs.Ytkbeaheladmeiaa

