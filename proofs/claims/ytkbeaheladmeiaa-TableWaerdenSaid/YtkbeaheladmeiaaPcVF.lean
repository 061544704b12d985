/-
  Which calls return what is new.
-/
import Derived.Test.YtkbeaheladmeiaaXV
import Derived.Test.YtkbeaheladmeiaaEngR
import Derived.KernelRfl
set_option linter.unusedSimpArgs false
set_option linter.unusedVariables false
namespace Go.Proofs.Ytkbeaheladmeiaa
open Go Go.Proofs.Eng Go.RowKit
def fr (f : Nat) : Bool := [30, 58, 43].contains f
def mm0 : Memo := ⟨[], [], []⟩
theorem mm0_ok : MemoOK Try.prog xf mm0 := ⟨all_none, all_none, all_none⟩
end Go.Proofs.Ytkbeaheladmeiaa
