/-
  Which calls return what is new.
-/
import Derived.Test.YtphcmmkmkdcohaaXFk
import Derived.Test.YtphcmmkmkdcohaaEngR
import Derived.KernelRfl
set_option linter.unusedSimpArgs false
set_option linter.unusedVariables false
namespace Go.Proofs.Ytphcmmkmkdcohaa
open Go Go.Proofs.Eng Go.RowKit
def fr (f : Nat) : Bool := [157, 158, 84, 154, 82, 152, 90].contains f
def mm0 : Memo := ⟨[], [], []⟩
theorem mm0_ok : MemoOK Try.prog xf mm0 := ⟨all_none, all_none, all_none⟩
end Go.Proofs.Ytphcmmkmkdcohaa
