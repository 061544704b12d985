/-
  Which calls return what is new.
-/
import Derived.Test.YtimfijmkfdhlmaaXW
import Derived.Test.YtimfijmkfdhlmaaEngR
import Derived.KernelRfl
set_option linter.unusedSimpArgs false
set_option linter.unusedVariables false
namespace Go.Proofs.Ytimfijmkfdhlmaa
open Go Go.Proofs.Eng Go.RowKit
def fr (f : Nat) : Bool := [83,81,53,62,37,63,58].contains f
def mm0 : Memo := ⟨[], [], []⟩
theorem mm0_ok : MemoOK Try.prog xf mm0 := ⟨all_none, all_none, all_none⟩
end Go.Proofs.Ytimfijmkfdhlmaa
