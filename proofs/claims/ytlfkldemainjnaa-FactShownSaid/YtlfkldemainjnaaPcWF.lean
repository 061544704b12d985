/-
  Which calls return what is new.
-/
import Derived.Test.YtlfkldemainjnaaXW
import Derived.Test.YtlfkldemainjnaaEngR
import Derived.KernelRfl
set_option linter.unusedSimpArgs false
set_option linter.unusedVariables false
namespace Go.Proofs.Ytlfkldemainjnaa
open Go Go.Proofs.Eng Go.RowKit
def fr (f : Nat) : Bool := [51, 7, 23, 24, 22, 48, 39].contains f
def mm0 : Memo := ⟨[], [], []⟩
theorem mm0_ok : MemoOK Try.prog xf mm0 := ⟨all_none, all_none, all_none⟩
end Go.Proofs.Ytlfkldemainjnaa
