/-
  Which calls return what is new.
-/
import Derived.Test.YthhhibpnhokjfabXL
import Derived.Test.YthhhibpnhokjfabEngR
import Derived.KernelRfl
set_option linter.unusedSimpArgs false
set_option linter.unusedVariables false
namespace Go.Proofs.Ythhhibpnhokjfab
open Go Go.Proofs.Eng Go.RowKit
def fr (f : Nat) : Bool := [78,9,26,23,39,61,37,21,20,17,15,46,67].contains f
def mm0 : Memo := ⟨[], [], []⟩
theorem mm0_ok : MemoOK Try.prog xf mm0 := ⟨all_none, all_none, all_none⟩
end Go.Proofs.Ythhhibpnhokjfab
