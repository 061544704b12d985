/-
  Which calls return what is new.
-/
import Derived.Test.YtliklcopmapfaaaDoorXT
import Derived.Test.YtliklcopmapfaaaDoorEngR
import Derived.KernelRfl
set_option linter.unusedSimpArgs false
set_option linter.unusedVariables false
namespace Go.Proofs.YtliklcopmapfaaaDoor
open Go Go.Proofs.Eng Go.RowKit
def fr (f : Nat) : Bool := [41, 12, 39, 62, 37, 52, 46, 45].contains f
def mm0 : Memo := ⟨[], [], []⟩
theorem mm0_ok : MemoOK Tryd.prog xf mm0 := ⟨all_none, all_none, all_none⟩
end Go.Proofs.YtliklcopmapfaaaDoor
