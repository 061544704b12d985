/-
  Which calls return what is new.
-/
import Derived.Test.YtnpdpkeackicmaaXV
import Derived.Test.YtnpdpkeackicmaaEngR
import Derived.Test.YtnpdpkeackicmaaLf
import Derived.KernelRfl
set_option linter.unusedSimpArgs false
set_option linter.unusedVariables false
namespace Go.Proofs.Ytnpdpkeackicmaa
open Go Go.Proofs.Eng Go.RowKit
def fr (f : Nat) : Bool := [].contains f
def mm0 : Memo := ⟨[(78, [.ag []], .v (.int .i64 0))], [], []⟩
theorem mm0_ok : MemoOK Try.prog xf mm0 := ⟨all_more none_run <| all_none, all_none, all_none⟩
end Go.Proofs.Ytnpdpkeackicmaa
