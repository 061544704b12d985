/-
  Which calls return what is new; Turn, shown by hand.
-/
import Derived.Test.YtlgmabgpfaajhaaXP
import Derived.Test.YtlgmabgpfaajhaaEngR
import Derived.Test.YtlgmabgpfaajhaaLf
import Derived.KernelRfl
set_option linter.unusedSimpArgs false
set_option linter.unusedVariables false
namespace Go.Proofs.Ytlgmabgpfaajhaa
open Go Go.Proofs.Eng Go.RowKit
def fr (f : Nat) : Bool := [20, 16, 37, 23].contains f
def mmE : Memo := ⟨[], [], []⟩
theorem mmE_ok : MemoOK Try.prog xf mmE := ⟨all_none, all_none, all_none⟩
theorem om : Try.prog.follows .mixedOrders = true := by kernel_rfl
theorem check_run : Runs Try.prog xf 35 [.sl 2 false ([((3 : Int), (2 : Int)), (1, 4), (5, 1)].map shA)] (ai 0) := Runs.execM (fr := fr) (fuel := 10000) mmE_ok 40 (by kernel_rfl)
def pxT : List AV := [(.sl 2 false [(.ag [(.v (.int .i64 3)), (.v (.int .i64 2))]), (.ag [(.v (.int .i64 1)), (.v (.int .i64 4))]), (.ag [(.v (.int .i64 5)), (.v (.int .i64 1))])])]
def prT : AV := (.tup [(.sl 2 false [(.ag [(.v (.int .i64 1)), (.v (.int .i64 5))]), (.ag [(.v (.int .i64 4)), (.v (.int .i64 1))]), (.ag [(.v (.int .i64 2)), (.v (.int .i64 3))])]), (.v (.int .i64 0))])
theorem turn_run : Runs Try.prog xf 31 pxT prT := Runs.leaf (turn_pure [((3 : Int), (2 : Int)), (1, 4), (5, 1)] false (by decide) (by decide) (fun w S0 vals hl hv hS hT => check_run.pure om xf_ok w S0 vals hl hv hS hT))
def mm0 : Memo := ⟨[(31, pxT, prT)], [], []⟩
theorem mm0_ok : MemoOK Try.prog xf mm0 := ⟨all_more turn_run <| all_none, all_none, all_none⟩
end Go.Proofs.Ytlgmabgpfaajhaa
