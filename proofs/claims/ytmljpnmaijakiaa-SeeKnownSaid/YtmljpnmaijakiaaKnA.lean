/-
  Calls of the law, one by one.
-/
import Derived.Test.YtmljpnmaijakiaaBk
import Derived.KernelRfl
set_option linter.unusedSimpArgs false
set_option linter.unusedVariables false
namespace Go.Proofs.Ytmljpnmaijakiaa
open Go Go.Proofs.Eng
def kn0 : AV := (.tup [(.sl 1 false [(.v (.int .i64 0)), (.v (.int .i64 2))]), (.v (.int .i64 0))])
theorem kn0_run : Runs Try.prog xf 17 [bk59] kn0 := Runs.exec (fuel := 10000) 30 (by kernel_rfl)
def kn1 : AV := (.tup [(.sl 1 false [(.sl 1 false [(.v (.int .i64 0)), (.v (.int .i64 2))])]), (.v (.int .i64 0))])
theorem kn1_run : Runs Try.prog xf 19 [bk59] kn1 := Runs.exec (fuel := 10000) 30 (by kernel_rfl)
def kn2 : AV := (.tup [(.v (.slice none 0 0)), (.v (.int .i64 13))])
theorem kn2_run : Runs Try.prog xf 27 [bk60] kn2 := Runs.exec (fuel := 10000) 30 (by kernel_rfl)
def kn3 : AV := (.tup [(.sl 1 false [(.v (.int .i64 1)), (.v (.int .i64 0))]), (.v (.int .i64 0))])
theorem kn3_run : Runs Try.prog xf 31 [bk60, il [0, 3], ii 1] kn3 := Runs.exec (fuel := 10000) 30 (by kernel_rfl)
def kn4 : AV := (.tup [(.v (.int .i64 0)), (.v (.int .i64 0))])
theorem kn4_run : Runs Try.prog xf 35 [bk59] kn4 := Runs.exec (fuel := 10000) 30 (by kernel_rfl)
end Go.Proofs.Ytmljpnmaijakiaa
