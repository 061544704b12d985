/-
  Calls of the law, one by one.
-/
import Derived.Test.YtmljpnmaijakiaaBk
import Derived.KernelRfl
set_option linter.unusedSimpArgs false
set_option linter.unusedVariables false
namespace Go.Proofs.Ytmljpnmaijakiaa
open Go Go.Proofs.Eng
def kn5 : AV := (.tup [(.v (.int .i64 1)), (.v (.int .i64 0))])
theorem kn5_run : Runs Try.prog xf 35 [bk61] kn5 := Runs.exec (fuel := 10000) 30 (by kernel_rfl)
def kn6 : AV := (.tup [(.v (.int .i64 0)), (.v (.int .i64 0))])
theorem kn6_run : Runs Try.prog xf 37 [bk60, ii 2] kn6 := Runs.exec (fuel := 10000) 30 (by kernel_rfl)
def kn7 : AV := (.tup [(.v (.int .i64 0)), (.v (.int .i64 2))])
theorem kn7_run : Runs Try.prog xf 37 [bk60, ii 5] kn7 := Runs.exec (fuel := 10000) 30 (by kernel_rfl)
def kn8 : AV := (.tup [(.v (.int .i64 0)), (.v (.int .i64 12))])
theorem kn8_run : Runs Try.prog xf 39 [bk59] kn8 := Runs.exec (fuel := 10000) 30 (by kernel_rfl)
def kn9 : AV := (.tup [(.ag [(.v (.int .i64 0)), (.v (.slice none 0 0))]), (.v (.int .i64 2))])
theorem kn9_run : Runs Try.prog xf 41 [bk59, ii 2] kn9 := Runs.exec (fuel := 10000) 30 (by kernel_rfl)
end Go.Proofs.Ytmljpnmaijakiaa
