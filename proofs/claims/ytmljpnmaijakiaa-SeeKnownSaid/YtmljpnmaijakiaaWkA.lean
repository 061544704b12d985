/-
  Calls of works(), one by one.
-/
import Derived.Test.YtmljpnmaijakiaaBk
import Derived.KernelRfl
set_option linter.unusedSimpArgs false
set_option linter.unusedVariables false
namespace Go.Proofs.Ytmljpnmaijakiaa
open Go Go.Proofs.Eng
def wk0 : AV := (.tup [(.sl 1 false [(.v (.int .i64 0)), (.v (.int .i64 2))]), (.v (.int .i64 0))])
theorem wk0_run : Runs Try.prog xf 17 [bk60] wk0 := Runs.exec (fuel := 10000) 30 (by kernel_rfl)
def wk1 : AV := (.tup [(.sl 1 false [(.sl 1 false [(.v (.int .i64 0)), (.v (.int .i64 2))]), (.sl 1 false [(.v (.int .i64 0)), (.v (.int .i64 3))]), (.sl 1 false [(.v (.int .i64 1)), (.v (.int .i64 3))])]), (.v (.int .i64 0))])
theorem wk1_run : Runs Try.prog xf 19 [bk60] wk1 := Runs.exec (fuel := 10000) 30 (by kernel_rfl)
def wk2 : AV := (.tup [(.sl 1 false [(.v (.int .i64 0)), (.v (.int .i64 1)), (.v (.int .i64 2))]), (.v (.int .i64 0))])
theorem wk2_run : Runs Try.prog xf 27 [bk61] wk2 := Runs.exec (fuel := 10000) 30 (by kernel_rfl)
def wk3 : AV := (.tup [(.sl 1 false [(.v (.int .i64 0)), (.v (.int .i64 1)), (.v (.int .i64 2)), (.v (.int .i64 3))]), (.v (.int .i64 0))])
theorem wk3_run : Runs Try.prog xf 31 [bk60, il [3], ii 0] wk3 := Runs.exec (fuel := 10000) 30 (by kernel_rfl)
def wk4 : AV := (.tup [(.sl 1 false [(.v (.int .i64 0)), (.v (.int .i64 1)), (.v (.int .i64 0))]), (.v (.int .i64 0))])
theorem wk4_run : Runs Try.prog xf 33 [bk59] wk4 := Runs.exec (fuel := 10000) 30 (by kernel_rfl)
def wk5 : AV := (.tup [(.v (.int .i64 2)), (.v (.int .i64 0))])
theorem wk5_run : Runs Try.prog xf 35 [bk60] wk5 := Runs.exec (fuel := 10000) 30 (by kernel_rfl)
end Go.Proofs.Ytmljpnmaijakiaa
