/-
  Calls of works(), one by one.
-/
import Derived.Test.YtmljpnmaijakiaaBk
import Derived.KernelRfl
set_option linter.unusedSimpArgs false
set_option linter.unusedVariables false
namespace Go.Proofs.Ytmljpnmaijakiaa
open Go Go.Proofs.Eng
def wk6 : AV := (.tup [(.v (.int .i64 1)), (.v (.int .i64 0))])
theorem wk6_run : Runs Try.prog xf 37 [bk60, ii 0] wk6 := Runs.exec (fuel := 10000) 30 (by kernel_rfl)
def wk7 : AV := (.tup [(.v (.int .i64 0)), (.v (.int .i64 0))])
theorem wk7_run : Runs Try.prog xf 39 [bk60] wk7 := Runs.exec (fuel := 10000) 30 (by kernel_rfl)
def wk8 : AV := (.tup [(.ag [(.v (.int .i64 3)), (.sl 2 false [(.ag [(.v (.int .i64 1)), (.v (.int .i64 2))])])]), (.v (.int .i64 0))])
theorem wk8_run : Runs Try.prog xf 41 [bk59, ii 0] wk8 := Runs.exec (fuel := 10000) 30 (by kernel_rfl)
def wk9 : AV := (.tup [(.v (.slice none 0 0)), (.v (.int .i64 12))])
theorem wk9_run : Runs Try.prog xf 17 [bk61] wk9 := Runs.exec (fuel := 10000) 30 (by kernel_rfl)
def wk10 : AV := (.tup [(.v (.slice none 0 0)), (.v (.int .i64 13))])
theorem wk10_run : Runs Try.prog xf 27 [bk59] wk10 := Runs.exec (fuel := 10000) 30 (by kernel_rfl)
def wk11 : AV := (.tup [(.v (.slice none 0 0)), (.v (.int .i64 13))])
theorem wk11_run : Runs Try.prog xf 33 [bk61] wk11 := Runs.exec (fuel := 10000) 30 (by kernel_rfl)
def wk12 : AV := (.tup [(.v (.slice none 0 0)), (.v (.int .i64 12))])
theorem wk12_run : Runs Try.prog xf 31 [bk60, il [0], ii 3] wk12 := Runs.exec (fuel := 10000) 30 (by kernel_rfl)
end Go.Proofs.Ytmljpnmaijakiaa
