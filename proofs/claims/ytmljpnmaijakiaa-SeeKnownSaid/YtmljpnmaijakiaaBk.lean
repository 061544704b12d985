/-
  The books of the examples.
-/
import Derived.Test.YtmljpnmaijakiaaXF
import Derived.Test.YtmljpnmaijakiaaEngR
import Derived.KernelRfl
set_option linter.unusedSimpArgs false
set_option linter.unusedVariables false
namespace Go.Proofs.Ytmljpnmaijakiaa
open Go Go.Proofs.Eng
def il (l : List Nat) : AV := .sl 1 true (l.map fun (x : Nat) => .v (.int .i64 x))
def ii (x : Nat) : AV := .v (.int .i64 x)
def bk59 : AV := (.ag [(.v (.int .i64 3)), (.sl 2 false [(.ag [(.v (.int .i64 0)), (.v (.int .i64 1))]), (.ag [(.v (.int .i64 1)), (.v (.int .i64 2))])])])
theorem bk59_run : Runs Try.prog xf 59 [] bk59 := Runs.exec (fuel := 10000) 30 (by kernel_rfl)
def bk60 : AV := (.ag [(.v (.int .i64 4)), (.sl 2 false [(.ag [(.v (.int .i64 0)), (.v (.int .i64 1))]), (.ag [(.v (.int .i64 1)), (.v (.int .i64 0))]), (.ag [(.v (.int .i64 1)), (.v (.int .i64 2))]), (.ag [(.v (.int .i64 2)), (.v (.int .i64 3))]), (.ag [(.v (.int .i64 3)), (.v (.int .i64 2))])])])
theorem bk60_run : Runs Try.prog xf 60 [] bk60 := Runs.exec (fuel := 10000) 30 (by kernel_rfl)
def bk61 : AV := (.ag [(.v (.int .i64 3)), (.sl 2 false [(.ag [(.v (.int .i64 0)), (.v (.int .i64 1))]), (.ag [(.v (.int .i64 1)), (.v (.int .i64 2))]), (.ag [(.v (.int .i64 2)), (.v (.int .i64 0))])])])
theorem bk61_run : Runs Try.prog xf 61 [] bk61 := Runs.exec (fuel := 10000) 30 (by kernel_rfl)
end Go.Proofs.Ytmljpnmaijakiaa
