/-
  Which calls return what is new.
-/
import Derived.Test.YtdmffkknghianaaXV
import Derived.Test.YtdmffkknghianaaEngR
import Derived.Test.YtdmffkknghianaaLf
import Derived.KernelRfl
set_option linter.unusedSimpArgs false
set_option linter.unusedVariables false
namespace Go.Proofs.Ytdmffkknghianaa
open Go Go.Proofs.Eng Go.RowKit
def fr (f : Nat) : Bool := [68, 71, 66].contains f
def mm0 : Memo := ⟨[(33, [(.ag [(.v (.int .i64 6)), (.sl 1 true [(.v (.int .i64 3)), (.v (.int .i64 2)), (.v (.int .i64 2)), (.v (.int .i64 5))])]), (.sl 1 true [(.v (.int .i64 1)), (.v (.int .i64 3)), (.v (.int .i64 4))]), (.v (.int .i64 1)), (.v (.int .i64 2))], (.tup [(.sl 1 false [(.v (.int .i64 1)), (.v (.int .i64 2)), (.v (.int .i64 3)), (.v (.int .i64 4))]), (.v (.int .i64 3)), (.v (.int .i64 0))])), (33, [(.ag [(.v (.int .i64 6)), (.sl 1 true [(.v (.int .i64 3)), (.v (.int .i64 2)), (.v (.int .i64 2)), (.v (.int .i64 5))])]), (.sl 1 true [(.v (.int .i64 1)), (.v (.int .i64 3)), (.v (.int .i64 4))]), (.v (.int .i64 1)), (.v (.int .i64 1))], (.tup [(.sl 1 false [(.v (.int .i64 1)), (.v (.int .i64 3)), (.v (.int .i64 4))]), (.v (.int .i64 1)), (.v (.int .i64 0))])), (33, [(.ag [(.v (.int .i64 6)), (.sl 1 true [(.v (.int .i64 3)), (.v (.int .i64 2)), (.v (.int .i64 2)), (.v (.int .i64 5))])]), (.sl 1 true [(.v (.int .i64 1)), (.v (.int .i64 3)), (.v (.int .i64 4))]), (.v (.int .i64 3)), (.v (.int .i64 1))], (.tup [(.sl 1 false [(.v (.int .i64 1)), (.v (.int .i64 3)), (.v (.int .i64 4))]), (.v (.int .i64 2)), (.v (.int .i64 0))])), (33, [(.ag [(.v (.int .i64 10)), (.sl 1 true [(.v (.int .i64 3)), (.v (.int .i64 3)), (.v (.int .i64 4)), (.v (.int .i64 2)), (.v (.int .i64 5))])]), (.sl 1 true [(.v (.int .i64 2)), (.v (.int .i64 4)), (.v (.int .i64 5))]), (.v (.int .i64 0)), (.v (.int .i64 4))], (.tup [(.sl 1 false [(.v (.int .i64 1)), (.v (.int .i64 3)), (.v (.int .i64 5))]), (.v (.int .i64 2)), (.v (.int .i64 0))]))], [], []⟩
theorem mm0_ok : MemoOK Try.prog xf mm0 := ⟨all_more lg_0 <| all_more lg_1 <| all_more lg_2 <| all_more lg_3 <| all_none, all_none, all_none⟩
end Go.Proofs.Ytdmffkknghianaa
