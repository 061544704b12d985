/-
  Pieces of the run.
-/
import Derived.Test.YtimfijmkfdhlmaaPcW0M
import Derived.KernelRfl
set_option linter.unusedSimpArgs false
set_option linter.unusedVariables false
namespace Go.Proofs.Ytimfijmkfdhlmaa
open Go Go.Proofs.Eng Go.RowKit
def px71 : List AV := [(.ag [(.v (.int .i64 6)), (.sl 2 false [(.ag [(.v (.int .i64 0)), (.v (.int .i64 1))]), (.ag [(.v (.int .i64 0)), (.v (.int .i64 2))]), (.ag [(.v (.int .i64 0)), (.v (.int .i64 3))]), (.ag [(.v (.int .i64 3)), (.v (.int .i64 4))]), (.ag [(.v (.int .i64 3)), (.v (.int .i64 5))]), (.ag [(.v (.int .i64 4)), (.v (.int .i64 5))])])])]
def pr71 : AV := (.tup [(.sl 1 false [(.v (.int .i64 2)), (.v (.int .i64 0)), (.v (.int .i64 0)), (.v (.int .i64 1)), (.v (.int .i64 1)), (.v (.int .i64 1))]), (.v (.int .i64 0))])
theorem pc71 : Runs Try.prog xf 10 px71 pr71 := Runs.execM (fr := fr) (fuel := 10000) mm1_ok 40 (by kernel_rfl)
def px74 : List AV := [(.ptr (.bm 53 [(.ag [(.v (.int .i64 6)), (.sl 2 false [(.ag [(.v (.int .i64 0)), (.v (.int .i64 1))]), (.ag [(.v (.int .i64 0)), (.v (.int .i64 2))]), (.ag [(.v (.int .i64 0)), (.v (.int .i64 3))]), (.ag [(.v (.int .i64 3)), (.v (.int .i64 4))]), (.ag [(.v (.int .i64 3)), (.v (.int .i64 5))]), (.ag [(.v (.int .i64 4)), (.v (.int .i64 5))])])])])), (.o 8 1 1 0 0), (.ptr (.v (.int .i64 6))), (.o 7 1 1 0 0), (.ptr (.fn 54 [])), (.o 9 1 1 0 0)]
def pr74 : AV := (.tup [])
def pq74 : QE := ⟨2000, 61, px74, [(7, 1, some ⟨30, 1, [(.sl 1 false [(.v (.int .i64 0)), (.v (.int .i64 2)), (.v (.int .i64 0)), (.v (.int .i64 1)), (.v (.int .i64 1)), (.v (.int .i64 1))])]⟩), (8, 1, some ⟨30, 1, [(.os 1034 1 6 1 0 1)]⟩), (9, 1, some ⟨1, 1, [(.fn 61 [(.ptr (.bm 53 [(.ag [(.v (.int .i64 6)), (.sl 2 false [(.ag [(.v (.int .i64 0)), (.v (.int .i64 1))]), (.ag [(.v (.int .i64 0)), (.v (.int .i64 2))]), (.ag [(.v (.int .i64 0)), (.v (.int .i64 3))]), (.ag [(.v (.int .i64 3)), (.v (.int .i64 4))]), (.ag [(.v (.int .i64 3)), (.v (.int .i64 5))]), (.ag [(.v (.int .i64 4)), (.v (.int .i64 5))])])])])), (.o 8 1 1 0 0), (.ptr (.v (.int .i64 6))), (.o 7 1 1 0 0), (.ptr (.fn 54 [])), (.o 9 1 1 0 0)])]⟩), (1034, 1, some ⟨3, 1, [(.v (.int .i64 2)), (.v (.int .i64 2)), (.v (.int .i64 2)), (.v (.int .i64 2)), (.v (.int .i64 2)), (.v (.int .i64 2))]⟩)], pr74, [(7, 1, some ⟨30, 1, [(.sl 1 false [(.v (.int .i64 0)), (.v (.int .i64 2)), (.v (.int .i64 0)), (.v (.int .i64 1)), (.v (.int .i64 1)), (.v (.int .i64 1))])]⟩), (8, 1, some ⟨30, 1, [(.os 1034 1 6 1 0 1)]⟩), (9, 1, some ⟨1, 1, [(.fn 61 [(.ptr (.bm 53 [(.ag [(.v (.int .i64 6)), (.sl 2 false [(.ag [(.v (.int .i64 0)), (.v (.int .i64 1))]), (.ag [(.v (.int .i64 0)), (.v (.int .i64 2))]), (.ag [(.v (.int .i64 0)), (.v (.int .i64 3))]), (.ag [(.v (.int .i64 3)), (.v (.int .i64 4))]), (.ag [(.v (.int .i64 3)), (.v (.int .i64 5))]), (.ag [(.v (.int .i64 4)), (.v (.int .i64 5))])])])])), (.o 8 1 1 0 0), (.ptr (.v (.int .i64 6))), (.o 7 1 1 0 0), (.ptr (.fn 54 [])), (.o 9 1 1 0 0)])]⟩), (1034, 1, some ⟨3, 1, [(.v (.int .i64 2)), (.v (.int .i64 2)), (.v (.int .i64 2)), (.v (.int .i64 2)), (.v (.int .i64 2)), (.v (.int .i64 2))]⟩)]⟩
theorem pc74 : RunsR Try.prog xf pq74.kb pq74.f pq74.args pq74.η pq74.r pq74.η' := RunsR.execM (fr := fr) (fuel := 10000) mm1_ok 40 (by kernel_rfl)
end Go.Proofs.Ytimfijmkfdhlmaa
