/-
  Pieces of the run.
-/
import Derived.Test.YtphcmmkmkdcohaaPcFk0M
import Derived.KernelRfl
set_option linter.unusedSimpArgs false
set_option linter.unusedVariables false
namespace Go.Proofs.Ytphcmmkmkdcohaa
open Go Go.Proofs.Eng Go.RowKit
def px89 : List AV := [(.ag [(.v (.int .i64 6)), (.sl 2 false [(.ag [(.v (.int .i64 0)), (.v (.int .i64 1))]), (.ag [(.v (.int .i64 0)), (.v (.int .i64 2))]), (.ag [(.v (.int .i64 0)), (.v (.int .i64 3))]), (.ag [(.v (.int .i64 3)), (.v (.int .i64 4))]), (.ag [(.v (.int .i64 3)), (.v (.int .i64 5))]), (.ag [(.v (.int .i64 4)), (.v (.int .i64 5))])])])]
def pr89 : AV := (.tup [(.sl 1 false [(.v (.int .i64 2)), (.v (.int .i64 0)), (.v (.int .i64 0)), (.v (.int .i64 1)), (.v (.int .i64 1)), (.v (.int .i64 1))]), (.v (.int .i64 0))])
theorem pc89 : Runs Try.prog xf 12 px89 pr89 := Runs.execM (fr := fr) (fuel := 10000) mm1_ok 40 (by kernel_rfl)
def px92 : List AV := [(.ptr (.bm 84 [(.ag [(.v (.int .i64 6)), (.sl 2 false [(.ag [(.v (.int .i64 0)), (.v (.int .i64 1))]), (.ag [(.v (.int .i64 0)), (.v (.int .i64 2))]), (.ag [(.v (.int .i64 0)), (.v (.int .i64 3))]), (.ag [(.v (.int .i64 3)), (.v (.int .i64 4))]), (.ag [(.v (.int .i64 3)), (.v (.int .i64 5))]), (.ag [(.v (.int .i64 4)), (.v (.int .i64 5))])])])])), (.o 8 1 1 0 0), (.ptr (.v (.int .i64 6))), (.o 7 1 1 0 0), (.ptr (.fn 85 [])), (.o 9 1 1 0 0)]
def pr92 : AV := (.tup [])
def pq92 : QE := ⟨2000, 153, px92, [(7, 1, some ⟨22, 1, [(.sl 1 false [(.v (.int .i64 0)), (.v (.int .i64 2)), (.v (.int .i64 0)), (.v (.int .i64 1)), (.v (.int .i64 1)), (.v (.int .i64 1))])]⟩), (8, 1, some ⟨22, 1, [(.os 1034 1 6 1 0 1)]⟩), (9, 1, some ⟨1, 1, [(.fn 153 [(.ptr (.bm 84 [(.ag [(.v (.int .i64 6)), (.sl 2 false [(.ag [(.v (.int .i64 0)), (.v (.int .i64 1))]), (.ag [(.v (.int .i64 0)), (.v (.int .i64 2))]), (.ag [(.v (.int .i64 0)), (.v (.int .i64 3))]), (.ag [(.v (.int .i64 3)), (.v (.int .i64 4))]), (.ag [(.v (.int .i64 3)), (.v (.int .i64 5))]), (.ag [(.v (.int .i64 4)), (.v (.int .i64 5))])])])])), (.o 8 1 1 0 0), (.ptr (.v (.int .i64 6))), (.o 7 1 1 0 0), (.ptr (.fn 85 [])), (.o 9 1 1 0 0)])]⟩), (1034, 1, some ⟨3, 1, [(.v (.int .i64 2)), (.v (.int .i64 2)), (.v (.int .i64 2)), (.v (.int .i64 2)), (.v (.int .i64 2)), (.v (.int .i64 2))]⟩)], pr92, [(7, 1, some ⟨22, 1, [(.sl 1 false [(.v (.int .i64 0)), (.v (.int .i64 2)), (.v (.int .i64 0)), (.v (.int .i64 1)), (.v (.int .i64 1)), (.v (.int .i64 1))])]⟩), (8, 1, some ⟨22, 1, [(.os 1034 1 6 1 0 1)]⟩), (9, 1, some ⟨1, 1, [(.fn 153 [(.ptr (.bm 84 [(.ag [(.v (.int .i64 6)), (.sl 2 false [(.ag [(.v (.int .i64 0)), (.v (.int .i64 1))]), (.ag [(.v (.int .i64 0)), (.v (.int .i64 2))]), (.ag [(.v (.int .i64 0)), (.v (.int .i64 3))]), (.ag [(.v (.int .i64 3)), (.v (.int .i64 4))]), (.ag [(.v (.int .i64 3)), (.v (.int .i64 5))]), (.ag [(.v (.int .i64 4)), (.v (.int .i64 5))])])])])), (.o 8 1 1 0 0), (.ptr (.v (.int .i64 6))), (.o 7 1 1 0 0), (.ptr (.fn 85 [])), (.o 9 1 1 0 0)])]⟩), (1034, 1, some ⟨3, 1, [(.v (.int .i64 2)), (.v (.int .i64 2)), (.v (.int .i64 2)), (.v (.int .i64 2)), (.v (.int .i64 2)), (.v (.int .i64 2))]⟩)]⟩
theorem pc92 : RunsR Try.prog xf pq92.kb pq92.f pq92.args pq92.η pq92.r pq92.η' := RunsR.execM (fr := fr) (fuel := 10000) mm1_ok 40 (by kernel_rfl)
end Go.Proofs.Ytphcmmkmkdcohaa
