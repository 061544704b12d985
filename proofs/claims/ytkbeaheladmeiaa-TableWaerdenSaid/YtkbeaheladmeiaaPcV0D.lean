/-
  Pieces of the run.
-/
import Derived.Test.YtkbeaheladmeiaaPcVF
import Derived.KernelRfl
set_option linter.unusedSimpArgs false
set_option linter.unusedVariables false
namespace Go.Proofs.Ytkbeaheladmeiaa
open Go Go.Proofs.Eng Go.RowKit
def px3 : List AV := [(.sl 1 true [(.sl 1 true [(.v (.int .i64 1)), (.v (.int .i64 1)), (.v (.int .i64 0))]), (.sl 1 true [(.v (.int .i64 0)), (.v (.int .i64 1)), (.v (.int .i64 1))]), (.sl 1 true [(.v (.int .i64 1)), (.v (.int .i64 0)), (.v (.int .i64 1))])])]
def pr3 : AV := (.tup [(.sl 1 false [(.v (.int .i64 0)), (.v (.int .i64 1)), (.v (.int .i64 2))]), (.v (.int .i64 0))])
theorem pc3 : Runs Try.prog xf 33 px3 pr3 := Runs.execM (fr := fr) (fuel := 10000) mm0_ok 40 (by kernel_rfl)
def px4 : List AV := [(.sl 1 true [(.sl 1 true [(.v (.int .i64 1)), (.v (.int .i64 1)), (.v (.int .i64 0))]), (.sl 1 true [(.v (.int .i64 0)), (.v (.int .i64 1)), (.v (.int .i64 1))]), (.sl 1 true [(.v (.int .i64 1)), (.v (.int .i64 0)), (.v (.int .i64 1))])])]
def pr4 : AV := (.tup [(.v (.int .i64 2)), (.v (.int .i64 0))])
theorem pc4 : Runs Try.prog xf 34 px4 pr4 := Runs.execM (fr := fr) (fuel := 10000) mm0_ok 40 (by kernel_rfl)
def px8 : List AV := [(.sl 1 false [(.sl 1 false [(.v (.int .i64 0)), (.v (.int .i64 1)), (.v (.int .i64 1))]), (.sl 1 false [(.v (.int .i64 1)), (.v (.int .i64 1)), (.v (.int .i64 0))]), (.sl 1 false [(.v (.int .i64 1)), (.v (.int .i64 0)), (.v (.int .i64 1))])]), (.sl 1 false [(.sl 1 false [(.v (.int .i64 1)), (.v (.int .i64 0)), (.v (.int .i64 2))]), (.sl 1 false [(.v (.int .i64 1)), (.v (.int .i64 2)), (.v (.int .i64 0))]), (.sl 1 false [(.v (.int .i64 2)), (.v (.int .i64 0)), (.v (.int .i64 1))]), (.sl 1 false [(.v (.int .i64 2)), (.v (.int .i64 1)), (.v (.int .i64 0))])])]
def pr8 : AV := (.v (.int .i64 1))
theorem pc8 : Runs Try.prog xf 75 px8 pr8 := Runs.execM (fr := fr) (fuel := 10000) mm0_ok 40 (by kernel_rfl)
def px12 : List AV := [(.ag [(.sl 1 true [(.sl 1 true [(.v (.int .i64 2)), (.v (.int .i64 1)), (.v (.int .i64 1))]), (.sl 1 true [(.v (.int .i64 1)), (.v (.int .i64 2)), (.v (.int .i64 1))]), (.sl 1 true [(.v (.int .i64 1)), (.v (.int .i64 1)), (.v (.int .i64 2))])]), (.fn 73 [(.o 5 1 1 0 0), (.ptr (.sl 1 true [(.sl 1 true [(.v (.int .i64 2)), (.v (.int .i64 1)), (.v (.int .i64 1))]), (.sl 1 true [(.v (.int .i64 1)), (.v (.int .i64 2)), (.v (.int .i64 1))]), (.sl 1 true [(.v (.int .i64 1)), (.v (.int .i64 1)), (.v (.int .i64 2))])]))])]), (.os 1043 2 1 1 0 1)]
def pr12 : AV := (.tup [])
def pq12 : QE := ⟨9000, 70, px12, [(5, 1, some ⟨3, 1, [(.v (.int .i64 10))]⟩), (1043, 2, some ⟨3, 1, [(.v (.int .i64 1))]⟩), (3005, 1, some ⟨3, 1, [(.v (.int .i64 0)), (.v (.int .i64 1))]⟩), (5005, 1, some ⟨3, 1, [(.v (.int .i64 0)), (.v (.int .i64 1)), (.v (.int .i64 2))]⟩), (6005, 1, some ⟨3, 1, [(.v (.int .i64 0)), (.v (.int .i64 2))]⟩), (8005, 1, some ⟨3, 1, [(.v (.int .i64 0)), (.v (.int .i64 2)), (.v (.int .i64 1))]⟩)], pr12, [(5, 1, some ⟨3, 1, [(.v (.int .i64 13))]⟩), (1043, 2, some ⟨3, 1, [(.v (.int .i64 1))]⟩), (3005, 1, some ⟨3, 1, [(.v (.int .i64 0)), (.v (.int .i64 1))]⟩), (5005, 1, some ⟨3, 1, [(.v (.int .i64 0)), (.v (.int .i64 1)), (.v (.int .i64 2))]⟩), (6005, 1, some ⟨3, 1, [(.v (.int .i64 0)), (.v (.int .i64 2))]⟩), (8005, 1, some ⟨3, 1, [(.v (.int .i64 0)), (.v (.int .i64 2)), (.v (.int .i64 1))]⟩), (10005, 1, some ⟨3, 1, [(.v (.int .i64 1)), (.v (.int .i64 0))]⟩), (12005, 1, some ⟨3, 1, [(.v (.int .i64 1)), (.v (.int .i64 0)), (.v (.int .i64 2))]⟩), (13005, 1, some ⟨3, 1, [(.v (.int .i64 1)), (.v (.int .i64 2))]⟩), (15005, 1, some ⟨3, 1, [(.v (.int .i64 1)), (.v (.int .i64 2)), (.v (.int .i64 0))]⟩)]⟩
theorem pc12 : RunsR Try.prog xf pq12.kb pq12.f pq12.args pq12.η pq12.r pq12.η' := RunsR.execM (fr := fr) (fuel := 10000) mm0_ok 40 (by kernel_rfl)
def px17 : List AV := [(.v (.int .i64 3)), (.sl 2 true [(.ag [(.sl 1 true [(.v (.int .i64 0)), (.v (.int .i64 1)), (.v (.int .i64 2))]), (.v (.int .i64 1))]), (.ag [(.sl 1 true [(.v (.int .i64 1)), (.v (.int .i64 2)), (.v (.int .i64 0))]), (.v (.int .i64 1))])])]
def pr17 : AV := (.tup [(.sl 1 false [(.sl 1 false [(.v (.int .i64 1)), (.v (.int .i64 1)), (.v (.int .i64 0))]), (.sl 1 false [(.v (.int .i64 0)), (.v (.int .i64 1)), (.v (.int .i64 1))]), (.sl 1 false [(.v (.int .i64 1)), (.v (.int .i64 0)), (.v (.int .i64 1))])]), (.v (.int .i64 0))])
theorem pc17 : Runs Try.prog xf 25 px17 pr17 := Runs.execM (fr := fr) (fuel := 10000) mm0_ok 40 (by kernel_rfl)
def px21 : List AV := [(.sl 1 true [(.sl 1 true [(.v (.int .i64 1)), (.v (.int .i64 1)), (.v (.int .i64 0))]), (.sl 1 true [(.v (.int .i64 0)), (.v (.int .i64 1)), (.v (.int .i64 1))]), (.sl 1 true [(.v (.int .i64 1)), (.v (.int .i64 0)), (.v (.int .i64 1))])]), (.sl 1 true [(.v (.int .i64 0)), (.v (.int .i64 2)), (.v (.int .i64 1))])]
def pr21 : AV := (.v (.int .i64 12))
theorem pc21 : Runs Try.prog xf 44 px21 pr21 := Runs.execM (fr := fr) (fuel := 10000) mm0_ok 40 (by kernel_rfl)
end Go.Proofs.Ytkbeaheladmeiaa
