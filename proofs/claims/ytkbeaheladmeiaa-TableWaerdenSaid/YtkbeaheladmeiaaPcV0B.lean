/-
  Pieces of the run.
-/
import Derived.Test.YtkbeaheladmeiaaPcVF
import Derived.KernelRfl
set_option linter.unusedSimpArgs false
set_option linter.unusedVariables false
namespace Go.Proofs.Ytkbeaheladmeiaa
open Go Go.Proofs.Eng Go.RowKit
def px1 : List AV := [(.sl 1 false [(.sl 1 false [(.v (.int .i64 2)), (.v (.int .i64 1)), (.v (.int .i64 1))]), (.sl 1 false [(.v (.int .i64 1)), (.v (.int .i64 2)), (.v (.int .i64 1))]), (.sl 1 false [(.v (.int .i64 1)), (.v (.int .i64 1)), (.v (.int .i64 2))])]), (.sl 1 false [(.sl 1 false [(.v (.int .i64 1)), (.v (.int .i64 0)), (.v (.int .i64 2))]), (.sl 1 false [(.v (.int .i64 1)), (.v (.int .i64 2)), (.v (.int .i64 0))]), (.sl 1 false [(.v (.int .i64 2)), (.v (.int .i64 0)), (.v (.int .i64 1))]), (.sl 1 false [(.v (.int .i64 2)), (.v (.int .i64 1)), (.v (.int .i64 0))])])]
def pr1 : AV := (.v (.int .i64 0))
theorem pc1 : Runs Try.prog xf 75 px1 pr1 := Runs.execM (fr := fr) (fuel := 10000) mm0_ok 40 (by kernel_rfl)
def px5 : List AV := [(.sl 1 false [(.sl 1 false [(.v (.int .i64 0)), (.v (.int .i64 1)), (.v (.int .i64 1))]), (.sl 1 false [(.v (.int .i64 1)), (.v (.int .i64 0)), (.v (.int .i64 1))]), (.sl 1 false [(.v (.int .i64 1)), (.v (.int .i64 1)), (.v (.int .i64 0))])])]
def pr5 : AV := (.sl 1 false [(.sl 1 false [(.v (.int .i64 1)), (.v (.int .i64 2)), (.v (.int .i64 0))]), (.sl 1 false [(.v (.int .i64 2)), (.v (.int .i64 0)), (.v (.int .i64 1))])])
theorem pc5 : Runs Try.prog xf 56 px5 pr5 := Runs.execM (fr := fr) (fuel := 10000) mm0_ok 40 (by kernel_rfl)
def px10 : List AV := [(.sl 1 true [(.sl 1 true [(.v (.int .i64 1)), (.v (.int .i64 0)), (.v (.int .i64 0))]), (.sl 1 true [(.v (.int .i64 1)), (.v (.int .i64 0)), (.v (.int .i64 0))]), (.sl 1 true [(.v (.int .i64 0)), (.v (.int .i64 1)), (.v (.int .i64 1))])])]
def pr10 : AV := (.tup [(.sl 1 false [(.v (.int .i64 0)), (.v (.int .i64 1))]), (.sl 1 false [(.v (.int .i64 1)), (.v (.int .i64 2))]), (.v (.int .i64 0))])
theorem pc10 : Runs Try.prog xf 26 px10 pr10 := Runs.execM (fr := fr) (fuel := 10000) mm0_ok 40 (by kernel_rfl)
def px13 : List AV := [(.ag [(.sl 1 true [(.sl 1 true [(.v (.int .i64 2)), (.v (.int .i64 1)), (.v (.int .i64 1))]), (.sl 1 true [(.v (.int .i64 1)), (.v (.int .i64 2)), (.v (.int .i64 1))]), (.sl 1 true [(.v (.int .i64 1)), (.v (.int .i64 1)), (.v (.int .i64 2))])]), (.fn 73 [(.o 5 1 1 0 0), (.ptr (.sl 1 true [(.sl 1 true [(.v (.int .i64 2)), (.v (.int .i64 1)), (.v (.int .i64 1))]), (.sl 1 true [(.v (.int .i64 1)), (.v (.int .i64 2)), (.v (.int .i64 1))]), (.sl 1 true [(.v (.int .i64 1)), (.v (.int .i64 1)), (.v (.int .i64 2))])]))])]), (.os 1043 3 1 1 0 1)]
def pr13 : AV := (.tup [])
def pq13 : QE := ⟨16000, 70, px13, [(5, 1, some ⟨3, 1, [(.v (.int .i64 13))]⟩), (1043, 3, some ⟨3, 1, [(.v (.int .i64 2))]⟩), (3005, 1, some ⟨3, 1, [(.v (.int .i64 0)), (.v (.int .i64 1))]⟩), (5005, 1, some ⟨3, 1, [(.v (.int .i64 0)), (.v (.int .i64 1)), (.v (.int .i64 2))]⟩), (6005, 1, some ⟨3, 1, [(.v (.int .i64 0)), (.v (.int .i64 2))]⟩), (8005, 1, some ⟨3, 1, [(.v (.int .i64 0)), (.v (.int .i64 2)), (.v (.int .i64 1))]⟩), (10005, 1, some ⟨3, 1, [(.v (.int .i64 1)), (.v (.int .i64 0))]⟩), (12005, 1, some ⟨3, 1, [(.v (.int .i64 1)), (.v (.int .i64 0)), (.v (.int .i64 2))]⟩), (13005, 1, some ⟨3, 1, [(.v (.int .i64 1)), (.v (.int .i64 2))]⟩), (15005, 1, some ⟨3, 1, [(.v (.int .i64 1)), (.v (.int .i64 2)), (.v (.int .i64 0))]⟩)], pr13, [(5, 1, some ⟨3, 1, [(.v (.int .i64 16))]⟩), (1043, 3, some ⟨3, 1, [(.v (.int .i64 2))]⟩), (3005, 1, some ⟨3, 1, [(.v (.int .i64 0)), (.v (.int .i64 1))]⟩), (5005, 1, some ⟨3, 1, [(.v (.int .i64 0)), (.v (.int .i64 1)), (.v (.int .i64 2))]⟩), (6005, 1, some ⟨3, 1, [(.v (.int .i64 0)), (.v (.int .i64 2))]⟩), (8005, 1, some ⟨3, 1, [(.v (.int .i64 0)), (.v (.int .i64 2)), (.v (.int .i64 1))]⟩), (10005, 1, some ⟨3, 1, [(.v (.int .i64 1)), (.v (.int .i64 0))]⟩), (12005, 1, some ⟨3, 1, [(.v (.int .i64 1)), (.v (.int .i64 0)), (.v (.int .i64 2))]⟩), (13005, 1, some ⟨3, 1, [(.v (.int .i64 1)), (.v (.int .i64 2))]⟩), (15005, 1, some ⟨3, 1, [(.v (.int .i64 1)), (.v (.int .i64 2)), (.v (.int .i64 0))]⟩), (17005, 1, some ⟨3, 1, [(.v (.int .i64 2)), (.v (.int .i64 0))]⟩), (19005, 1, some ⟨3, 1, [(.v (.int .i64 2)), (.v (.int .i64 0)), (.v (.int .i64 1))]⟩), (20005, 1, some ⟨3, 1, [(.v (.int .i64 2)), (.v (.int .i64 1))]⟩), (22005, 1, some ⟨3, 1, [(.v (.int .i64 2)), (.v (.int .i64 1)), (.v (.int .i64 0))]⟩)]⟩
theorem pc13 : RunsR Try.prog xf pq13.kb pq13.f pq13.args pq13.η pq13.r pq13.η' := RunsR.execM (fr := fr) (fuel := 10000) mm0_ok 40 (by kernel_rfl)
def px18 : List AV := [(.sl 1 true [(.sl 1 true [(.v (.int .i64 1)), (.v (.int .i64 0)), (.v (.int .i64 0))]), (.sl 1 true [(.v (.int .i64 1)), (.v (.int .i64 0)), (.v (.int .i64 0))]), (.sl 1 true [(.v (.int .i64 0)), (.v (.int .i64 1)), (.v (.int .i64 1))])]), (.sl 1 true [(.v (.int .i64 0)), (.v (.int .i64 1))]), (.sl 1 true [(.v (.int .i64 1)), (.v (.int .i64 2))])]
def pr18 : AV := (.v (.int .i64 0))
theorem pc18 : Runs Try.prog xf 35 px18 pr18 := Runs.execM (fr := fr) (fuel := 10000) mm0_ok 40 (by kernel_rfl)
def px23 : List AV := [(.v (.int .i64 3)), (.sl 2 true [(.ag [(.sl 1 true [(.v (.int .i64 0)), (.v (.int .i64 1)), (.v (.int .i64 2))]), (.v (.int .i64 10))])])]
def pr23 : AV := (.tup [(.v (.slice none 0 0)), (.v (.int .i64 15))])
theorem pc23 : Runs Try.prog xf 25 px23 pr23 := Runs.execM (fr := fr) (fuel := 10000) mm0_ok 40 (by kernel_rfl)
end Go.Proofs.Ytkbeaheladmeiaa
