/-
  Pieces of the run.
-/
import Derived.Test.YtkbeaheladmeiaaPcVF
import Derived.KernelRfl
set_option linter.unusedSimpArgs false
set_option linter.unusedVariables false
namespace Go.Proofs.Ytkbeaheladmeiaa
open Go Go.Proofs.Eng Go.RowKit
def px0 : List AV := [(.sl 1 true [(.sl 1 true [(.v (.int .i64 2)), (.v (.int .i64 1)), (.v (.int .i64 1))]), (.sl 1 true [(.v (.int .i64 1)), (.v (.int .i64 2)), (.v (.int .i64 1))]), (.sl 1 true [(.v (.int .i64 1)), (.v (.int .i64 1)), (.v (.int .i64 2))])])]
def pr0 : AV := (.sl 1 false [(.sl 1 false [(.v (.int .i64 0)), (.v (.int .i64 1)), (.v (.int .i64 2))]), (.sl 1 false [(.v (.int .i64 0)), (.v (.int .i64 2)), (.v (.int .i64 1))]), (.sl 1 false [(.v (.int .i64 1)), (.v (.int .i64 0)), (.v (.int .i64 2))]), (.sl 1 false [(.v (.int .i64 1)), (.v (.int .i64 2)), (.v (.int .i64 0))]), (.sl 1 false [(.v (.int .i64 2)), (.v (.int .i64 0)), (.v (.int .i64 1))]), (.sl 1 false [(.v (.int .i64 2)), (.v (.int .i64 1)), (.v (.int .i64 0))])])
theorem pc0 : Runs Try.prog xf 56 px0 pr0 := Runs.execM (fr := fr) (fuel := 10000) mm0_ok 40 (by kernel_rfl)
def px7 : List AV := [(.sl 1 false [(.sl 1 false [(.v (.int .i64 1)), (.v (.int .i64 1)), (.v (.int .i64 1))]), (.sl 1 false [(.v (.int .i64 1)), (.v (.int .i64 2)), (.v (.int .i64 0))]), (.sl 1 false [(.v (.int .i64 1)), (.v (.int .i64 0)), (.v (.int .i64 2))])]), (.sl 1 false [(.sl 1 false [(.v (.int .i64 1)), (.v (.int .i64 0)), (.v (.int .i64 2))]), (.sl 1 false [(.v (.int .i64 1)), (.v (.int .i64 2)), (.v (.int .i64 0))]), (.sl 1 false [(.v (.int .i64 2)), (.v (.int .i64 0)), (.v (.int .i64 1))]), (.sl 1 false [(.v (.int .i64 2)), (.v (.int .i64 1)), (.v (.int .i64 0))])])]
def pr7 : AV := (.v (.int .i64 0))
theorem pc7 : Runs Try.prog xf 75 px7 pr7 := Runs.execM (fr := fr) (fuel := 10000) mm0_ok 40 (by kernel_rfl)
def px11 : List AV := [(.ag [(.sl 1 true [(.sl 1 true [(.v (.int .i64 2)), (.v (.int .i64 1)), (.v (.int .i64 1))]), (.sl 1 true [(.v (.int .i64 1)), (.v (.int .i64 2)), (.v (.int .i64 1))]), (.sl 1 true [(.v (.int .i64 1)), (.v (.int .i64 1)), (.v (.int .i64 2))])]), (.fn 73 [(.o 5 1 1 0 0), (.ptr (.sl 1 true [(.sl 1 true [(.v (.int .i64 2)), (.v (.int .i64 1)), (.v (.int .i64 1))]), (.sl 1 true [(.v (.int .i64 1)), (.v (.int .i64 2)), (.v (.int .i64 1))]), (.sl 1 true [(.v (.int .i64 1)), (.v (.int .i64 1)), (.v (.int .i64 2))])]))])]), (.os 1043 1 1 1 0 1)]
def pr11 : AV := (.tup [])
def pq11 : QE := ⟨2000, 70, px11, [(5, 1, some ⟨3, 1, [(.v (.int .i64 0))]⟩), (1043, 1, some ⟨3, 1, [(.v (.int .i64 0))]⟩)], pr11, [(5, 1, some ⟨3, 1, [(.v (.int .i64 10))]⟩), (1043, 1, some ⟨3, 1, [(.v (.int .i64 0))]⟩), (3005, 1, some ⟨3, 1, [(.v (.int .i64 0)), (.v (.int .i64 1))]⟩), (5005, 1, some ⟨3, 1, [(.v (.int .i64 0)), (.v (.int .i64 1)), (.v (.int .i64 2))]⟩), (6005, 1, some ⟨3, 1, [(.v (.int .i64 0)), (.v (.int .i64 2))]⟩), (8005, 1, some ⟨3, 1, [(.v (.int .i64 0)), (.v (.int .i64 2)), (.v (.int .i64 1))]⟩)]⟩
theorem pc11 : RunsR Try.prog xf pq11.kb pq11.f pq11.args pq11.η pq11.r pq11.η' := RunsR.execM (fr := fr) (fuel := 10000) mm0_ok 40 (by kernel_rfl)
def px15 : List AV := [(.sl 1 true [(.sl 1 true [(.v (.int .i64 2)), (.v (.int .i64 1)), (.v (.int .i64 1))]), (.sl 1 true [(.v (.int .i64 1)), (.v (.int .i64 2)), (.v (.int .i64 1))]), (.sl 1 true [(.v (.int .i64 1)), (.v (.int .i64 1)), (.v (.int .i64 2))])])]
def pr15 : AV := (.tup [(.v (.int .i64 4)), (.v (.int .i64 0))])
theorem pc15 : Runs Try.prog xf 13 px15 pr15 := Runs.execM (fr := fr) (fuel := 10000) mm0_ok 40 (by kernel_rfl)
def px16 : List AV := [(.sl 1 true [(.sl 1 true [(.v (.int .i64 1)), (.v (.int .i64 0)), (.v (.int .i64 0))]), (.sl 1 true [(.v (.int .i64 1)), (.v (.int .i64 0)), (.v (.int .i64 0))]), (.sl 1 true [(.v (.int .i64 0)), (.v (.int .i64 1)), (.v (.int .i64 1))])])]
def pr16 : AV := (.tup [(.v (.slice none 0 0)), (.v (.int .i64 17))])
theorem pc16 : Runs Try.prog xf 14 px16 pr16 := Runs.execM (fr := fr) (fuel := 10000) mm0_ok 40 (by kernel_rfl)
def px20 : List AV := [(.sl 1 true [(.sl 1 true [(.v (.int .i64 1)), (.v (.int .i64 1)), (.v (.int .i64 0))]), (.sl 1 true [(.v (.int .i64 0)), (.v (.int .i64 1)), (.v (.int .i64 1))]), (.sl 1 true [(.v (.int .i64 1)), (.v (.int .i64 0)), (.v (.int .i64 1))])]), (.sl 1 true [(.v (.int .i64 1)), (.v (.int .i64 2)), (.v (.int .i64 0))])]
def pr20 : AV := (.v (.int .i64 0))
theorem pc20 : Runs Try.prog xf 44 px20 pr20 := Runs.execM (fr := fr) (fuel := 10000) mm0_ok 40 (by kernel_rfl)
def px24 : List AV := [(.sl 1 true [(.sl 1 true [(.v (.int .i64 1)), (.v (.int .i64 0)), (.v (.int .i64 0))]), (.sl 1 true [(.v (.int .i64 1)), (.v (.int .i64 0)), (.v (.int .i64 0))]), (.sl 1 true [(.v (.int .i64 0)), (.v (.int .i64 1)), (.v (.int .i64 1))])])]
def pr24 : AV := (.tup [(.v (.slice none 0 0)), (.v (.int .i64 12))])
theorem pc24 : Runs Try.prog xf 33 px24 pr24 := Runs.execM (fr := fr) (fuel := 10000) mm0_ok 40 (by kernel_rfl)
end Go.Proofs.Ytkbeaheladmeiaa
