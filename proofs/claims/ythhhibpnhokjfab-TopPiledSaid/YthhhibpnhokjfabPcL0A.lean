/-
  Pieces of the run.
-/
import Derived.Test.YthhhibpnhokjfabPcLF
import Derived.KernelRfl
set_option linter.unusedSimpArgs false
set_option linter.unusedVariables false
namespace Go.Proofs.Ythhhibpnhokjfab
open Go Go.Proofs.Eng Go.RowKit
def px0 : List AV := [(.ag [(.v (.int .i64 4)), (.os 60 1 3 2 0 3)])]
def pr0 : AV := (.tup [(.os 1013 1 1 1 0 1), (.v (.int .i64 0))])
def pq0 : QE := ⟨1000, 6, px0, [(9, 1, some ⟨29, 2, [(.ag [(.v (.int .i64 4)), (.os 60 1 3 2 0 3)])]⟩), (60, 1, some ⟨30, 2, [(.ag [(.v (.int .i64 0)), (.v (.int .i64 3))]), (.ag [(.v (.int .i64 3)), (.v (.int .i64 2))]), (.ag [(.v (.int .i64 2)), (.v (.int .i64 1))])]⟩)], pr0, [(9, 1, some ⟨29, 2, [(.ag [(.v (.int .i64 4)), (.os 60 1 3 2 0 3)])]⟩), (60, 1, some ⟨30, 2, [(.ag [(.v (.int .i64 0)), (.v (.int .i64 3))]), (.ag [(.v (.int .i64 3)), (.v (.int .i64 2))]), (.ag [(.v (.int .i64 2)), (.v (.int .i64 1))])]⟩), (1013, 1, some ⟨23, 1, [(.sl 1 false [(.v (.int .i64 1)), (.v (.int .i64 3))])]⟩)]⟩
theorem pc0 : RunsR Try.prog xf pq0.kb pq0.f pq0.args pq0.η pq0.r pq0.η' := RunsR.execM (fr := fr) (fuel := 10000) mm0_ok 40 (by kernel_rfl)
def px7 : List AV := [(.ag [(.v (.int .i64 4)), (.sl 2 false [(.ag [(.v (.int .i64 0)), (.v (.int .i64 3))]), (.ag [(.v (.int .i64 3)), (.v (.int .i64 2))]), (.ag [(.v (.int .i64 2)), (.v (.int .i64 1))])])]), (.os 5 1 4 1 0 4)]
def pr7 : AV := (.os 1025 1 10 1 0 10)
def pq7 : QE := ⟨1000, 22, px7, [(5, 1, some ⟨3, 1, [(.v (.int .i64 0)), (.v (.int .i64 1)), (.v (.int .i64 2)), (.v (.int .i64 3))]⟩)], pr7, [(5, 1, some ⟨3, 1, [(.v (.int .i64 0)), (.v (.int .i64 1)), (.v (.int .i64 2)), (.v (.int .i64 3))]⟩), (1012, 1, some ⟨55, 1, [(.sl 1 true [(.v (.int .i64 0))]), (.sl 1 true [(.v (.int .i64 1))]), (.sl 1 true [(.v (.int .i64 2))]), (.sl 1 true [(.v (.int .i64 3))])]⟩), (1025, 1, some ⟨54, 1, [(.ifc 55 (.sl 1 true [(.v (.int .i64 0))])), (.ifc 55 (.sl 1 true [(.v (.int .i64 1))])), (.ifc 55 (.sl 1 true [(.v (.int .i64 2))])), (.ifc 55 (.sl 1 true [(.v (.int .i64 3))])), (.ifc 55 (.sl 1 false [(.v (.int .i64 0)), (.v (.int .i64 3))])), (.ifc 55 (.sl 1 false [(.v (.int .i64 2)), (.v (.int .i64 1))])), (.ifc 55 (.sl 1 false [(.v (.int .i64 3)), (.v (.int .i64 2))])), (.ifc 55 (.sl 1 false [(.v (.int .i64 0)), (.v (.int .i64 3)), (.v (.int .i64 2))])), (.ifc 55 (.sl 1 false [(.v (.int .i64 3)), (.v (.int .i64 2)), (.v (.int .i64 1))])), (.ifc 55 (.sl 1 false [(.v (.int .i64 0)), (.v (.int .i64 3)), (.v (.int .i64 2)), (.v (.int .i64 1))]))]⟩), (1029, 4, some ⟨55, 1, []⟩)]⟩
theorem pc7 : RunsR Try.prog xf pq7.kb pq7.f pq7.args pq7.η pq7.r pq7.η' := RunsR.execM (fr := fr) (fuel := 10000) mm0_ok 40 (by kernel_rfl)
def px10 : List AV := [(.ag [(.v (.int .i64 4)), (.os 60 1 3 2 0 3)]), (.sl 1 true [(.v (.int .i64 1))])]
def pr10 : AV := (.os 3025 1 4 1 0 4)
def pq10 : QE := ⟨3000, 22, px10, [(9, 1, some ⟨29, 2, [(.ag [(.v (.int .i64 4)), (.os 60 1 3 2 0 3)])]⟩), (60, 1, some ⟨30, 2, [(.ag [(.v (.int .i64 1)), (.v (.int .i64 2))]), (.ag [(.v (.int .i64 2)), (.v (.int .i64 3))]), (.ag [(.v (.int .i64 3)), (.v (.int .i64 0))])]⟩), (1013, 1, some ⟨23, 1, [(.sl 1 false [(.v (.int .i64 0)), (.v (.int .i64 2))])]⟩)], pr10, [(9, 1, some ⟨29, 2, [(.ag [(.v (.int .i64 4)), (.os 60 1 3 2 0 3)])]⟩), (60, 1, some ⟨30, 2, [(.ag [(.v (.int .i64 1)), (.v (.int .i64 2))]), (.ag [(.v (.int .i64 2)), (.v (.int .i64 3))]), (.ag [(.v (.int .i64 3)), (.v (.int .i64 0))])]⟩), (1013, 1, some ⟨23, 1, [(.sl 1 false [(.v (.int .i64 0)), (.v (.int .i64 2))])]⟩), (3012, 1, some ⟨55, 1, [(.sl 1 true [(.v (.int .i64 1))])]⟩), (3025, 1, some ⟨54, 1, [(.ifc 55 (.sl 1 true [(.v (.int .i64 1))])), (.ifc 55 (.sl 1 false [(.v (.int .i64 1)), (.v (.int .i64 2))])), (.ifc 55 (.sl 1 false [(.v (.int .i64 1)), (.v (.int .i64 2)), (.v (.int .i64 3))])), (.ifc 55 (.sl 1 false [(.v (.int .i64 1)), (.v (.int .i64 2)), (.v (.int .i64 3)), (.v (.int .i64 0))]))]⟩), (3029, 4, some ⟨55, 1, []⟩), (4007, 1, some ⟨55, 1, [(.sl 1 false [(.v (.int .i64 1)), (.v (.int .i64 2))])]⟩), (5005, 1, none), (5007, 1, some ⟨55, 1, [(.sl 1 false [(.v (.int .i64 1)), (.v (.int .i64 2)), (.v (.int .i64 3))])]⟩), (6005, 1, none), (6007, 1, some ⟨55, 1, [(.sl 1 false [(.v (.int .i64 1)), (.v (.int .i64 2)), (.v (.int .i64 3)), (.v (.int .i64 0))])]⟩), (7005, 1, none)]⟩
theorem pc10 : RunsR Try.prog xf pq10.kb pq10.f pq10.args pq10.η pq10.r pq10.η' := RunsR.execM (fr := fr) (fuel := 10000) mm0_ok 40 (by kernel_rfl)
def px13 : List AV := [(.ag [(.v (.int .i64 2)), (.sl 2 false [(.ag [(.v (.int .i64 0)), (.v (.int .i64 1))])])])]
def pr13 : AV := (.tup [(.sl 1 false [(.v (.int .i64 1)), (.v (.int .i64 0))]), (.v (.int .i64 0))])
theorem pc13 : RunsN Try.prog xf 9 px13 pr13 := RunsN.execM (fr := fr) (fuel := 10000) mm0_ok 40 (by kernel_rfl)
def px17 : List AV := [(.ag [(.v (.int .i64 4)), (.sl 2 false [(.ag [(.v (.int .i64 3)), (.v (.int .i64 0))]), (.ag [(.v (.int .i64 0)), (.v (.int .i64 1))]), (.ag [(.v (.int .i64 1)), (.v (.int .i64 2))])])]), (.sl 1 true [(.v (.int .i64 3))])]
def pr17 : AV := (.sl 1 false [(.ifc 55 (.sl 1 true [(.v (.int .i64 3))])), (.ifc 55 (.sl 1 false [(.v (.int .i64 3)), (.v (.int .i64 0))])), (.ifc 55 (.sl 1 false [(.v (.int .i64 3)), (.v (.int .i64 0)), (.v (.int .i64 1))])), (.ifc 55 (.sl 1 false [(.v (.int .i64 3)), (.v (.int .i64 0)), (.v (.int .i64 1)), (.v (.int .i64 2))]))])
theorem pc17 : Runs Try.prog xf 22 px17 pr17 := Runs.execM (fr := fr) (fuel := 10000) mm0_ok 40 (by kernel_rfl)
def px20 : List AV := [(.ag [(.v (.int .i64 2)), (.os 60 1 1 2 0 1)]), (.sl 1 true [(.v (.int .i64 0))]), (.v (.int .i64 1))]
def pr20 : AV := (.tup [(.sl 1 false [(.v (.int .i64 1)), (.v (.int .i64 0))]), (.v (.int .i64 0))])
def pq20 : QE := ⟨2000, 7, px20, [(9, 1, some ⟨29, 2, [(.ag [(.v (.int .i64 2)), (.os 60 1 1 2 0 1)])]⟩), (60, 1, some ⟨30, 2, [(.ag [(.v (.int .i64 1)), (.v (.int .i64 0))])]⟩), (1013, 1, some ⟨23, 1, [(.sl 1 false [(.v (.int .i64 0))])]⟩)], pr20, [(9, 1, some ⟨29, 2, [(.ag [(.v (.int .i64 2)), (.os 60 1 1 2 0 1)])]⟩), (60, 1, some ⟨30, 2, [(.ag [(.v (.int .i64 1)), (.v (.int .i64 0))])]⟩), (1013, 1, some ⟨23, 1, [(.sl 1 false [(.v (.int .i64 0))])]⟩), (3012, 1, some ⟨55, 1, [(.sl 1 true [(.v (.int .i64 1))])]⟩), (3025, 1, some ⟨54, 1, [(.ifc 55 (.sl 1 true [(.v (.int .i64 1))])), (.ifc 55 (.sl 1 false [(.v (.int .i64 1)), (.v (.int .i64 0))]))]⟩), (3029, 2, some ⟨55, 1, []⟩), (4007, 1, some ⟨55, 1, [(.sl 1 false [(.v (.int .i64 1)), (.v (.int .i64 0))])]⟩), (5005, 1, none)]⟩
theorem pc20 : RunsR Try.prog xf pq20.kb pq20.f pq20.args pq20.η pq20.r pq20.η' := RunsR.execM (fr := fr) (fuel := 10000) mm0_ok 40 (by kernel_rfl)
def px25 : List AV := [(.ag [(.v (.int .i64 2)), (.os 60 1 1 2 0 1)])]
def pr25 : AV := (.tup [(.os 1013 1 1 1 0 1), (.v (.int .i64 0))])
def pq25 : QE := ⟨1000, 6, px25, [(9, 1, some ⟨29, 2, [(.ag [(.v (.int .i64 2)), (.os 60 1 1 2 0 1)])]⟩), (60, 1, some ⟨30, 2, [(.ag [(.v (.int .i64 0)), (.v (.int .i64 1))])]⟩)], pr25, [(9, 1, some ⟨29, 2, [(.ag [(.v (.int .i64 2)), (.os 60 1 1 2 0 1)])]⟩), (60, 1, some ⟨30, 2, [(.ag [(.v (.int .i64 0)), (.v (.int .i64 1))])]⟩), (1013, 1, some ⟨23, 1, [(.sl 1 false [(.v (.int .i64 1))])]⟩)]⟩
theorem pc25 : RunsR Try.prog xf pq25.kb pq25.f pq25.args pq25.η pq25.r pq25.η' := RunsR.execM (fr := fr) (fuel := 10000) mm0_ok 40 (by kernel_rfl)
def px29 : List AV := [(.ag [(.v (.int .i64 1)), (.v (.slice none 0 0))])]
def pr29 : AV := (.tup [(.sl 1 false [(.v (.int .i64 0))]), (.v (.int .i64 0))])
theorem pc29 : Runs Try.prog xf 9 px29 pr29 := Runs.execM (fr := fr) (fuel := 10000) mm0_ok 40 (by kernel_rfl)
def px33 : List AV := [(.ag [(.v (.int .i64 4)), (.sl 2 false [(.ag [(.v (.int .i64 0)), (.v (.int .i64 3))]), (.ag [(.v (.int .i64 3)), (.v (.int .i64 2))]), (.ag [(.v (.int .i64 2)), (.v (.int .i64 1))])])]), (.sl 1 false [(.v (.int .i64 0)), (.v (.int .i64 3)), (.v (.int .i64 2))])]
def pr33 : AV := (.sl 1 false [(.sl 1 false [(.v (.int .i64 0)), (.v (.int .i64 3)), (.v (.int .i64 2)), (.v (.int .i64 1))])])
theorem pc33 : Runs Try.prog xf 39 px33 pr33 := Runs.execM (fr := fr) (fuel := 10000) mm0_ok 40 (by kernel_rfl)
def px37 : List AV := [(.ag [(.v (.int .i64 4)), (.sl 2 false [(.ag [(.v (.int .i64 2)), (.v (.int .i64 1))]), (.ag [(.v (.int .i64 1)), (.v (.int .i64 0))]), (.ag [(.v (.int .i64 0)), (.v (.int .i64 3))])])]), (.sl 1 false [(.v (.int .i64 1)), (.v (.int .i64 0))])]
def pr37 : AV := (.sl 1 false [(.sl 1 false [(.v (.int .i64 1)), (.v (.int .i64 0)), (.v (.int .i64 3))])])
theorem pc37 : Runs Try.prog xf 39 px37 pr37 := Runs.execM (fr := fr) (fuel := 10000) mm0_ok 40 (by kernel_rfl)
def px41 : List AV := [(.ag [(.v (.int .i64 4)), (.sl 2 false [(.ag [(.v (.int .i64 1)), (.v (.int .i64 2))]), (.ag [(.v (.int .i64 2)), (.v (.int .i64 3))]), (.ag [(.v (.int .i64 3)), (.v (.int .i64 0))])])]), (.sl 1 false [(.v (.int .i64 1)), (.v (.int .i64 2))])]
def pr41 : AV := (.sl 1 false [(.sl 1 false [(.v (.int .i64 1)), (.v (.int .i64 2)), (.v (.int .i64 3))])])
theorem pc41 : Runs Try.prog xf 39 px41 pr41 := Runs.execM (fr := fr) (fuel := 10000) mm0_ok 40 (by kernel_rfl)
def px45 : List AV := [(.ag [(.v (.int .i64 4)), (.sl 2 false [(.ag [(.v (.int .i64 2)), (.v (.int .i64 1))]), (.ag [(.v (.int .i64 1)), (.v (.int .i64 0))]), (.ag [(.v (.int .i64 0)), (.v (.int .i64 3))])])]), (.sl 1 false [(.v (.int .i64 2)), (.v (.int .i64 1))])]
def pr45 : AV := (.sl 1 false [(.sl 1 false [(.v (.int .i64 2)), (.v (.int .i64 1)), (.v (.int .i64 0))])])
theorem pc45 : Runs Try.prog xf 39 px45 pr45 := Runs.execM (fr := fr) (fuel := 10000) mm0_ok 40 (by kernel_rfl)
def px49 : List AV := [(.ag [(.v (.int .i64 4)), (.sl 2 false [(.ag [(.v (.int .i64 1)), (.v (.int .i64 2))]), (.ag [(.v (.int .i64 2)), (.v (.int .i64 3))]), (.ag [(.v (.int .i64 3)), (.v (.int .i64 0))])])]), (.sl 1 true [(.v (.int .i64 2))])]
def pr49 : AV := (.sl 1 false [(.sl 1 false [(.v (.int .i64 2)), (.v (.int .i64 3))])])
theorem pc49 : Runs Try.prog xf 39 px49 pr49 := Runs.execM (fr := fr) (fuel := 10000) mm0_ok 40 (by kernel_rfl)
def px53 : List AV := [(.ag [(.v (.int .i64 4)), (.sl 2 false [(.ag [(.v (.int .i64 1)), (.v (.int .i64 2))]), (.ag [(.v (.int .i64 2)), (.v (.int .i64 3))]), (.ag [(.v (.int .i64 3)), (.v (.int .i64 0))])])]), (.sl 1 true [(.v (.int .i64 1))])]
def pr53 : AV := (.sl 1 false [(.sl 1 false [(.v (.int .i64 1)), (.v (.int .i64 2))])])
theorem pc53 : Runs Try.prog xf 39 px53 pr53 := Runs.execM (fr := fr) (fuel := 10000) mm0_ok 40 (by kernel_rfl)
def px57 : List AV := [(.ag [(.v (.int .i64 1)), (.v (.slice none 0 0))]), (.sl 1 true [(.v (.int .i64 0))]), (.v (.int .i64 0))]
def pr57 : AV := (.tup [(.sl 1 true [(.v (.int .i64 0))]), (.v (.int .i64 0))])
theorem pc57 : Runs Try.prog xf 7 px57 pr57 := Runs.execM (fr := fr) (fuel := 10000) mm0_ok 40 (by kernel_rfl)
def px61 : List AV := [(.ag [(.v (.int .i64 4)), (.sl 2 false [(.ag [(.v (.int .i64 1)), (.v (.int .i64 2))]), (.ag [(.v (.int .i64 2)), (.v (.int .i64 3))]), (.ag [(.v (.int .i64 3)), (.v (.int .i64 0))])])]), (.sl 1 false [(.v (.int .i64 2)), (.v (.int .i64 3)), (.v (.int .i64 0))])]
def pr61 : AV := (.sl 1 false [])
theorem pc61 : Runs Try.prog xf 39 px61 pr61 := Runs.execM (fr := fr) (fuel := 10000) mm0_ok 40 (by kernel_rfl)
def px65 : List AV := [(.ag [(.v (.int .i64 4)), (.sl 2 false [(.ag [(.v (.int .i64 3)), (.v (.int .i64 0))]), (.ag [(.v (.int .i64 0)), (.v (.int .i64 1))]), (.ag [(.v (.int .i64 1)), (.v (.int .i64 2))])])]), (.sl 1 false [(.v (.int .i64 0)), (.v (.int .i64 1)), (.v (.int .i64 2))])]
def pr65 : AV := (.sl 1 false [])
theorem pc65 : Runs Try.prog xf 39 px65 pr65 := Runs.execM (fr := fr) (fuel := 10000) mm0_ok 40 (by kernel_rfl)
def px69 : List AV := [(.ag [(.v (.int .i64 4)), (.sl 2 false [(.ag [(.v (.int .i64 2)), (.v (.int .i64 1))]), (.ag [(.v (.int .i64 1)), (.v (.int .i64 0))]), (.ag [(.v (.int .i64 0)), (.v (.int .i64 3))])])]), (.sl 1 false [(.v (.int .i64 1)), (.v (.int .i64 0)), (.v (.int .i64 3))])]
def pr69 : AV := (.sl 1 false [])
theorem pc69 : Runs Try.prog xf 39 px69 pr69 := Runs.execM (fr := fr) (fuel := 10000) mm0_ok 40 (by kernel_rfl)
def px73 : List AV := [(.ag [(.v (.int .i64 4)), (.sl 2 false [(.ag [(.v (.int .i64 0)), (.v (.int .i64 3))]), (.ag [(.v (.int .i64 3)), (.v (.int .i64 2))]), (.ag [(.v (.int .i64 2)), (.v (.int .i64 1))])])]), (.sl 1 false [(.v (.int .i64 3)), (.v (.int .i64 2)), (.v (.int .i64 1))])]
def pr73 : AV := (.sl 1 false [])
theorem pc73 : Runs Try.prog xf 39 px73 pr73 := Runs.execM (fr := fr) (fuel := 10000) mm0_ok 40 (by kernel_rfl)
end Go.Proofs.Ythhhibpnhokjfab
