/-
  Pieces of the run.
-/
import Derived.Test.YthhhibpnhokjfabPcLF
import Derived.KernelRfl
set_option linter.unusedSimpArgs false
set_option linter.unusedVariables false
namespace Go.Proofs.Ythhhibpnhokjfab
open Go Go.Proofs.Eng Go.RowKit
def px1 : List AV := [(.ag [(.v (.int .i64 4)), (.os 60 1 3 2 0 3)])]
def pr1 : AV := (.tup [(.os 1013 1 1 1 0 1), (.v (.int .i64 0))])
def pq1 : QE := ⟨1000, 6, px1, [(9, 1, some ⟨29, 2, [(.ag [(.v (.int .i64 4)), (.os 60 1 3 2 0 3)])]⟩), (60, 1, some ⟨30, 2, [(.ag [(.v (.int .i64 1)), (.v (.int .i64 2))]), (.ag [(.v (.int .i64 2)), (.v (.int .i64 3))]), (.ag [(.v (.int .i64 3)), (.v (.int .i64 0))])]⟩)], pr1, [(9, 1, some ⟨29, 2, [(.ag [(.v (.int .i64 4)), (.os 60 1 3 2 0 3)])]⟩), (60, 1, some ⟨30, 2, [(.ag [(.v (.int .i64 1)), (.v (.int .i64 2))]), (.ag [(.v (.int .i64 2)), (.v (.int .i64 3))]), (.ag [(.v (.int .i64 3)), (.v (.int .i64 0))])]⟩), (1013, 1, some ⟨23, 1, [(.sl 1 false [(.v (.int .i64 0)), (.v (.int .i64 2))])]⟩)]⟩
theorem pc1 : RunsR Try.prog xf pq1.kb pq1.f pq1.args pq1.η pq1.r pq1.η' := RunsR.execM (fr := fr) (fuel := 10000) mm0_ok 40 (by kernel_rfl)
def px5 : List AV := [(.ag [(.v (.int .i64 4)), (.sl 2 false [(.ag [(.v (.int .i64 1)), (.v (.int .i64 2))]), (.ag [(.v (.int .i64 2)), (.v (.int .i64 3))]), (.ag [(.v (.int .i64 3)), (.v (.int .i64 0))])])]), (.os 5 1 4 1 0 4)]
def pr5 : AV := (.os 1025 1 10 1 0 10)
def pq5 : QE := ⟨1000, 22, px5, [(5, 1, some ⟨3, 1, [(.v (.int .i64 0)), (.v (.int .i64 1)), (.v (.int .i64 2)), (.v (.int .i64 3))]⟩)], pr5, [(5, 1, some ⟨3, 1, [(.v (.int .i64 0)), (.v (.int .i64 1)), (.v (.int .i64 2)), (.v (.int .i64 3))]⟩), (1012, 1, some ⟨55, 1, [(.sl 1 true [(.v (.int .i64 0))]), (.sl 1 true [(.v (.int .i64 1))]), (.sl 1 true [(.v (.int .i64 2))]), (.sl 1 true [(.v (.int .i64 3))])]⟩), (1025, 1, some ⟨54, 1, [(.ifc 55 (.sl 1 true [(.v (.int .i64 0))])), (.ifc 55 (.sl 1 true [(.v (.int .i64 1))])), (.ifc 55 (.sl 1 true [(.v (.int .i64 2))])), (.ifc 55 (.sl 1 true [(.v (.int .i64 3))])), (.ifc 55 (.sl 1 false [(.v (.int .i64 1)), (.v (.int .i64 2))])), (.ifc 55 (.sl 1 false [(.v (.int .i64 2)), (.v (.int .i64 3))])), (.ifc 55 (.sl 1 false [(.v (.int .i64 3)), (.v (.int .i64 0))])), (.ifc 55 (.sl 1 false [(.v (.int .i64 1)), (.v (.int .i64 2)), (.v (.int .i64 3))])), (.ifc 55 (.sl 1 false [(.v (.int .i64 2)), (.v (.int .i64 3)), (.v (.int .i64 0))])), (.ifc 55 (.sl 1 false [(.v (.int .i64 1)), (.v (.int .i64 2)), (.v (.int .i64 3)), (.v (.int .i64 0))]))]⟩), (1029, 4, some ⟨55, 1, []⟩)]⟩
theorem pc5 : RunsR Try.prog xf pq5.kb pq5.f pq5.args pq5.η pq5.r pq5.η' := RunsR.execM (fr := fr) (fuel := 10000) mm0_ok 40 (by kernel_rfl)
def px8 : List AV := [(.ag [(.v (.int .i64 4)), (.sl 2 false [(.ag [(.v (.int .i64 2)), (.v (.int .i64 1))]), (.ag [(.v (.int .i64 1)), (.v (.int .i64 0))]), (.ag [(.v (.int .i64 0)), (.v (.int .i64 3))])])]), (.os 5 1 4 1 0 4)]
def pr8 : AV := (.os 1025 1 10 1 0 10)
def pq8 : QE := ⟨1000, 22, px8, [(5, 1, some ⟨3, 1, [(.v (.int .i64 0)), (.v (.int .i64 1)), (.v (.int .i64 2)), (.v (.int .i64 3))]⟩)], pr8, [(5, 1, some ⟨3, 1, [(.v (.int .i64 0)), (.v (.int .i64 1)), (.v (.int .i64 2)), (.v (.int .i64 3))]⟩), (1012, 1, some ⟨55, 1, [(.sl 1 true [(.v (.int .i64 0))]), (.sl 1 true [(.v (.int .i64 1))]), (.sl 1 true [(.v (.int .i64 2))]), (.sl 1 true [(.v (.int .i64 3))])]⟩), (1025, 1, some ⟨54, 1, [(.ifc 55 (.sl 1 true [(.v (.int .i64 0))])), (.ifc 55 (.sl 1 true [(.v (.int .i64 1))])), (.ifc 55 (.sl 1 true [(.v (.int .i64 2))])), (.ifc 55 (.sl 1 true [(.v (.int .i64 3))])), (.ifc 55 (.sl 1 false [(.v (.int .i64 0)), (.v (.int .i64 3))])), (.ifc 55 (.sl 1 false [(.v (.int .i64 1)), (.v (.int .i64 0))])), (.ifc 55 (.sl 1 false [(.v (.int .i64 2)), (.v (.int .i64 1))])), (.ifc 55 (.sl 1 false [(.v (.int .i64 1)), (.v (.int .i64 0)), (.v (.int .i64 3))])), (.ifc 55 (.sl 1 false [(.v (.int .i64 2)), (.v (.int .i64 1)), (.v (.int .i64 0))])), (.ifc 55 (.sl 1 false [(.v (.int .i64 2)), (.v (.int .i64 1)), (.v (.int .i64 0)), (.v (.int .i64 3))]))]⟩), (1029, 4, some ⟨55, 1, []⟩)]⟩
theorem pc8 : RunsR Try.prog xf pq8.kb pq8.f pq8.args pq8.η pq8.r pq8.η' := RunsR.execM (fr := fr) (fuel := 10000) mm0_ok 40 (by kernel_rfl)
def px15 : List AV := [(.ag [(.v (.int .i64 2)), (.sl 2 false [(.ag [(.v (.int .i64 1)), (.v (.int .i64 0))])])])]
def pr15 : AV := (.tup [(.sl 1 false [(.v (.int .i64 0)), (.v (.int .i64 1))]), (.v (.int .i64 0))])
theorem pc15 : RunsN Try.prog xf 9 px15 pr15 := RunsN.execM (fr := fr) (fuel := 10000) mm0_ok 40 (by kernel_rfl)
def px19 : List AV := [(.ag [(.v (.int .i64 2)), (.os 60 1 1 2 0 1)]), (.sl 1 true [(.v (.int .i64 1))]), (.v (.int .i64 0))]
def pr19 : AV := (.tup [(.sl 1 false [(.v (.int .i64 0)), (.v (.int .i64 1))]), (.v (.int .i64 0))])
def pq19 : QE := ⟨2000, 7, px19, [(9, 1, some ⟨29, 2, [(.ag [(.v (.int .i64 2)), (.os 60 1 1 2 0 1)])]⟩), (60, 1, some ⟨30, 2, [(.ag [(.v (.int .i64 0)), (.v (.int .i64 1))])]⟩), (1013, 1, some ⟨23, 1, [(.sl 1 false [(.v (.int .i64 1))])]⟩)], pr19, [(9, 1, some ⟨29, 2, [(.ag [(.v (.int .i64 2)), (.os 60 1 1 2 0 1)])]⟩), (60, 1, some ⟨30, 2, [(.ag [(.v (.int .i64 0)), (.v (.int .i64 1))])]⟩), (1013, 1, some ⟨23, 1, [(.sl 1 false [(.v (.int .i64 1))])]⟩), (3012, 1, some ⟨55, 1, [(.sl 1 true [(.v (.int .i64 0))])]⟩), (3025, 1, some ⟨54, 1, [(.ifc 55 (.sl 1 true [(.v (.int .i64 0))])), (.ifc 55 (.sl 1 false [(.v (.int .i64 0)), (.v (.int .i64 1))]))]⟩), (3029, 2, some ⟨55, 1, []⟩), (4007, 1, some ⟨55, 1, [(.sl 1 false [(.v (.int .i64 0)), (.v (.int .i64 1))])]⟩), (5005, 1, none)]⟩
theorem pc19 : RunsR Try.prog xf pq19.kb pq19.f pq19.args pq19.η pq19.r pq19.η' := RunsR.execM (fr := fr) (fuel := 10000) mm0_ok 40 (by kernel_rfl)
def px23 : List AV := [(.v (.string (ByteArray.mk (List.toArray [117, 111]))))]
def pr23 : AV := (.tup [(.sl 1 false [(.v (.int .i64 2)), (.v (.int .i64 1)), (.v (.int .i64 0)), (.v (.int .i64 3))]), (.v (.int .i64 0))])
theorem pc23 : Runs Try.prog xf 5 px23 pr23 := Runs.execM (fr := fr) (fuel := 10000) mm0_ok 40 (by kernel_rfl)
def px27 : List AV := [(.ag [(.v (.int .i64 2)), (.sl 2 false [(.ag [(.v (.int .i64 0)), (.v (.int .i64 1))])])]), (.sl 1 true [(.v (.int .i64 0))])]
def pr27 : AV := (.sl 1 false [(.ifc 55 (.sl 1 true [(.v (.int .i64 0))])), (.ifc 55 (.sl 1 false [(.v (.int .i64 0)), (.v (.int .i64 1))]))])
theorem pc27 : Runs Try.prog xf 22 px27 pr27 := Runs.execM (fr := fr) (fuel := 10000) mm0_ok 40 (by kernel_rfl)
def px30 : List AV := [(.ag [(.v (.int .i64 4)), (.sl 2 false [(.ag [(.v (.int .i64 1)), (.v (.int .i64 2))]), (.ag [(.v (.int .i64 2)), (.v (.int .i64 3))]), (.ag [(.v (.int .i64 3)), (.v (.int .i64 0))])])]), (.sl 1 false [(.v (.int .i64 1)), (.v (.int .i64 2)), (.v (.int .i64 3))])]
def pr30 : AV := (.sl 1 false [(.sl 1 false [(.v (.int .i64 1)), (.v (.int .i64 2)), (.v (.int .i64 3)), (.v (.int .i64 0))])])
theorem pc30 : Runs Try.prog xf 39 px30 pr30 := Runs.execM (fr := fr) (fuel := 10000) mm0_ok 40 (by kernel_rfl)
def px34 : List AV := [(.ag [(.v (.int .i64 1)), (.v (.slice none 0 0))])]
def pr34 : AV := (.tup [(.sl 1 false [(.sl 1 false [(.v (.int .i64 0))])]), (.v (.int .i64 0))])
theorem pc34 : Runs Try.prog xf 6 px34 pr34 := Runs.execM (fr := fr) (fuel := 10000) mm0_ok 40 (by kernel_rfl)
def px38 : List AV := [(.ag [(.v (.int .i64 4)), (.sl 2 false [(.ag [(.v (.int .i64 0)), (.v (.int .i64 3))]), (.ag [(.v (.int .i64 3)), (.v (.int .i64 2))]), (.ag [(.v (.int .i64 2)), (.v (.int .i64 1))])])]), (.sl 1 false [(.v (.int .i64 3)), (.v (.int .i64 2))])]
def pr38 : AV := (.sl 1 false [(.sl 1 false [(.v (.int .i64 3)), (.v (.int .i64 2)), (.v (.int .i64 1))])])
theorem pc38 : Runs Try.prog xf 39 px38 pr38 := Runs.execM (fr := fr) (fuel := 10000) mm0_ok 40 (by kernel_rfl)
def px42 : List AV := [(.ag [(.v (.int .i64 4)), (.sl 2 false [(.ag [(.v (.int .i64 1)), (.v (.int .i64 2))]), (.ag [(.v (.int .i64 2)), (.v (.int .i64 3))]), (.ag [(.v (.int .i64 3)), (.v (.int .i64 0))])])]), (.sl 1 true [(.v (.int .i64 3))])]
def pr42 : AV := (.sl 1 false [(.sl 1 false [(.v (.int .i64 3)), (.v (.int .i64 0))])])
theorem pc42 : Runs Try.prog xf 39 px42 pr42 := Runs.execM (fr := fr) (fuel := 10000) mm0_ok 40 (by kernel_rfl)
def px46 : List AV := [(.ag [(.v (.int .i64 4)), (.sl 2 false [(.ag [(.v (.int .i64 2)), (.v (.int .i64 1))]), (.ag [(.v (.int .i64 1)), (.v (.int .i64 0))]), (.ag [(.v (.int .i64 0)), (.v (.int .i64 3))])])]), (.sl 1 true [(.v (.int .i64 0))])]
def pr46 : AV := (.sl 1 false [(.sl 1 false [(.v (.int .i64 0)), (.v (.int .i64 3))])])
theorem pc46 : Runs Try.prog xf 39 px46 pr46 := Runs.execM (fr := fr) (fuel := 10000) mm0_ok 40 (by kernel_rfl)
def px50 : List AV := [(.ag [(.v (.int .i64 4)), (.sl 2 false [(.ag [(.v (.int .i64 3)), (.v (.int .i64 0))]), (.ag [(.v (.int .i64 0)), (.v (.int .i64 1))]), (.ag [(.v (.int .i64 1)), (.v (.int .i64 2))])])]), (.sl 1 true [(.v (.int .i64 0))])]
def pr50 : AV := (.sl 1 false [(.sl 1 false [(.v (.int .i64 0)), (.v (.int .i64 1))])])
theorem pc50 : Runs Try.prog xf 39 px50 pr50 := Runs.execM (fr := fr) (fuel := 10000) mm0_ok 40 (by kernel_rfl)
def px54 : List AV := [(.ag [(.v (.int .i64 4)), (.sl 2 false [(.ag [(.v (.int .i64 3)), (.v (.int .i64 0))]), (.ag [(.v (.int .i64 0)), (.v (.int .i64 1))]), (.ag [(.v (.int .i64 1)), (.v (.int .i64 2))])])]), (.sl 1 true [(.v (.int .i64 3))])]
def pr54 : AV := (.sl 1 false [(.sl 1 false [(.v (.int .i64 3)), (.v (.int .i64 0))])])
theorem pc54 : Runs Try.prog xf 39 px54 pr54 := Runs.execM (fr := fr) (fuel := 10000) mm0_ok 40 (by kernel_rfl)
def px58 : List AV := [(.ag [(.v (.int .i64 4)), (.sl 2 false [(.ag [(.v (.int .i64 1)), (.v (.int .i64 2))]), (.ag [(.v (.int .i64 2)), (.v (.int .i64 3))]), (.ag [(.v (.int .i64 3)), (.v (.int .i64 0))])])]), (.sl 1 false [(.v (.int .i64 1)), (.v (.int .i64 2)), (.v (.int .i64 3)), (.v (.int .i64 0))])]
def pr58 : AV := (.sl 1 false [])
theorem pc58 : Runs Try.prog xf 39 px58 pr58 := Runs.execM (fr := fr) (fuel := 10000) mm0_ok 40 (by kernel_rfl)
def px62 : List AV := [(.ag [(.v (.int .i64 4)), (.sl 2 false [(.ag [(.v (.int .i64 3)), (.v (.int .i64 0))]), (.ag [(.v (.int .i64 0)), (.v (.int .i64 1))]), (.ag [(.v (.int .i64 1)), (.v (.int .i64 2))])])]), (.sl 1 false [(.v (.int .i64 3)), (.v (.int .i64 0)), (.v (.int .i64 1)), (.v (.int .i64 2))])]
def pr62 : AV := (.sl 1 false [])
theorem pc62 : Runs Try.prog xf 39 px62 pr62 := Runs.execM (fr := fr) (fuel := 10000) mm0_ok 40 (by kernel_rfl)
def px66 : List AV := [(.ag [(.v (.int .i64 4)), (.sl 2 false [(.ag [(.v (.int .i64 2)), (.v (.int .i64 1))]), (.ag [(.v (.int .i64 1)), (.v (.int .i64 0))]), (.ag [(.v (.int .i64 0)), (.v (.int .i64 3))])])]), (.sl 1 false [(.v (.int .i64 2)), (.v (.int .i64 1)), (.v (.int .i64 0)), (.v (.int .i64 3))])]
def pr66 : AV := (.sl 1 false [])
theorem pc66 : Runs Try.prog xf 39 px66 pr66 := Runs.execM (fr := fr) (fuel := 10000) mm0_ok 40 (by kernel_rfl)
def px70 : List AV := [(.ag [(.v (.int .i64 4)), (.sl 2 false [(.ag [(.v (.int .i64 0)), (.v (.int .i64 3))]), (.ag [(.v (.int .i64 3)), (.v (.int .i64 2))]), (.ag [(.v (.int .i64 2)), (.v (.int .i64 1))])])]), (.sl 1 false [(.v (.int .i64 0)), (.v (.int .i64 3)), (.v (.int .i64 2)), (.v (.int .i64 1))])]
def pr70 : AV := (.sl 1 false [])
theorem pc70 : Runs Try.prog xf 39 px70 pr70 := Runs.execM (fr := fr) (fuel := 10000) mm0_ok 40 (by kernel_rfl)
end Go.Proofs.Ythhhibpnhokjfab
