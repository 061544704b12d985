/-
  Pieces of the run.
-/
import Derived.Test.YthhhibpnhokjfabPcLF
import Derived.KernelRfl
set_option linter.unusedSimpArgs false
set_option linter.unusedVariables false
namespace Go.Proofs.Ythhhibpnhokjfab
open Go Go.Proofs.Eng Go.RowKit
def px2 : List AV := [(.ag [(.v (.int .i64 4)), (.os 60 1 3 2 0 3)])]
def pr2 : AV := (.tup [(.os 1013 1 1 1 0 1), (.v (.int .i64 0))])
def pq2 : QE := ⟨1000, 6, px2, [(9, 1, some ⟨29, 2, [(.ag [(.v (.int .i64 4)), (.os 60 1 3 2 0 3)])]⟩), (60, 1, some ⟨30, 2, [(.ag [(.v (.int .i64 2)), (.v (.int .i64 1))]), (.ag [(.v (.int .i64 1)), (.v (.int .i64 0))]), (.ag [(.v (.int .i64 0)), (.v (.int .i64 3))])]⟩)], pr2, [(9, 1, some ⟨29, 2, [(.ag [(.v (.int .i64 4)), (.os 60 1 3 2 0 3)])]⟩), (60, 1, some ⟨30, 2, [(.ag [(.v (.int .i64 2)), (.v (.int .i64 1))]), (.ag [(.v (.int .i64 1)), (.v (.int .i64 0))]), (.ag [(.v (.int .i64 0)), (.v (.int .i64 3))])]⟩), (1013, 1, some ⟨23, 1, [(.sl 1 false [(.v (.int .i64 1)), (.v (.int .i64 3))])]⟩)]⟩
theorem pc2 : RunsR Try.prog xf pq2.kb pq2.f pq2.args pq2.η pq2.r pq2.η' := RunsR.execM (fr := fr) (fuel := 10000) mm0_ok 40 (by kernel_rfl)
def px6 : List AV := [(.ag [(.v (.int .i64 4)), (.sl 2 false [(.ag [(.v (.int .i64 3)), (.v (.int .i64 0))]), (.ag [(.v (.int .i64 0)), (.v (.int .i64 1))]), (.ag [(.v (.int .i64 1)), (.v (.int .i64 2))])])]), (.os 5 1 4 1 0 4)]
def pr6 : AV := (.os 1025 1 10 1 0 10)
def pq6 : QE := ⟨1000, 22, px6, [(5, 1, some ⟨3, 1, [(.v (.int .i64 0)), (.v (.int .i64 1)), (.v (.int .i64 2)), (.v (.int .i64 3))]⟩)], pr6, [(5, 1, some ⟨3, 1, [(.v (.int .i64 0)), (.v (.int .i64 1)), (.v (.int .i64 2)), (.v (.int .i64 3))]⟩), (1012, 1, some ⟨55, 1, [(.sl 1 true [(.v (.int .i64 0))]), (.sl 1 true [(.v (.int .i64 1))]), (.sl 1 true [(.v (.int .i64 2))]), (.sl 1 true [(.v (.int .i64 3))])]⟩), (1025, 1, some ⟨54, 1, [(.ifc 55 (.sl 1 true [(.v (.int .i64 0))])), (.ifc 55 (.sl 1 true [(.v (.int .i64 1))])), (.ifc 55 (.sl 1 true [(.v (.int .i64 2))])), (.ifc 55 (.sl 1 true [(.v (.int .i64 3))])), (.ifc 55 (.sl 1 false [(.v (.int .i64 0)), (.v (.int .i64 1))])), (.ifc 55 (.sl 1 false [(.v (.int .i64 1)), (.v (.int .i64 2))])), (.ifc 55 (.sl 1 false [(.v (.int .i64 3)), (.v (.int .i64 0))])), (.ifc 55 (.sl 1 false [(.v (.int .i64 0)), (.v (.int .i64 1)), (.v (.int .i64 2))])), (.ifc 55 (.sl 1 false [(.v (.int .i64 3)), (.v (.int .i64 0)), (.v (.int .i64 1))])), (.ifc 55 (.sl 1 false [(.v (.int .i64 3)), (.v (.int .i64 0)), (.v (.int .i64 1)), (.v (.int .i64 2))]))]⟩), (1029, 4, some ⟨55, 1, []⟩)]⟩
theorem pc6 : RunsR Try.prog xf pq6.kb pq6.f pq6.args pq6.η pq6.r pq6.η' := RunsR.execM (fr := fr) (fuel := 10000) mm0_ok 40 (by kernel_rfl)
def px9 : List AV := [(.ag [(.v (.int .i64 4)), (.os 60 1 3 2 0 3)]), (.sl 1 true [(.v (.int .i64 0))])]
def pr9 : AV := (.os 3025 1 4 1 0 4)
def pq9 : QE := ⟨3000, 22, px9, [(9, 1, some ⟨29, 2, [(.ag [(.v (.int .i64 4)), (.os 60 1 3 2 0 3)])]⟩), (60, 1, some ⟨30, 2, [(.ag [(.v (.int .i64 0)), (.v (.int .i64 3))]), (.ag [(.v (.int .i64 3)), (.v (.int .i64 2))]), (.ag [(.v (.int .i64 2)), (.v (.int .i64 1))])]⟩), (1013, 1, some ⟨23, 1, [(.sl 1 false [(.v (.int .i64 1)), (.v (.int .i64 3))])]⟩)], pr9, [(9, 1, some ⟨29, 2, [(.ag [(.v (.int .i64 4)), (.os 60 1 3 2 0 3)])]⟩), (60, 1, some ⟨30, 2, [(.ag [(.v (.int .i64 0)), (.v (.int .i64 3))]), (.ag [(.v (.int .i64 3)), (.v (.int .i64 2))]), (.ag [(.v (.int .i64 2)), (.v (.int .i64 1))])]⟩), (1013, 1, some ⟨23, 1, [(.sl 1 false [(.v (.int .i64 1)), (.v (.int .i64 3))])]⟩), (3012, 1, some ⟨55, 1, [(.sl 1 true [(.v (.int .i64 0))])]⟩), (3025, 1, some ⟨54, 1, [(.ifc 55 (.sl 1 true [(.v (.int .i64 0))])), (.ifc 55 (.sl 1 false [(.v (.int .i64 0)), (.v (.int .i64 3))])), (.ifc 55 (.sl 1 false [(.v (.int .i64 0)), (.v (.int .i64 3)), (.v (.int .i64 2))])), (.ifc 55 (.sl 1 false [(.v (.int .i64 0)), (.v (.int .i64 3)), (.v (.int .i64 2)), (.v (.int .i64 1))]))]⟩), (3029, 4, some ⟨55, 1, []⟩), (4007, 1, some ⟨55, 1, [(.sl 1 false [(.v (.int .i64 0)), (.v (.int .i64 3))])]⟩), (5005, 1, none), (5007, 1, some ⟨55, 1, [(.sl 1 false [(.v (.int .i64 0)), (.v (.int .i64 3)), (.v (.int .i64 2))])]⟩), (6005, 1, none), (6007, 1, some ⟨55, 1, [(.sl 1 false [(.v (.int .i64 0)), (.v (.int .i64 3)), (.v (.int .i64 2)), (.v (.int .i64 1))])]⟩), (7005, 1, none)]⟩
theorem pc9 : RunsR Try.prog xf pq9.kb pq9.f pq9.args pq9.η pq9.r pq9.η' := RunsR.execM (fr := fr) (fuel := 10000) mm0_ok 40 (by kernel_rfl)
def px12 : List AV := [(.ag [(.v (.int .i64 4)), (.os 60 1 3 2 0 3)]), (.sl 1 true [(.v (.int .i64 2))])]
def pr12 : AV := (.os 3025 1 4 1 0 4)
def pq12 : QE := ⟨3000, 22, px12, [(9, 1, some ⟨29, 2, [(.ag [(.v (.int .i64 4)), (.os 60 1 3 2 0 3)])]⟩), (60, 1, some ⟨30, 2, [(.ag [(.v (.int .i64 2)), (.v (.int .i64 1))]), (.ag [(.v (.int .i64 1)), (.v (.int .i64 0))]), (.ag [(.v (.int .i64 0)), (.v (.int .i64 3))])]⟩), (1013, 1, some ⟨23, 1, [(.sl 1 false [(.v (.int .i64 1)), (.v (.int .i64 3))])]⟩)], pr12, [(9, 1, some ⟨29, 2, [(.ag [(.v (.int .i64 4)), (.os 60 1 3 2 0 3)])]⟩), (60, 1, some ⟨30, 2, [(.ag [(.v (.int .i64 2)), (.v (.int .i64 1))]), (.ag [(.v (.int .i64 1)), (.v (.int .i64 0))]), (.ag [(.v (.int .i64 0)), (.v (.int .i64 3))])]⟩), (1013, 1, some ⟨23, 1, [(.sl 1 false [(.v (.int .i64 1)), (.v (.int .i64 3))])]⟩), (3012, 1, some ⟨55, 1, [(.sl 1 true [(.v (.int .i64 2))])]⟩), (3025, 1, some ⟨54, 1, [(.ifc 55 (.sl 1 true [(.v (.int .i64 2))])), (.ifc 55 (.sl 1 false [(.v (.int .i64 2)), (.v (.int .i64 1))])), (.ifc 55 (.sl 1 false [(.v (.int .i64 2)), (.v (.int .i64 1)), (.v (.int .i64 0))])), (.ifc 55 (.sl 1 false [(.v (.int .i64 2)), (.v (.int .i64 1)), (.v (.int .i64 0)), (.v (.int .i64 3))]))]⟩), (3029, 4, some ⟨55, 1, []⟩), (4007, 1, some ⟨55, 1, [(.sl 1 false [(.v (.int .i64 2)), (.v (.int .i64 1))])]⟩), (5005, 1, none), (5007, 1, some ⟨55, 1, [(.sl 1 false [(.v (.int .i64 2)), (.v (.int .i64 1)), (.v (.int .i64 0))])]⟩), (6005, 1, none), (6007, 1, some ⟨55, 1, [(.sl 1 false [(.v (.int .i64 2)), (.v (.int .i64 1)), (.v (.int .i64 0)), (.v (.int .i64 3))])]⟩), (7005, 1, none)]⟩
theorem pc12 : RunsR Try.prog xf pq12.kb pq12.f pq12.args pq12.η pq12.r pq12.η' := RunsR.execM (fr := fr) (fuel := 10000) mm0_ok 40 (by kernel_rfl)
def px18 : List AV := [(.ag [(.v (.int .i64 4)), (.sl 2 false [(.ag [(.v (.int .i64 2)), (.v (.int .i64 1))]), (.ag [(.v (.int .i64 1)), (.v (.int .i64 0))]), (.ag [(.v (.int .i64 0)), (.v (.int .i64 3))])])]), (.sl 1 true [(.v (.int .i64 2))])]
def pr18 : AV := (.sl 1 false [(.ifc 55 (.sl 1 true [(.v (.int .i64 2))])), (.ifc 55 (.sl 1 false [(.v (.int .i64 2)), (.v (.int .i64 1))])), (.ifc 55 (.sl 1 false [(.v (.int .i64 2)), (.v (.int .i64 1)), (.v (.int .i64 0))])), (.ifc 55 (.sl 1 false [(.v (.int .i64 2)), (.v (.int .i64 1)), (.v (.int .i64 0)), (.v (.int .i64 3))]))])
theorem pc18 : Runs Try.prog xf 22 px18 pr18 := Runs.execM (fr := fr) (fuel := 10000) mm0_ok 40 (by kernel_rfl)
def px22 : List AV := [(.v (.string (ByteArray.mk (List.toArray [111, 117]))))]
def pr22 : AV := (.tup [(.sl 1 false [(.v (.int .i64 3)), (.v (.int .i64 0)), (.v (.int .i64 1)), (.v (.int .i64 2))]), (.v (.int .i64 0))])
theorem pc22 : Runs Try.prog xf 5 px22 pr22 := Runs.execM (fr := fr) (fuel := 10000) mm0_ok 40 (by kernel_rfl)
def px26 : List AV := [(.ag [(.v (.int .i64 2)), (.os 60 1 1 2 0 1)])]
def pr26 : AV := (.tup [(.os 1013 1 1 1 0 1), (.v (.int .i64 0))])
def pq26 : QE := ⟨1000, 6, px26, [(9, 1, some ⟨29, 2, [(.ag [(.v (.int .i64 2)), (.os 60 1 1 2 0 1)])]⟩), (60, 1, some ⟨30, 2, [(.ag [(.v (.int .i64 1)), (.v (.int .i64 0))])]⟩)], pr26, [(9, 1, some ⟨29, 2, [(.ag [(.v (.int .i64 2)), (.os 60 1 1 2 0 1)])]⟩), (60, 1, some ⟨30, 2, [(.ag [(.v (.int .i64 1)), (.v (.int .i64 0))])]⟩), (1013, 1, some ⟨23, 1, [(.sl 1 false [(.v (.int .i64 0))])]⟩)]⟩
theorem pc26 : RunsR Try.prog xf pq26.kb pq26.f pq26.args pq26.η pq26.r pq26.η' := RunsR.execM (fr := fr) (fuel := 10000) mm0_ok 40 (by kernel_rfl)
def px31 : List AV := [(.ag [(.v (.int .i64 4)), (.sl 2 false [(.ag [(.v (.int .i64 3)), (.v (.int .i64 0))]), (.ag [(.v (.int .i64 0)), (.v (.int .i64 1))]), (.ag [(.v (.int .i64 1)), (.v (.int .i64 2))])])]), (.sl 1 false [(.v (.int .i64 3)), (.v (.int .i64 0)), (.v (.int .i64 1))])]
def pr31 : AV := (.sl 1 false [(.sl 1 false [(.v (.int .i64 3)), (.v (.int .i64 0)), (.v (.int .i64 1)), (.v (.int .i64 2))])])
theorem pc31 : Runs Try.prog xf 39 px31 pr31 := Runs.execM (fr := fr) (fuel := 10000) mm0_ok 40 (by kernel_rfl)
def px35 : List AV := [(.ag [(.v (.int .i64 4)), (.sl 2 false [(.ag [(.v (.int .i64 1)), (.v (.int .i64 2))]), (.ag [(.v (.int .i64 2)), (.v (.int .i64 3))]), (.ag [(.v (.int .i64 3)), (.v (.int .i64 0))])])]), (.sl 1 false [(.v (.int .i64 2)), (.v (.int .i64 3))])]
def pr35 : AV := (.sl 1 false [(.sl 1 false [(.v (.int .i64 2)), (.v (.int .i64 3)), (.v (.int .i64 0))])])
theorem pc35 : Runs Try.prog xf 39 px35 pr35 := Runs.execM (fr := fr) (fuel := 10000) mm0_ok 40 (by kernel_rfl)
def px39 : List AV := [(.v (.string (ByteArray.mk (List.toArray [111]))))]
def pr39 : AV := (.tup [(.sl 1 false [(.v (.int .i64 1)), (.v (.int .i64 0))]), (.v (.int .i64 0))])
theorem pc39 : Runs Try.prog xf 5 px39 pr39 := Runs.execM (fr := fr) (fuel := 10000) mm0_ok 40 (by kernel_rfl)
def px43 : List AV := [(.ag [(.v (.int .i64 4)), (.sl 2 false [(.ag [(.v (.int .i64 3)), (.v (.int .i64 0))]), (.ag [(.v (.int .i64 0)), (.v (.int .i64 1))]), (.ag [(.v (.int .i64 1)), (.v (.int .i64 2))])])]), (.sl 1 false [(.v (.int .i64 3)), (.v (.int .i64 0))])]
def pr43 : AV := (.sl 1 false [(.sl 1 false [(.v (.int .i64 3)), (.v (.int .i64 0)), (.v (.int .i64 1))])])
theorem pc43 : Runs Try.prog xf 39 px43 pr43 := Runs.execM (fr := fr) (fuel := 10000) mm0_ok 40 (by kernel_rfl)
def px47 : List AV := [(.ag [(.v (.int .i64 4)), (.sl 2 false [(.ag [(.v (.int .i64 0)), (.v (.int .i64 3))]), (.ag [(.v (.int .i64 3)), (.v (.int .i64 2))]), (.ag [(.v (.int .i64 2)), (.v (.int .i64 1))])])]), (.sl 1 false [(.v (.int .i64 0)), (.v (.int .i64 3))])]
def pr47 : AV := (.sl 1 false [(.sl 1 false [(.v (.int .i64 0)), (.v (.int .i64 3)), (.v (.int .i64 2))])])
theorem pc47 : Runs Try.prog xf 39 px47 pr47 := Runs.execM (fr := fr) (fuel := 10000) mm0_ok 40 (by kernel_rfl)
def px51 : List AV := [(.ag [(.v (.int .i64 4)), (.sl 2 false [(.ag [(.v (.int .i64 2)), (.v (.int .i64 1))]), (.ag [(.v (.int .i64 1)), (.v (.int .i64 0))]), (.ag [(.v (.int .i64 0)), (.v (.int .i64 3))])])]), (.sl 1 true [(.v (.int .i64 1))])]
def pr51 : AV := (.sl 1 false [(.sl 1 false [(.v (.int .i64 1)), (.v (.int .i64 0))])])
theorem pc51 : Runs Try.prog xf 39 px51 pr51 := Runs.execM (fr := fr) (fuel := 10000) mm0_ok 40 (by kernel_rfl)
def px55 : List AV := [(.ag [(.v (.int .i64 4)), (.sl 2 false [(.ag [(.v (.int .i64 2)), (.v (.int .i64 1))]), (.ag [(.v (.int .i64 1)), (.v (.int .i64 0))]), (.ag [(.v (.int .i64 0)), (.v (.int .i64 3))])])]), (.sl 1 true [(.v (.int .i64 2))])]
def pr55 : AV := (.sl 1 false [(.sl 1 false [(.v (.int .i64 2)), (.v (.int .i64 1))])])
theorem pc55 : Runs Try.prog xf 39 px55 pr55 := Runs.execM (fr := fr) (fuel := 10000) mm0_ok 40 (by kernel_rfl)
def px59 : List AV := [(.ag [(.v (.int .i64 4)), (.sl 2 false [(.ag [(.v (.int .i64 1)), (.v (.int .i64 2))]), (.ag [(.v (.int .i64 2)), (.v (.int .i64 3))]), (.ag [(.v (.int .i64 3)), (.v (.int .i64 0))])])]), (.sl 1 true [(.v (.int .i64 0))])]
def pr59 : AV := (.sl 1 false [])
theorem pc59 : Runs Try.prog xf 39 px59 pr59 := Runs.execM (fr := fr) (fuel := 10000) mm0_ok 40 (by kernel_rfl)
def px63 : List AV := [(.ag [(.v (.int .i64 4)), (.sl 2 false [(.ag [(.v (.int .i64 3)), (.v (.int .i64 0))]), (.ag [(.v (.int .i64 0)), (.v (.int .i64 1))]), (.ag [(.v (.int .i64 1)), (.v (.int .i64 2))])])]), (.sl 1 true [(.v (.int .i64 2))])]
def pr63 : AV := (.sl 1 false [])
theorem pc63 : Runs Try.prog xf 39 px63 pr63 := Runs.execM (fr := fr) (fuel := 10000) mm0_ok 40 (by kernel_rfl)
def px67 : List AV := [(.ag [(.v (.int .i64 4)), (.sl 2 false [(.ag [(.v (.int .i64 2)), (.v (.int .i64 1))]), (.ag [(.v (.int .i64 1)), (.v (.int .i64 0))]), (.ag [(.v (.int .i64 0)), (.v (.int .i64 3))])])]), (.sl 1 true [(.v (.int .i64 3))])]
def pr67 : AV := (.sl 1 false [])
theorem pc67 : Runs Try.prog xf 39 px67 pr67 := Runs.execM (fr := fr) (fuel := 10000) mm0_ok 40 (by kernel_rfl)
def px71 : List AV := [(.ag [(.v (.int .i64 4)), (.sl 2 false [(.ag [(.v (.int .i64 0)), (.v (.int .i64 3))]), (.ag [(.v (.int .i64 3)), (.v (.int .i64 2))]), (.ag [(.v (.int .i64 2)), (.v (.int .i64 1))])])]), (.sl 1 true [(.v (.int .i64 1))])]
def pr71 : AV := (.sl 1 false [])
theorem pc71 : Runs Try.prog xf 39 px71 pr71 := Runs.execM (fr := fr) (fuel := 10000) mm0_ok 40 (by kernel_rfl)
end Go.Proofs.Ythhhibpnhokjfab
