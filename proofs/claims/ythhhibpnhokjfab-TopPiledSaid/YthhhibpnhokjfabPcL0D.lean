/-
  Pieces of the run.
-/
import Derived.Test.YthhhibpnhokjfabPcLF
import Derived.KernelRfl
set_option linter.unusedSimpArgs false
set_option linter.unusedVariables false
namespace Go.Proofs.Ythhhibpnhokjfab
open Go Go.Proofs.Eng Go.RowKit
def px3 : List AV := []
def pr3 : AV := (.v (.bool true))
theorem pc3 : Runs Try.prog xf 11 px3 pr3 := Runs.execM (fr := fr) (fuel := 10000) mm0_ok 40 (by kernel_rfl)
def px4 : List AV := [(.ag [(.v (.int .i64 4)), (.os 60 1 3 2 0 3)])]
def pr4 : AV := (.tup [(.os 1013 1 1 1 0 1), (.v (.int .i64 0))])
def pq4 : QE := ⟨1000, 6, px4, [(9, 1, some ⟨29, 2, [(.ag [(.v (.int .i64 4)), (.os 60 1 3 2 0 3)])]⟩), (60, 1, some ⟨30, 2, [(.ag [(.v (.int .i64 3)), (.v (.int .i64 0))]), (.ag [(.v (.int .i64 0)), (.v (.int .i64 1))]), (.ag [(.v (.int .i64 1)), (.v (.int .i64 2))])]⟩)], pr4, [(9, 1, some ⟨29, 2, [(.ag [(.v (.int .i64 4)), (.os 60 1 3 2 0 3)])]⟩), (60, 1, some ⟨30, 2, [(.ag [(.v (.int .i64 3)), (.v (.int .i64 0))]), (.ag [(.v (.int .i64 0)), (.v (.int .i64 1))]), (.ag [(.v (.int .i64 1)), (.v (.int .i64 2))])]⟩), (1013, 1, some ⟨23, 1, [(.sl 1 false [(.v (.int .i64 0)), (.v (.int .i64 2))])]⟩)]⟩
theorem pc4 : RunsR Try.prog xf pq4.kb pq4.f pq4.args pq4.η pq4.r pq4.η' := RunsR.execM (fr := fr) (fuel := 10000) mm0_ok 40 (by kernel_rfl)
def px11 : List AV := [(.ag [(.v (.int .i64 4)), (.os 60 1 3 2 0 3)]), (.sl 1 true [(.v (.int .i64 3))])]
def pr11 : AV := (.os 3025 1 4 1 0 4)
def pq11 : QE := ⟨3000, 22, px11, [(9, 1, some ⟨29, 2, [(.ag [(.v (.int .i64 4)), (.os 60 1 3 2 0 3)])]⟩), (60, 1, some ⟨30, 2, [(.ag [(.v (.int .i64 3)), (.v (.int .i64 0))]), (.ag [(.v (.int .i64 0)), (.v (.int .i64 1))]), (.ag [(.v (.int .i64 1)), (.v (.int .i64 2))])]⟩), (1013, 1, some ⟨23, 1, [(.sl 1 false [(.v (.int .i64 0)), (.v (.int .i64 2))])]⟩)], pr11, [(9, 1, some ⟨29, 2, [(.ag [(.v (.int .i64 4)), (.os 60 1 3 2 0 3)])]⟩), (60, 1, some ⟨30, 2, [(.ag [(.v (.int .i64 3)), (.v (.int .i64 0))]), (.ag [(.v (.int .i64 0)), (.v (.int .i64 1))]), (.ag [(.v (.int .i64 1)), (.v (.int .i64 2))])]⟩), (1013, 1, some ⟨23, 1, [(.sl 1 false [(.v (.int .i64 0)), (.v (.int .i64 2))])]⟩), (3012, 1, some ⟨55, 1, [(.sl 1 true [(.v (.int .i64 3))])]⟩), (3025, 1, some ⟨54, 1, [(.ifc 55 (.sl 1 true [(.v (.int .i64 3))])), (.ifc 55 (.sl 1 false [(.v (.int .i64 3)), (.v (.int .i64 0))])), (.ifc 55 (.sl 1 false [(.v (.int .i64 3)), (.v (.int .i64 0)), (.v (.int .i64 1))])), (.ifc 55 (.sl 1 false [(.v (.int .i64 3)), (.v (.int .i64 0)), (.v (.int .i64 1)), (.v (.int .i64 2))]))]⟩), (3029, 4, some ⟨55, 1, []⟩), (4007, 1, some ⟨55, 1, [(.sl 1 false [(.v (.int .i64 3)), (.v (.int .i64 0))])]⟩), (5005, 1, none), (5007, 1, some ⟨55, 1, [(.sl 1 false [(.v (.int .i64 3)), (.v (.int .i64 0)), (.v (.int .i64 1))])]⟩), (6005, 1, none), (6007, 1, some ⟨55, 1, [(.sl 1 false [(.v (.int .i64 3)), (.v (.int .i64 0)), (.v (.int .i64 1)), (.v (.int .i64 2))])]⟩), (7005, 1, none)]⟩
theorem pc11 : RunsR Try.prog xf pq11.kb pq11.f pq11.args pq11.η pq11.r pq11.η' := RunsR.execM (fr := fr) (fuel := 10000) mm0_ok 40 (by kernel_rfl)
def px14 : List AV := [(.ag [(.v (.int .i64 4)), (.sl 2 false [(.ag [(.v (.int .i64 0)), (.v (.int .i64 3))]), (.ag [(.v (.int .i64 3)), (.v (.int .i64 2))]), (.ag [(.v (.int .i64 2)), (.v (.int .i64 1))])])]), (.sl 1 true [(.v (.int .i64 0))])]
def pr14 : AV := (.sl 1 false [(.ifc 55 (.sl 1 true [(.v (.int .i64 0))])), (.ifc 55 (.sl 1 false [(.v (.int .i64 0)), (.v (.int .i64 3))])), (.ifc 55 (.sl 1 false [(.v (.int .i64 0)), (.v (.int .i64 3)), (.v (.int .i64 2))])), (.ifc 55 (.sl 1 false [(.v (.int .i64 0)), (.v (.int .i64 3)), (.v (.int .i64 2)), (.v (.int .i64 1))]))])
theorem pc14 : Runs Try.prog xf 22 px14 pr14 := Runs.execM (fr := fr) (fuel := 10000) mm0_ok 40 (by kernel_rfl)
def px16 : List AV := [(.ag [(.v (.int .i64 4)), (.sl 2 false [(.ag [(.v (.int .i64 1)), (.v (.int .i64 2))]), (.ag [(.v (.int .i64 2)), (.v (.int .i64 3))]), (.ag [(.v (.int .i64 3)), (.v (.int .i64 0))])])]), (.sl 1 true [(.v (.int .i64 1))])]
def pr16 : AV := (.sl 1 false [(.ifc 55 (.sl 1 true [(.v (.int .i64 1))])), (.ifc 55 (.sl 1 false [(.v (.int .i64 1)), (.v (.int .i64 2))])), (.ifc 55 (.sl 1 false [(.v (.int .i64 1)), (.v (.int .i64 2)), (.v (.int .i64 3))])), (.ifc 55 (.sl 1 false [(.v (.int .i64 1)), (.v (.int .i64 2)), (.v (.int .i64 3)), (.v (.int .i64 0))]))])
theorem pc16 : Runs Try.prog xf 22 px16 pr16 := Runs.execM (fr := fr) (fuel := 10000) mm0_ok 40 (by kernel_rfl)
def px21 : List AV := [(.v (.string (ByteArray.mk (List.toArray [111, 111]))))]
def pr21 : AV := (.tup [(.sl 1 false [(.v (.int .i64 1)), (.v (.int .i64 2)), (.v (.int .i64 3)), (.v (.int .i64 0))]), (.v (.int .i64 0))])
theorem pc21 : Runs Try.prog xf 5 px21 pr21 := Runs.execM (fr := fr) (fuel := 10000) mm0_ok 40 (by kernel_rfl)
def px24 : List AV := [(.v (.string (ByteArray.mk (List.toArray [117, 117]))))]
def pr24 : AV := (.tup [(.sl 1 false [(.v (.int .i64 0)), (.v (.int .i64 3)), (.v (.int .i64 2)), (.v (.int .i64 1))]), (.v (.int .i64 0))])
theorem pc24 : Runs Try.prog xf 5 px24 pr24 := Runs.execM (fr := fr) (fuel := 10000) mm0_ok 40 (by kernel_rfl)
def px28 : List AV := [(.ag [(.v (.int .i64 2)), (.sl 2 false [(.ag [(.v (.int .i64 1)), (.v (.int .i64 0))])])]), (.sl 1 true [(.v (.int .i64 1))])]
def pr28 : AV := (.sl 1 false [(.ifc 55 (.sl 1 true [(.v (.int .i64 1))])), (.ifc 55 (.sl 1 false [(.v (.int .i64 1)), (.v (.int .i64 0))]))])
theorem pc28 : Runs Try.prog xf 22 px28 pr28 := Runs.execM (fr := fr) (fuel := 10000) mm0_ok 40 (by kernel_rfl)
def px32 : List AV := [(.ag [(.v (.int .i64 4)), (.sl 2 false [(.ag [(.v (.int .i64 2)), (.v (.int .i64 1))]), (.ag [(.v (.int .i64 1)), (.v (.int .i64 0))]), (.ag [(.v (.int .i64 0)), (.v (.int .i64 3))])])]), (.sl 1 false [(.v (.int .i64 2)), (.v (.int .i64 1)), (.v (.int .i64 0))])]
def pr32 : AV := (.sl 1 false [(.sl 1 false [(.v (.int .i64 2)), (.v (.int .i64 1)), (.v (.int .i64 0)), (.v (.int .i64 3))])])
theorem pc32 : Runs Try.prog xf 39 px32 pr32 := Runs.execM (fr := fr) (fuel := 10000) mm0_ok 40 (by kernel_rfl)
def px36 : List AV := [(.ag [(.v (.int .i64 4)), (.sl 2 false [(.ag [(.v (.int .i64 3)), (.v (.int .i64 0))]), (.ag [(.v (.int .i64 0)), (.v (.int .i64 1))]), (.ag [(.v (.int .i64 1)), (.v (.int .i64 2))])])]), (.sl 1 false [(.v (.int .i64 0)), (.v (.int .i64 1))])]
def pr36 : AV := (.sl 1 false [(.sl 1 false [(.v (.int .i64 0)), (.v (.int .i64 1)), (.v (.int .i64 2))])])
theorem pc36 : Runs Try.prog xf 39 px36 pr36 := Runs.execM (fr := fr) (fuel := 10000) mm0_ok 40 (by kernel_rfl)
def px40 : List AV := [(.v (.string (ByteArray.mk (List.toArray [117]))))]
def pr40 : AV := (.tup [(.sl 1 false [(.v (.int .i64 0)), (.v (.int .i64 1))]), (.v (.int .i64 0))])
theorem pc40 : Runs Try.prog xf 5 px40 pr40 := Runs.execM (fr := fr) (fuel := 10000) mm0_ok 40 (by kernel_rfl)
def px44 : List AV := [(.ag [(.v (.int .i64 4)), (.sl 2 false [(.ag [(.v (.int .i64 3)), (.v (.int .i64 0))]), (.ag [(.v (.int .i64 0)), (.v (.int .i64 1))]), (.ag [(.v (.int .i64 1)), (.v (.int .i64 2))])])]), (.sl 1 true [(.v (.int .i64 1))])]
def pr44 : AV := (.sl 1 false [(.sl 1 false [(.v (.int .i64 1)), (.v (.int .i64 2))])])
theorem pc44 : Runs Try.prog xf 39 px44 pr44 := Runs.execM (fr := fr) (fuel := 10000) mm0_ok 40 (by kernel_rfl)
def px48 : List AV := [(.ag [(.v (.int .i64 4)), (.sl 2 false [(.ag [(.v (.int .i64 0)), (.v (.int .i64 3))]), (.ag [(.v (.int .i64 3)), (.v (.int .i64 2))]), (.ag [(.v (.int .i64 2)), (.v (.int .i64 1))])])]), (.sl 1 true [(.v (.int .i64 2))])]
def pr48 : AV := (.sl 1 false [(.sl 1 false [(.v (.int .i64 2)), (.v (.int .i64 1))])])
theorem pc48 : Runs Try.prog xf 39 px48 pr48 := Runs.execM (fr := fr) (fuel := 10000) mm0_ok 40 (by kernel_rfl)
def px52 : List AV := [(.ag [(.v (.int .i64 4)), (.sl 2 false [(.ag [(.v (.int .i64 0)), (.v (.int .i64 3))]), (.ag [(.v (.int .i64 3)), (.v (.int .i64 2))]), (.ag [(.v (.int .i64 2)), (.v (.int .i64 1))])])]), (.sl 1 true [(.v (.int .i64 3))])]
def pr52 : AV := (.sl 1 false [(.sl 1 false [(.v (.int .i64 3)), (.v (.int .i64 2))])])
theorem pc52 : Runs Try.prog xf 39 px52 pr52 := Runs.execM (fr := fr) (fuel := 10000) mm0_ok 40 (by kernel_rfl)
def px56 : List AV := [(.ag [(.v (.int .i64 4)), (.sl 2 false [(.ag [(.v (.int .i64 0)), (.v (.int .i64 3))]), (.ag [(.v (.int .i64 3)), (.v (.int .i64 2))]), (.ag [(.v (.int .i64 2)), (.v (.int .i64 1))])])]), (.sl 1 true [(.v (.int .i64 0))])]
def pr56 : AV := (.sl 1 false [(.sl 1 false [(.v (.int .i64 0)), (.v (.int .i64 3))])])
theorem pc56 : Runs Try.prog xf 39 px56 pr56 := Runs.execM (fr := fr) (fuel := 10000) mm0_ok 40 (by kernel_rfl)
def px60 : List AV := [(.ag [(.v (.int .i64 4)), (.sl 2 false [(.ag [(.v (.int .i64 1)), (.v (.int .i64 2))]), (.ag [(.v (.int .i64 2)), (.v (.int .i64 3))]), (.ag [(.v (.int .i64 3)), (.v (.int .i64 0))])])]), (.sl 1 false [(.v (.int .i64 3)), (.v (.int .i64 0))])]
def pr60 : AV := (.sl 1 false [])
theorem pc60 : Runs Try.prog xf 39 px60 pr60 := Runs.execM (fr := fr) (fuel := 10000) mm0_ok 40 (by kernel_rfl)
def px64 : List AV := [(.ag [(.v (.int .i64 4)), (.sl 2 false [(.ag [(.v (.int .i64 3)), (.v (.int .i64 0))]), (.ag [(.v (.int .i64 0)), (.v (.int .i64 1))]), (.ag [(.v (.int .i64 1)), (.v (.int .i64 2))])])]), (.sl 1 false [(.v (.int .i64 1)), (.v (.int .i64 2))])]
def pr64 : AV := (.sl 1 false [])
theorem pc64 : Runs Try.prog xf 39 px64 pr64 := Runs.execM (fr := fr) (fuel := 10000) mm0_ok 40 (by kernel_rfl)
def px68 : List AV := [(.ag [(.v (.int .i64 4)), (.sl 2 false [(.ag [(.v (.int .i64 2)), (.v (.int .i64 1))]), (.ag [(.v (.int .i64 1)), (.v (.int .i64 0))]), (.ag [(.v (.int .i64 0)), (.v (.int .i64 3))])])]), (.sl 1 false [(.v (.int .i64 0)), (.v (.int .i64 3))])]
def pr68 : AV := (.sl 1 false [])
theorem pc68 : Runs Try.prog xf 39 px68 pr68 := Runs.execM (fr := fr) (fuel := 10000) mm0_ok 40 (by kernel_rfl)
def px72 : List AV := [(.ag [(.v (.int .i64 4)), (.sl 2 false [(.ag [(.v (.int .i64 0)), (.v (.int .i64 3))]), (.ag [(.v (.int .i64 3)), (.v (.int .i64 2))]), (.ag [(.v (.int .i64 2)), (.v (.int .i64 1))])])]), (.sl 1 false [(.v (.int .i64 2)), (.v (.int .i64 1))])]
def pr72 : AV := (.sl 1 false [])
theorem pc72 : Runs Try.prog xf 39 px72 pr72 := Runs.execM (fr := fr) (fuel := 10000) mm0_ok 40 (by kernel_rfl)
end Go.Proofs.Ythhhibpnhokjfab
