/-
  Pieces of the run.
-/
import Derived.Test.YtelkpfionifjgaaPcKF
import Derived.KernelRfl
set_option linter.unusedSimpArgs false
set_option linter.unusedVariables false
namespace Go.Proofs.Ytelkpfionifjgaa
open Go Go.Proofs.Eng Go.RowKit
def px2 : List AV := [(.sl 1 true [(.sl 1 true [(.v (.int .i64 2)), (.v (.int .i64 1)), (.v (.int .i64 1))]), (.sl 1 true [(.v (.int .i64 1)), (.v (.int .i64 2)), (.v (.int .i64 1))]), (.sl 1 true [(.v (.int .i64 1)), (.v (.int .i64 1)), (.v (.int .i64 2))])])]
def pr2 : AV := (.tup [(.v (.int .i64 6)), (.v (.int .i64 0))])
theorem pc2 : Runs Try.prog xf 34 px2 pr2 := Runs.execM (fr := fr) (fuel := 10000) mm0_ok 40 (by kernel_rfl)
def px5 : List AV := [(.sl 1 false [(.sl 1 false [(.v (.int .i64 2)), (.v (.int .i64 1)), (.v (.int .i64 1))]), (.sl 1 false [(.v (.int .i64 1)), (.v (.int .i64 2)), (.v (.int .i64 1))]), (.sl 1 false [(.v (.int .i64 1)), (.v (.int .i64 1)), (.v (.int .i64 2))])]), (.sl 1 false [(.sl 1 false [(.v (.int .i64 1)), (.v (.int .i64 0)), (.v (.int .i64 2))]), (.sl 1 false [(.v (.int .i64 1)), (.v (.int .i64 2)), (.v (.int .i64 0))]), (.sl 1 false [(.v (.int .i64 2)), (.v (.int .i64 0)), (.v (.int .i64 1))]), (.sl 1 false [(.v (.int .i64 2)), (.v (.int .i64 1)), (.v (.int .i64 0))])])]
def pr5 : AV := (.v (.int .i64 0))
theorem pc5 : Runs Try.prog xf 75 px5 pr5 := Runs.execM (fr := fr) (fuel := 10000) mm0_ok 40 (by kernel_rfl)
def px9 : List AV := [(.sl 1 false [(.sl 1 false [(.v (.int .i64 0)), (.v (.int .i64 1)), (.v (.int .i64 1))]), (.sl 1 false [(.v (.int .i64 1)), (.v (.int .i64 0)), (.v (.int .i64 1))]), (.sl 1 false [(.v (.int .i64 1)), (.v (.int .i64 1)), (.v (.int .i64 0))])])]
def pr9 : AV := (.sl 1 false [(.sl 1 false [(.v (.int .i64 1)), (.v (.int .i64 2)), (.v (.int .i64 0))]), (.sl 1 false [(.v (.int .i64 2)), (.v (.int .i64 0)), (.v (.int .i64 1))])])
theorem pc9 : Runs Try.prog xf 56 px9 pr9 := Runs.execM (fr := fr) (fuel := 10000) mm0_ok 40 (by kernel_rfl)
def px14 : List AV := [(.sl 1 true [(.sl 1 true [(.v (.int .i64 1)), (.v (.int .i64 0)), (.v (.int .i64 0))]), (.sl 1 true [(.v (.int .i64 1)), (.v (.int .i64 0)), (.v (.int .i64 0))]), (.sl 1 true [(.v (.int .i64 0)), (.v (.int .i64 1)), (.v (.int .i64 1))])])]
def pr14 : AV := (.tup [(.sl 1 false [(.v (.int .i64 0)), (.v (.int .i64 1))]), (.sl 1 false [(.v (.int .i64 1)), (.v (.int .i64 2))]), (.v (.int .i64 0))])
theorem pc14 : Runs Try.prog xf 26 px14 pr14 := Runs.execM (fr := fr) (fuel := 10000) mm0_ok 40 (by kernel_rfl)
def px16 : List AV := [(.ag [(.sl 1 true [(.sl 1 true [(.v (.int .i64 2)), (.v (.int .i64 1)), (.v (.int .i64 1))]), (.sl 1 true [(.v (.int .i64 1)), (.v (.int .i64 2)), (.v (.int .i64 1))]), (.sl 1 true [(.v (.int .i64 1)), (.v (.int .i64 1)), (.v (.int .i64 2))])]), (.fn 73 [(.o 5 1 1 0 0), (.ptr (.sl 1 true [(.sl 1 true [(.v (.int .i64 2)), (.v (.int .i64 1)), (.v (.int .i64 1))]), (.sl 1 true [(.v (.int .i64 1)), (.v (.int .i64 2)), (.v (.int .i64 1))]), (.sl 1 true [(.v (.int .i64 1)), (.v (.int .i64 1)), (.v (.int .i64 2))])]))])]), (.os 1043 2 1 1 0 1)]
def pr16 : AV := (.tup [])
def pq16 : QE := ⟨9000, 70, px16, [(5, 1, some ⟨3, 1, [(.v (.int .i64 10))]⟩), (1043, 2, some ⟨3, 1, [(.v (.int .i64 1))]⟩), (3005, 1, some ⟨3, 1, [(.v (.int .i64 0)), (.v (.int .i64 1))]⟩), (5005, 1, some ⟨3, 1, [(.v (.int .i64 0)), (.v (.int .i64 1)), (.v (.int .i64 2))]⟩), (6005, 1, some ⟨3, 1, [(.v (.int .i64 0)), (.v (.int .i64 2))]⟩), (8005, 1, some ⟨3, 1, [(.v (.int .i64 0)), (.v (.int .i64 2)), (.v (.int .i64 1))]⟩)], pr16, [(5, 1, some ⟨3, 1, [(.v (.int .i64 13))]⟩), (1043, 2, some ⟨3, 1, [(.v (.int .i64 1))]⟩), (3005, 1, some ⟨3, 1, [(.v (.int .i64 0)), (.v (.int .i64 1))]⟩), (5005, 1, some ⟨3, 1, [(.v (.int .i64 0)), (.v (.int .i64 1)), (.v (.int .i64 2))]⟩), (6005, 1, some ⟨3, 1, [(.v (.int .i64 0)), (.v (.int .i64 2))]⟩), (8005, 1, some ⟨3, 1, [(.v (.int .i64 0)), (.v (.int .i64 2)), (.v (.int .i64 1))]⟩), (10005, 1, some ⟨3, 1, [(.v (.int .i64 1)), (.v (.int .i64 0))]⟩), (12005, 1, some ⟨3, 1, [(.v (.int .i64 1)), (.v (.int .i64 0)), (.v (.int .i64 2))]⟩), (13005, 1, some ⟨3, 1, [(.v (.int .i64 1)), (.v (.int .i64 2))]⟩), (15005, 1, some ⟨3, 1, [(.v (.int .i64 1)), (.v (.int .i64 2)), (.v (.int .i64 0))]⟩)]⟩
theorem pc16 : RunsR Try.prog xf pq16.kb pq16.f pq16.args pq16.η pq16.r pq16.η' := RunsR.execM (fr := fr) (fuel := 10000) mm0_ok 40 (by kernel_rfl)
def px21 : List AV := [(.sl 1 true [(.sl 1 true [(.v (.int .i64 1)), (.v (.int .i64 0)), (.v (.int .i64 0))]), (.sl 1 true [(.v (.int .i64 1)), (.v (.int .i64 0)), (.v (.int .i64 0))]), (.sl 1 true [(.v (.int .i64 0)), (.v (.int .i64 1)), (.v (.int .i64 1))])])]
def pr21 : AV := (.tup [(.v (.int .i64 0)), (.v (.int .i64 17))])
theorem pc21 : Runs Try.prog xf 41 px21 pr21 := Runs.execM (fr := fr) (fuel := 10000) mm0_ok 40 (by kernel_rfl)
def px25 : List AV := [(.sl 1 true [(.sl 1 true [(.v (.int .i64 1)), (.v (.int .i64 0)), (.v (.int .i64 0))]), (.sl 1 true [(.v (.int .i64 1)), (.v (.int .i64 0)), (.v (.int .i64 0))]), (.sl 1 true [(.v (.int .i64 0)), (.v (.int .i64 1)), (.v (.int .i64 1))])]), (.sl 1 true [(.v (.int .i64 0)), (.v (.int .i64 1))]), (.sl 1 true [(.v (.int .i64 1)), (.v (.int .i64 2))])]
def pr25 : AV := (.v (.int .i64 0))
theorem pc25 : Runs Try.prog xf 35 px25 pr25 := Runs.execM (fr := fr) (fuel := 10000) mm0_ok 40 (by kernel_rfl)
def px29 : List AV := [(.sl 1 true [(.sl 1 true [(.v (.int .i64 1)), (.v (.int .i64 1)), (.v (.int .i64 0))]), (.sl 1 true [(.v (.int .i64 0)), (.v (.int .i64 1)), (.v (.int .i64 1))]), (.sl 1 true [(.v (.int .i64 1)), (.v (.int .i64 0)), (.v (.int .i64 1))])]), (.sl 1 true [(.v (.int .i64 0)), (.v (.int .i64 2)), (.v (.int .i64 1))])]
def pr29 : AV := (.v (.int .i64 12))
theorem pc29 : Runs Try.prog xf 44 px29 pr29 := Runs.execM (fr := fr) (fuel := 10000) mm0_ok 40 (by kernel_rfl)
def px33 : List AV := [(.sl 1 true [(.sl 1 true [(.v (.int .i64 1)), (.v (.int .i64 0)), (.v (.int .i64 0))]), (.sl 1 true [(.v (.int .i64 1)), (.v (.int .i64 0)), (.v (.int .i64 0))]), (.sl 1 true [(.v (.int .i64 0)), (.v (.int .i64 1)), (.v (.int .i64 1))])])]
def pr33 : AV := (.tup [(.v (.int .i64 0)), (.v (.int .i64 0))])
theorem pc33 : Runs Try.prog xf 36 px33 pr33 := Runs.execM (fr := fr) (fuel := 10000) mm0_ok 40 (by kernel_rfl)
end Go.Proofs.Ytelkpfionifjgaa
