/-
  The pieces together.
-/
import Derived.Test.YtdmffkknghianaaPcV0A
import Derived.Test.YtdmffkknghianaaPcV0B
import Derived.Test.YtdmffkknghianaaPcV0C
import Derived.Test.YtdmffkknghianaaPcV0D
import Derived.KernelRfl
set_option linter.unusedSimpArgs false
set_option linter.unusedVariables false
namespace Go.Proofs.Ytdmffkknghianaa
open Go Go.Proofs.Eng Go.RowKit
def mm1 : Memo := ⟨[(33, [(.ag [(.v (.int .i64 6)), (.sl 1 true [(.v (.int .i64 3)), (.v (.int .i64 2)), (.v (.int .i64 2)), (.v (.int .i64 5))])]), (.sl 1 true [(.v (.int .i64 1)), (.v (.int .i64 3)), (.v (.int .i64 4))]), (.v (.int .i64 1)), (.v (.int .i64 2))], (.tup [(.sl 1 false [(.v (.int .i64 1)), (.v (.int .i64 2)), (.v (.int .i64 3)), (.v (.int .i64 4))]), (.v (.int .i64 3)), (.v (.int .i64 0))])), (33, [(.ag [(.v (.int .i64 6)), (.sl 1 true [(.v (.int .i64 3)), (.v (.int .i64 2)), (.v (.int .i64 2)), (.v (.int .i64 5))])]), (.sl 1 true [(.v (.int .i64 1)), (.v (.int .i64 3)), (.v (.int .i64 4))]), (.v (.int .i64 1)), (.v (.int .i64 1))], (.tup [(.sl 1 false [(.v (.int .i64 1)), (.v (.int .i64 3)), (.v (.int .i64 4))]), (.v (.int .i64 1)), (.v (.int .i64 0))])), (33, [(.ag [(.v (.int .i64 6)), (.sl 1 true [(.v (.int .i64 3)), (.v (.int .i64 2)), (.v (.int .i64 2)), (.v (.int .i64 5))])]), (.sl 1 true [(.v (.int .i64 1)), (.v (.int .i64 3)), (.v (.int .i64 4))]), (.v (.int .i64 3)), (.v (.int .i64 1))], (.tup [(.sl 1 false [(.v (.int .i64 1)), (.v (.int .i64 3)), (.v (.int .i64 4))]), (.v (.int .i64 2)), (.v (.int .i64 0))])), (33, [(.ag [(.v (.int .i64 10)), (.sl 1 true [(.v (.int .i64 3)), (.v (.int .i64 3)), (.v (.int .i64 4)), (.v (.int .i64 2)), (.v (.int .i64 5))])]), (.sl 1 true [(.v (.int .i64 2)), (.v (.int .i64 4)), (.v (.int .i64 5))]), (.v (.int .i64 0)), (.v (.int .i64 4))], (.tup [(.sl 1 false [(.v (.int .i64 1)), (.v (.int .i64 3)), (.v (.int .i64 5))]), (.v (.int .i64 2)), (.v (.int .i64 0))])), (14, px0, pr0), (17, px1, pr1), (22, px4, pr4), (22, px5, pr5), (21, px6, pr6), (21, px10, pr10), (29, px16, pr16), (38, px17, pr17), (69, px18, pr18), (37, px19, pr19), (51, px20, pr20)], [], [pq2, pq3, pq7, pq8, pq9, pq11, pq12, pq13, pq14, pq15]⟩
theorem mm1_ok : MemoOK Try.prog xf mm1 := ⟨all_more lg_0 <| all_more lg_1 <| all_more lg_2 <| all_more lg_3 <| all_more pc0 <| all_more pc1 <| all_more pc4 <| all_more pc5 <| all_more pc6 <| all_more pc10 <| all_more pc16 <| all_more pc17 <| all_more pc18 <| all_more pc19 <| all_more pc20 <| all_none, all_none, all_more pc2 <| all_more pc3 <| all_more pc7 <| all_more pc8 <| all_more pc9 <| all_more pc11 <| all_more pc12 <| all_more pc13 <| all_more pc14 <| all_more pc15 <| all_none⟩
end Go.Proofs.Ytdmffkknghianaa
