/-
  The pieces together.
-/
import Derived.Test.YtdmffkknghianaaPcK0A
import Derived.Test.YtdmffkknghianaaPcK0B
import Derived.Test.YtdmffkknghianaaPcK0C
import Derived.Test.YtdmffkknghianaaPcK0D
import Derived.KernelRfl
set_option linter.unusedSimpArgs false
set_option linter.unusedVariables false
namespace Go.Proofs.Ytdmffkknghianaa
open Go Go.Proofs.Eng Go.RowKit
def mm1 : Memo := ⟨[(33, [(.ag [(.v (.int .i64 6)), (.sl 1 true [(.v (.int .i64 3)), (.v (.int .i64 2)), (.v (.int .i64 2)), (.v (.int .i64 5))])]), (.sl 1 true [(.v (.int .i64 1)), (.v (.int .i64 3)), (.v (.int .i64 4))]), (.v (.int .i64 1)), (.v (.int .i64 2))], (.tup [(.sl 1 false [(.v (.int .i64 1)), (.v (.int .i64 2)), (.v (.int .i64 3)), (.v (.int .i64 4))]), (.v (.int .i64 3)), (.v (.int .i64 0))])), (33, [(.ag [(.v (.int .i64 6)), (.sl 1 true [(.v (.int .i64 3)), (.v (.int .i64 2)), (.v (.int .i64 2)), (.v (.int .i64 5))])]), (.sl 1 true [(.v (.int .i64 1)), (.v (.int .i64 3)), (.v (.int .i64 4))]), (.v (.int .i64 1)), (.v (.int .i64 1))], (.tup [(.sl 1 false [(.v (.int .i64 1)), (.v (.int .i64 3)), (.v (.int .i64 4))]), (.v (.int .i64 1)), (.v (.int .i64 0))])), (33, [(.ag [(.v (.int .i64 6)), (.sl 1 true [(.v (.int .i64 3)), (.v (.int .i64 2)), (.v (.int .i64 2)), (.v (.int .i64 5))])]), (.sl 1 true [(.v (.int .i64 1)), (.v (.int .i64 3)), (.v (.int .i64 4))]), (.v (.int .i64 3)), (.v (.int .i64 1))], (.tup [(.sl 1 false [(.v (.int .i64 1)), (.v (.int .i64 3)), (.v (.int .i64 4))]), (.v (.int .i64 2)), (.v (.int .i64 0))])), (33, [(.ag [(.v (.int .i64 10)), (.sl 1 true [(.v (.int .i64 3)), (.v (.int .i64 3)), (.v (.int .i64 4)), (.v (.int .i64 2)), (.v (.int .i64 5))])]), (.sl 1 true [(.v (.int .i64 2)), (.v (.int .i64 4)), (.v (.int .i64 5))]), (.v (.int .i64 0)), (.v (.int .i64 4))], (.tup [(.sl 1 false [(.v (.int .i64 1)), (.v (.int .i64 3)), (.v (.int .i64 5))]), (.v (.int .i64 2)), (.v (.int .i64 0))])), (14, px0, pr0), (17, px1, pr1), (26, px2, pr2), (15, px3, pr3), (22, px6, pr6), (22, px7, pr7), (22, px8, pr8), (21, px9, pr9), (21, px10, pr10), (21, px11, pr11), (21, px15, pr15), (29, px21, pr21), (29, px22, pr22), (38, px23, pr23), (69, px24, pr24), (37, px25, pr25), (51, px26, pr26)], [], [pq4, pq5, pq12, pq13, pq14, pq16, pq17, pq18, pq19, pq20]⟩
theorem mm1_ok : MemoOK Try.prog xf mm1 := ⟨all_more lg_0 <| all_more lg_1 <| all_more lg_2 <| all_more lg_3 <| all_more pc0 <| all_more pc1 <| all_more pc2 <| all_more pc3 <| all_more pc6 <| all_more pc7 <| all_more pc8 <| all_more pc9 <| all_more pc10 <| all_more pc11 <| all_more pc15 <| all_more pc21 <| all_more pc22 <| all_more pc23 <| all_more pc24 <| all_more pc25 <| all_more pc26 <| all_none, all_none, all_more pc4 <| all_more pc5 <| all_more pc12 <| all_more pc13 <| all_more pc14 <| all_more pc16 <| all_more pc17 <| all_more pc18 <| all_more pc19 <| all_more pc20 <| all_none⟩
end Go.Proofs.Ytdmffkknghianaa
