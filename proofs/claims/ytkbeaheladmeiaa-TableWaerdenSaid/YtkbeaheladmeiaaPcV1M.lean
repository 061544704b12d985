/-
  The pieces together.
-/
import Derived.Test.YtkbeaheladmeiaaPcV1A
import Derived.Test.YtkbeaheladmeiaaPcV1B
import Derived.Test.YtkbeaheladmeiaaPcV1C
import Derived.KernelRfl
set_option linter.unusedSimpArgs false
set_option linter.unusedVariables false
namespace Go.Proofs.Ytkbeaheladmeiaa
open Go Go.Proofs.Eng Go.RowKit
def mm2 : Memo := ⟨[(56, px0, pr0), (75, px1, pr1), (75, px2, pr2), (33, px3, pr3), (34, px4, pr4), (56, px5, pr5), (75, px6, pr6), (75, px7, pr7), (75, px8, pr8), (26, px9, pr9), (26, px10, pr10), (56, px14, pr14), (13, px15, pr15), (14, px16, pr16), (25, px17, pr17), (35, px18, pr18), (35, px19, pr19), (44, px20, pr20), (44, px21, pr21), (42, px22, pr22), (25, px23, pr23), (33, px24, pr24), (36, px25, pr25), (41, px26, pr26), (14, px27, pr27)], [], [pq11, pq12, pq13]⟩
theorem mm2_ok : MemoOK Try.prog xf mm2 := ⟨all_more pc0 <| all_more pc1 <| all_more pc2 <| all_more pc3 <| all_more pc4 <| all_more pc5 <| all_more pc6 <| all_more pc7 <| all_more pc8 <| all_more pc9 <| all_more pc10 <| all_more pc14 <| all_more pc15 <| all_more pc16 <| all_more pc17 <| all_more pc18 <| all_more pc19 <| all_more pc20 <| all_more pc21 <| all_more pc22 <| all_more pc23 <| all_more pc24 <| all_more pc25 <| all_more pc26 <| all_more pc27 <| all_none, all_none, all_more pc11 <| all_more pc12 <| all_more pc13 <| all_none⟩
end Go.Proofs.Ytkbeaheladmeiaa
