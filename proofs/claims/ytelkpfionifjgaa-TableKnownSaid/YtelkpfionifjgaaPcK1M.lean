/-
  The pieces together.
-/
import Derived.Test.YtelkpfionifjgaaPcK1A
import Derived.Test.YtelkpfionifjgaaPcK1B
import Derived.Test.YtelkpfionifjgaaPcK1C
import Derived.KernelRfl
set_option linter.unusedSimpArgs false
set_option linter.unusedVariables false
namespace Go.Proofs.Ytelkpfionifjgaa
open Go Go.Proofs.Eng Go.RowKit
def mm2 : Memo := ⟨[(14, px0, pr0), (36, px1, pr1), (34, px2, pr2), (56, px3, pr3), (41, px4, pr4), (75, px5, pr5), (75, px6, pr6), (33, px7, pr7), (34, px8, pr8), (56, px9, pr9), (75, px10, pr10), (75, px11, pr11), (75, px12, pr12), (26, px13, pr13), (26, px14, pr14), (56, px18, pr18), (13, px19, pr19), (13, px20, pr20), (41, px21, pr21), (14, px22, pr22), (13, px23, pr23), (25, px24, pr24), (35, px25, pr25), (35, px26, pr26), (35, px27, pr27), (44, px28, pr28), (44, px29, pr29), (42, px30, pr30), (25, px31, pr31), (33, px32, pr32), (36, px33, pr33), (34, px34, pr34), (36, px35, pr35), (41, px36, pr36), (14, px37, pr37)], [], [pq15, pq16, pq17]⟩
theorem mm2_ok : MemoOK Try.prog xf mm2 := ⟨all_more pc0 <| all_more pc1 <| all_more pc2 <| all_more pc3 <| all_more pc4 <| all_more pc5 <| all_more pc6 <| all_more pc7 <| all_more pc8 <| all_more pc9 <| all_more pc10 <| all_more pc11 <| all_more pc12 <| all_more pc13 <| all_more pc14 <| all_more pc18 <| all_more pc19 <| all_more pc20 <| all_more pc21 <| all_more pc22 <| all_more pc23 <| all_more pc24 <| all_more pc25 <| all_more pc26 <| all_more pc27 <| all_more pc28 <| all_more pc29 <| all_more pc30 <| all_more pc31 <| all_more pc32 <| all_more pc33 <| all_more pc34 <| all_more pc35 <| all_more pc36 <| all_more pc37 <| all_none, all_none, all_more pc15 <| all_more pc16 <| all_more pc17 <| all_none⟩
end Go.Proofs.Ytelkpfionifjgaa
