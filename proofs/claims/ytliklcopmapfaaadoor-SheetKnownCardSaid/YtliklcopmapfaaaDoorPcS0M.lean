/-
  The pieces together.
-/
import Derived.Test.YtliklcopmapfaaaDoorPcS0A
import Derived.Test.YtliklcopmapfaaaDoorPcS0B
import Derived.Test.YtliklcopmapfaaaDoorPcS0C
import Derived.Test.YtliklcopmapfaaaDoorPcS0D
import Derived.KernelRfl
set_option linter.unusedSimpArgs false
set_option linter.unusedVariables false
namespace Go.Proofs.YtliklcopmapfaaaDoor
open Go Go.Proofs.Eng Go.RowKit
def mm1 : Memo := ⟨[(58, px0, pr0), (29, px1, pr1), (29, px2, pr2), (25, px3, pr3), (26, px4, pr4), (23, px5, pr5), (25, px6, pr6), (26, px7, pr7), (23, px8, pr8), (58, px9, pr9), (15, px11, pr11), (15, px14, pr14), (27, px15, pr15), (31, px17, pr17), (31, px18, pr18), (18, px19, pr19), (18, px21, pr21)], [], [pq10, pq12, pq13, pq16, pq20]⟩
theorem mm1_ok : MemoOK Tryd.prog xf mm1 := ⟨all_more pc0 <| all_more pc1 <| all_more pc2 <| all_more pc3 <| all_more pc4 <| all_more pc5 <| all_more pc6 <| all_more pc7 <| all_more pc8 <| all_more pc9 <| all_more pc11 <| all_more pc14 <| all_more pc15 <| all_more pc17 <| all_more pc18 <| all_more pc19 <| all_more pc21 <| all_none, all_none, all_more pc10 <| all_more pc12 <| all_more pc13 <| all_more pc16 <| all_more pc20 <| all_none⟩
end Go.Proofs.YtliklcopmapfaaaDoor
