/-
  The pieces together.
-/
import Derived.Test.YtdbodafhpmmnhaaPcW1A
import Derived.KernelRfl
set_option linter.unusedSimpArgs false
set_option linter.unusedVariables false
namespace Go.Proofs.Ytdbodafhpmmnhaa
open Go Go.Proofs.Eng Go.RowKit
def mm2 : Memo := ⟨[(37, px0, pr0), (14, px2, pr2), (16, px3, pr3), (21, px4, pr4), (17, px5, pr5), (19, px6, pr6), (14, px7, pr7), (19, px8, pr8), (30, px9, pr9), (30, px10, pr10), (7, px11, pr11), (7, px12, pr12), (37, px13, pr13)], [], [pq1]⟩
theorem mm2_ok : MemoOK Try.prog xf mm2 := ⟨all_more pc0 <| all_more pc2 <| all_more pc3 <| all_more pc4 <| all_more pc5 <| all_more pc6 <| all_more pc7 <| all_more pc8 <| all_more pc9 <| all_more pc10 <| all_more pc11 <| all_more pc12 <| all_more pc13 <| all_none, all_none, all_more pc1 <| all_none⟩
end Go.Proofs.Ytdbodafhpmmnhaa
