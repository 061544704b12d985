/-
  The pieces together.
-/
import Derived.Test.YtgcckkkejknnoaaPcAll0A
import Derived.Test.YtgcckkkejknnoaaPcAll0B
import Derived.Test.YtgcckkkejknnoaaPcAll0C
import Derived.Test.YtgcckkkejknnoaaPcAll0D
import Derived.KernelRfl
set_option linter.unusedSimpArgs false
set_option linter.unusedVariables false
namespace Go.Proofs.Ytgcckkkejknnoaa
open Go Go.Proofs.Eng Go.RowKit
def mm1 : Memo := ⟨[(137, pxT, prT), (51, px0, pr0), (53, px1, pr1), (57, px2, pr2), (50, px3, pr3), (50, px4, pr4), (57, px5, pr5), (51, px6, pr6), (53, px7, pr7), (58, px8, pr8), (58, px9, pr9), (58, px10, pr10), (135, px11, pr11), (58, px12, pr12), (46, px13, pr13), (46, px14, pr14)], [], []⟩
theorem mm1_ok : MemoOK Try.prog xf mm1 := ⟨all_more turn_run <| all_more pc0 <| all_more pc1 <| all_more pc2 <| all_more pc3 <| all_more pc4 <| all_more pc5 <| all_more pc6 <| all_more pc7 <| all_more pc8 <| all_more pc9 <| all_more pc10 <| all_more pc11 <| all_more pc12 <| all_more pc13 <| all_more pc14 <| all_none, all_none, all_none⟩
end Go.Proofs.Ytgcckkkejknnoaa
