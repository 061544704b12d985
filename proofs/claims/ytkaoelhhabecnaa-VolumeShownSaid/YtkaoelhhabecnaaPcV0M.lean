/-
  The pieces together.
-/
import Derived.Test.YtkaoelhhabecnaaPcV0A
import Derived.Test.YtkaoelhhabecnaaPcV0B
import Derived.Test.YtkaoelhhabecnaaPcV0C
import Derived.Test.YtkaoelhhabecnaaPcV0D
import Derived.KernelRfl
set_option linter.unusedSimpArgs false
set_option linter.unusedVariables false
namespace Go.Proofs.Ytkaoelhhabecnaa
open Go Go.Proofs.Eng Go.RowKit
def mm1 : Memo := ⟨[(21, px0, pr0), (22, px1, pr1), (20, px2, pr2), (32, px3, pr3), (32, px4, pr4), (19, px5, pr5), (9, px6, pr6), (31, px7, pr7), (23, px8, pr8), (10, px9, pr9), (10, px10, pr10)], [], []⟩
theorem mm1_ok : MemoOK Try.prog xf mm1 := ⟨all_more pc0 <| all_more pc1 <| all_more pc2 <| all_more pc3 <| all_more pc4 <| all_more pc5 <| all_more pc6 <| all_more pc7 <| all_more pc8 <| all_more pc9 <| all_more pc10 <| all_none, all_none, all_none⟩
end Go.Proofs.Ytkaoelhhabecnaa
