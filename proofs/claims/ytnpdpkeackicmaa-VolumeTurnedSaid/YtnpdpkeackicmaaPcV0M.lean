/-
  The pieces together.
-/
import Derived.Test.YtnpdpkeackicmaaPcV0A
import Derived.Test.YtnpdpkeackicmaaPcV0B
import Derived.Test.YtnpdpkeackicmaaPcV0C
import Derived.Test.YtnpdpkeackicmaaPcV0D
import Derived.KernelRfl
set_option linter.unusedSimpArgs false
set_option linter.unusedVariables false
namespace Go.Proofs.Ytnpdpkeackicmaa
open Go Go.Proofs.Eng Go.RowKit
def mm1 : Memo := ⟨[(29, px0, pr0), (30, px1, pr1), (27, px2, pr2), (34, px3, pr3), (34, px4, pr4), (14, px5, pr5), (13, px6, pr6), (17, px7, pr7), (32, px8, pr8), (22, px9, pr9), (22, px10, pr10)], [], []⟩
theorem mm1_ok : MemoOK Try.prog xf mm1 := ⟨all_more pc0 <| all_more pc1 <| all_more pc2 <| all_more pc3 <| all_more pc4 <| all_more pc5 <| all_more pc6 <| all_more pc7 <| all_more pc8 <| all_more pc9 <| all_more pc10 <| all_none, all_none, all_none⟩
end Go.Proofs.Ytnpdpkeackicmaa
