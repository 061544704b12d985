/-
  The pieces together.
-/
import Derived.Test.YtnpdpkeackicmaaPcK0A
import Derived.Test.YtnpdpkeackicmaaPcK0B
import Derived.Test.YtnpdpkeackicmaaPcK0C
import Derived.Test.YtnpdpkeackicmaaPcK0D
import Derived.KernelRfl
set_option linter.unusedSimpArgs false
set_option linter.unusedVariables false
namespace Go.Proofs.Ytnpdpkeackicmaa
open Go Go.Proofs.Eng Go.RowKit
def mm1 : Memo := ⟨[(78, [.ag []], .v (.int .i64 0)), (27, px0, pr0), (29, px1, pr1), (30, px2, pr2), (27, px3, pr3), (27, px4, pr4), (34, px5, pr5), (34, px6, pr6), (27, px7, pr7), (14, px8, pr8), (13, px9, pr9), (17, px10, pr10), (32, px11, pr11), (22, px12, pr12), (22, px13, pr13)], [], []⟩
theorem mm1_ok : MemoOK Try.prog xf mm1 := ⟨all_more none_run <| all_more pc0 <| all_more pc1 <| all_more pc2 <| all_more pc3 <| all_more pc4 <| all_more pc5 <| all_more pc6 <| all_more pc7 <| all_more pc8 <| all_more pc9 <| all_more pc10 <| all_more pc11 <| all_more pc12 <| all_more pc13 <| all_none, all_none, all_none⟩
end Go.Proofs.Ytnpdpkeackicmaa
