/-
  The pieces together.
-/
import Derived.Test.YtlgmabgpfaajhaaPcP0A
import Derived.Test.YtlgmabgpfaajhaaPcP0B
import Derived.Test.YtlgmabgpfaajhaaPcP0C
import Derived.Test.YtlgmabgpfaajhaaPcP0D
import Derived.KernelRfl
set_option linter.unusedSimpArgs false
set_option linter.unusedVariables false
namespace Go.Proofs.Ytlgmabgpfaajhaa
open Go Go.Proofs.Eng Go.RowKit
def mm1 : Memo := ⟨[(31, pxT, prT), (27, px0, pr0), (28, px1, pr1), (30, px2, pr2), (12, px3, pr3), (34, px4, pr4), (34, px5, pr5), (11, px6, pr6), (7, px7, pr7)], [], []⟩
theorem mm1_ok : MemoOK Try.prog xf mm1 := ⟨all_more turn_run <| all_more pc0 <| all_more pc1 <| all_more pc2 <| all_more pc3 <| all_more pc4 <| all_more pc5 <| all_more pc6 <| all_more pc7 <| all_none, all_none, all_none⟩
end Go.Proofs.Ytlgmabgpfaajhaa
