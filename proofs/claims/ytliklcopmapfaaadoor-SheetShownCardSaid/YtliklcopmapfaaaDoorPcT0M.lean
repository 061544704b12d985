/-
  The pieces together.
-/
import Derived.Test.YtliklcopmapfaaaDoorPcT0A
import Derived.Test.YtliklcopmapfaaaDoorPcT0B
import Derived.Test.YtliklcopmapfaaaDoorPcT0C
import Derived.Test.YtliklcopmapfaaaDoorPcT0D
import Derived.KernelRfl
set_option linter.unusedSimpArgs false
set_option linter.unusedVariables false
namespace Go.Proofs.YtliklcopmapfaaaDoor
open Go Go.Proofs.Eng Go.RowKit
def mm1 : Memo := ⟨[(58, px0, pr0), (29, px1, pr1), (23, px2, pr2), (25, px3, pr3), (58, px4, pr4), (15, px6, pr6), (27, px7, pr7), (31, px8, pr8), (31, px9, pr9), (18, px11, pr11)], [], [pq5, pq10]⟩
theorem mm1_ok : MemoOK Tryd.prog xf mm1 := ⟨all_more pc0 <| all_more pc1 <| all_more pc2 <| all_more pc3 <| all_more pc4 <| all_more pc6 <| all_more pc7 <| all_more pc8 <| all_more pc9 <| all_more pc11 <| all_none, all_none, all_more pc5 <| all_more pc10 <| all_none⟩
end Go.Proofs.YtliklcopmapfaaaDoor
