/-
  The pieces together.
-/
import Derived.Test.YtimfijmkfdhlmaaPcW1A
import Derived.Test.YtimfijmkfdhlmaaPcW1B
import Derived.Test.YtimfijmkfdhlmaaPcW1C
import Derived.Test.YtimfijmkfdhlmaaPcW1D
import Derived.KernelRfl
set_option linter.unusedSimpArgs false
set_option linter.unusedVariables false
namespace Go.Proofs.Ytimfijmkfdhlmaa
open Go Go.Proofs.Eng Go.RowKit
def mm2 : Memo := ⟨[(47, px61, pr61), (47, px62, pr62), (27, px63, pr63), (27, px64, pr64), (47, px65, pr65), (35, px67, pr67), (46, px68, pr68), (15, px69, pr69), (14, px70, pr70), (10, px71, pr71)], [], [pq0, pq1, pq2, pq3, pq4, pq5, pq6, pq7, pq8, pq9, pq10, pq11, pq12, pq13, pq14, pq15, pq16, pq17, pq18, pq19, pq20, pq21, pq22, pq23, pq24, pq25, pq26, pq27, pq28, pq29, pq30, pq31, pq32, pq33, pq34, pq35, pq36, pq37, pq38, pq39, pq40, pq41, pq42, pq43, pq44, pq45, pq46, pq47, pq48, pq49, pq50, pq51, pq52, pq53, pq54, pq55, pq56, pq57, pq58, pq59, pq60, pq66, pq72, pq73, pq74]⟩
theorem mm2_ok : MemoOK Try.prog xf mm2 := ⟨all_more pc61 <| all_more pc62 <| all_more pc63 <| all_more pc64 <| all_more pc65 <| all_more pc67 <| all_more pc68 <| all_more pc69 <| all_more pc70 <| all_more pc71 <| all_none, all_none, all_more pc0 <| all_more pc1 <| all_more pc2 <| all_more pc3 <| all_more pc4 <| all_more pc5 <| all_more pc6 <| all_more pc7 <| all_more pc8 <| all_more pc9 <| all_more pc10 <| all_more pc11 <| all_more pc12 <| all_more pc13 <| all_more pc14 <| all_more pc15 <| all_more pc16 <| all_more pc17 <| all_more pc18 <| all_more pc19 <| all_more pc20 <| all_more pc21 <| all_more pc22 <| all_more pc23 <| all_more pc24 <| all_more pc25 <| all_more pc26 <| all_more pc27 <| all_more pc28 <| all_more pc29 <| all_more pc30 <| all_more pc31 <| all_more pc32 <| all_more pc33 <| all_more pc34 <| all_more pc35 <| all_more pc36 <| all_more pc37 <| all_more pc38 <| all_more pc39 <| all_more pc40 <| all_more pc41 <| all_more pc42 <| all_more pc43 <| all_more pc44 <| all_more pc45 <| all_more pc46 <| all_more pc47 <| all_more pc48 <| all_more pc49 <| all_more pc50 <| all_more pc51 <| all_more pc52 <| all_more pc53 <| all_more pc54 <| all_more pc55 <| all_more pc56 <| all_more pc57 <| all_more pc58 <| all_more pc59 <| all_more pc60 <| all_more pc66 <| all_more pc72 <| all_more pc73 <| all_more pc74 <| all_none⟩
end Go.Proofs.Ytimfijmkfdhlmaa
