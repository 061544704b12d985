/-
  The pieces together.
-/
import Derived.Test.YthhhibpnhokjfabPcL0A
import Derived.Test.YthhhibpnhokjfabPcL0B
import Derived.Test.YthhhibpnhokjfabPcL0C
import Derived.Test.YthhhibpnhokjfabPcL0D
import Derived.KernelRfl
set_option linter.unusedSimpArgs false
set_option linter.unusedVariables false
namespace Go.Proofs.Ythhhibpnhokjfab
open Go Go.Proofs.Eng Go.RowKit
def mm1 : Memo := ⟨[(11, px3, pr3), (22, px14, pr14), (22, px16, pr16), (22, px17, pr17), (22, px18, pr18), (5, px21, pr21), (5, px22, pr22), (5, px23, pr23), (5, px24, pr24), (22, px27, pr27), (22, px28, pr28), (9, px29, pr29), (39, px30, pr30), (39, px31, pr31), (39, px32, pr32), (39, px33, pr33), (6, px34, pr34), (39, px35, pr35), (39, px36, pr36), (39, px37, pr37), (39, px38, pr38), (5, px39, pr39), (5, px40, pr40), (39, px41, pr41), (39, px42, pr42), (39, px43, pr43), (39, px44, pr44), (39, px45, pr45), (39, px46, pr46), (39, px47, pr47), (39, px48, pr48), (39, px49, pr49), (39, px50, pr50), (39, px51, pr51), (39, px52, pr52), (39, px53, pr53), (39, px54, pr54), (39, px55, pr55), (39, px56, pr56), (7, px57, pr57), (39, px58, pr58), (39, px59, pr59), (39, px60, pr60), (39, px61, pr61), (39, px62, pr62), (39, px63, pr63), (39, px64, pr64), (39, px65, pr65), (39, px66, pr66), (39, px67, pr67), (39, px68, pr68), (39, px69, pr69), (39, px70, pr70), (39, px71, pr71), (39, px72, pr72), (39, px73, pr73)], [(9, px13, pr13), (9, px15, pr15)], [pq0, pq1, pq2, pq4, pq5, pq6, pq7, pq8, pq9, pq10, pq11, pq12, pq19, pq20, pq25, pq26]⟩
theorem mm1_ok : MemoOK Try.prog xf mm1 := ⟨all_more pc3 <| all_more pc14 <| all_more pc16 <| all_more pc17 <| all_more pc18 <| all_more pc21 <| all_more pc22 <| all_more pc23 <| all_more pc24 <| all_more pc27 <| all_more pc28 <| all_more pc29 <| all_more pc30 <| all_more pc31 <| all_more pc32 <| all_more pc33 <| all_more pc34 <| all_more pc35 <| all_more pc36 <| all_more pc37 <| all_more pc38 <| all_more pc39 <| all_more pc40 <| all_more pc41 <| all_more pc42 <| all_more pc43 <| all_more pc44 <| all_more pc45 <| all_more pc46 <| all_more pc47 <| all_more pc48 <| all_more pc49 <| all_more pc50 <| all_more pc51 <| all_more pc52 <| all_more pc53 <| all_more pc54 <| all_more pc55 <| all_more pc56 <| all_more pc57 <| all_more pc58 <| all_more pc59 <| all_more pc60 <| all_more pc61 <| all_more pc62 <| all_more pc63 <| all_more pc64 <| all_more pc65 <| all_more pc66 <| all_more pc67 <| all_more pc68 <| all_more pc69 <| all_more pc70 <| all_more pc71 <| all_more pc72 <| all_more pc73 <| all_none, all_more pc13 <| all_more pc15 <| all_none, all_more pc0 <| all_more pc1 <| all_more pc2 <| all_more pc4 <| all_more pc5 <| all_more pc6 <| all_more pc7 <| all_more pc8 <| all_more pc9 <| all_more pc10 <| all_more pc11 <| all_more pc12 <| all_more pc19 <| all_more pc20 <| all_more pc25 <| all_more pc26 <| all_none⟩
end Go.Proofs.Ythhhibpnhokjfab
