/-
  The walk of the statements' own helper works: it returns true, and writes nothing that was there.
-/
import Derived.Test.YtlbepjmiligpcaaDoorWk
set_option linter.unusedSimpArgs false
set_option linter.unusedVariables false
namespace Go.Proofs.YtlbepjmiligpcaaDoor
open Go.RowKit Go.Proofs.Short Go.Lib

set_option maxRecDepth 100000 in
set_option maxHeartbeats 4000000 in
theorem works_any (w : World) :
    Calls Tryd.prog 12 #[] w fun e w' => e = .returned (.bool true) ∧ Below w.heap.size w w' := by
  go_enter Tryd.func12, Tryd.ntmps12
  go_wp2_with (fail)
  refine (wk1 _).mono ?_
  rintro e w1 ⟨rfl, hb1⟩
  have hB1 := hb1; clear hb1
  skip
  go_wp2_with (fail)
  refine (wk2 _).mono ?_
  rintro e w2 ⟨rfl, hb2⟩
  have hB2 := hB1.trans (hb2.mono hB1.size)
  clear hB1
  clear hb2
  go_wp2_with (fail)
  refine (wk3 _).mono ?_
  rintro e w3 ⟨⟨AC, cC, rfl, hrC⟩, hb3⟩
  have hB3 := hB2.trans (hb3.mono hB2.size)
  clear hB2
  clear hb3
  go_wp2_with (fail)
  refine (wk4 _).mono ?_
  rintro e w4 ⟨rfl, hb4⟩
  replace hrC := hrC.below hb4
  have hB4 := hB3.trans (hb4.mono hB3.size)
  clear hB3
  clear hb4
  go_wp2_with (fail)
  refine (wk5 _).mono ?_
  rintro e w5 ⟨⟨AD, cD, rfl, hrD⟩, hb5⟩
  replace hrC := hrC.below hb5
  have hB5 := hB4.trans (hb5.mono hB4.size)
  clear hB4
  clear hb5
  go_wp2_with (fail)
  refine (wk6 _).mono ?_
  rintro e w6 ⟨⟨AE, cE, rfl, hrE⟩, hb6⟩
  replace hrC := hrC.below hb6
  replace hrD := hrD.below hb6
  have hB6 := hB5.trans (hb6.mono hB5.size)
  clear hB5
  clear hb6
  go_wp2_with (fail)
  refine (wk7 _).mono ?_
  rintro e w7 ⟨rfl, hb7⟩
  replace hrC := hrC.below hb7
  replace hrD := hrD.below hb7
  replace hrE := hrE.below hb7
  have hB7 := hB6.trans (hb7.mono hB6.size)
  clear hB6
  clear hb7
  go_wp2_with (fail)
  refine (wk8 _).mono ?_
  rintro e w8 ⟨rfl, hb8⟩
  replace hrC := hrC.below hb8
  replace hrD := hrD.below hb8
  replace hrE := hrE.below hb8
  have hB8 := hB7.trans (hb8.mono hB7.size)
  clear hB7
  clear hb8
  go_wp2_with (fail)
  refine (wk9 _).mono ?_
  rintro e w9 ⟨rfl, hb9⟩
  replace hrC := hrC.below hb9
  replace hrD := hrD.below hb9
  replace hrE := hrE.below hb9
  have hB9 := hB8.trans (hb9.mono hB8.size)
  clear hB8
  clear hb9
  go_wp2_with (fail)
  refine (texts_any _ _ _ _).mono ?_
  rintro e wz ⟨rfl, rfl⟩
  go_wp2_with (fail)
  refine (wk10 _).mono ?_
  rintro e w10 ⟨rfl, hb10⟩
  replace hrC := hrC.below hb10
  replace hrD := hrD.below hb10
  replace hrE := hrE.below hb10
  have hB10 := hB9.trans (hb10.mono hB9.size)
  clear hB9
  clear hb10
  go_wp2_with (fail)
  refine (wk11 _).mono ?_
  rintro e w11 ⟨rfl, hb11⟩
  replace hrC := hrC.below hb11
  replace hrD := hrD.below hb11
  replace hrE := hrE.below hb11
  have hB11 := hB10.trans (hb11.mono hB10.size)
  clear hB10
  clear hb11
  go_wp2_with (fail)
  refine (wk12 _).mono ?_
  rintro e w12 ⟨rfl, hb12⟩
  replace hrC := hrC.below hb12
  replace hrD := hrD.below hb12
  replace hrE := hrE.below hb12
  have hB12 := hB11.trans (hb12.mono hB11.size)
  clear hB11
  clear hb12
  go_wp2_with (fail)
  refine (wk13 _).mono ?_
  rintro e w13 ⟨rfl, hb13⟩
  replace hrC := hrC.below hb13
  replace hrD := hrD.below hb13
  replace hrE := hrE.below hb13
  have hB13 := hB12.trans (hb13.mono hB12.size)
  clear hB12
  clear hb13
  go_wp2_with (fail)
  refine (texts_any _ _ _ _).mono ?_
  rintro e wz ⟨rfl, rfl⟩
  go_wp2_with (fail)
  refine (wk14 _).mono ?_
  rintro e w14 ⟨rfl, hb14⟩
  replace hrC := hrC.below hb14
  replace hrD := hrD.below hb14
  replace hrE := hrE.below hb14
  have hB14 := hB13.trans (hb14.mono hB13.size)
  clear hB13
  clear hb14
  go_wp2_with (fail)
  refine (list_any _ _ _ _).mono ?_
  rintro e wz ⟨rfl, rfl⟩
  go_wp2_with (fail)
  refine (wk18 _ _ _ hrC).mono ?_
  rintro e w15 ⟨rfl, hb15⟩
  replace hrD := hrD.below hb15
  replace hrE := hrE.below hb15
  have hB15 := hB14.trans (hb15.mono hB14.size)
  clear hB14 hb15 hrC
  go_wp2_with (fail)
  refine (texts_any _ _ _ _).mono ?_
  rintro e wz ⟨rfl, rfl⟩
  go_wp2_with (fail)
  refine (wk19 _ _ _ hrD).mono ?_
  rintro e w16 ⟨rfl, hb16⟩
  replace hrE := hrE.below hb16
  have hB16 := hB15.trans (hb16.mono hB15.size)
  clear hB15 hb16 hrD
  go_wp2_with (fail)
  refine (list_any _ _ _ _).mono ?_
  rintro e wz ⟨rfl, rfl⟩
  go_wp2_with (fail)
  refine (wk20 _ _ _ hrE).mono ?_
  rintro e w17 ⟨rfl, hb17⟩
  have hB17 := hB16.trans (hb17.mono hB16.size)
  clear hB16 hb17 hrE
  go_wp2_with (fail)
  refine (wk15 _).mono ?_
  rintro e w18 ⟨rfl, hb18⟩
  have hB18 := hB17.trans (hb18.mono hB17.size)
  clear hB17
  clear hb18
  go_wp2_with (fail)
  refine (wk16 _).mono ?_
  rintro e w19 ⟨rfl, hb19⟩
  have hB19 := hB18.trans (hb19.mono hB18.size)
  clear hB18
  clear hb19
  go_wp2_with (fail)
  refine (wk17 _).mono ?_
  rintro e w20 ⟨rfl, hb20⟩
  have hB20 := hB19.trans (hb20.mono hB19.size)
  clear hB19
  clear hb20
  go_wp2_with (fail)
  go_ret
  exact ⟨rfl, hB20⟩
end Go.Proofs.YtlbepjmiligpcaaDoor
