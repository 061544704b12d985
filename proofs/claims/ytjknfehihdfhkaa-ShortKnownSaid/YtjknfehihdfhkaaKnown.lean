/-
  The walk of ShortKnown: it returns true, and writes nothing that was there.
-/
import Derived.Test.YtjknfehihdfhkaaKn
import Derived.Test.YtjknfehihdfhkaaWorks
namespace Go.Proofs.Ytjknfehihdfhkaa
open Go.RowKit Go.Proofs.Short Go.Lib

set_option maxRecDepth 100000 in
set_option maxHeartbeats 20000000 in
theorem known_any (w : World) :
    Calls Try.prog 15 #[] w fun e w' => e = .returned (.bool true) ∧ Below w.heap.size w w' := by
  go_enter Try.func15, Try.ntmps15
  go_wp2_with (fail)
  refine (kn1 _).mono ?_
  rintro e w1 ⟨rfl, hb1⟩
  have hB1 := hb1; clear hb1
  skip
  go_wp2_with (fail)
  refine (kn2 _).mono ?_
  rintro e w2 ⟨rfl, hb2⟩
  have hB2 := hB1.trans (hb2.mono hB1.size)
  clear hB1
  clear hb2
  go_wp2_with (fail)
  refine (kn3 _).mono ?_
  rintro e w3 ⟨rfl, hb3⟩
  have hB3 := hB2.trans (hb3.mono hB2.size)
  clear hB2
  clear hb3
  go_wp2_with (fail)
  refine (kn4 _).mono ?_
  rintro e w4 ⟨rfl, hb4⟩
  have hB4 := hB3.trans (hb4.mono hB3.size)
  clear hB3
  clear hb4
  go_wp2_with (fail)
  refine (kn5 _).mono ?_
  rintro e w5 ⟨rfl, hb5⟩
  have hB5 := hB4.trans (hb5.mono hB4.size)
  clear hB4
  clear hb5
  go_wp2_with (fail)
  refine (kn6 _).mono ?_
  rintro e w6 ⟨rfl, hb6⟩
  have hB6 := hB5.trans (hb6.mono hB5.size)
  clear hB5
  clear hb6
  go_wp2_with (fail)
  refine (kn7 _).mono ?_
  rintro e w7 ⟨⟨AM, cM, rfl, hrM⟩, hb7⟩
  have hB7 := hB6.trans (hb7.mono hB6.size)
  clear hB6
  clear hb7
  go_wp2_with (fail)
  refine (texts_any _ _ _ _).mono ?_
  rintro e wz ⟨rfl, rfl⟩
  go_wp2_with (fail)
  refine (kn30 _ _ _ hrM).mono ?_
  rintro e w8 ⟨rfl, hb8⟩
  have hB8 := hB7.trans (hb8.mono hB7.size)
  clear hB7 hb8 hrM
  go_wp2_with (fail)
  refine (kn8 _).mono ?_
  rintro e w9 ⟨rfl, hb9⟩
  have hB9 := hB8.trans (hb9.mono hB8.size)
  clear hB8
  clear hb9
  go_wp2_with (fail)
  refine (kn9 _).mono ?_
  rintro e w10 ⟨⟨AO, cO, rfl, hrO⟩, hb10⟩
  have hB10 := hB9.trans (hb10.mono hB9.size)
  clear hB9
  clear hb10
  go_wp2_with (fail)
  refine (kn10 _).mono ?_
  rintro e w11 ⟨⟨AP, cP, rfl, hrP⟩, hb11⟩
  replace hrO := hrO.below hb11
  have hB11 := hB10.trans (hb11.mono hB10.size)
  clear hB10
  clear hb11
  clear hrP
  go_wp2_with (fail)
  refine (kn11 _).mono ?_
  rintro e w12 ⟨rfl, hb12⟩
  replace hrO := hrO.below hb12
  have hB12 := hB11.trans (hb12.mono hB11.size)
  clear hB11
  clear hb12
  go_wp2_with (fail)
  refine (kn12 _).mono ?_
  rintro e w13 ⟨rfl, hb13⟩
  replace hrO := hrO.below hb13
  have hB13 := hB12.trans (hb13.mono hB12.size)
  clear hB12
  clear hb13
  go_wp2_with (fail)
  refine (kn13 _).mono ?_
  rintro e w14 ⟨rfl, hb14⟩
  replace hrO := hrO.below hb14
  have hB14 := hB13.trans (hb14.mono hB13.size)
  clear hB13
  clear hb14
  go_wp2_with (fail)
  refine (kn14 _).mono ?_
  rintro e w15 ⟨rfl, hb15⟩
  replace hrO := hrO.below hb15
  have hB15 := hB14.trans (hb15.mono hB14.size)
  clear hB14
  clear hb15
  go_wp2_with (fail)
  refine (list_any _ _ _ _).mono ?_
  rintro e wz ⟨rfl, rfl⟩
  go_wp2_with (fail)
  refine (kn31 _ _ _ hrO).mono ?_
  rintro e w16 ⟨rfl, hb16⟩
  have hB16 := hB15.trans (hb16.mono hB15.size)
  clear hB15 hb16 hrO
  go_wp2_with (fail)
  refine (kn15 _).mono ?_
  rintro e w17 ⟨rfl, hb17⟩
  have hB17 := hB16.trans (hb17.mono hB16.size)
  clear hB16
  clear hb17
  go_wp2_with (fail)
  refine (kn16 _).mono ?_
  rintro e w18 ⟨rfl, hb18⟩
  have hB18 := hB17.trans (hb18.mono hB17.size)
  clear hB17
  clear hb18
  go_wp2_with (fail)
  refine (kn17 _).mono ?_
  rintro e w19 ⟨rfl, hb19⟩
  have hB19 := hB18.trans (hb19.mono hB18.size)
  clear hB18
  clear hb19
  go_wp2_with (fail)
  refine (kn18 _).mono ?_
  rintro e w20 ⟨rfl, hb20⟩
  have hB20 := hB19.trans (hb20.mono hB19.size)
  clear hB19
  clear hb20
  go_wp2_with (fail)
  refine (texts_any _ _ _ _).mono ?_
  rintro e wz ⟨rfl, rfl⟩
  go_wp2_with (fail)
  refine (kn19 _).mono ?_
  rintro e w21 ⟨rfl, hb21⟩
  have hB21 := hB20.trans (hb21.mono hB20.size)
  clear hB20
  clear hb21
  go_wp2_with (fail)
  refine (texts_any _ _ _ _).mono ?_
  rintro e wz ⟨rfl, rfl⟩
  go_wp2_with (fail)
  refine (kn20 _).mono ?_
  rintro e w22 ⟨rfl, hb22⟩
  have hB22 := hB21.trans (hb22.mono hB21.size)
  clear hB21
  clear hb22
  go_wp2_with (fail)
  refine (texts_any _ _ _ _).mono ?_
  rintro e wz ⟨rfl, rfl⟩
  go_wp2_with (fail)
  refine (kn21 _).mono ?_
  rintro e w23 ⟨rfl, hb23⟩
  have hB23 := hB22.trans (hb23.mono hB22.size)
  clear hB22
  clear hb23
  go_wp2_with (fail)
  refine (kn22 _).mono ?_
  rintro e w24 ⟨rfl, hb24⟩
  have hB24 := hB23.trans (hb24.mono hB23.size)
  clear hB23
  clear hb24
  go_wp2_with (fail)
  refine (kn23 _).mono ?_
  rintro e w25 ⟨rfl, hb25⟩
  have hB25 := hB24.trans (hb25.mono hB24.size)
  clear hB24
  clear hb25
  go_wp2_with (fail)
  refine (kn24 _).mono ?_
  rintro e w26 ⟨rfl, hb26⟩
  have hB26 := hB25.trans (hb26.mono hB25.size)
  clear hB25
  clear hb26
  go_wp2_with (fail)
  refine (kn25 _).mono ?_
  rintro e w27 ⟨rfl, hb27⟩
  have hB27 := hB26.trans (hb27.mono hB26.size)
  clear hB26
  clear hb27
  go_wp2_with (fail)
  refine (kn26 _).mono ?_
  rintro e w28 ⟨rfl, hb28⟩
  have hB28 := hB27.trans (hb28.mono hB27.size)
  clear hB27
  clear hb28
  go_wp2_with (fail)
  refine (kn27 _).mono ?_
  rintro e w29 ⟨rfl, hb29⟩
  have hB29 := hB28.trans (hb29.mono hB28.size)
  clear hB28
  clear hb29
  go_wp2_with (fail)
  refine (kn28 _).mono ?_
  rintro e w30 ⟨rfl, hb30⟩
  have hB30 := hB29.trans (hb30.mono hB29.size)
  clear hB29
  clear hb30
  go_wp2_with (fail)
  refine (kn29 _).mono ?_
  rintro e w31 ⟨rfl, hb31⟩
  have hB31 := hB30.trans (hb31.mono hB30.size)
  clear hB30
  clear hb31
  go_wp2_with (fail)
  refine (works_any _).mono ?_
  rintro e w32 ⟨rfl, hb32⟩
  have hB32 := hB31.trans (hb32.mono hB31.size)
  clear hB31
  clear hb32
  go_wp2_with (fail)
  go_ret
  exact ⟨rfl, hB32⟩
end Go.Proofs.Ytjknfehihdfhkaa
