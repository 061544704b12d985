/-
  The walk of QuireKnown: it returns true, and writes nothing that was there.
-/
import Derived.Test.YtkidghliglmjgacDoorKn
namespace Go.Proofs.YtkidghliglmjgacDoor
open Go.RowKit Go.Lib Go.Proofs.Quire

set_option maxRecDepth 100000 in
set_option maxHeartbeats 16000000 in
theorem knownLaw_any (w : World) (hT : Tab w) :
    Calls Tryd.prog 3 #[] w (ValC (.bool true) w) := by
  go_enter Tryd.func3, Tryd.ntmps3
  go_wp2_with (fail)
  refine (n_p1 _).mono ?_
  rintro e w1 ⟨⟨Aa, ca, rfl, hra⟩, hb1⟩
  replace hT := hT.below hb1
  have hB1 := hb1
  clear hb1
  go_wp2_with (fail)
  refine (n_p2 _).mono ?_
  rintro e w2 ⟨⟨Ab, cb, rfl, hrb⟩, hb2⟩
  replace hT := hT.below hb2
  replace hra := hra.below hb2
  have hB2 := hB1.trans (hb2.mono hB1.size)
  clear hb2 hB1
  go_wp2_with (fail)
  refine (n_p3 _).mono ?_
  rintro e w3 ⟨⟨Ac, cc, rfl, hrc⟩, hb3⟩
  replace hT := hT.below hb3
  replace hra := hra.below hb3
  replace hrb := hrb.below hb3
  have hB3 := hB2.trans (hb3.mono hB2.size)
  clear hb3 hB2
  go_wp2_with (fail)
  refine (n_p4 _).mono ?_
  rintro e w4 ⟨⟨Ad, cd, rfl, hrd⟩, hb4⟩
  replace hT := hT.below hb4
  replace hra := hra.below hb4
  replace hrb := hrb.below hb4
  replace hrc := hrc.below hb4
  have hB4 := hB3.trans (hb4.mono hB3.size)
  clear hb4 hB3
  go_wp2_with (fail)
  refine (n_p5 _).mono ?_
  rintro e w5 ⟨⟨Ai, ci, rfl, hri⟩, hb5⟩
  replace hT := hT.below hb5
  replace hra := hra.below hb5
  replace hrb := hrb.below hb5
  replace hrc := hrc.below hb5
  replace hrd := hrd.below hb5
  have hB5 := hB4.trans (hb5.mono hB4.size)
  clear hb5 hB4
  go_wp2_with (fail)
  refine (list_any _ _ _ _).mono ?_
  rintro e wz ⟨rfl, rfl⟩
  have hl5 : Rd (w5.alloc (.cells #[.int .i64 1, .int .i64 0] 3)) (some ⟨w5.heap.size, 0, none⟩) 2 (ints [1, 0]) := rd_new w5 [1, 0] 2 rfl
  have ha5 : Below w5.heap.size w5 (w5.alloc (.cells #[.int .i64 1, .int .i64 0] 3)) := (Below.refl _ _).alloc (Nat.le_refl _) _
  replace hT := hT.below ha5
  replace hra := hra.below ha5
  replace hrb := hrb.below ha5
  replace hrc := hrc.below ha5
  replace hrd := hrd.below ha5
  replace hri := hri.below ha5
  have hC5 := hB5.trans (ha5.mono hB5.size)
  clear hB5 ha5
  go_wp2_with (fail)
  refine (same_self [1, 0] 2 rfl (by decide) _ _ _ _ _ hra hl5).mono ?_
  rintro e w6 ⟨rfl, hb6⟩
  clear hra
  replace hT := hT.below hb6
  replace hrb := hrb.below hb6
  replace hrc := hrc.below hb6
  replace hrd := hrd.below hb6
  replace hri := hri.below hb6
  have hB6 := hC5.trans (hb6.mono hC5.size)
  clear hb6 hC5 hl5
  go_wp2_with (fail)
  refine (list_any _ _ _ _).mono ?_
  rintro e wz ⟨rfl, rfl⟩
  have hl6 : Rd (w6.alloc (.cells #[.int .i64 1, .int .i64 2, .int .i64 3, .int .i64 0] 3)) (some ⟨w6.heap.size, 0, none⟩) 4 (ints [1, 2, 3, 0]) := rd_new w6 [1, 2, 3, 0] 4 rfl
  have ha6 : Below w6.heap.size w6 (w6.alloc (.cells #[.int .i64 1, .int .i64 2, .int .i64 3, .int .i64 0] 3)) := (Below.refl _ _).alloc (Nat.le_refl _) _
  replace hT := hT.below ha6
  replace hrb := hrb.below ha6
  replace hrc := hrc.below ha6
  replace hrd := hrd.below ha6
  replace hri := hri.below ha6
  have hC6 := hB6.trans (ha6.mono hB6.size)
  clear hB6 ha6
  go_wp2_with (fail)
  refine (same_self [1, 2, 3, 0] 4 rfl (by decide) _ _ _ _ _ hrb hl6).mono ?_
  rintro e w7 ⟨rfl, hb7⟩
  clear hrb
  replace hT := hT.below hb7
  replace hrc := hrc.below hb7
  replace hrd := hrd.below hb7
  replace hri := hri.below hb7
  have hB7 := hC6.trans (hb7.mono hC6.size)
  clear hb7 hC6 hl6
  go_wp2_with (fail)
  refine (list_any _ _ _ _).mono ?_
  rintro e wz ⟨rfl, rfl⟩
  have hl7 : Rd (w7.alloc (.cells #[.int .i64 2, .int .i64 1, .int .i64 0, .int .i64 3] 3)) (some ⟨w7.heap.size, 0, none⟩) 4 (ints [2, 1, 0, 3]) := rd_new w7 [2, 1, 0, 3] 4 rfl
  have ha7 : Below w7.heap.size w7 (w7.alloc (.cells #[.int .i64 2, .int .i64 1, .int .i64 0, .int .i64 3] 3)) := (Below.refl _ _).alloc (Nat.le_refl _) _
  replace hT := hT.below ha7
  replace hrc := hrc.below ha7
  replace hrd := hrd.below ha7
  replace hri := hri.below ha7
  have hC7 := hB7.trans (ha7.mono hB7.size)
  clear hB7 ha7
  go_wp2_with (fail)
  refine (same_self [2, 1, 0, 3] 4 rfl (by decide) _ _ _ _ _ hrc hl7).mono ?_
  rintro e w8 ⟨rfl, hb8⟩
  clear hrc
  replace hT := hT.below hb8
  replace hrd := hrd.below hb8
  replace hri := hri.below hb8
  have hB8 := hC7.trans (hb8.mono hC7.size)
  clear hb8 hC7 hl7
  go_wp2_with (fail)
  refine (list_any _ _ _ _).mono ?_
  rintro e wz ⟨rfl, rfl⟩
  have hl8 : Rd (w8.alloc (.cells #[.int .i64 1, .int .i64 6, .int .i64 5, .int .i64 2, .int .i64 3, .int .i64 4, .int .i64 7, .int .i64 0] 3)) (some ⟨w8.heap.size, 0, none⟩) 8 (ints [1, 6, 5, 2, 3, 4, 7, 0]) := rd_new w8 [1, 6, 5, 2, 3, 4, 7, 0] 8 rfl
  have ha8 : Below w8.heap.size w8 (w8.alloc (.cells #[.int .i64 1, .int .i64 6, .int .i64 5, .int .i64 2, .int .i64 3, .int .i64 4, .int .i64 7, .int .i64 0] 3)) := (Below.refl _ _).alloc (Nat.le_refl _) _
  replace hT := hT.below ha8
  replace hrd := hrd.below ha8
  replace hri := hri.below ha8
  have hC8 := hB8.trans (ha8.mono hB8.size)
  clear hB8 ha8
  go_wp2_with (fail)
  refine (same_self [1, 6, 5, 2, 3, 4, 7, 0] 8 rfl (by decide) _ _ _ _ _ hrd hl8).mono ?_
  rintro e w9 ⟨rfl, hb9⟩
  clear hrd
  replace hT := hT.below hb9
  replace hri := hri.below hb9
  have hB9 := hC8.trans (hb9.mono hC8.size)
  clear hb9 hC8 hl8
  go_wp2_with (fail)
  refine (list_any _ _ _ _).mono ?_
  rintro e wz ⟨rfl, rfl⟩
  have hl9 : Rd (w9.alloc (.cells #[.int .i64 0] 3)) (some ⟨w9.heap.size, 0, none⟩) 1 (ints [0]) := rd_new w9 [0] 1 rfl
  have ha9 : Below w9.heap.size w9 (w9.alloc (.cells #[.int .i64 0] 3)) := (Below.refl _ _).alloc (Nat.le_refl _) _
  replace hT := hT.below ha9
  replace hri := hri.below ha9
  have hC9 := hB9.trans (ha9.mono hB9.size)
  clear hB9 ha9
  go_wp2_with (fail)
  refine (same_self [0] 1 rfl (by decide) _ _ _ _ _ hri hl9).mono ?_
  rintro e w10 ⟨rfl, hb10⟩
  clear hri
  replace hT := hT.below hb10
  have hB10 := hC9.trans (hb10.mono hC9.size)
  clear hb10 hC9 hl9
  go_wp2_with (fail)
  refine (n_pg _).mono ?_
  rintro e w11 ⟨⟨Au, cu, Ad, cd, rfl, hru, hrd⟩, hb11⟩
  replace hT := hT.below hb11
  have hB11 := hB10.trans (hb11.mono hB10.size)
  clear hb11 hB10
  go_wp2_with (fail)
  refine (n_c1 _).mono ?_
  rintro e w12 ⟨rfl, hb12⟩
  replace hT := hT.below hb12
  replace hru := hru.below hb12
  replace hrd := hrd.below hb12
  have hB12 := hB11.trans (hb12.mono hB11.size)
  clear hb12 hB11
  go_wp2_with (fail)
  refine (n_c2 _).mono ?_
  rintro e w13 ⟨rfl, hb13⟩
  replace hT := hT.below hb13
  replace hru := hru.below hb13
  replace hrd := hrd.below hb13
  have hB13 := hB12.trans (hb13.mono hB12.size)
  clear hb13 hB12
  go_wp2_with (fail)
  refine (n_c3 _).mono ?_
  rintro e w14 ⟨rfl, hb14⟩
  replace hT := hT.below hb14
  replace hru := hru.below hb14
  replace hrd := hrd.below hb14
  have hB14 := hB13.trans (hb14.mono hB13.size)
  clear hb14 hB13
  go_wp2_with (fail)
  refine (n_c4 _).mono ?_
  rintro e w15 ⟨rfl, hb15⟩
  replace hT := hT.below hb15
  replace hru := hru.below hb15
  replace hrd := hrd.below hb15
  have hB15 := hB14.trans (hb15.mono hB14.size)
  clear hb15 hB14
  go_wp2_with (fail)
  refine (list_any _ _ _ _).mono ?_
  rintro e wz ⟨rfl, rfl⟩
  have hl15 : Rd (w15.alloc (.cells #[.int .i64 3, .int .i64 2] 3)) (some ⟨w15.heap.size, 0, none⟩) 2 (ints [3, 2]) := rd_new w15 [3, 2] 2 rfl
  have ha15 : Below w15.heap.size w15 (w15.alloc (.cells #[.int .i64 3, .int .i64 2] 3)) := (Below.refl _ _).alloc (Nat.le_refl _) _
  replace hT := hT.below ha15
  replace hru := hru.below ha15
  replace hrd := hrd.below ha15
  have hC15 := hB15.trans (ha15.mono hB15.size)
  clear hB15 ha15
  go_wp2_with (fail)
  refine (same_self [3, 2] 2 rfl (by decide) _ _ _ _ _ hru hl15).mono ?_
  rintro e w16 ⟨rfl, hb16⟩
  clear hru
  replace hT := hT.below hb16
  replace hrd := hrd.below hb16
  have hB16 := hC15.trans (hb16.mono hC15.size)
  clear hb16 hC15 hl15
  go_wp2_with (fail)
  refine (list_any _ _ _ _).mono ?_
  rintro e wz ⟨rfl, rfl⟩
  have hl16 : Rd (w16.alloc (.cells #[.int .i64 4, .int .i64 1] 3)) (some ⟨w16.heap.size, 0, none⟩) 2 (ints [4, 1]) := rd_new w16 [4, 1] 2 rfl
  have ha16 : Below w16.heap.size w16 (w16.alloc (.cells #[.int .i64 4, .int .i64 1] 3)) := (Below.refl _ _).alloc (Nat.le_refl _) _
  replace hT := hT.below ha16
  replace hrd := hrd.below ha16
  have hC16 := hB16.trans (ha16.mono hB16.size)
  clear hB16 ha16
  go_wp2_with (fail)
  refine (same_self [4, 1] 2 rfl (by decide) _ _ _ _ _ hrd hl16).mono ?_
  rintro e w17 ⟨rfl, hb17⟩
  clear hrd
  replace hT := hT.below hb17
  have hB17 := hC16.trans (hb17.mono hC16.size)
  clear hb17 hC16 hl16
  go_wp2_with (fail)
  refine (n_f1 _).mono ?_
  rintro e w18 ⟨rfl, hb18⟩
  replace hT := hT.below hb18
  have hB18 := hB17.trans (hb18.mono hB17.size)
  clear hb18 hB17
  go_wp2_with (fail)
  refine (n_f2 _).mono ?_
  rintro e w19 ⟨rfl, hb19⟩
  replace hT := hT.below hb19
  have hB19 := hB18.trans (hb19.mono hB18.size)
  clear hb19 hB18
  go_wp2_with (fail)
  refine (n_why _ hT).mono ?_
  rintro e w20 ⟨rfl, hb20⟩
  replace hT := hT.below hb20
  have hB20 := hB19.trans (hb20.mono hB19.size)
  clear hb20 hB19
  go_wp2_with (fail)
  refine (n_w1 _).mono ?_
  rintro e w21 ⟨⟨Aw, cw, rfl, hrw⟩, hb21⟩
  replace hT := hT.below hb21
  have hB21 := hB20.trans (hb21.mono hB20.size)
  clear hb21 hB20
  go_wp2_with (fail)
  refine (n_end _).mono ?_
  rintro e w22 ⟨rfl, hb22⟩
  replace hT := hT.below hb22
  replace hrw := hrw.below hb22
  have hB22 := hB21.trans (hb22.mono hB21.size)
  clear hb22 hB21
  go_wp2_with (fail)
  refine (n_lan _).mono ?_
  rintro e w23 ⟨rfl, hb23⟩
  replace hT := hT.below hb23
  replace hrw := hrw.below hb23
  have hB23 := hB22.trans (hb23.mono hB22.size)
  clear hb23 hB22
  go_wp2_with (fail)
  refine (n_w2 _).mono ?_
  rintro e w24 ⟨⟨Ax, cx, rfl, _⟩, hb24⟩
  replace hT := hT.below hb24
  replace hrw := hrw.below hb24
  have hB24 := hB23.trans (hb24.mono hB23.size)
  clear hb24 hB23
  go_wp2_with (fail)
  refine (list_any _ _ _ _).mono ?_
  rintro e wz ⟨rfl, rfl⟩
  have hl24 : Rd (w24.alloc (.cells #[.int .i64 0, .int .i64 1, .int .i64 2] 3)) (some ⟨w24.heap.size, 0, none⟩) 3 (ints [0, 1, 2]) := rd_new w24 [0, 1, 2] 3 rfl
  have ha24 : Below w24.heap.size w24 (w24.alloc (.cells #[.int .i64 0, .int .i64 1, .int .i64 2] 3)) := (Below.refl _ _).alloc (Nat.le_refl _) _
  replace hT := hT.below ha24
  replace hrw := hrw.below ha24
  have hC24 := hB24.trans (ha24.mono hB24.size)
  clear hB24 ha24
  go_wp2_with (fail)
  refine (n_fd1 _ _ _ hl24).mono ?_
  rintro e w25 ⟨rfl, hb25⟩
  replace hT := hT.below hb25
  replace hrw := hrw.below hb25
  have hB25 := hC24.trans (hb25.mono hC24.size)
  clear hb25 hC24 hl24
  go_wp2_with (fail)
  refine (list_any _ _ _ _).mono ?_
  rintro e wz ⟨rfl, rfl⟩
  have hl25 : Rd (w25.alloc (.cells #[.int .i64 0, .int .i64 2] 3)) (some ⟨w25.heap.size, 0, none⟩) 2 (ints [0, 2]) := rd_new w25 [0, 2] 2 rfl
  have ha25 : Below w25.heap.size w25 (w25.alloc (.cells #[.int .i64 0, .int .i64 2] 3)) := (Below.refl _ _).alloc (Nat.le_refl _) _
  replace hT := hT.below ha25
  replace hrw := hrw.below ha25
  have hC25 := hB25.trans (ha25.mono hB25.size)
  clear hB25 ha25
  go_wp2_with (fail)
  refine (n_fd2 _ _ _ hl25).mono ?_
  rintro e w26 ⟨rfl, hb26⟩
  replace hT := hT.below hb26
  replace hrw := hrw.below hb26
  have hB26 := hC25.trans (hb26.mono hC25.size)
  clear hb26 hC25 hl25
  go_wp2_with (fail)
  refine (list_any _ _ _ _).mono ?_
  rintro e wz ⟨rfl, rfl⟩
  have hl26 : Rd (w26.alloc (.cells #[.int .i64 1, .int .i64 1] 3)) (some ⟨w26.heap.size, 0, none⟩) 2 (ints [1, 1]) := rd_new w26 [1, 1] 2 rfl
  have ha26 : Below w26.heap.size w26 (w26.alloc (.cells #[.int .i64 1, .int .i64 1] 3)) := (Below.refl _ _).alloc (Nat.le_refl _) _
  replace hT := hT.below ha26
  replace hrw := hrw.below ha26
  have hC26 := hB26.trans (ha26.mono hB26.size)
  clear hB26 ha26
  go_wp2_with (fail)
  refine (n_fd3 _ _ _ hl26).mono ?_
  rintro e w27 ⟨rfl, hb27⟩
  replace hT := hT.below hb27
  replace hrw := hrw.below hb27
  have hB27 := hC26.trans (hb27.mono hC26.size)
  clear hb27 hC26 hl26
  have hl27 : Rd (w27.alloc (.cells #[.int .i64 0, .int .i64 0, .int .i64 1, .int .i64 0] 3)) (some ⟨w27.heap.size, 0, none⟩) 4 (pvals [(0, 0), (1, 0)]) := (Arr.new w27 (pvals [(0, 0), (1, 0)]) 3).rd (X := []) (by simp)
  have ha27 : Below w27.heap.size w27 (w27.alloc (.cells #[.int .i64 0, .int .i64 0, .int .i64 1, .int .i64 0] 3)) := (Below.refl _ _).alloc (Nat.le_refl _) _
  replace hT := hT.below ha27
  replace hrw := hrw.below ha27
  have hC27 := hB27.trans (ha27.mono hB27.size)
  clear hB27 ha27
  go_wp2_with (fail)
  refine (n_pts _ _ _ hl27).mono ?_
  rintro e w28 ⟨⟨Ay, cy, rfl, hry⟩, hb28⟩
  replace hT := hT.below hb28
  replace hrw := hrw.below hb28
  have hB28 := hC27.trans (hb28.mono hC27.size)
  clear hb28 hC27 hl27
  go_wp2_with (fail)
  refine (alike_self [(0, 0), (1, 0)] 2 rfl (by decide) _ _ _ _ _ hrw hry).mono ?_
  rintro e w29 ⟨rfl, hb29⟩
  clear hrw
  clear hry
  replace hT := hT.below hb29
  have hB29 := hB28.trans (hb29.mono hB28.size)
  clear hb29 hB28
  go_wp2_with (fail)
  refine (n_pr1 _ hT).mono ?_
  rintro e w30 ⟨rfl, hb30⟩
  replace hT := hT.below hb30
  have hB30 := hB29.trans (hb30.mono hB29.size)
  clear hb30 hB29
  go_wp2_with (fail)
  refine (n_pr2 _ hT).mono ?_
  rintro e w31 ⟨rfl, hb31⟩
  replace hT := hT.below hb31
  have hB31 := hB30.trans (hb31.mono hB30.size)
  clear hb31 hB30
  go_wp2_with (fail)
  refine (n_ck1 _).mono ?_
  rintro e w32 ⟨rfl, hb32⟩
  replace hT := hT.below hb32
  have hB32 := hB31.trans (hb32.mono hB31.size)
  clear hb32 hB31
  go_wp2_with (fail)
  refine (n_ck2 _).mono ?_
  rintro e w33 ⟨rfl, hb33⟩
  replace hT := hT.below hb33
  have hB33 := hB32.trans (hb33.mono hB32.size)
  clear hb33 hB32
  go_wp2_with (fail)
  refine (works_any _ hT).mono ?_
  rintro e w34 ⟨rfl, hb34⟩
  replace hT := hT.below hb34
  have hB34 := hB33.trans (hb34.mono hB33.size)
  clear hb34 hB33
  go_wp2_with (fail)
  go_ret
  exact ⟨rfl, hB34⟩
end Go.Proofs.YtkidghliglmjgacDoor
