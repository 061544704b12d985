/-
  The walk of the statements' own helper works: it returns true, and writes nothing that was there.
-/
import Derived.Test.YtbkmicimpgabgaaDoorWk
set_option linter.unusedSimpArgs false
set_option linter.unusedVariables false
namespace Go.Proofs.YtbkmicimpgabgaaDoor
open Go.RowKit Go.Lib Go.Proofs.Quire

set_option maxRecDepth 100000 in
set_option maxHeartbeats 8000000 in
theorem works_any (w : World) (hT : Tab w) :
    Calls Tryd.prog 7 #[] w (ValC (.bool true) w) := by
  go_enter Tryd.func7, Tryd.ntmps7
  go_wp2_with (fail)
  refine (k_pile _).mono ?_
  rintro e w1 ⟨⟨A1, c1, rfl, hr1⟩, hb1⟩
  replace hT := hT.below hb1
  have hB1 := hb1
  clear hb1
  go_wp2_with (fail)
  refine (k_pages _).mono ?_
  rintro e w2 ⟨⟨A2, c2, A3, c3, rfl, hr2, hr3⟩, hb2⟩
  replace hT := hT.below hb2
  replace hr1 := hr1.below hb2
  have hB2 := hB1.trans (hb2.mono hB1.size)
  clear hb2 hB1
  go_wp2_with (fail)
  refine (k_creases _).mono ?_
  rintro e w3 ⟨rfl, hb3⟩
  replace hT := hT.below hb3
  replace hr1 := hr1.below hb3
  replace hr2 := hr2.below hb3
  replace hr3 := hr3.below hb3
  have hB3 := hB2.trans (hb3.mono hB2.size)
  clear hb3 hB2
  go_wp2_with (fail)
  refine (k_end _).mono ?_
  rintro e w4 ⟨rfl, hb4⟩
  replace hT := hT.below hb4
  replace hr1 := hr1.below hb4
  replace hr2 := hr2.below hb4
  replace hr3 := hr3.below hb4
  have hB4 := hB3.trans (hb4.mono hB3.size)
  clear hb4 hB3
  go_wp2_with (fail)
  refine (k_folds _).mono ?_
  rintro e w5 ⟨rfl, hb5⟩
  replace hT := hT.below hb5
  replace hr1 := hr1.below hb5
  replace hr2 := hr2.below hb5
  replace hr3 := hr3.below hb5
  have hB5 := hB4.trans (hb5.mono hB4.size)
  clear hb5 hB4
  go_wp2_with (fail)
  refine (list_any _ _ _ _).mono ?_
  rintro e wz ⟨rfl, rfl⟩
  have hl5 : Rd (w5.alloc (.cells #[.int .i64 3, .int .i64 0, .int .i64 1, .int .i64 2] 3)) (some ⟨w5.heap.size, 0, none⟩) 4 (ints [3, 0, 1, 2]) := rd_new w5 [3, 0, 1, 2] 4 rfl
  have ha5 : Below w5.heap.size w5 (w5.alloc (.cells #[.int .i64 3, .int .i64 0, .int .i64 1, .int .i64 2] 3)) := (Below.refl _ _).alloc (Nat.le_refl _) _
  replace hT := hT.below ha5
  replace hr1 := hr1.below ha5
  replace hr2 := hr2.below ha5
  replace hr3 := hr3.below ha5
  have hC5 := hB5.trans (ha5.mono hB5.size)
  clear hB5 ha5
  go_wp2_with (fail)
  refine (k_folded _ _ _ hl5).mono ?_
  rintro e w6 ⟨rfl, hb6⟩
  replace hT := hT.below hb6
  replace hr1 := hr1.below hb6
  replace hr2 := hr2.below hb6
  replace hr3 := hr3.below hb6
  have hB6 := hC5.trans (hb6.mono hC5.size)
  clear hb6 hC5 hl5
  go_wp2_with (fail)
  refine (k_walk _).mono ?_
  rintro e w7 ⟨⟨A7, c7, rfl, hr7⟩, hb7⟩
  replace hT := hT.below hb7
  replace hr1 := hr1.below hb7
  replace hr2 := hr2.below hb7
  replace hr3 := hr3.below hb7
  have hB7 := hB6.trans (hb7.mono hB6.size)
  clear hb7 hB6
  go_wp2_with (fail)
  refine (k_why _ hT).mono ?_
  rintro e w8 ⟨rfl, hb8⟩
  replace hT := hT.below hb8
  replace hr1 := hr1.below hb8
  replace hr2 := hr2.below hb8
  replace hr3 := hr3.below hb8
  replace hr7 := hr7.below hb8
  have hB8 := hB7.trans (hb8.mono hB7.size)
  clear hb8 hB7
  go_wp2_with (fail)
  refine (k_lanes _).mono ?_
  rintro e w9 ⟨rfl, hb9⟩
  replace hT := hT.below hb9
  replace hr1 := hr1.below hb9
  replace hr2 := hr2.below hb9
  replace hr3 := hr3.below hb9
  replace hr7 := hr7.below hb9
  have hB9 := hB8.trans (hb9.mono hB8.size)
  clear hb9 hB8
  go_wp2_with (fail)
  refine (k_lost _).mono ?_
  rintro e w10 ⟨rfl, hb10⟩
  replace hT := hT.below hb10
  replace hr1 := hr1.below hb10
  replace hr2 := hr2.below hb10
  replace hr3 := hr3.below hb10
  replace hr7 := hr7.below hb10
  have hB10 := hB9.trans (hb10.mono hB9.size)
  clear hb10 hB9
  go_wp2_with (fail)
  refine (k_nolanes _).mono ?_
  rintro e w11 ⟨rfl, hb11⟩
  replace hT := hT.below hb11
  replace hr1 := hr1.below hb11
  replace hr2 := hr2.below hb11
  replace hr3 := hr3.below hb11
  replace hr7 := hr7.below hb11
  have hB11 := hB10.trans (hb11.mono hB10.size)
  clear hb11 hB10
  go_wp2_with (fail)
  refine (list_any _ _ _ _).mono ?_
  rintro e wz ⟨rfl, rfl⟩
  have hl11 : Rd (w11.alloc (.cells #[.int .i64 0, .int .i64 1, .int .i64 2, .int .i64 3] 3)) (some ⟨w11.heap.size, 0, none⟩) 4 (ints [0, 1, 2, 3]) := rd_new w11 [0, 1, 2, 3] 4 rfl
  have ha11 : Below w11.heap.size w11 (w11.alloc (.cells #[.int .i64 0, .int .i64 1, .int .i64 2, .int .i64 3] 3)) := (Below.refl _ _).alloc (Nat.le_refl _) _
  replace hT := hT.below ha11
  replace hr1 := hr1.below ha11
  replace hr2 := hr2.below ha11
  replace hr3 := hr3.below ha11
  replace hr7 := hr7.below ha11
  have hC11 := hB11.trans (ha11.mono hB11.size)
  clear hB11 ha11
  go_wp2_with (fail)
  refine (k_none _ _ _ hl11).mono ?_
  rintro e w12 ⟨rfl, hb12⟩
  replace hT := hT.below hb12
  replace hr1 := hr1.below hb12
  replace hr2 := hr2.below hb12
  replace hr3 := hr3.below hb12
  replace hr7 := hr7.below hb12
  have hB12 := hC11.trans (hb12.mono hC11.size)
  clear hb12 hC11 hl11
  go_wp2_with (fail)
  refine (list_any _ _ _ _).mono ?_
  rintro e wz ⟨rfl, rfl⟩
  have hl12 : Rd (w12.alloc (.cells #[.int .i64 3, .int .i64 0, .int .i64 1, .int .i64 2] 3)) (some ⟨w12.heap.size, 0, none⟩) 4 (ints [3, 0, 1, 2]) := rd_new w12 [3, 0, 1, 2] 4 rfl
  have ha12 : Below w12.heap.size w12 (w12.alloc (.cells #[.int .i64 3, .int .i64 0, .int .i64 1, .int .i64 2] 3)) := (Below.refl _ _).alloc (Nat.le_refl _) _
  replace hT := hT.below ha12
  replace hr1 := hr1.below ha12
  replace hr2 := hr2.below ha12
  replace hr3 := hr3.below ha12
  replace hr7 := hr7.below ha12
  have hC12 := hB12.trans (ha12.mono hB12.size)
  clear hB12 ha12
  go_wp2_with (fail)
  refine (same_self [3, 0, 1, 2] 4 rfl (by decide) _ _ _ _ _ hr1 hl12).mono ?_
  rintro e w13 ⟨rfl, hb13⟩
  replace hT := hT.below hb13
  replace hr1 := hr1.below hb13
  replace hr2 := hr2.below hb13
  replace hr3 := hr3.below hb13
  replace hr7 := hr7.below hb13
  have hB13 := hC12.trans (hb13.mono hC12.size)
  clear hb13 hC12 hl12
  go_wp2_with (fail)
  refine (list_any _ _ _ _).mono ?_
  rintro e wz ⟨rfl, rfl⟩
  have hl13 : Rd (w13.alloc (.cells #[.int .i64 7, .int .i64 2, .int .i64 3, .int .i64 6] 3)) (some ⟨w13.heap.size, 0, none⟩) 4 (ints [7, 2, 3, 6]) := rd_new w13 [7, 2, 3, 6] 4 rfl
  have ha13 : Below w13.heap.size w13 (w13.alloc (.cells #[.int .i64 7, .int .i64 2, .int .i64 3, .int .i64 6] 3)) := (Below.refl _ _).alloc (Nat.le_refl _) _
  replace hT := hT.below ha13
  replace hr1 := hr1.below ha13
  replace hr2 := hr2.below ha13
  replace hr3 := hr3.below ha13
  replace hr7 := hr7.below ha13
  have hC13 := hB13.trans (ha13.mono hB13.size)
  clear hB13 ha13
  go_wp2_with (fail)
  refine (same_self [7, 2, 3, 6] 4 rfl (by decide) _ _ _ _ _ hr2 hl13).mono ?_
  rintro e w14 ⟨rfl, hb14⟩
  replace hT := hT.below hb14
  replace hr1 := hr1.below hb14
  replace hr2 := hr2.below hb14
  replace hr3 := hr3.below hb14
  replace hr7 := hr7.below hb14
  have hB14 := hC13.trans (hb14.mono hC13.size)
  clear hb14 hC13 hl13
  go_wp2_with (fail)
  refine (list_any _ _ _ _).mono ?_
  rintro e wz ⟨rfl, rfl⟩
  have hl14 : Rd (w14.alloc (.cells #[.int .i64 8, .int .i64 1, .int .i64 4, .int .i64 5] 3)) (some ⟨w14.heap.size, 0, none⟩) 4 (ints [8, 1, 4, 5]) := rd_new w14 [8, 1, 4, 5] 4 rfl
  have ha14 : Below w14.heap.size w14 (w14.alloc (.cells #[.int .i64 8, .int .i64 1, .int .i64 4, .int .i64 5] 3)) := (Below.refl _ _).alloc (Nat.le_refl _) _
  replace hT := hT.below ha14
  replace hr1 := hr1.below ha14
  replace hr2 := hr2.below ha14
  replace hr3 := hr3.below ha14
  replace hr7 := hr7.below ha14
  have hC14 := hB14.trans (ha14.mono hB14.size)
  clear hB14 ha14
  go_wp2_with (fail)
  refine (same_self [8, 1, 4, 5] 4 rfl (by decide) _ _ _ _ _ hr3 hl14).mono ?_
  rintro e w15 ⟨rfl, hb15⟩
  replace hT := hT.below hb15
  replace hr1 := hr1.below hb15
  replace hr2 := hr2.below hb15
  replace hr3 := hr3.below hb15
  replace hr7 := hr7.below hb15
  have hB15 := hC14.trans (hb15.mono hC14.size)
  clear hb15 hC14 hl14
  have hl15 : Rd (w15.alloc (.cells #[.int .i64 0, .int .i64 0, .int .i64 1, .int .i64 0, .int .i64 1, .int .i64 1, .int .i64 0, .int .i64 1, .int .i64 0, .int .i64 2] 3)) (some ⟨w15.heap.size, 0, none⟩) 10 (pvals [(0, 0), (1, 0), (1, 1), (0, 1), (0, 2)]) := (Arr.new w15 (pvals [(0, 0), (1, 0), (1, 1), (0, 1), (0, 2)]) 3).rd (X := []) (by simp)
  have ha15 : Below w15.heap.size w15 (w15.alloc (.cells #[.int .i64 0, .int .i64 0, .int .i64 1, .int .i64 0, .int .i64 1, .int .i64 1, .int .i64 0, .int .i64 1, .int .i64 0, .int .i64 2] 3)) := (Below.refl _ _).alloc (Nat.le_refl _) _
  replace hT := hT.below ha15
  replace hr1 := hr1.below ha15
  replace hr2 := hr2.below ha15
  replace hr3 := hr3.below ha15
  replace hr7 := hr7.below ha15
  have hC15 := hB15.trans (ha15.mono hB15.size)
  clear hB15 ha15
  go_wp2_with (fail)
  refine (k_points _ _ _ hl15).mono ?_
  rintro e w16 ⟨⟨A9, c9, rfl, hr9⟩, hb16⟩
  replace hT := hT.below hb16
  replace hr1 := hr1.below hb16
  replace hr2 := hr2.below hb16
  replace hr3 := hr3.below hb16
  replace hr7 := hr7.below hb16
  have hB16 := hC15.trans (hb16.mono hC15.size)
  clear hb16 hC15 hl15
  go_wp2_with (fail)
  refine (alike_self [(0, 0), (1, 0), (1, 1), (0, 1), (0, 2)] 5 rfl (by decide) _ _ _ _ _ hr7 hr9).mono ?_
  rintro e w17 ⟨rfl, hb17⟩
  replace hT := hT.below hb17
  replace hr1 := hr1.below hb17
  replace hr2 := hr2.below hb17
  replace hr3 := hr3.below hb17
  replace hr7 := hr7.below hb17
  replace hr9 := hr9.below hb17
  have hB17 := hB16.trans (hb17.mono hB16.size)
  clear hb17 hB16
  go_wp2_with (fail)
  refine (k_proves2 _ hT).mono ?_
  rintro e w18 ⟨rfl, hb18⟩
  replace hT := hT.below hb18
  replace hr1 := hr1.below hb18
  replace hr2 := hr2.below hb18
  replace hr3 := hr3.below hb18
  replace hr7 := hr7.below hb18
  replace hr9 := hr9.below hb18
  have hB18 := hB17.trans (hb18.mono hB17.size)
  clear hb18 hB17
  go_wp2_with (fail)
  refine (k_proves1 _ hT).mono ?_
  rintro e w19 ⟨rfl, hb19⟩
  replace hT := hT.below hb19
  replace hr1 := hr1.below hb19
  replace hr2 := hr2.below hb19
  replace hr3 := hr3.below hb19
  replace hr7 := hr7.below hb19
  replace hr9 := hr9.below hb19
  have hB19 := hB18.trans (hb19.mono hB18.size)
  clear hb19 hB18
  go_wp2_with (fail)
  go_ret
  exact ⟨rfl, hB19⟩
end Go.Proofs.YtbkmicimpgabgaaDoor
