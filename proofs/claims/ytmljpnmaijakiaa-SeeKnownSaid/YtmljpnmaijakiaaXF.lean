/-
  The short forms of the functions, written out; each is what the program's own text gives.
-/
import Derived.Test.YtmljpnmaijakiaaXFB
import Derived.Test.YtmljpnmaijakiaaProg
import Derived.KernelRfl
set_option linter.unusedSimpArgs false
set_option linter.unusedVariables false
namespace Go.Proofs.Ytmljpnmaijakiaa
open Go Go.Proofs.Eng
def xfT : List (Nat × XFunc) := [(3, xf3), (4, xf4), (5, xf5), (6, xf6), (7, xf7), (8, xf8), (9, xf9), (10, xf10), (11, xf11), (12, xf12), (13, xf13), (14, xf14), (15, xf15), (16, xf16), (17, xf17), (18, xf18), (19, xf19), (20, xf20), (21, xf21), (22, xf22), (23, xf23), (24, xf24), (25, xf25), (26, xf26), (27, xf27), (28, xf28), (29, xf29), (30, xf30), (31, xf31), (32, xf32), (33, xf33), (34, xf34), (35, xf35), (36, xf36), (37, xf37), (38, xf38), (39, xf39), (40, xf40), (41, xf41), (42, xf42), (43, xf43), (44, xf44), (45, xf45), (46, xf46), (47, xf47), (48, xf48), (49, xf49), (50, xf50), (51, xf51), (52, xf52), (53, xf53), (54, xf54), (55, xf55), (56, xf56), (57, xf57), (58, xf58), (59, xf59), (60, xf60), (61, xf61), (62, xf62), (63, xf63), (64, xf64), (65, xf65), (66, xf66), (67, xf67), (68, xf68), (69, xf69), (70, xf70), (71, xf71), (72, xf72), (73, xf73), (74, xf74), (75, xf75), (76, xf76), (77, xf77), (78, xf78), (79, xf79), (80, xf80), (81, xf81), (82, xf82), (83, xf83), (84, xf84), (85, xf85), (86, xf86), (87, xf87), (88, xf88), (89, xf89), (90, xf90), (91, xf91), (92, xf92), (93, xf93), (94, xf94), (95, xf95), (96, xf96), (97, xf97), (98, xf98), (99, xf99), (100, xf100), (101, xf101), (102, xf102), (103, xf103), (104, xf104), (105, xf105), (106, xf106), (107, xf107), (108, xf108), (109, xf109), (110, xf110), (111, xf111), (112, xf112), (113, xf113), (114, xf114), (115, xf115), (116, xf116), (117, xf117), (118, xf118), (119, xf119), (120, xf120), (121, xf121), (122, xf122), (123, xf123), (124, xf124), (125, xf125), (126, xf126), (127, xf127), (128, xf128), (129, xf129), (130, xf130), (131, xf131), (132, xf132), (133, xf133), (134, xf134)]
def xf (f : Nat) : Option XFunc := xfT.lookup f
theorem lookup_all {P : Nat → XFunc → Prop} : ∀ {l : List (Nat × XFunc)} {f : Nat} {x : XFunc}, (∀ p, p ∈ l → P p.1 p.2) → l.lookup f = some x → P f x
  | [], _, _, _, h => by cases h
  | (g, y) :: l, f, x, hl, h => by
    simp only [List.lookup] at h
    split at h
    · rename_i e; injection h with h; subst h; have := hl (g, y) List.mem_cons_self; have e : f = g := by simpa using e
      subst e; exact this
    · exact lookup_all (fun p hp => hl p (List.mem_cons_of_mem _ hp)) h
theorem xf_ok (f : Nat) (x : XFunc) (h : xf f = some x) : compF Try.prog (own f) f = some x := by
  refine lookup_all (P := fun f x => compF Try.prog (own f) f = some x) (fun p hp => ?_) h
  simp only [xfT, List.mem_cons, List.not_mem_nil, or_false] at hp
  rcases hp with rfl | rfl | rfl | rfl | rfl | rfl | rfl | rfl | rfl | rfl | rfl | rfl | rfl | rfl | rfl | rfl | rfl | rfl | rfl | rfl | rfl | rfl | rfl | rfl | rfl | rfl | rfl | rfl | rfl | rfl | rfl | rfl | rfl | rfl | rfl | rfl | rfl | rfl | rfl | rfl | rfl | rfl | rfl | rfl | rfl | rfl | rfl | rfl | rfl | rfl | rfl | rfl | rfl | rfl | rfl | rfl | rfl | rfl | rfl | rfl | rfl | rfl | rfl | rfl | rfl | rfl | rfl | rfl | rfl | rfl | rfl | rfl | rfl | rfl | rfl | rfl | rfl | rfl | rfl | rfl | rfl | rfl | rfl | rfl | rfl | rfl | rfl | rfl | rfl | rfl | rfl | rfl | rfl | rfl | rfl | rfl | rfl | rfl | rfl | rfl | rfl | rfl | rfl | rfl | rfl | rfl | rfl | rfl | rfl | rfl | rfl | rfl | rfl | rfl | rfl | rfl | rfl | rfl | rfl | rfl | rfl | rfl | rfl | rfl | rfl | rfl | rfl | rfl | rfl | rfl | rfl | rfl
  · exact xf3_ok
  · exact xf4_ok
  · exact xf5_ok
  · exact xf6_ok
  · exact xf7_ok
  · exact xf8_ok
  · exact xf9_ok
  · exact xf10_ok
  · exact xf11_ok
  · exact xf12_ok
  · exact xf13_ok
  · exact xf14_ok
  · exact xf15_ok
  · exact xf16_ok
  · exact xf17_ok
  · exact xf18_ok
  · exact xf19_ok
  · exact xf20_ok
  · exact xf21_ok
  · exact xf22_ok
  · exact xf23_ok
  · exact xf24_ok
  · exact xf25_ok
  · exact xf26_ok
  · exact xf27_ok
  · exact xf28_ok
  · exact xf29_ok
  · exact xf30_ok
  · exact xf31_ok
  · exact xf32_ok
  · exact xf33_ok
  · exact xf34_ok
  · exact xf35_ok
  · exact xf36_ok
  · exact xf37_ok
  · exact xf38_ok
  · exact xf39_ok
  · exact xf40_ok
  · exact xf41_ok
  · exact xf42_ok
  · exact xf43_ok
  · exact xf44_ok
  · exact xf45_ok
  · exact xf46_ok
  · exact xf47_ok
  · exact xf48_ok
  · exact xf49_ok
  · exact xf50_ok
  · exact xf51_ok
  · exact xf52_ok
  · exact xf53_ok
  · exact xf54_ok
  · exact xf55_ok
  · exact xf56_ok
  · exact xf57_ok
  · exact xf58_ok
  · exact xf59_ok
  · exact xf60_ok
  · exact xf61_ok
  · exact xf62_ok
  · exact xf63_ok
  · exact xf64_ok
  · exact xf65_ok
  · exact xf66_ok
  · exact xf67_ok
  · exact xf68_ok
  · exact xf69_ok
  · exact xf70_ok
  · exact xf71_ok
  · exact xf72_ok
  · exact xf73_ok
  · exact xf74_ok
  · exact xf75_ok
  · exact xf76_ok
  · exact xf77_ok
  · exact xf78_ok
  · exact xf79_ok
  · exact xf80_ok
  · exact xf81_ok
  · exact xf82_ok
  · exact xf83_ok
  · exact xf84_ok
  · exact xf85_ok
  · exact xf86_ok
  · exact xf87_ok
  · exact xf88_ok
  · exact xf89_ok
  · exact xf90_ok
  · exact xf91_ok
  · exact xf92_ok
  · exact xf93_ok
  · exact xf94_ok
  · exact xf95_ok
  · exact xf96_ok
  · exact xf97_ok
  · exact xf98_ok
  · exact xf99_ok
  · exact xf100_ok
  · exact xf101_ok
  · exact xf102_ok
  · exact xf103_ok
  · exact xf104_ok
  · exact xf105_ok
  · exact xf106_ok
  · exact xf107_ok
  · exact xf108_ok
  · exact xf109_ok
  · exact xf110_ok
  · exact xf111_ok
  · exact xf112_ok
  · exact xf113_ok
  · exact xf114_ok
  · exact xf115_ok
  · exact xf116_ok
  · exact xf117_ok
  · exact xf118_ok
  · exact xf119_ok
  · exact xf120_ok
  · exact xf121_ok
  · exact xf122_ok
  · exact xf123_ok
  · exact xf124_ok
  · exact xf125_ok
  · exact xf126_ok
  · exact xf127_ok
  · exact xf128_ok
  · exact xf129_ok
  · exact xf130_ok
  · exact xf131_ok
  · exact xf132_ok
  · exact xf133_ok
  · exact xf134_ok
end Go.Proofs.Ytmljpnmaijakiaa
