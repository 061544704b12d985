/-
  The short forms together.
-/
import Derived.Test.YtdmffkknghianaaXVA
import Derived.KernelRfl
set_option linter.unusedSimpArgs false
set_option linter.unusedVariables false
namespace Go.Proofs.Ytdmffkknghianaa
open Go Go.Proofs.Eng
def xfT : List (Nat × XFunc) := [(3, xf3), (4, xf4), (5, xf5), (6, xf6), (7, xf7), (8, xf8), (9, xf9), (10, xf10), (11, xf11), (12, xf12), (13, xf13), (14, xf14), (15, xf15), (16, xf16), (17, xf17), (18, xf18), (19, xf19), (20, xf20), (21, xf21), (22, xf22), (23, xf23), (24, xf24), (25, xf25), (26, xf26), (27, xf27), (28, xf28), (29, xf29), (30, xf30), (31, xf31), (32, xf32), (33, xf33), (34, xf34), (35, xf35), (36, xf36), (37, xf37), (38, xf38), (39, xf39), (40, xf40), (41, xf41), (42, xf42), (43, xf43), (44, xf44), (45, xf45), (46, xf46), (47, xf47), (48, xf48), (49, xf49), (50, xf50), (51, xf51), (52, xf52), (53, xf53), (54, xf54), (55, xf55), (56, xf56), (57, xf57), (58, xf58), (59, xf59), (60, xf60), (61, xf61), (62, xf62), (63, xf63), (64, xf64), (65, xf65), (66, xf66), (67, xf67), (68, xf68), (69, xf69), (70, xf70), (71, xf71), (72, xf72)]
def xf (f : Nat) : Option XFunc := xfT.lookup f
theorem lookup_all {P : Nat → XFunc → Prop} : ∀ {l : List (Nat × XFunc)} {f : Nat} {x : XFunc}, (∀ p, p ∈ l → P p.1 p.2) → l.lookup f = some x → P f x
  | [], _, _, _, h => by cases h
  | (g, y) :: l, f, x, hl, h => by
    simp only [List.lookup] at h
    split at h
    · rename_i e; injection h with h; subst h; have := hl (g, y) List.mem_cons_self; have e : f = g := by simpa using e
      subst e; exact this
    · exact lookup_all (fun p hp => hl p (List.mem_cons_of_mem _ hp)) h
theorem all_nil {P : Nat × XFunc → Prop} : ∀ p, p ∈ ([] : List (Nat × XFunc)) → P p := fun _ h => by cases h
theorem all_cons {P : Nat × XFunc → Prop} {a : Nat × XFunc} {l : List (Nat × XFunc)} (h : P a) (hl : ∀ p, p ∈ l → P p) : ∀ p, p ∈ a :: l → P p := fun p hp => by
  rcases List.mem_cons.1 hp with rfl | hp
  · exact h
  · exact hl p hp
theorem xfT_ok : ∀ p, p ∈ xfT → compF Try.prog (own p.1) p.1 = some p.2 :=
  all_cons xf3_ok <|
  all_cons xf4_ok <|
  all_cons xf5_ok <|
  all_cons xf6_ok <|
  all_cons xf7_ok <|
  all_cons xf8_ok <|
  all_cons xf9_ok <|
  all_cons xf10_ok <|
  all_cons xf11_ok <|
  all_cons xf12_ok <|
  all_cons xf13_ok <|
  all_cons xf14_ok <|
  all_cons xf15_ok <|
  all_cons xf16_ok <|
  all_cons xf17_ok <|
  all_cons xf18_ok <|
  all_cons xf19_ok <|
  all_cons xf20_ok <|
  all_cons xf21_ok <|
  all_cons xf22_ok <|
  all_cons xf23_ok <|
  all_cons xf24_ok <|
  all_cons xf25_ok <|
  all_cons xf26_ok <|
  all_cons xf27_ok <|
  all_cons xf28_ok <|
  all_cons xf29_ok <|
  all_cons xf30_ok <|
  all_cons xf31_ok <|
  all_cons xf32_ok <|
  all_cons xf33_ok <|
  all_cons xf34_ok <|
  all_cons xf35_ok <|
  all_cons xf36_ok <|
  all_cons xf37_ok <|
  all_cons xf38_ok <|
  all_cons xf39_ok <|
  all_cons xf40_ok <|
  all_cons xf41_ok <|
  all_cons xf42_ok <|
  all_cons xf43_ok <|
  all_cons xf44_ok <|
  all_cons xf45_ok <|
  all_cons xf46_ok <|
  all_cons xf47_ok <|
  all_cons xf48_ok <|
  all_cons xf49_ok <|
  all_cons xf50_ok <|
  all_cons xf51_ok <|
  all_cons xf52_ok <|
  all_cons xf53_ok <|
  all_cons xf54_ok <|
  all_cons xf55_ok <|
  all_cons xf56_ok <|
  all_cons xf57_ok <|
  all_cons xf58_ok <|
  all_cons xf59_ok <|
  all_cons xf60_ok <|
  all_cons xf61_ok <|
  all_cons xf62_ok <|
  all_cons xf63_ok <|
  all_cons xf64_ok <|
  all_cons xf65_ok <|
  all_cons xf66_ok <|
  all_cons xf67_ok <|
  all_cons xf68_ok <|
  all_cons xf69_ok <|
  all_cons xf70_ok <|
  all_cons xf71_ok <|
  all_cons xf72_ok <|
  all_nil
theorem xf_ok (f : Nat) (x : XFunc) (h : xf f = some x) : compF Try.prog (own f) f = some x :=
  lookup_all (P := fun f x => compF Try.prog (own f) f = some x) xfT_ok h
end Go.Proofs.Ytdmffkknghianaa
