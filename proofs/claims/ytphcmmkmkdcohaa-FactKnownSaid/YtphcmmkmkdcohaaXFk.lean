/-
  The short forms together.
-/
import Derived.Test.YtphcmmkmkdcohaaXFkA
import Derived.KernelRfl
set_option linter.unusedSimpArgs false
set_option linter.unusedVariables false
namespace Go.Proofs.Ytphcmmkmkdcohaa
open Go Go.Proofs.Eng
def xfT : List (Nat × XFunc) := [(3, xf3), (7, xf7), (8, xf8), (9, xf9), (10, xf10), (11, xf11), (12, xf12), (13, xf13), (14, xf14), (15, xf15), (16, xf16), (17, xf17), (18, xf18), (19, xf19), (20, xf20), (21, xf21), (22, xf22), (23, xf23), (24, xf24), (80, xf80), (81, xf81), (82, xf82), (83, xf83), (84, xf84), (85, xf85), (86, xf86), (87, xf87), (88, xf88), (89, xf89), (90, xf90), (91, xf91), (92, xf92), (93, xf93), (94, xf94), (95, xf95), (151, xf151), (152, xf152), (153, xf153), (154, xf154), (155, xf155), (156, xf156), (157, xf157), (158, xf158), (159, xf159)]
def xf (f : Nat) : Option XFunc := xfT.lookup f
theorem lookup_all {P : Nat → XFunc → Prop} : ∀ {l : List (Nat × XFunc)} {f : Nat} {x : XFunc}, (∀ p, p ∈ l → P p.1 p.2) → l.lookup f = some x → P f x
  | [], _, _, _, h => by cases h
  | (g, y) :: l, f, x, hl, h => by
    simp only [List.lookup] at h
    split at h
    · rename_i e; injection h with h; subst h; have := hl (g, y) List.mem_cons_self; have e : f = g := by simpa using e
      subst e; exact this
    · exact lookup_all (fun p hp => hl p (List.mem_cons_of_mem _ hp)) h
theorem all_nil {P : Nat × XFunc → Prop} : ∀ p, p ∈ ([] : List (Nat × XFunc)) → P p := fun _ h => by cases h
theorem all_cons {P : Nat × XFunc → Prop} {a : Nat × XFunc} {l : List (Nat × XFunc)} (h : P a) (hl : ∀ p, p ∈ l → P p) : ∀ p, p ∈ a :: l → P p := fun p hp => by
  rcases List.mem_cons.1 hp with rfl | hp
  · exact h
  · exact hl p hp
theorem xfT_ok : ∀ p, p ∈ xfT → compF Try.prog (own p.1) p.1 = some p.2 :=
  all_cons xf3_ok <|
  all_cons xf7_ok <|
  all_cons xf8_ok <|
  all_cons xf9_ok <|
  all_cons xf10_ok <|
  all_cons xf11_ok <|
  all_cons xf12_ok <|
  all_cons xf13_ok <|
  all_cons xf14_ok <|
  all_cons xf15_ok <|
  all_cons xf16_ok <|
  all_cons xf17_ok <|
  all_cons xf18_ok <|
  all_cons xf19_ok <|
  all_cons xf20_ok <|
  all_cons xf21_ok <|
  all_cons xf22_ok <|
  all_cons xf23_ok <|
  all_cons xf24_ok <|
  all_cons xf80_ok <|
  all_cons xf81_ok <|
  all_cons xf82_ok <|
  all_cons xf83_ok <|
  all_cons xf84_ok <|
  all_cons xf85_ok <|
  all_cons xf86_ok <|
  all_cons xf87_ok <|
  all_cons xf88_ok <|
  all_cons xf89_ok <|
  all_cons xf90_ok <|
  all_cons xf91_ok <|
  all_cons xf92_ok <|
  all_cons xf93_ok <|
  all_cons xf94_ok <|
  all_cons xf95_ok <|
  all_cons xf151_ok <|
  all_cons xf152_ok <|
  all_cons xf153_ok <|
  all_cons xf154_ok <|
  all_cons xf155_ok <|
  all_cons xf156_ok <|
  all_cons xf157_ok <|
  all_cons xf158_ok <|
  all_cons xf159_ok <|
  all_nil
theorem xf_ok (f : Nat) (x : XFunc) (h : xf f = some x) : compF Try.prog (own f) f = some x :=
  lookup_all (P := fun f x => compF Try.prog (own f) f = some x) xfT_ok h
end Go.Proofs.Ytphcmmkmkdcohaa
