/-
  The short forms together.
-/
import Derived.Test.YtgcckkkejknnoaaXAllA
import Derived.KernelRfl
set_option linter.unusedSimpArgs false
set_option linter.unusedVariables false
namespace Go.Proofs.Ytgcckkkejknnoaa
open Go Go.Proofs.Eng
def xfT : List (Nat × XFunc) := [(5, xf5), (46, xf46), (47, xf47), (48, xf48), (49, xf49), (50, xf50), (51, xf51), (52, xf52), (53, xf53), (54, xf54), (55, xf55), (56, xf56), (57, xf57), (58, xf58), (59, xf59), (60, xf60), (61, xf61), (125, xf125), (126, xf126), (127, xf127), (128, xf128), (129, xf129), (130, xf130), (131, xf131), (132, xf132), (133, xf133), (134, xf134), (135, xf135), (136, xf136), (138, xf138), (159, xf159), (161, xf161), (184, xf184), (185, xf185), (186, xf186), (187, xf187), (188, xf188), (189, xf189), (190, xf190), (196, xf196), (209, xf209), (210, xf210), (211, xf211), (212, xf212), (217, xf217), (219, xf219), (223, xf223), (224, xf224), (225, xf225), (226, xf226)]
def xf (f : Nat) : Option XFunc := xfT.lookup f
theorem lookup_all {P : Nat → XFunc → Prop} : ∀ {l : List (Nat × XFunc)} {f : Nat} {x : XFunc}, (∀ p, p ∈ l → P p.1 p.2) → l.lookup f = some x → P f x
  | [], _, _, _, h => by cases h
  | (g, y) :: l, f, x, hl, h => by
    simp only [List.lookup] at h
    split at h
    · rename_i e; injection h with h; subst h; have := hl (g, y) List.mem_cons_self; have e : f = g := by simpa using e
      subst e; exact this
    · exact lookup_all (fun p hp => hl p (List.mem_cons_of_mem _ hp)) h
theorem all_nil {P : Nat × XFunc → Prop} : ∀ p, p ∈ ([] : List (Nat × XFunc)) → P p := fun _ h => by cases h
theorem all_cons {P : Nat × XFunc → Prop} {a : Nat × XFunc} {l : List (Nat × XFunc)} (h : P a) (hl : ∀ p, p ∈ l → P p) : ∀ p, p ∈ a :: l → P p := fun p hp => by
  rcases List.mem_cons.1 hp with rfl | hp
  · exact h
  · exact hl p hp
theorem xfT_ok : ∀ p, p ∈ xfT → compF Try.prog (own p.1) p.1 = some p.2 :=
  all_cons xf5_ok <|
  all_cons xf46_ok <|
  all_cons xf47_ok <|
  all_cons xf48_ok <|
  all_cons xf49_ok <|
  all_cons xf50_ok <|
  all_cons xf51_ok <|
  all_cons xf52_ok <|
  all_cons xf53_ok <|
  all_cons xf54_ok <|
  all_cons xf55_ok <|
  all_cons xf56_ok <|
  all_cons xf57_ok <|
  all_cons xf58_ok <|
  all_cons xf59_ok <|
  all_cons xf60_ok <|
  all_cons xf61_ok <|
  all_cons xf125_ok <|
  all_cons xf126_ok <|
  all_cons xf127_ok <|
  all_cons xf128_ok <|
  all_cons xf129_ok <|
  all_cons xf130_ok <|
  all_cons xf131_ok <|
  all_cons xf132_ok <|
  all_cons xf133_ok <|
  all_cons xf134_ok <|
  all_cons xf135_ok <|
  all_cons xf136_ok <|
  all_cons xf138_ok <|
  all_cons xf159_ok <|
  all_cons xf161_ok <|
  all_cons xf184_ok <|
  all_cons xf185_ok <|
  all_cons xf186_ok <|
  all_cons xf187_ok <|
  all_cons xf188_ok <|
  all_cons xf189_ok <|
  all_cons xf190_ok <|
  all_cons xf196_ok <|
  all_cons xf209_ok <|
  all_cons xf210_ok <|
  all_cons xf211_ok <|
  all_cons xf212_ok <|
  all_cons xf217_ok <|
  all_cons xf219_ok <|
  all_cons xf223_ok <|
  all_cons xf224_ok <|
  all_cons xf225_ok <|
  all_cons xf226_ok <|
  all_nil
theorem xf_ok (f : Nat) (x : XFunc) (h : xf f = some x) : compF Try.prog (own f) f = some x :=
  lookup_all (P := fun f x => compF Try.prog (own f) f = some x) xfT_ok h
end Go.Proofs.Ytgcckkkejknnoaa
