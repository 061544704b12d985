/-
  What package short's functions return at the examples of the chapter (those of every statement).
-/
import Derived.Test.YtlbepjmiligpcaaDoorAddParts
import Derived.Test.YtlbepjmiligpcaaDoorShort
import Derived.Test.YtlbepjmiligpcaaDoorMost
import Derived.Test.YtlbepjmiligpcaaDoorSame
set_option linter.unusedSimpArgs false
set_option linter.unusedVariables false
namespace Go.Proofs.YtlbepjmiligpcaaDoor
open Go.RowKit Go.Proofs.Short Go.Lib

theorem rd_lit (W : World) (ss : List (List UInt8)) (t : TypeId) : Rd (W.alloc (.cells (ss.map encStr).toArray t)) (some ⟨W.heap.size, 0, none⟩) ss.length (ss.map encStr) := by
  refine ⟨by simp, fun _ => ⟨W.heap.size, 0, rfl, by simp, fun j hj => ?_⟩⟩
  rw [World.cell?_alloc_at _ _ _ _ rfl, getD_lt _ _ _ (by simpa using hj)]
  simp [hj]
theorem rd_lit_int (W : World) (l : List Nat) (t : TypeId) : Rd (W.alloc (.cells (ints l).toArray t)) (some ⟨W.heap.size, 0, none⟩) l.length (ints l) := by
  refine ⟨by simp, fun _ => ⟨W.heap.size, 0, rfl, by simp, fun j hj => ?_⟩⟩
  rw [World.cell?_alloc_at _ _ _ _ rfl, getD_lt _ _ _ (by simpa using hj)]
  simp [hj]
theorem Rd.alloc {w : World} {A : Option Addr} {n : Nat} {xs : List Value} (h : Rd w A n xs) (o : Obj) : Rd (w.alloc o) A n xs := h.below ((Below.refl _ _).alloc (Nat.le_refl _) _)
theorem same_lit (A : Option Addr) (c : Nat) (l l' : List Nat) (W : World) (h : Rd W A l.length (ints l)) (he : l = l') (hn : l.length ≤ maxLen) (hn' : l'.length ≤ maxLen) (t : TypeId) :
    Calls Tryd.prog 11 #[.slice A l.length c, .slice (some ⟨W.heap.size, 0, none⟩) l'.length l'.length] (W.alloc (.cells (ints l').toArray t)) fun e w' => e = .returned (.bool true) ∧ Below W.heap.size W w' :=
  (same_any A (some ⟨W.heap.size, 0, none⟩) l.length l'.length c l'.length l l' _ (h.alloc _) (rd_lit_int W l' t) hn hn').mono fun _ _ ⟨h1, q, h2⟩ =>
    ⟨by rw [h1, he]; simp, by rw [h2]; exact below_drewN ((Below.refl _ _).alloc (Nat.le_refl _) _) q⟩
theorem equal_lit (A : Option Addr) (c : Nat) (l l' : List (List UInt8)) (W : World) (h : Rd W A l.length (l.map encStr)) (he : l = l') (hn : l.length ≤ maxLen) (hn' : l'.length ≤ maxLen) (t : TypeId) :
    Calls Tryd.prog 35 #[.slice A l.length c, .slice (some ⟨W.heap.size, 0, none⟩) l'.length l'.length] (W.alloc (.cells (l'.map encStr).toArray t)) fun e w' => e = .returned (.bool true) ∧ Below W.heap.size W w' :=
  (equal_any A (some ⟨W.heap.size, 0, none⟩) l.length l'.length c l'.length l l' _ (h.alloc _) (rd_lit W l' t) hn hn').mono fun _ _ ⟨h1, q, h2⟩ =>
    ⟨by rw [h1, he]; simp, by rw [h2]; exact below_drewN ((Below.refl _ _).alloc (Nat.le_refl _) _) q⟩

theorem wk1 (W : World) :
    Calls Tryd.prog 25 #[.string ⟨#[97, 98, 99, 97]⟩, .string ⟨#[98, 97]⟩] W fun e w' => e = .returned (.tuple #[.bool true, .int .i64 0]) ∧ Below W.heap.size W w' := by
  have h := holds_any [97, 98, 99, 97] [98, 97] W (by decide) (by decide)
  rw [show holdL [97, 98, 99, 97] [98, 97] = true by decide +kernel, show chks [[97, 98, 99, 97], [98, 97]] = 0 by decide +kernel] at h
  exact h

theorem wk2 (W : World) :
    Calls Tryd.prog 8 #[.string ⟨#[97, 98, 99, 97]⟩, .string ⟨#[97]⟩] W fun e w' => e = .returned (.tuple #[.int .i64 2, .int .i64 0]) ∧ Below W.heap.size W w' := by
  have h := ways_any [97, 98, 99, 97] [97] W (by decide +kernel)
  rw [show waysL [97, 98, 99, 97] [97] = 2 by decide +kernel] at h
  exact h

theorem wk3 (W : World) :
    Calls Tryd.prog 26 #[.string ⟨#[97, 98, 99, 97]⟩, .string ⟨#[99, 97]⟩] W fun e w' => (∃ A c, e = .returned (.tuple #[.slice A 2 c, .int .i64 0]) ∧ Rd w' A 2 (ints [2, 3])) ∧ Below W.heap.size W w' := by
  have h := first_any [97, 98, 99, 97] [99, 97] W (by decide +kernel)
  rw [show firstL 0 [97, 98, 99, 97] [99, 97] = some [2, 3] by decide +kernel] at h
  exact h.mono fun _ _ ⟨h1, v, h2, h3⟩ => by
    obtain ⟨A, c, rfl⟩ := ownsRow_shape h3
    exact ⟨⟨A, c, h2, rd_own h3⟩, h1⟩

theorem wk4 (W : World) :
    Calls Tryd.prog 9 #[.string ⟨#[97, 98, 97]⟩] W fun e w' => e = .returned (.tuple #[.int .i64 7, .int .i64 0]) ∧ Below W.heap.size W w' := by
  have h := count_any partsOf_said [97, 98, 97] W (by decide)
  rw [show cntL [97, 98, 97] = 7 by decide +kernel, show chk [97, 98, 97] = 0 by decide +kernel] at h
  exact h

theorem wk5 (W : World) :
    Calls Tryd.prog 27 #[.string ⟨#[97, 98, 99, 97]⟩, .int .i64 2] W fun e w' => (∃ A c, e = .returned (.tuple #[.slice A 6 c, .int .i64 0]) ∧ Rd w' A 6 (([[97, 97], [97, 98], [97, 99], [98, 97], [98, 99], [99, 97]] : List (List UInt8)).map encStr)) ∧ Below W.heap.size W w' := by
  have h := parts_ok partsOf_said [97, 98, 99, 97] 2 W (by decide +kernel) (by decide)
  rw [show sizedL [97, 98, 99, 97] 2 = [[97, 97], [97, 98], [97, 99], [98, 97], [98, 99], [99, 97]] by decide +kernel] at h
  exact h.mono fun _ _ ⟨h1, v, h2, h3⟩ => by
    obtain ⟨A, c, rfl⟩ := ownsRow_shape h3
    exact ⟨⟨A, c, h2, rd_own h3⟩, h1⟩

theorem wk6 (W : World) :
    Calls Tryd.prog 10 #[.string ⟨#[97, 98, 98, 97]⟩, .int .i64 2] W fun e w' => (∃ A c, e = .returned (.tuple #[.slice A 2 c, .int .i64 0]) ∧ Rd w' A 2 (ints [2, 4])) ∧ Below W.heap.size W w' := by
  have h := arches_ok [97, 98, 98, 97] 2 W (by decide +kernel) (by decide) (by decide) (by decide +kernel)
  rw [show archesL 2 0 [] [97, 98, 98, 97] = [2, 4] by decide +kernel] at h
  exact h.mono fun _ _ ⟨h1, v, h2, h3⟩ => by
    obtain ⟨A, c, rfl⟩ := ownsRow_shape h3
    exact ⟨⟨A, c, h2, rd_own h3⟩, h1⟩

theorem wk7 (W : World) :
    Calls Tryd.prog 28 #[.string ⟨#[97, 98, 99, 97, 98]⟩, .int .i64 3] W fun e w' => e = .returned (.tuple #[.string ⟨#[99, 99]⟩, .int .i64 0]) ∧ Below W.heap.size W w' := by
  have h := missing_ok [97, 98, 99, 97, 98] 3 W (by decide +kernel) (by decide) (by decide) (by decide +kernel)
  rw [show missL 3 [97, 98, 99, 97, 98] = [99, 99] by decide +kernel] at h
  exact h

theorem wk8 (W : World) :
    Calls Tryd.prog 29 #[.string ⟨#[97, 97, 98]⟩, .string ⟨#[97, 98]⟩] W fun e w' => e = .returned (.tuple #[.string ⟨#[97, 97]⟩, .int .i64 0]) ∧ Below W.heap.size W w' := by
  have h := apart_ok partsOf_said [97, 97, 98] [97, 98] W (by decide +kernel)
  rw [show apartL [97, 97, 98] [97, 98] = some [97, 97] by decide +kernel] at h
  exact h

theorem wk9 (W : World) :
    Calls Tryd.prog 30 #[.string ⟨#[97, 98]⟩, .string ⟨#[98, 97]⟩, .int .i64 1] W fun e w' => e = .returned (.tuple #[.bool true, .int .i64 0]) ∧ Below W.heap.size W w' := by
  have h := alike_ok partsOf_said [97, 98] [98, 97] 1 W (by decide +kernel) (by decide) (by decide)
  rw [show alikeL [97, 98] [98, 97] 1 = true by decide +kernel] at h
  exact h

theorem wk10 (W : World) :
    Calls Tryd.prog 31 #[.slice (some ⟨W.heap.size, 0, none⟩) 3 3, .int .i64 1] (W.alloc (.cells #[.string ⟨#[97, 98, 99]⟩, .string ⟨#[97, 98, 100]⟩, .string ⟨#[98, 99, 100]⟩] 9)) fun e w' => e = .returned (.tuple #[.string ⟨#[97, 100]⟩, .int .i64 0]) ∧ Below W.heap.size W w' := by
  have h := short_ok partsOf_said (some ⟨W.heap.size, 0, none⟩) 3 3 1 [[97, 98, 99], [97, 98, 100], [98, 99, 100]] _ (rd_lit W [[97, 98, 99], [97, 98, 100], [98, 99, 100]] 9) (by decide) (by decide +kernel) (by decide)
  rw [show shortL [[97, 98, 99], [97, 98, 100], [98, 99, 100]] 1 = some [97, 100] by decide +kernel] at h
  exact h.mono fun _ _ ⟨h1, h2⟩ => ⟨h1, ((Below.refl _ _).alloc (Nat.le_refl _) _).trans (h2.mono (by simp))⟩

theorem wk11 (W : World) :
    Calls Tryd.prog 33 #[.int .i64 3, .int .i64 3] W fun e w' => e = .returned (.tuple #[.int .i64 8, .int .i64 0]) ∧ Below W.heap.size W w' := by
  have h := most_ok partsOf_said 3 3 W (by decide) (by decide) (by decide)
  rw [show (partsL [around 3 3]).length = 8 by decide +kernel] at h
  exact h

theorem wk12 (W : World) :
    Calls Tryd.prog 26 #[.string ⟨#[97, 98, 99, 97]⟩, .string ⟨#[98, 98]⟩] W fun e w' => e = .returned (.tuple #[.slice none 0 0, .int .i64 12]) ∧ Below W.heap.size W w' := by
  have h := first_any [97, 98, 99, 97] [98, 98] W (by decide +kernel)
  rw [show firstL 0 [97, 98, 99, 97] [98, 98] = none by decide +kernel] at h
  exact h.mono fun _ _ ⟨h1, h2⟩ => ⟨h2, h1⟩

theorem wk13 (W : World) :
    Calls Tryd.prog 29 #[.string ⟨#[97]⟩, .string ⟨#[97]⟩] W fun e w' => e = .returned (.tuple #[.string ⟨#[]⟩, .int .i64 13]) ∧ Below W.heap.size W w' := by
  have h := apart_ok partsOf_said [97] [97] W (by decide +kernel)
  rw [show apartL [97] [97] = none by decide +kernel] at h
  exact h

theorem wk14 (W : World) :
    Calls Tryd.prog 31 #[.slice (some ⟨W.heap.size, 0, none⟩) 2 2, .int .i64 0] (W.alloc (.cells #[.string ⟨#[97, 98]⟩, .string ⟨#[99, 97, 98]⟩] 9)) fun e w' => e = .returned (.tuple #[.string ⟨#[]⟩, .int .i64 12]) ∧ Below W.heap.size W w' := by
  have h := short_ok partsOf_said (some ⟨W.heap.size, 0, none⟩) 2 2 0 [[97, 98], [99, 97, 98]] _ (rd_lit W [[97, 98], [99, 97, 98]] 9) (by decide) (by decide +kernel) (by decide)
  rw [show shortL [[97, 98], [99, 97, 98]] 0 = none by decide +kernel] at h
  exact h.mono fun _ _ ⟨h1, h2⟩ => ⟨h1, ((Below.refl _ _).alloc (Nat.le_refl _) _).trans (h2.mono (by simp))⟩

theorem wk15 (W : World) :
    Calls Tryd.prog 36 #[.string ⟨#[100, 97, 121, 45, 98, 111, 111, 107]⟩, .string ⟨#[121, 98, 107]⟩] W fun e w' => e = .returned (.bool true) ∧ Below W.heap.size W w' := by
  have h := left_b [100, 97, 121, 45, 98, 111, 111, 107] [121, 98, 107] W (by decide) (by decide)
  rw [show leftL [100, 97, 121, 45, 98, 111, 111, 107] [121, 98, 107] = true by decide +kernel] at h
  exact h

theorem wk16 (W : World) :
    Calls Tryd.prog 36 #[.string ⟨#[100, 97, 121, 45, 98, 111, 111, 107]⟩, .string ⟨#[107, 98]⟩] W fun e w' => e = .returned (.bool false) ∧ Below W.heap.size W w' := by
  have h := left_b [100, 97, 121, 45, 98, 111, 111, 107] [107, 98] W (by decide) (by decide)
  rw [show leftL [100, 97, 121, 45, 98, 111, 111, 107] [107, 98] = false by decide +kernel] at h
  exact h

theorem wk17 (W : World) :
    Calls Tryd.prog 22 #[.string ⟨#[97, 98, 103]⟩] W fun e w' => e = .returned (.int .i64 10) ∧ Below W.heap.size W w' := by
  have h := check_l [97, 98, 103] W (by decide)
  rw [show chk [97, 98, 103] = 10 by decide +kernel] at h
  exact h

theorem wk18 (A : Option Addr) (c : Nat) (W : World) (h : Rd W A 2 (ints [2, 3])) :
    Calls Tryd.prog 11 #[.slice A 2 c, .slice (some ⟨W.heap.size, 0, none⟩) 2 2] (W.alloc (.cells #[.int .i64 2, .int .i64 3] 3)) fun e w' => e = .returned (.bool true) ∧ Below W.heap.size W w' :=
  same_lit A c [2, 3] [2, 3] W h rfl (by decide) (by decide) 3

theorem wk19 (A : Option Addr) (c : Nat) (W : World) (h : Rd W A 6 (([[97, 97], [97, 98], [97, 99], [98, 97], [98, 99], [99, 97]] : List (List UInt8)).map encStr)) :
    Calls Tryd.prog 35 #[.slice A 6 c, .slice (some ⟨W.heap.size, 0, none⟩) 6 6] (W.alloc (.cells #[.string ⟨#[97, 97]⟩, .string ⟨#[97, 98]⟩, .string ⟨#[97, 99]⟩, .string ⟨#[98, 97]⟩, .string ⟨#[98, 99]⟩, .string ⟨#[99, 97]⟩] 9)) fun e w' => e = .returned (.bool true) ∧ Below W.heap.size W w' :=
  equal_lit A c [[97, 97], [97, 98], [97, 99], [98, 97], [98, 99], [99, 97]] [[97, 97], [97, 98], [97, 99], [98, 97], [98, 99], [99, 97]] W h rfl (by decide) (by decide) 9

theorem wk20 (A : Option Addr) (c : Nat) (W : World) (h : Rd W A 2 (ints [2, 4])) :
    Calls Tryd.prog 11 #[.slice A 2 c, .slice (some ⟨W.heap.size, 0, none⟩) 2 2] (W.alloc (.cells #[.int .i64 2, .int .i64 4] 3)) fun e w' => e = .returned (.bool true) ∧ Below W.heap.size W w' :=
  same_lit A c [2, 4] [2, 4] W h rfl (by decide) (by decide) 3
end Go.Proofs.YtlbepjmiligpcaaDoor
