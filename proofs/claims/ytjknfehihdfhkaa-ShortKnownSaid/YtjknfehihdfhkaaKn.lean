/-
  What package short's functions return at the examples of the chapter (those of ShortKnown).
-/
import Derived.Test.YtjknfehihdfhkaaWk
namespace Go.Proofs.Ytjknfehihdfhkaa
open Go.RowKit Go.Proofs.Short Go.Lib

theorem kn1 (W : World) :
    Calls Try.prog 18 #[.string ⟨#[97, 98, 99, 97]⟩, .string ⟨#[99, 98]⟩] W fun e w' => e = .returned (.tuple #[.bool false, .int .i64 0]) ∧ Below W.heap.size W w' := by
  have h := holds_any [97, 98, 99, 97] [99, 98] W (by decide) (by decide)
  rw [show holdL [97, 98, 99, 97] [99, 98] = false by decide +kernel, show chks [[97, 98, 99, 97], [99, 98]] = 0 by decide +kernel] at h
  exact h

theorem kn2 (W : World) :
    Calls Try.prog 20 #[.string ⟨#[97, 98, 99, 97]⟩, .string ⟨#[97, 97]⟩] W fun e w' => e = .returned (.tuple #[.int .i64 1, .int .i64 0]) ∧ Below W.heap.size W w' := by
  have h := ways_any [97, 98, 99, 97] [97, 97] W (by decide +kernel)
  rw [show waysL [97, 98, 99, 97] [97, 97] = 1 by decide +kernel] at h
  exact h

theorem kn3 (W : World) :
    Calls Try.prog 20 #[.string ⟨#[97, 98, 99, 97]⟩, .string ⟨#[]⟩] W fun e w' => e = .returned (.tuple #[.int .i64 1, .int .i64 0]) ∧ Below W.heap.size W w' := by
  have h := ways_any [97, 98, 99, 97] [] W (by decide +kernel)
  rw [show waysL [97, 98, 99, 97] [] = 1 by decide +kernel] at h
  exact h

theorem kn4 (W : World) :
    Calls Try.prog 20 #[.string ⟨#[97, 98, 99, 97]⟩, .string ⟨#[99, 99]⟩] W fun e w' => e = .returned (.tuple #[.int .i64 0, .int .i64 0]) ∧ Below W.heap.size W w' := by
  have h := ways_any [97, 98, 99, 97] [99, 99] W (by decide +kernel)
  rw [show waysL [97, 98, 99, 97] [99, 99] = 0 by decide +kernel] at h
  exact h

theorem kn5 (W : World) :
    Calls Try.prog 29 #[.string ⟨#[97, 97, 97]⟩] W fun e w' => e = .returned (.tuple #[.int .i64 4, .int .i64 0]) ∧ Below W.heap.size W w' := by
  have h := count_any partsOf_said [97, 97, 97] W (by decide)
  rw [show cntL [97, 97, 97] = 4 by decide +kernel, show chk [97, 97, 97] = 0 by decide +kernel] at h
  exact h

theorem kn6 (W : World) :
    Calls Try.prog 29 #[.string ⟨#[]⟩] W fun e w' => e = .returned (.tuple #[.int .i64 1, .int .i64 0]) ∧ Below W.heap.size W w' := by
  have h := count_any partsOf_said [] W (by decide)
  rw [show cntL [] = 1 by decide +kernel, show chk [] = 0 by decide +kernel] at h
  exact h

theorem kn7 (W : World) :
    Calls Try.prog 31 #[.string ⟨#[97, 97]⟩, .int .i64 1] W fun e w' => (∃ A c, e = .returned (.tuple #[.slice A 1 c, .int .i64 0]) ∧ Rd w' A 1 (([[97]] : List (List UInt8)).map encStr)) ∧ Below W.heap.size W w' := by
  have h := parts_ok partsOf_said [97, 97] 1 W (by decide +kernel) (by decide)
  rw [show sizedL [97, 97] 1 = [[97]] by decide +kernel] at h
  exact h.mono fun _ _ ⟨h1, v, h2, h3⟩ => by
    obtain ⟨A, c, rfl⟩ := ownsRow_shape h3
    exact ⟨⟨A, c, h2, rd_own h3⟩, h1⟩

theorem kn8 (W : World) :
    Calls Try.prog 31 #[.string ⟨#[97, 97]⟩, .int .i64 3] W fun e w' => e = .returned (.tuple #[.slice none 0 0, .int .i64 1]) ∧ Below W.heap.size W w' := by
  exact parts_range [97, 97] 3 W (by decide +kernel) (by decide)

theorem kn9 (W : World) :
    Calls Try.prog 36 #[.string ⟨#[97, 98, 99, 97, 98]⟩, .int .i64 3] W fun e w' => (∃ A c, e = .returned (.tuple #[.slice A 1 c, .int .i64 0]) ∧ Rd w' A 1 (ints [3])) ∧ Below W.heap.size W w' := by
  have h := arches_ok [97, 98, 99, 97, 98] 3 W (by decide +kernel) (by decide) (by decide) (by decide +kernel)
  rw [show archesL 3 0 [] [97, 98, 99, 97, 98] = [3] by decide +kernel] at h
  exact h.mono fun _ _ ⟨h1, v, h2, h3⟩ => by
    obtain ⟨A, c, rfl⟩ := ownsRow_shape h3
    exact ⟨⟨A, c, h2, rd_own h3⟩, h1⟩

theorem kn10 (W : World) :
    Calls Try.prog 36 #[.string ⟨#[97, 98]⟩, .int .i64 3] W fun e w' => (∃ A c, e = .returned (.tuple #[.slice A 0 c, .int .i64 0]) ∧ Rd w' A 0 (ints [])) ∧ Below W.heap.size W w' := by
  have h := arches_ok [97, 98] 3 W (by decide +kernel) (by decide) (by decide) (by decide +kernel)
  rw [show archesL 3 0 [] [97, 98] = [] by decide +kernel] at h
  exact h.mono fun _ _ ⟨h1, v, h2, h3⟩ => by
    obtain ⟨A, c, rfl⟩ := ownsRow_shape h3
    exact ⟨⟨A, c, h2, rd_own h3⟩, h1⟩

theorem kn11 (W : World) :
    Calls Try.prog 36 #[.string ⟨#[97, 98]⟩, .int .i64 1] W fun e w' => e = .returned (.tuple #[.slice none 0 0, .int .i64 2]) ∧ Below W.heap.size W w' := by
  refine arches_err [97, 98] 1 2 W (fun V => ?_) (by decide)
  have h := letters_in [97, 98] 1 V (by decide +kernel) (by decide) (by decide)
  rw [show allIn 1 [97, 98] = false by decide +kernel] at h
  exact h

theorem kn12 (W : World) :
    Calls Try.prog 38 #[.string ⟨#[97, 98, 98, 97]⟩, .int .i64 2] W fun e w' => e = .returned (.tuple #[.string ⟨#[97, 97, 97]⟩, .int .i64 0]) ∧ Below W.heap.size W w' := by
  have h := missing_ok [97, 98, 98, 97] 2 W (by decide +kernel) (by decide) (by decide) (by decide +kernel)
  rw [show missL 2 [97, 98, 98, 97] = [97, 97, 97] by decide +kernel] at h
  exact h

theorem kn13 (W : World) :
    Calls Try.prog 38 #[.string ⟨#[]⟩, .int .i64 1] W fun e w' => e = .returned (.tuple #[.string ⟨#[97]⟩, .int .i64 0]) ∧ Below W.heap.size W w' := by
  have h := missing_ok [] 1 W (by decide +kernel) (by decide) (by decide) (by decide +kernel)
  rw [show missL 1 [] = [97] by decide +kernel] at h
  exact h

theorem kn14 (W : World) :
    Calls Try.prog 38 #[.string ⟨#[]⟩, .int .i64 0] W fun e w' => e = .returned (.tuple #[.string ⟨#[]⟩, .int .i64 1]) ∧ Below W.heap.size W w' := by
  exact missing_err [] 0 1 W (fun V => letters_range [] 0 V (by decide +kernel) (by decide)) (by decide)

theorem kn15 (W : World) :
    Calls Try.prog 40 #[.string ⟨#[97, 98]⟩, .string ⟨#[98, 97]⟩] W fun e w' => e = .returned (.tuple #[.string ⟨#[97, 98]⟩, .int .i64 0]) ∧ Below W.heap.size W w' := by
  have h := apart_ok partsOf_said [97, 98] [98, 97] W (by decide +kernel)
  rw [show apartL [97, 98] [98, 97] = some [97, 98] by decide +kernel] at h
  exact h

theorem kn16 (W : World) :
    Calls Try.prog 40 #[.string ⟨#[97]⟩, .string ⟨#[98]⟩] W fun e w' => e = .returned (.tuple #[.string ⟨#[97]⟩, .int .i64 0]) ∧ Below W.heap.size W w' := by
  have h := apart_ok partsOf_said [97] [98] W (by decide +kernel)
  rw [show apartL [97] [98] = some [97] by decide +kernel] at h
  exact h

theorem kn17 (W : World) :
    Calls Try.prog 42 #[.string ⟨#[97, 98]⟩, .string ⟨#[98, 97]⟩, .int .i64 2] W fun e w' => e = .returned (.tuple #[.bool false, .int .i64 0]) ∧ Below W.heap.size W w' := by
  have h := alike_ok partsOf_said [97, 98] [98, 97] 2 W (by decide +kernel) (by decide) (by decide)
  rw [show alikeL [97, 98] [98, 97] 2 = false by decide +kernel] at h
  exact h

theorem kn18 (W : World) :
    Calls Try.prog 42 #[.string ⟨#[97, 98]⟩, .string ⟨#[98, 97]⟩, .int .i64 11] W fun e w' => e = .returned (.tuple #[.bool false, .int .i64 1]) ∧ Below W.heap.size W w' := by
  exact alike_range [97, 98] [98, 97] 11 W (by decide +kernel) (by decide)

theorem kn19 (W : World) :
    Calls Try.prog 44 #[.slice (some ⟨W.heap.size, 0, none⟩) 3 3, .int .i64 0] (W.alloc (.cells #[.string ⟨#[97, 98, 99]⟩, .string ⟨#[97, 98, 100]⟩, .string ⟨#[98, 99, 100]⟩] 9)) fun e w' => e = .returned (.tuple #[.string ⟨#[97, 99]⟩, .int .i64 0]) ∧ Below W.heap.size W w' := by
  have h := short_ok partsOf_said (some ⟨W.heap.size, 0, none⟩) 3 3 0 [[97, 98, 99], [97, 98, 100], [98, 99, 100]] _ (rd_lit W [[97, 98, 99], [97, 98, 100], [98, 99, 100]] 9) (by decide) (by decide +kernel) (by decide)
  rw [show shortL [[97, 98, 99], [97, 98, 100], [98, 99, 100]] 0 = some [97, 99] by decide +kernel] at h
  exact h.mono fun _ _ ⟨h1, h2⟩ => ⟨h1, ((Below.refl _ _).alloc (Nat.le_refl _) _).trans (h2.mono (by simp))⟩

theorem kn20 (W : World) :
    Calls Try.prog 44 #[.slice (some ⟨W.heap.size, 0, none⟩) 3 3, .int .i64 2] (W.alloc (.cells #[.string ⟨#[97, 98, 99]⟩, .string ⟨#[97, 98, 100]⟩, .string ⟨#[98, 99, 100]⟩] 9)) fun e w' => e = .returned (.tuple #[.string ⟨#[99, 100]⟩, .int .i64 0]) ∧ Below W.heap.size W w' := by
  have h := short_ok partsOf_said (some ⟨W.heap.size, 0, none⟩) 3 3 2 [[97, 98, 99], [97, 98, 100], [98, 99, 100]] _ (rd_lit W [[97, 98, 99], [97, 98, 100], [98, 99, 100]] 9) (by decide) (by decide +kernel) (by decide)
  rw [show shortL [[97, 98, 99], [97, 98, 100], [98, 99, 100]] 2 = some [99, 100] by decide +kernel] at h
  exact h.mono fun _ _ ⟨h1, h2⟩ => ⟨h1, ((Below.refl _ _).alloc (Nat.le_refl _) _).trans (h2.mono (by simp))⟩

theorem kn21 (W : World) :
    Calls Try.prog 44 #[.slice (some ⟨W.heap.size, 0, none⟩) 3 3, .int .i64 3] (W.alloc (.cells #[.string ⟨#[97, 98, 99]⟩, .string ⟨#[97, 98, 100]⟩, .string ⟨#[98, 99, 100]⟩] 9)) fun e w' => e = .returned (.tuple #[.string ⟨#[]⟩, .int .i64 2]) ∧ Below W.heap.size W w' := by
  exact (short_none (some ⟨W.heap.size, 0, none⟩) 3 3 3 [[97, 98, 99], [97, 98, 100], [98, 99, 100]] _ (rd_lit W [[97, 98, 99], [97, 98, 100], [98, 99, 100]] 9) (by decide) (by decide +kernel) (by decide +kernel) (by decide)).mono fun _ _ ⟨h1, h2⟩ => ⟨h1, ((Below.refl _ _).alloc (Nat.le_refl _) _).trans (h2.mono (by simp))⟩

theorem kn22 (W : World) :
    Calls Try.prog 33 #[.int .i64 2, .int .i64 3] W fun e w' => e = .returned (.tuple #[.int .i64 7, .int .i64 0]) ∧ Below W.heap.size W w' := by
  have h := most_ok partsOf_said 2 3 W (by decide) (by decide) (by decide)
  rw [show (partsL [around 2 3]).length = 7 by decide +kernel] at h
  exact h

theorem kn23 (W : World) :
    Calls Try.prog 33 #[.int .i64 1, .int .i64 3] W fun e w' => e = .returned (.tuple #[.int .i64 4, .int .i64 0]) ∧ Below W.heap.size W w' := by
  have h := most_ok partsOf_said 1 3 W (by decide) (by decide) (by decide)
  rw [show (partsL [around 1 3]).length = 4 by decide +kernel] at h
  exact h

theorem kn24 (W : World) :
    Calls Try.prog 33 #[.int .i64 2, .int .i64 0] W fun e w' => e = .returned (.tuple #[.int .i64 1, .int .i64 0]) ∧ Below W.heap.size W w' := by
  have h := most_ok partsOf_said 2 0 W (by decide) (by decide) (by decide)
  rw [show (partsL [around 2 0]).length = 1 by decide +kernel] at h
  exact h

theorem kn25 (W : World) :
    Calls Try.prog 33 #[.int .i64 2, .int .i64 11] W fun e w' => e = .returned (.tuple #[.int .i64 0, .int .i64 1]) ∧ Below W.heap.size W w' := by
  exact most_range 2 11 W (by decide)

theorem kn26 (W : World) :
    Calls Try.prog 25 #[.string ⟨#[97, 98, 99, 100, 101, 102, 97, 98, 99, 100]⟩] W fun e w' => e = .returned (.int .i64 0) ∧ Below W.heap.size W w' := by
  have h := check_l [97, 98, 99, 100, 101, 102, 97, 98, 99, 100] W (by decide)
  rw [show chk [97, 98, 99, 100, 101, 102, 97, 98, 99, 100] = 0 by decide +kernel] at h
  exact h

theorem kn27 (W : World) :
    Calls Try.prog 25 #[.string ⟨#[97, 98, 99, 100, 101, 102, 97, 98, 99, 100, 97]⟩] W fun e w' => e = .returned (.int .i64 19) ∧ Below W.heap.size W w' := by
  have h := check_l [97, 98, 99, 100, 101, 102, 97, 98, 99, 100, 97] W (by decide)
  rw [show chk [97, 98, 99, 100, 101, 102, 97, 98, 99, 100, 97] = 19 by decide +kernel] at h
  exact h

theorem kn28 (W : World) :
    Calls Try.prog 25 #[.string ⟨#[65]⟩] W fun e w' => e = .returned (.int .i64 10) ∧ Below W.heap.size W w' := by
  have h := check_l [65] W (by decide)
  rw [show chk [65] = 10 by decide +kernel] at h
  exact h

theorem kn29 (W : World) :
    Calls Try.prog 25 #[.string ⟨#[195, 169]⟩] W fun e w' => e = .returned (.int .i64 10) ∧ Below W.heap.size W w' := by
  have h := check_l [195, 169] W (by decide)
  rw [show chk [195, 169] = 10 by decide +kernel] at h
  exact h

theorem kn30 (A : Option Addr) (c : Nat) (W : World) (h : Rd W A 1 (([[97]] : List (List UInt8)).map encStr)) :
    Calls Try.prog 35 #[.slice A 1 c, .slice (some ⟨W.heap.size, 0, none⟩) 1 1] (W.alloc (.cells #[.string ⟨#[97]⟩] 9)) fun e w' => e = .returned (.bool true) ∧ Below W.heap.size W w' :=
  equal_lit A c [[97]] [[97]] W h rfl (by decide) (by decide) 9

theorem kn31 (A : Option Addr) (c : Nat) (W : World) (h : Rd W A 1 (ints [3])) :
    Calls Try.prog 24 #[.slice A 1 c, .slice (some ⟨W.heap.size, 0, none⟩) 1 1] (W.alloc (.cells #[.int .i64 3] 3)) fun e w' => e = .returned (.bool true) ∧ Below W.heap.size W w' :=
  same_lit A c [3] [3] W h rfl (by decide) (by decide) 3
end Go.Proofs.Ytjknfehihdfhkaa
