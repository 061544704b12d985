/-
  The walk of package short's Most, and the errors of Arches and Missing.
-/
import Derived.Test.YtlbepjmiligpcaaDoorMissing
import Derived.Test.YtlbepjmiligpcaaDoorShelfB
set_option linter.unusedSimpArgs false
set_option linter.unusedVariables false
namespace Go.Proofs.YtlbepjmiligpcaaDoor
open Go.RowKit Go.Proofs.Short Go.Lib Go.Shelf

theorem Tryd.extraB : Builder.Extra Tryd.prog Tryd.lays105_ren := {
  sizeBuilder := by kernel_rfl
  liesBuilder := by kernel_rfl
  t5 := Tryd.lays105.t5
  a5 := Tryd.lays105.a5
  z5 := Tryd.lays105.z5
  v5 := Tryd.lays105.v5
  infoByte := by kernel_rfl
  cellsByte := by kernel_rfl
  sizeByte := by kernel_rfl
  neB5 := by decide }
theorem repeatC (l : List UInt8) (W : World) (hl : l.length ≤ 100) :
    Calls Tryd.prog 48 #[.string ⟨l.toArray⟩, .int .i64 10] W fun e w' => e = .returned (.string ⟨(Lib.repeatL l 10).toArray⟩) ∧ Below W.heap.size W w' :=
  Any.strings_Repeat Tryd.lays105 Tryd.extraB ⟨l.toArray⟩ 10 W (by decide) (by
    have : (⟨l.toArray⟩ : ByteArray).size = l.length := by simp [ByteArray.size]
    rw [this]; omega)
theorem slice_to (x : List UInt8) (m : Nat) (hm : m ≤ x.length) (W : World) : (Instr.slice 9 (.string ⟨x.toArray⟩) none (some (.int .i64 (m : Int))) none).run Tryd.prog W = .ok (.string ⟨(x.take m).toArray⟩) W := by
  have hz : (⟨x.toArray⟩ : ByteArray).size = x.length := by simp [ByteArray.size]
  have h := run_slice_string_h (P := Tryd.prog) W 9 ⟨x.toArray⟩ Tryd.underlying9 .i64 (m : Int) (by omega) (by rw [hz]; omega)
  rw [h, Int.toNat_natCast, ByteArray.extract_mk]
  simp

/-- the word in which the first k letters come again and again -/
def around (k n : Nat) : List UInt8 := (Lib.repeatL (alphaL k) 10).take n
theorem around_ok {k n : Nat} (hn : n ≤ 10) : chk (around k n) = 0 := by
  unfold chk
  have h1 : (around k n).length ≤ 10 := by unfold around; rw [List.length_take]; omega
  rw [if_neg (by omega), if_pos]
  refine List.all_eq_true.2 fun c hc => ?_
  have h2 : c ∈ Lib.repeatL (alphaL k) 10 := List.mem_of_mem_take hc
  have h3 : ∀ m, c ∈ Lib.repeatL (alphaL k) m → c ∈ alphaL k := by
    intro m
    induction m with
    | zero => intro h; exact absurd h (by simp [Lib.repeatL])
    | succ m ih =>
      intro h
      rcases List.mem_append.1 h with h | h
      · exact h
      · exact ih h
  have h4 : c ∈ [97, 98, 99, 100, 101, 102] := List.mem_of_mem_take (h3 _ h2)
  simp at h4
  rcases h4 with rfl | rfl | rfl | rfl | rfl | rfl <;> decide

set_option maxHeartbeats 400000 in
theorem most_ok (hP : PartsOfSaid) (k n : Nat) (w : World) (h1 : 1 ≤ k) (h6 : k ≤ 6) (hn : n ≤ 10) :
    Calls Tryd.prog 33 #[.int .i64 k, .int .i64 n] w fun e w' => e = .returned (.tuple #[.int .i64 ((partsL [around k n]).length : Nat), .int .i64 0]) ∧ Below w.heap.size w w' := by
  have hsl := slice_alpha k h1 h6
  have hal := alphaL_len h6
  have hrl : (Lib.repeatL (alphaL k) 10).length = 10 * k := by rw [Lib.repeatL_length, hal]
  have hs2 := slice_to (Lib.repeatL (alphaL k) 10) n (by rw [hrl]; omega)
  have hs2 : ∀ W : World, (Instr.slice 9 (.string ⟨(Lib.repeatL (alphaL k) 10).toArray⟩) none (some (.int .i64 (n : Int))) none).run Tryd.prog W = .ok (.string ⟨(around k n).toArray⟩) W := hs2
  have hR := fun W => repeatC (alphaL k) W (by omega)
  have hc := around_ok (k := k) hn
  have hcl : cntL (around k n) = ((partsL [around k n]).length : Nat) := by unfold cntL; rw [if_pos hc]
  have hC := fun W => count_any hP (around k n) W (by unfold around maxLen; rw [List.length_take]; omega)
  rw [hcl, hc] at hC
  have HR := Lib.hid hR; have HC := Lib.hid hC
  clear hal hrl hc hcl hR hC
  generalize around k n = z at hs2 HC ⊢
  generalize Lib.repeatL (alphaL k) 10 = y at hs2 HR
  go_enter Tryd.func33, Tryd.ntmps33
  go_wp2_with (first
    | (go_at_call 48; refine (HR.out _).mono ?_; rintro e w1 ⟨rfl, hb1⟩)
    | (go_at_call 9; refine (HC.out _).mono ?_; rintro e w2 ⟨rfl, hb2⟩))
  go_ret2
  exact ⟨rfl, hb1.trans (hb2.mono hb1.size)⟩
set_option maxHeartbeats 400000 in
theorem most_range (k n : Int) (w : World) (h : k < 1 ∨ 6 < k ∨ n < 0 ∨ 10 < n) :
    Calls Tryd.prog 33 #[.int .i64 k, .int .i64 n] w fun e w' => e = .returned (.tuple #[.int .i64 0, .int .i64 1]) ∧ Below w.heap.size w w' := by
  by_cases h1 : k < 1
  · clear h
    go_enter Tryd.func33, Tryd.ntmps33
    go_wp2_with (fail)
    go_ret2
    exact ⟨rfl, Below.refl _ _⟩
  · by_cases h2 : 6 < k
    · clear h
      go_enter Tryd.func33, Tryd.ntmps33
      go_wp2_with (fail)
      go_ret2
      exact ⟨rfl, Below.refl _ _⟩
    · by_cases h3 : n < 0
      · clear h
        go_enter Tryd.func33, Tryd.ntmps33
        go_wp2_with (fail)
        go_ret2
        exact ⟨rfl, Below.refl _ _⟩
      · have h4 : 10 < n := by omega
        clear h
        go_enter Tryd.func33, Tryd.ntmps33
        go_wp2_with (fail)
        go_ret2
        exact ⟨rfl, Below.refl _ _⟩

/-! ### the errors of Arches and Missing -/
set_option maxHeartbeats 400000 in
theorem arches_err (x : List UInt8) (k err : Int) (w : World) (hL : ∀ W, Calls Tryd.prog 24 #[.string ⟨x.toArray⟩, .int .i64 k] W fun e w' => e = .returned (.int .i64 err) ∧ Below W.heap.size W w') (he : err ≠ 0) :
    Calls Tryd.prog 10 #[.string ⟨x.toArray⟩, .int .i64 k] w fun e w' => e = .returned (.tuple #[.slice none 0 0, .int .i64 err]) ∧ Below w.heap.size w w' := by
  have hz2 : (err != 0) = true := by simp [he]
  clear he
  go_enter Tryd.func10, Tryd.ntmps10
  go_wp2_with (go_at_call 24; refine (hL _).mono ?_; rintro e w1 ⟨rfl, hb1⟩)
  go_ret2
  exact ⟨rfl, hb1⟩
set_option maxHeartbeats 400000 in
theorem missing_err (x : List UInt8) (k err : Int) (w : World) (hL : ∀ W, Calls Tryd.prog 24 #[.string ⟨x.toArray⟩, .int .i64 k] W fun e w' => e = .returned (.int .i64 err) ∧ Below W.heap.size W w') (he : err ≠ 0) :
    Calls Tryd.prog 28 #[.string ⟨x.toArray⟩, .int .i64 k] w fun e w' => e = .returned (.tuple #[.string ⟨#[]⟩, .int .i64 err]) ∧ Below w.heap.size w w' := by
  have hz2 : (err != 0) = true := by simp [he]
  clear he
  go_enter Tryd.func28, Tryd.ntmps28
  go_wp2_with (go_at_call 24; refine (hL _).mono ?_; rintro e w1 ⟨rfl, hb1⟩)
  go_ret2
  exact ⟨rfl, hb1⟩
end Go.Proofs.YtlbepjmiligpcaaDoor
