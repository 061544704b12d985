/-
  The statements' helper exchanged: two letters of a string exchanged.
-/
import Derived.Test.YtehffacmphpknaaDoorMapA
set_option linter.unusedSimpArgs false
set_option linter.unusedVariables false
namespace Go.Proofs.YtehffacmphpknaaDoor
open Go.RowKit Go.Lib Go.Proofs.Quire Go.Shelf

def swapU (a b c : UInt8) : UInt8 := if c = a then b else if c = b then a else c
theorem u8_beq (a b : UInt8) : ((a.toNat : Int) == (b.toNat : Int)) = decide (a = b) := by
  rw [Bool.eq_iff_iff]; simp only [beq_iff_eq, decide_eq_true_eq]
  exact ⟨fun h => UInt8.toNat_inj.1 (by omega), fun h => by rw [h]⟩
set_option maxRecDepth 100000 in
set_option maxHeartbeats 1000000 in
theorem exchClo_any (a b c : UInt8) (p q : Nat) (w : World) (hp : w.cell? ⟨p, 0, none⟩ = some (.int .i32 a.toNat)) (hq : w.cell? ⟨q, 0, none⟩ = some (.int .i32 b.toNat)) :
    Calls Tryd.prog 83 #[.int .i32 c.toNat, .pointer (some ⟨p, 0, none⟩), .pointer (some ⟨q, 0, none⟩)] w fun e w' => e = .returned (.int .i32 (swapU a b c).toNat) ∧ w' = w := by
  have h1 := u8_beq c a
  have h2 := u8_beq c b
  unfold swapU
  by_cases e1 : c = a
  · rw [if_pos e1]
    rw [show decide (c = a) = true by simpa using e1] at h1
    clear e1 h2
    go_enter Tryd.func83, Tryd.ntmps83
    go_wp2_with (fail)
    go_ret
    exact ⟨rfl, rfl⟩
  · rw [if_neg e1]
    rw [show decide (c = a) = false by simpa using e1] at h1
    by_cases e2 : c = b
    · rw [if_pos e2]
      rw [show decide (c = b) = true by simpa using e2] at h2
      clear e1 e2
      go_enter Tryd.func83, Tryd.ntmps83
      go_wp2_with (fail)
      go_ret
      exact ⟨rfl, rfl⟩
    · rw [if_neg e2]
      rw [show decide (c = b) = false by simpa using e2] at h2
      clear e1 e2
      go_enter Tryd.func83, Tryd.ntmps83
      go_wp2_with (fail)
      go_ret
      exact ⟨rfl, rfl⟩
theorem swapU_lt (a b c : UInt8) (ha : a.toNat < 128) (hb : b.toNat < 128) (hc : c.toNat < 128) : (swapU a b c).toNat < 128 := by
  unfold swapU; split
  · exact hb
  · split
    · exact ha
    · exact hc
set_option maxRecDepth 100000 in
set_option maxHeartbeats 1000000 in
theorem exch_any (l : List UInt8) (a b : UInt8) (w : World) (hl : l.length ≤ 100) (h128 : ∀ c ∈ l, c.toNat < 128) (ha : a.toNat < 128) (hb : b.toNat < 128) :
    Calls Tryd.prog 47 #[.string ⟨l.toArray⟩, .int .i32 a.toNat, .int .i32 b.toNat] w (ValC (.string ⟨(l.map (swapU a b)).toArray⟩) w) := by
  have hc := fun W h => mapA_any l (swapU a b) w.heap.size (w.heap.size + 1) W hl h128 (fun c hc => swapU_lt a b c ha hb (h128 c hc)) h
  have hclo : ∀ (W : World), W.cell? ⟨w.heap.size, 0, none⟩ = some (.int .i32 a.toNat) → W.cell? ⟨w.heap.size + 1, 0, none⟩ = some (.int .i32 b.toNat) → w.heap.size + 1 < W.heap.size → CloC l (swapU a b) w.heap.size (w.heap.size + 1) W :=
    fun W h1 h2 h3 W' c _ hb => exchClo_any a b c _ _ W' ((hb.cell (p := ⟨w.heap.size, 0, none⟩) (by show w.heap.size < _; omega)).trans h1) ((hb.cell (p := ⟨w.heap.size + 1, 0, none⟩) (by show w.heap.size + 1 < _; omega)).trans h2)
  obtain ⟨r, hr⟩ : ∃ r, l.map (swapU a b) = r := ⟨_, rfl⟩
  rw [hr] at hc ⊢
  generalize (⟨l.toArray⟩ : ByteArray) = s at hc
  clear hr
  go_enter Tryd.func47, Tryd.ntmps47
  go_wp2_with (fail)
  have hb0 : Below w.heap.size w ((w.alloc (.cells #[.int .i32 a.toNat] 21)).alloc (.cells #[.int .i32 b.toNat] 21)) := ((Below.refl _ w).alloc (Nat.le_refl _) _).alloc (by simp) _
  have hc0 : ((w.alloc (.cells #[.int .i32 a.toNat] 21)).alloc (.cells #[.int .i32 b.toNat] 21)).cell? ⟨w.heap.size, 0, none⟩ = some (.int .i32 a.toNat) := by simp
  have hc1 : ((w.alloc (.cells #[.int .i32 a.toNat] 21)).alloc (.cells #[.int .i32 b.toNat] 21)).cell? ⟨w.heap.size + 1, 0, none⟩ = some (.int .i32 b.toNat) := by
    simp
  have hs0 : w.heap.size + 1 < ((w.alloc (.cells #[.int .i32 a.toNat] 21)).alloc (.cells #[.int .i32 b.toNat] 21)).heap.size := by simp
  generalize ((w.alloc (.cells #[.int .i32 a.toNat] 21)).alloc (.cells #[.int .i32 b.toNat] 21)) = w1 at hb0 hc0 hc1 hs0 ⊢
  refine (hc _ (hclo _ hc0 hc1 hs0)).mono ?_; rintro e w2 ⟨rfl, hb2⟩
  go_wp2_with (fail)
  go_ret
  exact ⟨rfl, hb0.trans (hb2.mono hb0.size)⟩
end Go.Proofs.YtehffacmphpknaaDoor
