/-
  Package quire's Proves.
-/
import Derived.Test.YtbkmicimpgabgaaDoorClash
set_option linter.unusedSimpArgs false
set_option linter.unusedVariables false
namespace Go.Proofs.YtbkmicimpgabgaaDoor
open Go.RowKit Go.Lib Go.Proofs.Quire

def provE (cs : List UInt8) (x y : Int) : Int :=
  if stripE cs = 0 then (if x < 0 ∨ y < 0 ∨ (cs.length : Int) ≤ x ∨ (cs.length : Int) ≤ y then 2 else if y ≤ x then 7 else if clashB cs x.toNat y.toNat then 0 else 14) else stripE cs
set_option maxRecDepth 100000 in
set_option maxHeartbeats 2000000 in
theorem proves_any (cs : List UInt8) (x y : Int) (w : World) (hT : Tab w) (hs : cs.length ≤ maxLen) (hx : IntKind.i64.wrap x = x) (hy : IntKind.i64.wrap y = y) :
    Calls Tryd.prog 23 #[.string ⟨cs.toArray⟩, .int .i64 x, .int .i64 y] w fun e w' => e = .returned (.int .i64 (provE cs x y)) ∧ Below w.heap.size w w' := by
  have h1 := fun W => checkStrip_any cs W hs
  obtain ⟨r, hr⟩ : ∃ r, Hid (provE cs x y = r) := ⟨_, rfl⟩
  rw [hr.out]
  by_cases hz : stripE cs = 0
  · have hle := (chkL_zero (stripE_zero hz).1).1
    have hr1 : Hid (r = if x < 0 ∨ y < 0 ∨ (cs.length : Int) ≤ x ∨ (cs.length : Int) ≤ y then 2 else if y ≤ x then 7 else if clashB cs x.toNat y.toNat then 0 else 14) := by show _ = _; rw [← hr.out]; unfold provE; rw [if_pos hz]
    rw [hz] at h1
    clear hz hr
    have HX := Lib.hid hx; have HY := Lib.hid hy
    clear hx hy
    by_cases hin : x < 0 ∨ y < 0 ∨ (cs.length : Int) ≤ x ∨ (cs.length : Int) ≤ y
    · have HR : Hid (r = 2) := by show _ = _; rw [hr1.out, if_pos hin]
      have hT3 : (y < x ∧ y < 0) ∨ (y < x ∧ 0 ≤ y ∧ (cs.length : Int) ≤ x) ∨ (¬ y < x ∧ x < 0) ∨ (¬ y < x ∧ 0 ≤ x ∧ (cs.length : Int) ≤ y) := by omega
      clear hin hr1
      rcases hT3 with ⟨h2, h3⟩ | ⟨h2, h3, h4⟩ | ⟨h2, h3⟩ | ⟨h2, h3, h4⟩
      all_goals
        go_enter Tryd.func23, Tryd.ntmps23
        go_wp2_with (fail)
        refine (h1 _).mono ?_; rintro e w1 ⟨rfl, hb1⟩
        go_wp2_with (fail)
        all_goals (go_ret; exact ⟨ret_int HR.out.symm, hb1⟩)
    · have hx0 : 0 ≤ x := by omega
      have hy0 : 0 ≤ y := by omega
      have hxl : ¬ (cs.length : Int) ≤ x := by omega
      have hyl : ¬ (cs.length : Int) ≤ y := by omega
      by_cases hyx : y ≤ x
      · have HR : Hid (r = 7) := by show _ = _; rw [hr1.out, if_neg hin, if_pos hyx]
        clear hin hr1
        by_cases h2 : y < x
        all_goals
          go_enter Tryd.func23, Tryd.ntmps23
          go_wp2_with (fail)
          refine (h1 _).mono ?_; rintro e w1 ⟨rfl, hb1⟩
          go_wp2_with (fail)
          all_goals (go_ret; exact ⟨ret_int HR.out.symm, hb1⟩)
      · have h2 : ¬ y < x := by omega
        obtain ⟨i, rfl⟩ : ∃ i : Nat, x = i := ⟨x.toNat, by omega⟩
        obtain ⟨j, rfl⟩ : ∃ j : Nat, y = j := ⟨y.toNat, by omega⟩
        have hc := fun W h => clash_any cs i j W h (by omega) (by omega) hle
        have hr2 : Hid (r = if clashB cs i j then 0 else 14) := by show _ = _; rw [hr1.out, if_neg hin, if_neg hyx]; rfl
        clear hin hr1
        cases hcb : clashB cs i j with
        | true =>
          rw [hcb] at hc hr2
          clear hcb
          go_enter Tryd.func23, Tryd.ntmps23
          go_wp2_with (fail)
          refine (h1 _).mono ?_; rintro e w1 ⟨rfl, hb1⟩
          have hT1 := hT.below hb1
          go_wp2_with (fail)
          refine (hc _ hT1).mono ?_; rintro e w2 ⟨rfl, q, rfl⟩
          go_wp2_with (fail)
          all_goals (go_ret; exact ⟨ret_int hr2.out.symm, below_drewN hb1 _⟩)
        | false =>
          rw [hcb] at hc hr2
          clear hcb
          go_enter Tryd.func23, Tryd.ntmps23
          go_wp2_with (fail)
          refine (h1 _).mono ?_; rintro e w1 ⟨rfl, hb1⟩
          have hT1 := hT.below hb1
          go_wp2_with (fail)
          refine (hc _ hT1).mono ?_; rintro e w2 ⟨rfl, q, rfl⟩
          go_wp2_with (fail)
          all_goals (go_ret; exact ⟨ret_int (by rw [hr2.out]; rfl), below_drewN hb1 _⟩)
  · have HR : Hid (r = stripE cs) := by show _ = _; rw [← hr.out]; unfold provE; rw [if_neg hz]
    have hz2 : (stripE cs != 0) = true := by simpa using hz
    generalize stripE cs = z at h1 hz2 HR
    clear hz hr hx hy
    go_enter Tryd.func23, Tryd.ntmps23
    go_wp2_with (fail)
    refine (h1 _).mono ?_; rintro e w1 ⟨rfl, hb1⟩
    go_wp2_with (fail)
    go_ret
    exact ⟨ret_int HR.out.symm, hb1⟩
end Go.Proofs.YtbkmicimpgabgaaDoor
