/-
  The reference's Walk and Lanes.
-/
import Derived.Test.YtkidghliglmjgabDoorRefW
namespace Go.Proofs.YtkidghliglmjgabDoor
open Go.RowKit Go.Lib Go.Proofs.Quire

set_option maxRecDepth 100000 in
set_option maxHeartbeats 1000000 in
theorem rWalk_any (cs : List UInt8) (w : World) (hs : cs.length ≤ maxLen) :
    Calls Tryd.prog 35 #[.string ⟨cs.toArray⟩] w (WalkRPost w (crE cs) (walkP cs)) := by
  have h1 := fun W => rletters_any ⟨cs.toArray⟩ 63 118 104 W (by rw [size_l]; exact hs) (by decide)
  simp only [List.toList_toArray, show ((63 : Nat) : Int) = 63 from rfl, show ((118 : UInt8).toNat : Int) = 118 from rfl, show ((104 : UInt8).toNat : Int) = 104 from rfl] at h1
  by_cases hz : crE cs = 0
  · obtain ⟨hl, hc⟩ := crE_lt hz
    have h2 := fun W => rwalk_any cs W hl
    have HP : Hid (walkP cs = walkL cs) := by show _ = _; unfold walkP; rw [if_pos hz]
    have hPl := walkL_len cs
    rw [HP.out, hz]
    rw [show chkL 63 118 104 cs = 0 from hz] at h1
    clear hz HP hc
    generalize walkL cs = P at h2 hPl ⊢
    have HPL := Lib.hid hPl
    clear hPl
    go_enter Tryd.func35, Tryd.ntmps35
    go_wp2_with (fail)
    refine (h1 _).mono ?_; rintro e w1 ⟨rfl, rfl⟩
    go_wp2_with (fail)
    refine (h2 _).mono ?_; rintro e w2 ⟨⟨A, c, rfl, hrd⟩, hb2⟩
    have HRD := Lib.hid hrd
    clear hrd
    go_wp2_with (fail)
    go_ret2
    exact ⟨A, c, by rw [HPL.out]; rfl, by rw [HPL.out]; exact HRD.out, hb2⟩
  · have HP : Hid (walkP cs = []) := by show _ = _; unfold walkP; rw [if_neg hz]
    have hz2 : (crE cs != 0) = true := by simpa using hz
    rw [HP.out]
    rw [show chkL 63 118 104 cs = crE cs from rfl] at h1
    generalize crE cs = z at h1 hz2 ⊢
    clear hz HP
    go_enter Tryd.func35, Tryd.ntmps35
    go_wp2_with (fail)
    refine (h1 _).mono ?_; rintro e w1 ⟨rfl, rfl⟩
    go_wp2_with (fail)
    go_ret2
    exact ⟨none, 0, rfl, ⟨rfl, fun h => absurd h (by simp)⟩, Below.refl _ _⟩
def LaneCases (qA qB qC qD b : Bool) : Prop :=
  (qA = true ∧ qB = true ∧ b = true) ∨ (qA = true ∧ qB = false ∧ qC = true ∧ qD = b) ∨ (qA = true ∧ qB = false ∧ qC = false ∧ b = false) ∨ (qA = false ∧ qC = true ∧ qD = b) ∨ (qA = false ∧ qC = false ∧ b = false)
theorem lane_cases (qA qB qC qD b : Bool) (h : ((qA && qB) || (qC && qD)) = b) : LaneCases qA qB qC qD b := by
  subst h; cases qA <;> cases qB <;> cases qC <;> cases qD <;> simp [LaneCases]
set_option maxRecDepth 100000 in
set_option maxHeartbeats 8000000 in
theorem rLanes_any (cs : List UInt8) (w : World) (hs : cs.length ≤ maxLen) :
    Calls Tryd.prog 37 #[.string ⟨cs.toArray⟩] w fun e w' => e = .returned (lanesR cs) ∧ Below w.heap.size w w' := by
  have h1 := fun W => rWalk_any cs W hs
  by_cases hz : crE cs = 0
  · obtain ⟨hl, hc⟩ := crE_lt hz
    have hPw : Hid (walkP cs = walkL cs) := by show _ = _; unfold walkP; rw [if_pos hz]
    rw [hPw.out, hz] at h1
    have hP := walkL_len cs
    obtain ⟨n, hn⟩ : ∃ n, Hid (cs.length + 1 = n) := ⟨_, rfl⟩
    obtain ⟨r, hr⟩ : ∃ r, Hid (firstP (laneB (walkL cs)) n (n - 0) 0 = r) := ⟨_, rfl⟩
    have HV : Hid (lanesR cs = pairR r) := by show _ = _; unfold lanesR; rw [if_pos hz, ← hr.out, ← hn.out]; rfl
    rw [HV.out]
    have hP2 : (walkL cs).length = n + 1 := by rw [hP, ← hn.out]
    have hn64 : n ≤ 64 := by rw [← hn.out]; omega
    clear hz HV hP hc hPw
    generalize walkL cs = P at h1 hr hP2
    have HP2 := Lib.hid hP2
    clear hP2
    go_enter Tryd.func37, Tryd.ntmps37
    go_wp2_with (fail)
    refine (h1 _).mono ?_; rintro e w1 ⟨A, c, rfl, hrd, hB⟩
    rw [HP2.out] at hrd
    rw [HP2.out]
    have HRD := Lib.hid hrd; clear hrd h1
    go_wp2_with (fail)
    go_loopw [7] (fun v wr => ∃ i : Nat, i ≤ n ∧ v = .int .i64 i ∧ Below w.heap.size w wr ∧ Below w1.heap.size w1 wr ∧ Hid (firstP (laneB P) n (n - i) i = r)) (fun v _ => n - (RowKit.intOf v).toNat)
    case atStart => exact ⟨0, Nat.zero_le _, rfl, hB, Below.refl _ _, hr⟩
    case round =>
      clear hB
      obtain ⟨i, hi, rfl, hbr, hb2, hf⟩ := hrel
      by_cases hlt : i < n
      · have hin : Hid (InnerAt (laneB P) n i (i + 1) r) := by show _ = _; rw [← hf.out, firstP_step hlt]
        go_wp2_with (fail)
        go_loopw [8] (fun v wr => ∃ j : Nat, i < j ∧ j ≤ n ∧ v = .int .i64 j ∧ Below w.heap.size w wr ∧ Below w1.heap.size w1 wr ∧ Hid (InnerAt (laneB P) n i j r)) (fun v _ => n - (RowKit.intOf v).toNat)
        case atStart => exact ⟨i + 1, by omega, by omega, by go_num, hbr, hb2, hin⟩
        case round =>
          clear hbr hb2
          obtain ⟨j, hij, hj, rfl, hbr, hb2, hf2⟩ := hrel
          by_cases hlj : j < n
          · have hst := firstJ_step (f := laneB P) (i := i) hlj
            obtain ⟨g, o, rfl, hg, hat⟩ := (HRD.out.below hb2).2 (by omega)
            obtain ⟨i1, i2⟩ := hat i (by omega)
            obtain ⟨i3, i4⟩ := hat (i + 1) (by omega)
            obtain ⟨j1, j2⟩ := hat j (by omega)
            obtain ⟨j3, j4⟩ := hat (j + 1) (by omega)
            have hlb : Hid (laneB P i j = ((ptAt P i == ptAt P j && ptAt P (i + 1) == ptAt P (j + 1)) || (ptAt P i == ptAt P (j + 1) && ptAt P (i + 1) == ptAt P j))) := rfl
            generalize laneB P i j = bl at hst hlb
            generalize ptAt P i = p1 at i1 i2 hlb
            generalize ptAt P (i + 1) = p2 at i3 i4 hlb
            generalize ptAt P j = q1 at j1 j2 hlb
            generalize ptAt P (j + 1) = q2 at j3 j4 hlb
            obtain ⟨a1, b1⟩ := p1
            obtain ⟨a2, b2⟩ := p2
            obtain ⟨c1, d1⟩ := q1
            obtain ⟨c2, d2⟩ := q2
            simp only at i1 i2 i3 i4 j1 j2 j3 j4
            have hq : Hid (LaneCases (a1 == c1 && b1 == d1) (a2 == c2 && b2 == d2) (a1 == c2 && b1 == d2) (a2 == c1 && b2 == d1) bl) := lane_cases _ _ _ _ _ (by rw [hlb.out, pair_beq, pair_beq, pair_beq, pair_beq])
            have qA := eq_pair a1 b1 c1 d1
            have qB := eq_pair a2 b2 c2 d2
            have qC := eq_pair a1 b1 c2 d2
            have qD := eq_pair a2 b2 c1 d1
            have e1 : IntKind.i64.wrap ((i : Int) + 1) = (i : Int) + 1 := by rw [IntKind.wrap_i64]; omega
            have e2 : IntKind.i64.wrap ((j : Int) + 1) = (j : Int) + 1 := by rw [IntKind.wrap_i64]; omega
            have e3 : ((i : Int) + 1).toNat = i + 1 := by omega
            have e4 : ((j : Int) + 1).toNat = j + 1 := by omega
            have e5 : (0 : Int) ≤ (i : Int) + 1 := by omega
            have e6 : (0 : Int) ≤ (j : Int) + 1 := by omega
            have e7 : (i : Int) + 1 < (n : Int) + 1 := by omega
            have e8 : (j : Int) + 1 < (n : Int) + 1 := by omega
            have e9 : i < n + 1 := by omega
            have e10 : j < n + 1 := by omega
            have HF1 : bl = true → Hid (r = some (i, j)) := fun h => by show _ = _; rw [← hf2.out, hst, h]; rfl
            have HF2 : bl = false → Hid (InnerAt (laneB P) n i (j + 1) r) := fun h => by
              show _ = _; rw [← hf2.out, hst, h]; simp only [Bool.false_eq_true, if_false]
            clear hst hat hlb hf2
            cases bl
            · have HI := HF2 rfl
              clear HF1 HF2
              rcases hq.out with ⟨_, _, hR⟩ | ⟨hA, hBb, hC, hR⟩ | ⟨hA, hBb, hC, _⟩ | ⟨hA, hC, hR⟩ | ⟨hA, hC, _⟩
              · exact absurd hR (by decide)
              all_goals
                go_wp2_with (fail)
                go_quiet (fail)
                go_wp2_with (fail)
                exact ⟨⟨j + 1, by omega, by omega, by go_num, below_drewN hbr _, below_drewN hb2 _, HI⟩, by simp [RowKit.intOf]; omega⟩
            · have HR := HF1 rfl
              clear HF1 HF2
              rcases hq.out with ⟨hA, hBb, _⟩ | ⟨hA, hBb, hC, hR⟩ | ⟨_, _, _, hR⟩ | ⟨hA, hC, hR⟩ | ⟨_, _, hR⟩
              case inr.inr.inl => exact absurd hR (by decide)
              case inr.inr.inr.inr => exact absurd hR (by decide)
              all_goals
                go_wp2_with (fail)
                go_quiet (fail)
                go_wp2_with (fail)
                go_ret3
                exact ⟨by rw [HR.out]; rfl, below_drewN hbr _⟩
          · have HF : Hid (firstP (laneB P) n (n - (i + 1)) (i + 1) = r) := by
              show _ = _; rw [← hf2.out, show n - j = 0 by omega]; rfl
            go_wp2_with (fail)
            exact ⟨⟨i + 1, by omega, by go_num, hbr, hb2, HF⟩, by simp [RowKit.intOf]; omega⟩
      · have HR : Hid (r = none) := by show _ = _; rw [← hf.out, show n - i = 0 by omega]; rfl
        go_wp2_with (fail)
        go_ret3
        exact ⟨by rw [HR.out]; rfl, hbr⟩
  · have HR : Hid (lanesR cs = .tuple #[.int .i64 0, .int .i64 0, .int .i64 (crE cs)]) := by show _ = _; unfold lanesR; rw [if_neg hz]
    have hPw : Hid (walkP cs = []) := by show _ = _; unfold walkP; rw [if_neg hz]
    have hz2 : (crE cs != 0) = true := by simpa using hz
    rw [HR.out]
    rw [hPw.out] at h1
    generalize crE cs = z at h1 hz2
    clear hz HR hPw
    go_enter Tryd.func37, Tryd.ntmps37
    go_wp2_with (fail)
    refine (h1 _).mono ?_; rintro e w1 ⟨A, c, rfl, _, hb1⟩
    go_wp2_with (fail)
    go_ret3
    exact ⟨rfl, hb1⟩
end Go.Proofs.YtkidghliglmjgabDoor
