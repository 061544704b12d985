/-
  Package quire's Walk and Lanes.
-/
import Derived.Test.YtbkmicimpgabgaaDoorLane
import Derived.Test.YtbkmicimpgabgaaDoorClash
set_option linter.unusedSimpArgs false
set_option linter.unusedVariables false
namespace Go.Proofs.Quire
def crE (cs : List UInt8) : Int := chkL 63 118 104 cs
def walkP (cs : List UInt8) : List (Int × Int) := if crE cs = 0 then walkL cs else []
theorem crE_lt {cs : List UInt8} (h : crE cs = 0) : cs.length ≤ 63 ∧ ∀ c ∈ cs, c.toNat < 128 := by
  obtain ⟨h1, h2⟩ := chkL_zero h
  refine ⟨h1, fun c hc => ?_⟩
  rcases h2 c hc with rfl | rfl <;> decide
end Go.Proofs.Quire
namespace Go.Proofs.YtbkmicimpgabgaaDoor
open Go.RowKit Go.Lib Go.Proofs.Quire

def WalkRPost (w : World) (z : Int) (P : List (Int × Int)) (e : Ending) (w' : World) : Prop :=
  ∃ A c, e = .returned (.tuple #[.slice A P.length c, .int .i64 z]) ∧ RdP w' A P.length P ∧ Below w.heap.size w w'
set_option maxRecDepth 100000 in
set_option maxHeartbeats 1000000 in
theorem walkR_any (cs : List UInt8) (w : World) (hs : cs.length ≤ maxLen) :
    Calls Tryd.prog 32 #[.string ⟨cs.toArray⟩] w (WalkRPost w (crE cs) (walkP cs)) := by
  have h1 := fun W => checkCreases_any ⟨cs.toArray⟩ W (by rw [size_l]; exact hs)
  simp only [List.toList_toArray] at h1
  by_cases hz : crE cs = 0
  · obtain ⟨hl, hc⟩ := crE_lt hz
    have h2 := fun W => walk_any cs W hl hc
    have HP : Hid (walkP cs = walkL cs) := by show _ = _; unfold walkP; rw [if_pos hz]
    rw [HP.out, hz]
    rw [show chkL 63 118 104 cs = 0 from hz] at h1
    clear hz HP
    generalize walkL cs = P at h2 ⊢
    go_enter Tryd.func32, Tryd.ntmps32
    go_wp2_with (fail)
    refine (h1 _).mono ?_; rintro e w1 ⟨rfl, hb1⟩
    go_wp2_with (fail)
    refine (h2 _).mono ?_; rintro e w2 ⟨A, c, rfl, hown, hb2⟩
    go_wp2_with (fail)
    go_ret2
    exact ⟨A, c, rfl, own_rdP hown rfl, hb1.trans (hb2.mono hb1.size)⟩
  · have HP : Hid (walkP cs = []) := by show _ = _; unfold walkP; rw [if_neg hz]
    have hz2 : (crE cs != 0) = true := by simpa using hz
    rw [HP.out]
    rw [show chkL 63 118 104 cs = crE cs from rfl] at h1
    generalize crE cs = z at h1 hz2 ⊢
    clear hz HP
    go_enter Tryd.func32, Tryd.ntmps32
    go_wp2_with (fail)
    refine (h1 _).mono ?_; rintro e w1 ⟨rfl, hb1⟩
    go_wp2_with (fail)
    go_ret2
    exact ⟨none, 0, rfl, ⟨rfl, fun h => absurd h (by simp)⟩, hb1⟩

def lanesR (cs : List UInt8) : Value := if crE cs = 0 then pairR (firstP (laneB (walkL cs)) (cs.length + 1) (cs.length + 1) 0) else .tuple #[.int .i64 0, .int .i64 0, .int .i64 (crE cs)]
set_option maxRecDepth 100000 in
set_option maxHeartbeats 2000000 in
theorem lanes_any (cs : List UInt8) (w : World) (hs : cs.length ≤ maxLen) :
    Calls Tryd.prog 33 #[.string ⟨cs.toArray⟩] w fun e w' => e = .returned (lanesR cs) ∧ Below w.heap.size w w' := by
  have h1 := fun W => checkCreases_any ⟨cs.toArray⟩ W (by rw [size_l]; exact hs)
  simp only [List.toList_toArray] at h1
  by_cases hz : crE cs = 0
  · obtain ⟨hl, hc⟩ := crE_lt hz
    have h2 := fun W => walk_any cs W hl hc
    have hP := walkL_len cs
    obtain ⟨n, hn⟩ : ∃ n, Hid (cs.length + 1 = n) := ⟨_, rfl⟩
    obtain ⟨r, hr⟩ : ∃ r, Hid (firstP (laneB (walkL cs)) n (n - 0) 0 = r) := ⟨_, rfl⟩
    have HV : Hid (lanesR cs = pairR r) := by show _ = _; unfold lanesR; rw [if_pos hz, ← hr.out, ← hn.out]; rfl
    rw [HV.out]
    rw [show chkL 63 118 104 cs = 0 from hz] at h1
    have hP2 : (walkL cs).length = n + 1 := by rw [hP, ← hn.out]
    have hn64 : n ≤ 64 := by rw [← hn.out]; omega
    clear hz HV hP hc
    generalize walkL cs = P at h2 hr hP2
    have HP2 := Lib.hid hP2
    go_enter Tryd.func33, Tryd.ntmps33
    go_wp2_with (fail)
    refine (h1 _).mono ?_; rintro e w1 ⟨rfl, hb1⟩
    go_wp2_with (fail)
    refine (h2 _).mono ?_; rintro e w2 ⟨A, c, rfl, hown, hb2⟩
    have hrd := own_rdP hown rfl
    have hB := hb1.trans (hb2.mono hb1.size)
    rw [HP2.out] at hrd
    rw [HP2.out]
    clear hown hb2 hb1 hP2
    have HRD := Lib.hid hrd; clear hrd
    go_wp2_with (fail)
    go_loopw [21] (fun v wr => ∃ i : Nat, i ≤ n ∧ v = .int .i64 i ∧ Below w.heap.size w wr ∧ Below w2.heap.size w2 wr ∧ Hid (firstP (laneB P) n (n - i) i = r)) (fun v _ => n - (intOf v).toNat)
    case atStart => exact ⟨0, Nat.zero_le _, rfl, hB, Below.refl _ _, hr⟩
    case round =>
      clear hB
      obtain ⟨i, hi, rfl, hbr, hb2, hf⟩ := hrel
      by_cases hlt : i < n
      · have hin : Hid (InnerAt (laneB P) n i (i + 1) r) := by show _ = _; rw [← hf.out, firstP_step hlt]
        go_wp2_with (fail)
        go_loopw [9] (fun v wr => ∃ j : Nat, i < j ∧ j ≤ n ∧ v = .int .i64 j ∧ Below w.heap.size w wr ∧ Below w2.heap.size w2 wr ∧ Hid (InnerAt (laneB P) n i j r)) (fun v _ => n - (intOf v).toNat)
        case atStart => exact ⟨i + 1, by omega, by omega, by go_num, hbr, hb2, hin⟩
        case round =>
          clear hbr hb2
          obtain ⟨j, hij, hj, rfl, hbr, hb2, hf2⟩ := hrel
          by_cases hlj : j < n
          · have hc := fun W h => sameLane_any A (n + 1) c i j P W h (by omega) (by omega) (by omega)
            have hst := firstJ_step (f := laneB P) (i := i) hlj
            have hrd2 := HRD.out.below hb2
            cases hcb : laneB P i j with
            | true =>
              rw [hcb] at hc hst
              have HR : Hid (r = some (i, j)) := by show _ = _; rw [← hf2.out, hst]; rfl
              clear hst hcb
              go_wp2_with (fail)
              refine (hc _ hrd2).mono ?_; rintro e w3 ⟨rfl, hb3⟩
              go_wp2_with (fail)
              go_ret3
              exact ⟨by rw [HR.out]; rfl, hbr.trans (hb3.mono hbr.size)⟩
            | false =>
              rw [hcb] at hc hst
              have HI : Hid (InnerAt (laneB P) n i (j + 1) r) := by
                show _ = _; rw [← hf2.out, hst]; simp only [Bool.false_eq_true, if_false]
              clear hst hcb
              go_wp2_with (fail)
              refine (hc _ hrd2).mono ?_; rintro e w3 ⟨rfl, hb3⟩
              go_wp2_with (fail)
              exact ⟨⟨j + 1, by omega, by omega, by go_num, hbr.trans (hb3.mono hbr.size), hb2.trans (hb3.mono hb2.size), HI⟩, by simp [intOf]; omega⟩
          · have HF : Hid (firstP (laneB P) n (n - (i + 1)) (i + 1) = r) := by
              show _ = _; rw [← hf2.out, show n - j = 0 by omega]; rfl
            go_wp2_with (fail)
            exact ⟨⟨i + 1, by omega, by go_num, hbr, hb2, HF⟩, by simp [intOf]; omega⟩
      · have HR : Hid (r = none) := by show _ = _; rw [← hf.out, show n - i = 0 by omega]; rfl
        go_wp2_with (fail)
        go_ret3
        exact ⟨by rw [HR.out]; rfl, hbr⟩
  · have HR : Hid (lanesR cs = .tuple #[.int .i64 0, .int .i64 0, .int .i64 (crE cs)]) := by show _ = _; unfold lanesR; rw [if_neg hz]
    have hz2 : (crE cs != 0) = true := by simpa using hz
    rw [HR.out]
    rw [show chkL 63 118 104 cs = crE cs from rfl] at h1
    generalize crE cs = z at h1 hz2
    clear hz HR
    go_enter Tryd.func33, Tryd.ntmps33
    go_wp2_with (fail)
    refine (h1 _).mono ?_; rintro e w1 ⟨rfl, hb1⟩
    go_wp2_with (fail)
    go_ret3
    exact ⟨rfl, hb1⟩
end Go.Proofs.YtbkmicimpgabgaaDoor
