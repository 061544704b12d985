/-
  The walk of QuireLanes: it returns true at any two numbers.
-/
import Derived.Test.YtehffacmphpknaaDoorWalkedH
import Derived.Test.YtehffacmphpknaaDoorFoldH
import Derived.Test.YtehffacmphpknaaDoorLaneH
import Derived.Test.YtehffacmphpknaaDoorWorks
import Derived.Deep.RegionHeld3
set_option linter.unusedSimpArgs false
set_option linter.unusedVariables false
namespace Go.Proofs.YtehffacmphpknaaDoor
open Go.RowKit Go.Lib Go.Proofs.Quire

theorem creasesOf_ok (b k : Nat) (hk : k ≤ 63) : crE (creasesOf b k) = 0 :=
  chkL_ok (by rw [creasesOf_len]; exact hk) (fun c hc => by
    obtain ⟨i, _, rfl⟩ := List.mem_map.1 hc
    unfold bitC; split <;> simp)
theorem lane_val (a b c d : Int) (ha : -100 ≤ a ∧ a ≤ 100) (hb : -100 ≤ b ∧ b ≤ 100) (hc : -100 ≤ c ∧ c ≤ 100) (hd : -100 ≤ d ∧ d ≤ 100) (w : World) :
    Calls Tryd.prog 45 #[.agg #[.int .i64 a, .int .i64 b], .agg #[.int .i64 c, .int .i64 d]] w (ValC (.agg #[.int .i64 (a + c), .int .i64 (b + d)]) w) :=
  lane_any a b c d (by omega) (by omega) (by omega) (by omega) w
set_option maxRecDepth 100000 in
set_option maxHeartbeats 4000000 in
theorem lanesLaw_any (m b : Nat) (w : World) (hT : Tab w) (hm : m < 256) (hb : b < 18446744073709551616) :
    Calls Tryd.prog 8 #[.int .u8 m, .int .u64 b] w (ValC (.bool true) w) := by
  have h0 := fun W => creasedH_any m b hm hb W
  have hlen := creasesOf_len b (m % 64)
  have hz := creasesOf_ok b (m % 64) (by omega)
  generalize creasesOf b (m % 64) = cs at h0 hlen hz
  have hcs : cs.length ≤ 63 := by omega
  have h1 := fun W => walkR_any cs W (small _ (by omega))
  have h2 := fun W => walked_any cs W hcs
  have h3 := fun W => lanes_any cs W (small _ (by omega))
  rw [hz] at h1
  rw [show walkP cs = walkL cs by unfold walkP; rw [if_pos hz]] at h1
  obtain ⟨n, hn⟩ : ∃ n, Hid (cs.length + 1 = n) := ⟨_, rfl⟩
  obtain ⟨r, hr⟩ : ∃ r, Hid (firstP (laneB (walkL cs)) n (n - 0) 0 = r) := ⟨_, rfl⟩
  have HV : lanesR cs = pairR r := by unfold lanesR; rw [if_pos hz, ← hr.out, ← hn.out]; rfl
  rw [HV] at h3
  have hn64 : n ≤ 64 := by rw [← hn.out]; omega
  have hP2 : Hid ((walkL cs).length = n + 1) := by show _ = _; rw [walkL_len, ← hn.out]
  have hlb := fun i j h1 h2 => lane_sum cs i j h1 h2
  have hbd := fun k h => walk_bound cs k h
  have hws := fun W hW => works_any W hW
  generalize walkL cs = P at h1 h2 hr hP2 hlb hbd
  generalize (⟨cs.toArray⟩ : ByteArray) = s at h0 h1 h2 h3
  have HLB := Lib.hid hlb; have HBD := Lib.hid hbd
  have hal := fun A A' c c' W h h' => alike_self P (n + 1) hP2.out (by omega) A A' c c' W h h'
  clear hlb hbd HV hz hlen hcs
  go_enter Tryd.func8, Tryd.ntmps8
  go_wp2_with (fail)
  refine (h0 _).mono ?_; rintro e w1 ⟨rfl, q1, rfl⟩
  have hB1 : Below w.heap.size w (w.drewN q1) := below_drewN (Below.refl _ _) _
  generalize w.drewN q1 = w1 at hB1 ⊢
  go_wp2_with (fail)
  refine (h1 _).mono ?_; rintro e w2 ⟨A1, c1, rfl, hr1, hb1⟩
  rw [hP2.out] at hr1
  rw [hP2.out]
  have hB2 := hB1.trans (hb1.mono hB1.size)
  clear hB1 hb1 h0 h1
  go_wp2_with (fail)
  refine (h2 _).mono ?_; rintro e w3 ⟨A2, c2, rfl, hr2, hb2⟩
  rw [hP2.out] at hr2
  rw [hP2.out]
  have hr13 := hr1.below hb2
  have hB3 := hB2.trans (hb2.mono hB2.size)
  clear hB2 hb2 h2 hr1
  go_wp2_with (fail)
  refine (hal _ _ _ _ _ hr13 hr2).mono ?_; rintro e w4 ⟨rfl, hb4⟩
  have hr24 := hr2.below hb4
  have hB4 := hB3.trans (hb4.mono hB3.size)
  clear hB3 hb4 hal hr13 hr2
  go_wp2_with (fail)
  refine (h3 _).mono ?_; rintro e w5 ⟨rfl, hb5⟩
  have hr25 := hr24.below hb5
  have hB5 := hB4.trans (hb5.mono hB4.size)
  clear hB4 hb5 h3 hr24
  obtain ⟨x, y, z, hxyz, hxb⟩ : ∃ x y z : Int, pairR r = .tuple #[.int .i64 x, .int .i64 y, .int .i64 z] ∧ Hid ((∃ i j : Nat, r = some (i, j) ∧ x = i ∧ y = j ∧ z = 0) ∨ (r = none ∧ x = 0 ∧ y = 0 ∧ z = 13)) := by
    rcases r with _ | ⟨i, j⟩
    · exact ⟨_, _, _, rfl, .inr ⟨rfl, rfl, rfl, rfl⟩⟩
    · exact ⟨_, _, _, rfl, .inl ⟨i, j, rfl, rfl, rfl, rfl⟩⟩
  rw [hxyz]
  clear hxyz
  have HRD := Lib.hid hr25; clear hr25
  go_wp2_with (fail)
  go_loopw [40] (fun v wr => ∃ i : Nat, i ≤ n ∧ v = .int .i64 i ∧ Below w.heap.size w wr ∧ Below w5.heap.size w5 wr ∧ Hid (firstP (laneB P) n (n - i) i = r)) (fun v _ => n - (RowKit.intOf v).toNat)
  case atStart => exact ⟨0, Nat.zero_le _, rfl, hB5, Below.refl _ _, hr⟩
  case round =>
    clear hB5
    obtain ⟨i, hi, rfl, hbr, hb2, hf⟩ := hrel
    by_cases hlt : i < n
    · have hin : Hid (InnerAt (laneB P) n i (i + 1) r) := by show _ = _; rw [← hf.out, firstP_step hlt]
      go_wp2_with (fail)
      go_loopw [12] (fun v wr => ∃ j : Nat, i < j ∧ j ≤ n ∧ v = .int .i64 j ∧ Below w.heap.size w wr ∧ Below w5.heap.size w5 wr ∧ Hid (InnerAt (laneB P) n i j r)) (fun v _ => n - (RowKit.intOf v).toNat)
      case atStart => exact ⟨i + 1, by omega, by omega, by go_num, hbr, hb2, hin⟩
      case round =>
        clear hbr hb2
        obtain ⟨j, hij, hj, rfl, hbr, hb2, hf2⟩ := hrel
        by_cases hlj : j < n
        · have hst := firstJ_step (f := laneB P) (i := i) hlj
          obtain ⟨g, o, rfl, hat⟩ := (HRD.out.below hb2).2 (by omega)
          have hl0 := HLB.out i j (by rw [hP2.out]; omega) (by rw [hP2.out]; omega)
          obtain ⟨bi1, bi2⟩ := HBD.out i (by rw [hP2.out]; omega)
          obtain ⟨bi3, bi4⟩ := HBD.out (i + 1) (by rw [hP2.out]; omega)
          obtain ⟨bj1, bj2⟩ := HBD.out j (by rw [hP2.out]; omega)
          obtain ⟨bj3, bj4⟩ := HBD.out (j + 1) (by rw [hP2.out]; omega)
          obtain ⟨i1, i2⟩ := hat.2 i (by omega)
          obtain ⟨i3, i4⟩ := hat.2 (i + 1) (by omega)
          obtain ⟨j1, j2⟩ := hat.2 j (by omega)
          obtain ⟨j3, j4⟩ := hat.2 (j + 1) (by omega)
          have hgl := hat.1
          unfold laneS at hl0
          clear hat
          generalize ptAt P i = p1 at hl0 bi1 bi2 i1 i2
          generalize ptAt P (i + 1) = p2 at hl0 bi3 bi4 i3 i4
          generalize ptAt P j = p3 at hl0 bj1 bj2 j1 j2
          generalize ptAt P (j + 1) = p4 at hl0 bj3 bj4 j3 j4
          obtain ⟨x1, y1⟩ := p1; obtain ⟨x2, y2⟩ := p2; obtain ⟨x3, y3⟩ := p3; obtain ⟨x4, y4⟩ := p4
          simp only at hl0 bi1 bi2 bi3 bi4 bj1 bj2 bj3 bj4 i1 i2 i3 i4 j1 j2 j3 j4
          have hv1 := fun W => lane_val x1 y1 x2 y2 (by omega) (by omega) (by omega) (by omega) W
          have hv2 := fun W => lane_val x3 y3 x4 y4 (by omega) (by omega) (by omega) (by omega) W
          have heq := eq_pair (x1 + x2) (y1 + y2) (x3 + x4) (y3 + y4)
          rw [← hl0] at heq
          have HL1 := Lib.hid hv1; have HL2 := Lib.hid hv2; have HST := Lib.hid hst
          generalize x1 + x2 = sx at HL1 heq; generalize y1 + y2 = sy at HL1 heq
          generalize x3 + x4 = tx at HL2 heq; generalize y3 + y4 = ty at HL2 heq
          clear hv1 hv2 hl0 bi1 bi2 bi3 bi4 bj1 bj2 bj3 bj4 hst
          have e1 : IntKind.i64.wrap ((i : Int) + 1) = (i : Int) + 1 := by rw [IntKind.wrap_i64]; omega
          have e2 : IntKind.i64.wrap ((j : Int) + 1) = (j : Int) + 1 := by rw [IntKind.wrap_i64]; omega
          have e3 : (0 : Int) ≤ (i : Int) + 1 := by omega
          have e4 : (0 : Int) ≤ (j : Int) + 1 := by omega
          have e5 : (i : Int) + 1 < (n : Int) + 1 := by omega
          have e6 : (j : Int) + 1 < (n : Int) + 1 := by omega
          have e9 : (i : Int) < (n : Int) + 1 := by omega
          have e10 : (j : Int) < (n : Int) + 1 := by omega
          have e11 : (0 : Int) ≤ (i : Int) := by omega
          have e12 : (0 : Int) ≤ (j : Int) := by omega
          have e7 : ((i : Int) + 1).toNat = i + 1 := by omega
          have e8 : ((j : Int) + 1).toNat = j + 1 := by omega
          have kc : ∀ w', Below wr.heap.size wr w' → ∀ k v, wr.cell? ⟨g, k, none⟩ = some v → w'.cell? ⟨g, k, none⟩ = some v := fun w' hb k v h => (hb.cell (p := ⟨g, k, none⟩) hgl).trans h
          have a1 : ∀ w', Below wr.heap.size wr w' → w'.cell? ⟨g, o + i * 2, none⟩ = some (.int .i64 x1) := fun w' hb => kc w' hb _ _ i1
          have a2 : ∀ w', Below wr.heap.size wr w' → w'.cell? ⟨g, o + i * 2 + 1, none⟩ = some (.int .i64 y1) := fun w' hb => kc w' hb _ _ i2
          have a3 : ∀ w', Below wr.heap.size wr w' → w'.cell? ⟨g, o + (i + 1) * 2, none⟩ = some (.int .i64 x2) := fun w' hb => kc w' hb _ _ i3
          have a4 : ∀ w', Below wr.heap.size wr w' → w'.cell? ⟨g, o + (i + 1) * 2 + 1, none⟩ = some (.int .i64 y2) := fun w' hb => kc w' hb _ _ i4
          have a5 : ∀ w', Below wr.heap.size wr w' → w'.cell? ⟨g, o + j * 2, none⟩ = some (.int .i64 x3) := fun w' hb => kc w' hb _ _ j1
          have a6 : ∀ w', Below wr.heap.size wr w' → w'.cell? ⟨g, o + j * 2 + 1, none⟩ = some (.int .i64 y3) := fun w' hb => kc w' hb _ _ j2
          have a7 : ∀ w', Below wr.heap.size wr w' → w'.cell? ⟨g, o + (j + 1) * 2, none⟩ = some (.int .i64 x4) := fun w' hb => kc w' hb _ _ j3
          have a8 : ∀ w', Below wr.heap.size wr w' → w'.cell? ⟨g, o + (j + 1) * 2 + 1, none⟩ = some (.int .i64 y4) := fun w' hb => kc w' hb _ _ j4
          clear kc i1 i2 i3 i4 j1 j2 j3 j4
          have hrefl : Below wr.heap.size wr wr.drew := (Below.refl _ _).drew
          go_wp2_with (fail)
          go_region_held3 (fun w' => Below wr.heap.size wr w')
            (first
              | assumption
              | exact Below.trans (b := wr.drew) (by assumption) (hbc.mono (Nat.le_refl _))
              | exact Below.trans (by assumption) (hbc.mono (Below.size (B := wr.heap.size) (w := wr) (by assumption))))
            ((go_at_call 45; (first | ((with_reducible refine (HL1.out _).mono ?_); rintro e w' ⟨rfl, hbc⟩) | ((with_reducible refine (HL2.out _).mono ?_); rintro e w' ⟨rfl, hbc⟩))))
          rename_i hHd
          have hbW : Below w.heap.size w w' := hbr.trans (hHd.mono hbr.size)
          have hb5W : Below w5.heap.size w5 w' := hb2.trans (hHd.mono hb2.size)
          clear hHd hbr hb2 a1 a2 a3 a4 a5 a6 a7 a8 HL1 HL2 hrefl e1 e2 e3 e4 e5 e6 e7 e8 e9 e10 e11 e12 hgl
          cases hcb : laneB P i j with
          | true =>
            have HR : r = some (i, j) := by
              have := HST.out; rw [← hf2.out, this, hcb]; rfl
            have hxx : x = i ∧ y = j ∧ z = 0 := by
              rcases hxb.out with ⟨i', j', h, h1, h2, h3⟩ | ⟨h, _⟩
              · rw [HR] at h; injection h with h; injection h with h4 h5
                exact ⟨by rw [h1, h4], by rw [h2, h5], h3⟩
              · rw [HR] at h; cases h
            obtain ⟨rfl, rfl, rfl⟩ := hxx
            have hT5 := hT.below hbW
            clear HR hf2 hf hxb hr HST
            go_wp2_with (fail)
            refine (hws _ hT5).mono ?_; rintro e w6 ⟨rfl, hb6⟩
            have hB6 := hbW.trans (hb6.mono hbW.size)
            go_wp2_with (fail)
            go_ret
            exact ⟨rfl, hB6⟩
          | false =>
            have HI : Hid (InnerAt (laneB P) n i (j + 1) r) := by
              have := HST.out; show _ = _; rw [← hf2.out, this, hcb]; simp only [Bool.false_eq_true, if_false]
            clear hf2 HST
            go_wp2_with (fail)
            exact ⟨⟨j + 1, by omega, by omega, by go_num, hbW, hb5W, HI⟩, by simp [RowKit.intOf]; omega⟩
        · have HF : Hid (firstP (laneB P) n (n - (i + 1)) (i + 1) = r) := by
            show _ = _; rw [← hf2.out, show n - j = 0 by omega]; rfl
          go_wp2_with (fail)
          exact ⟨⟨i + 1, by omega, by go_num, hbr, hb2, HF⟩, by simp [RowKit.intOf]; omega⟩
    · have HR : r = none := by rw [← hf.out, show n - i = 0 by omega]; rfl
      have hxx : x = 0 ∧ y = 0 ∧ z = 13 := by
        rcases hxb.out with ⟨i, j, h, _⟩ | ⟨_, h⟩
        · rw [HR] at h; cases h
        · exact h
      obtain ⟨rfl, rfl, rfl⟩ := hxx
      have hT5 := hT.below hbr
      clear HR hf hxb hr
      go_wp2_with (fail)
      refine (hws _ hT5).mono ?_; rintro e w6 ⟨rfl, hb6⟩
      have hB6 := hbr.trans (hb6.mono hbr.size)
      go_wp2_with (fail)
      go_ret
      exact ⟨rfl, hB6⟩
end Go.Proofs.YtehffacmphpknaaDoor
