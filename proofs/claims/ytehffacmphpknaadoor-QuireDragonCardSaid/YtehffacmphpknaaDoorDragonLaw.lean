/-
  The walk of QuireDragon: it returns true at any two numbers.
-/
import Derived.Test.YtehffacmphpknaaDoorDragonM
import Derived.Test.YtehffacmphpknaaDoorMapP
import Derived.Test.YtehffacmphpknaaDoorTriedM
import Derived.Test.YtehffacmphpknaaDoorWalkedH
import Derived.Test.YtehffacmphpknaaDoorLanesLaw
import Derived.Test.YtehffacmphpknaaDoorWorks
import Derived.Test.YtehffacmphpknaaDoorMirrorLaw
import Derived.Deep.RegionHeld3
set_option linter.unusedSimpArgs false
set_option linter.unusedVariables false
namespace Go.Proofs.YtehffacmphpknaaDoor
open Go.RowKit Go.Lib Go.Proofs.Quire

theorem keep_new1 {W w' : World} (h : Below (W.alloc (.cells #[.int .i64 0, .int .i64 0] 47)).heap.size (W.alloc (.cells #[.int .i64 0, .int .i64 0] 47)) w') :
    w'.cell? ⟨W.heap.size, 0, none⟩ = some (.int .i64 0) ∧ w'.cell? ⟨W.heap.size, 1, none⟩ = some (.int .i64 0) ∧ w'.frozen? ⟨W.heap.size, 0, none⟩ = false ∧ w'.frozen? ⟨W.heap.size, 1, none⟩ = false :=
  ⟨(h.cell (p := ⟨W.heap.size, 0, none⟩) (by simp)).trans (by simp), (h.cell (p := ⟨W.heap.size, 1, none⟩) (by simp)).trans (by simp), (h.frozen (p := ⟨W.heap.size, 0, none⟩) (by simp)).trans (by simp), (h.frozen (p := ⟨W.heap.size, 1, none⟩) (by simp)).trans (by simp)⟩
theorem keep_new2 {W w' : World} (h : Below ((W.alloc (.cells #[.int .i64 0, .int .i64 0] 47)).drew).heap.size ((W.alloc (.cells #[.int .i64 0, .int .i64 0] 47)).drew) w') :
    w'.cell? ⟨W.heap.size, 0, none⟩ = some (.int .i64 0) ∧ w'.cell? ⟨W.heap.size, 1, none⟩ = some (.int .i64 0) ∧ w'.frozen? ⟨W.heap.size, 0, none⟩ = false ∧ w'.frozen? ⟨W.heap.size, 1, none⟩ = false := keep_new1 (W := W) (w' := w') ⟨h.os, h.tape, h.output, h.size, h.block⟩
def LaneEnd (wr W : World) (G : Nat) (a b : Value) : Prop := Below wr.heap.size wr W ∧ W.cell? ⟨G, 0, none⟩ = some a ∧ W.cell? ⟨G, 1, none⟩ = some b
theorem lane_endA {wr w' : World} (h : Below ((wr.alloc (.cells #[.int .i64 0, .int .i64 0] 47)).drew).heap.size ((wr.alloc (.cells #[.int .i64 0, .int .i64 0] 47)).drew) w') (a b : Value) :
    LaneEnd wr ((w'.setCell ⟨wr.heap.size, 0, none⟩ a).setCell ⟨wr.heap.size, 1, none⟩ b) wr.heap.size a b := by
  obtain ⟨q1, q2, _, _⟩ := keep_new2 h
  have hb1 : Below wr.heap.size wr ((wr.alloc (.cells #[.int .i64 0, .int .i64 0] 47)).drew) := ((Below.refl _ wr).alloc (Nat.le_refl _) _).drew
  have hb2 := hb1.trans (h.mono hb1.size)
  refine ⟨(hb2.setCell (p := ⟨wr.heap.size, 0, none⟩) (Nat.le_refl _) a).setCell (p := ⟨wr.heap.size, 1, none⟩) (Nat.le_refl _) b, ?_, ?_⟩
  · rw [World.cell?_setCell_other _ _ _ _ (by intro e; injection e with _ e _; omega), World.cell?_setCell_same _ _ _ q1]
  · rw [World.cell?_setCell_same _ _ _ ((World.cell?_setCell_other _ _ _ _ (by intro e; injection e with _ e _; omega)).trans q2)]
theorem lane_endB {wr w' : World} (h : Below wr.drew.heap.size wr.drew w') (a b : Value) : LaneEnd wr (w'.alloc (.cells #[a, b] 47)) w'.heap.size a b := by
  have h1 : Below wr.heap.size wr w' := ⟨h.os, h.tape, h.output, h.size, h.block⟩
  exact ⟨h1.alloc h1.size _, by simp, by simp⟩
theorem MapP.below {w w' : World} {b : Nat} {ks : List (Int × Int)} (h : MapP w b ks) (hb : Below w.heap.size w w') : MapP w' b ks := by
  obtain ⟨es, cl, h1, h2⟩ := h
  exact ⟨es, cl, (hb.block b (Array.getElem?_eq_some_iff.1 h1).1).trans h1, h2⟩
theorem make_map (W : World) : (Instr.makeMap 48 none).run Tryd.prog W = .ok (.map (some W.heap.size)) (W.alloc (.map #[] 0)) := by
  simp [Instr.makeMap, newObj, Sem.run, Result.andThen]
set_option maxRecDepth 100000 in
set_option maxHeartbeats 4000000 in
theorem dragonLaw_any (m b : Nat) (w : World) (hT : Tab w) (hm : m < 256) (hb : b < 256) :
    Calls Tryd.prog 7 #[.int .u8 m, .int .u8 b] w (ValC (.bool true) w) := by
  have h0 := fun W => foldsH_any m b hm hb W
  obtain ⟨k, hk⟩ : ∃ k, m % 7 = k := ⟨_, rfl⟩
  rw [hk] at h0
  have hk6 : k ≤ 6 := by omega
  have hfl := foldsOf_len b k
  have hz := foldsOf_ok b k (by omega)
  generalize hfs : foldsOf b k = fs at h0 hfl hz
  have hbl : (foldsB fs).length = k := by rw [foldsB_len, hfl]
  have hcp : creP fs = creS (foldsB fs) := by unfold creP; rw [if_pos hz]
  have h1 := fun W => creases_any fs W (small _ (by omega))
  have h2 := fun W => end_any fs W (small _ (by omega))
  rw [hz, hcp] at h1
  have h1 : ∀ W, Calls Tryd.prog 23 #[.string ⟨fs.toArray⟩] W (ValC (.tuple #[.string ⟨(creS (foldsB fs)).toArray⟩, .int .i64 0]) W) := h1
  have hcl := creS_len (foldsB fs)
  rw [hbl] at hcl
  have hcm : ∀ x ∈ creS (foldsB fs), x = 118 ∨ x = 104 := fun x hx => by
    obtain ⟨i, hi, e⟩ := List.mem_iff_getElem.1 hx
    have := creS_get (foldsB fs) (by omega) i (by rw [hbl]; omega)
    rw [getD_lt _ _ _ hi, e] at this
    rw [this]; split
    · exact .inl rfl
    · exact .inr rfl
  have hn64 : 2 ^ k ≤ 64 := Nat.le_trans (Nat.pow_le_pow_right (by omega) hk6) (by decide)
  have hn1 : 1 ≤ 2 ^ k := Nat.one_le_two_pow
  obtain ⟨_, hfp, hnd, hsq⟩ := dragon_lanes (foldsB fs) (by omega)
  rw [hbl] at hfp hsq
  simp only [hbl] at hnd
  rw [show endR fs = .tuple #[.int .i64 (ptAt (walkL (creS (foldsB fs))) ((creS (foldsB fs)).length + 1)).1, .int .i64 (ptAt (walkL (creS (foldsB fs))) ((creS (foldsB fs)).length + 1)).2, .int .i64 0] by unfold endR; rw [if_pos hz, hcp], hcl] at h2
  generalize creS (foldsB fs) = c at h1 h2 hcl hcm hfp hnd hsq
  have hce : crE c = 0 := chkL_all2 (by omega) hcm
  have h3 := fun W => trim_any c W (by omega) hcm
  have h4 := fun W => walkR_any c W (small _ (by omega))
  have h5 := fun W => walked_any c W (by omega)
  have h6 := fun W => lanes_any c W (small _ (by omega))
  rw [hce, show walkP c = walkL c by unfold walkP; rw [if_pos hce]] at h4
  rw [show lanesR c = .tuple #[.int .i64 0, .int .i64 0, .int .i64 13] by unfold lanesR; rw [if_pos hce, hcl, hfp]; rfl] at h6
  obtain ⟨n, hn⟩ : ∃ n, 2 ^ k = n := ⟨_, rfl⟩
  have hwr := Lib.hid (shl_one k n hn (by omega))
  rw [hn] at hcl hn64 hn1 hsq h2
  simp only [hn] at hnd
  have hPl : Hid ((walkL c).length = n + 1) := by show _ = _; rw [walkL_len]; omega
  have hbd := fun i h => walk_bound c i h
  have hszf : (⟨fs.toArray⟩ : ByteArray).size = k := by rw [size_l]; exact hfl
  obtain ⟨N, hN⟩ : ∃ N, c.length = N := ⟨_, rfl⟩
  have hszc : (⟨c.toArray⟩ : ByteArray).size = N := by rw [size_l]; exact hN
  have hne0 : ((N : Int) != (n : Int) - 1) = false := by simp; omega
  have hws := fun W hW => works_any W hW
  generalize walkL c = P at h2 h4 h5 hnd hsq hPl hbd
  obtain ⟨b1, b2⟩ := hbd n (by rw [hPl.out]; omega)
  have hal := fun A A' c c' W h h' => alike_self P (n + 1) hPl.out (by omega) A A' c c' W h h'
  obtain ⟨x, y, hxy⟩ : ∃ x y, ptAt P n = (x, y) := ⟨_, _, rfl⟩
  rw [hxy] at h2 hsq b1 b2
  simp only at h2 hsq b1 b2
  obtain ⟨u, hu⟩ : ∃ u : Nat, x * x = (u : Int) := ⟨x.natAbs * x.natAbs, Int.natAbs_mul_self.symm⟩
  obtain ⟨v, hv⟩ : ∃ v : Nat, y * y = (v : Int) := ⟨y.natAbs * y.natAbs, Int.natAbs_mul_self.symm⟩
  rw [hu, hv] at hsq
  have hne1 : ((u : Int) + (v : Int) != (n : Int)) = false := by simp; omega
  have hx1 : ¬ x < -64 := by omega
  have hx2 : ¬ 64 < x := by omega
  have hy1 : ¬ y < -64 := by omega
  have hy2 : ¬ 64 < y := by omega
  have hu64 : u ≤ 64 := by omega
  have hv64 : v ≤ 64 := by omega
  have heq := eq_pair x y x y
  rw [show (x == x && y == y) = true by simp] at heq
  generalize (⟨fs.toArray⟩ : ByteArray) = s0 at h0 h1 h2 hszf
  generalize (⟨c.toArray⟩ : ByteArray) = sc at h1 h3 h4 h5 h6 hszc
  have HND := Lib.hid hnd; have HBD := Lib.hid hbd; have HXY := Lib.hid hxy
  clear hnd hbd hfp hcm hz hfs hbl hcp hce hcl hN hn hfl hxy
  go_enter Tryd.func7, Tryd.ntmps7
  go_wp2_with (fail)
  refine (h0 _).mono ?_; rintro e w1 ⟨rfl, q1, rfl⟩
  have hB1 : Below w.heap.size w (w.drewN q1) := below_drewN (Below.refl _ _) _
  generalize w.drewN q1 = w1 at hB1 ⊢
  go_wp2_with (fail)
  refine (h1 _).mono ?_; rintro e w2 ⟨rfl, hb2⟩
  have hB2 := hB1.trans (hb2.mono hB1.size)
  go_wp2_with (fail)
  refine (h2 _).mono ?_; rintro e w3 ⟨rfl, hb3⟩
  have hB3 := hB2.trans (hb3.mono hB2.size)
  clear hB1 hb2 hB2 hb3 h0 h1 h2
  go_wp2_with (simp only [hwr.out])
  refine (h3 _).mono ?_; rintro e w4 ⟨rfl, hb4⟩
  have hB4 := hB3.trans (hb4.mono hB3.size)
  go_wp2_with (simp only [hwr.out])
  refine (h4 _).mono ?_; rintro e w5 ⟨A5, c5, rfl, hr5, hb5⟩
  rw [hPl.out] at hr5
  rw [hPl.out]
  have hB5 := hB4.trans (hb5.mono hB4.size)
  clear hB3 hb4 hB4 hb5 h3 h4
  go_wp2_with (fail)
  refine (h5 _).mono ?_; rintro e w6 ⟨A6, c6, rfl, hr6, hb6⟩
  rw [hPl.out] at hr6
  rw [hPl.out]
  have hr56 := hr5.below hb6
  have hB6 := hB5.trans (hb6.mono hB5.size)
  clear hr5 hB5 hb6 h5
  obtain ⟨g, o, rfl, hat⟩ := hr56.2 (by omega)
  have hcx := (hat.2 n (by omega))
  rw [HXY.out] at hcx
  obtain ⟨hc1, hc2⟩ := hcx
  simp only at hc1 hc2
  go_wp2_with (fail)
  refine (hal _ _ _ _ _ hr56 hr6).mono ?_; rintro e w7 ⟨rfl, hb7⟩
  have hr57 := hr56.below hb7
  have hat7 := hat.below hb7
  have hB7 := hB6.trans (hb7.mono hB6.size)
  have hd1 := (hb7.cell (p := ⟨g, o + n * 2, none⟩) hat.1).trans hc1
  have hd2 := (hb7.cell (p := ⟨g, o + n * 2 + 1, none⟩) hat.1).trans hc2
  clear hr56 hr6 hat hc1 hc2 hB6 hb7 hal
  have hgn : (n : Int) < (n : Int) + 1 := by omega
  have hmk := make_map w7
  go_wp2_with (fail)
  clear hmk
  have hM0 : MapP (w7.alloc (.map #[] 0)) w7.heap.size [] := ⟨#[], 0, heap_alloc_new w7 (.map #[] 0), rfl⟩
  have hb8 : Below w7.heap.size w7 (w7.alloc (.map #[] 0)) := (Below.refl _ _).alloc (Nat.le_refl _) _
  have hsz7 := hB7.size
  generalize w7.alloc (.map #[] 0) = w8 at hM0 hb8 ⊢
  go_loopw [14, 15, 106] (fun _ _ v wr => ∃ i : Nat, i ≤ n ∧ v = .int .i64 i ∧ MapP wr w7.heap.size ((List.range i).map (laneS P)) ∧ Below w7.heap.size w7 wr ∧ w7.heap.size < wr.heap.size) (fun _ _ v _ => n - (RowKit.intOf v).toNat)
  case atStart => exact ⟨0, Nat.zero_le _, rfl, hM0, hb8, by obtain ⟨es, cl, h, _⟩ := hM0; exact (Array.getElem?_eq_some_iff.1 h).1⟩
  case round =>
    clear hM0 hb8 hd1 hd2
    obtain ⟨i, hi, rfl, hM, hbr, hlt7⟩ := hrel
    by_cases hlt : i < n
    · have hg := hat7.1
      obtain ⟨i1, i2⟩ := (hat7.below hbr).2 i (by omega)
      obtain ⟨i3, i4⟩ := (hat7.below hbr).2 (i + 1) (by omega)
      obtain ⟨bi1, bi2⟩ := HBD.out i (by rw [hPl.out]; omega)
      obtain ⟨bi3, bi4⟩ := HBD.out (i + 1) (by rw [hPl.out]; omega)
      have hnin : laneS P i ∉ (List.range i).map (laneS P) := fun h => by
        obtain ⟨j, hj, e⟩ := List.mem_map.1 h
        exact HND.out j i (List.mem_range.1 hj) hlt e
      have hnext : (List.range (i + 1)).map (laneS P) = (List.range i).map (laneS P) ++ [laneS P i] := by rw [List.range_succ, List.map_append]; rfl
      have HNX := Lib.hid hnext
      clear hnext
      have hls : laneS P i = ((ptAt P i).1 + (ptAt P (i + 1)).1, (ptAt P i).2 + (ptAt P (i + 1)).2) := rfl
      generalize ptAt P i = p1 at hls bi1 bi2 i1 i2
      generalize ptAt P (i + 1) = p2 at hls bi3 bi4 i3 i4
      obtain ⟨x1, y1⟩ := p1; obtain ⟨x2, y2⟩ := p2
      simp only at hls bi1 bi2 bi3 bi4 i1 i2 i3 i4
      have hv := fun W => lane_val x1 y1 x2 y2 (by omega) (by omega) (by omega) (by omega) W
      generalize x1 + x2 = sx at hls hv; generalize y1 + y2 = sy at hls hv
      rw [hls] at hnin HNX
      have e1 : IntKind.i64.wrap ((i : Int) + 1) = (i : Int) + 1 := by rw [IntKind.wrap_i64]; omega
      have e3 : (0 : Int) ≤ (i : Int) + 1 := by omega
      have e5 : (i : Int) + 1 < (n : Int) + 1 := by omega
      have e7 : ((i : Int) + 1).toNat = i + 1 := by omega
      have e9 : (i : Int) < (n : Int) + 1 := by omega
      have e11 : (0 : Int) ≤ (i : Int) := by omega
      have hgl : g < wr.heap.size := Nat.lt_of_lt_of_le hg hbr.size
      go_wp2_with (fail)
      go_region_with (first | (go_at_call 45; refine (hv _).mono ?_; rintro e w' ⟨rfl, hbc⟩; (first | (have q0 := keep_new1 hbc; obtain ⟨q1, q2, q3, q4⟩ := q0) | (have q0 := keep_new2 hbc; obtain ⟨q1, q2, q3, q4⟩ := q0) | skip)))
      all_goals
        first
          | (have hE := lane_endA hbc (.int .i64 sx) (.int .i64 sy)
             revert hE
             generalize ((w'.setCell ⟨wr.heap.size, 0, none⟩ (.int .i64 sx)).setCell ⟨wr.heap.size, 1, none⟩ (.int .i64 sy)) = W3
             generalize wr.heap.size = G
             intro hE)
          | (have hE := lane_endB hbc (.int .i64 sx) (.int .i64 sy)
             revert hE
             generalize (w'.alloc (.cells #[.int .i64 sx, .int .i64 sy] 47)) = W3
             generalize w'.heap.size = G
             intro hE)
        obtain ⟨hb3, hg0, hg1⟩ := hE
        have hM3 := hM.below hb3
        have hB3 : Below w7.heap.size w7 W3 := hbr.trans (hb3.mono hbr.size)
        have hlk := lookup_pt w7.heap.size sx sy W3 _ hM3 hnin
        obtain ⟨W4, hup, hM4, hk4⟩ := update_pt w7.heap.size sx sy (.bool true) W3 _ hM3 hnin
        have hB4 : Below w7.heap.size w7 W4 := hB3.trans (hk4.below hB3.size (by simp))
        rw [← HNX.out] at hM4
        have hM4' := Lib.hid hM4
        clear hM hM3 hb3 hbc hk4 hM4 i1 i2 i3 i4
        go_wp2_with (fail)
        exact ⟨⟨i + 1, by omega, by go_num, hM4'.out, hB4, by obtain ⟨es, cl, h, _⟩ := hM4'.out; exact (Array.getElem?_eq_some_iff.1 h).1⟩, by simp [RowKit.intOf]; omega⟩
    · obtain rfl : i = n := by omega
      have hBr := hB7.trans (hbr.mono hsz7)
      clear hM
      go_wp2_with (fail)
      refine (h6 _).mono ?_; rintro e w9 ⟨rfl, hb9⟩
      have hB9 := hBr.trans (hb9.mono hBr.size)
      have hT9 := hT.below hB9
      go_wp2_with (fail)
      refine (hws _ hT9).mono ?_; rintro e w10 ⟨rfl, hb10⟩
      have hB10 := hB9.trans (hb10.mono hB9.size)
      go_wp2_with (fail)
      go_ret
      exact ⟨rfl, hB10⟩
end Go.Proofs.YtehffacmphpknaaDoor
