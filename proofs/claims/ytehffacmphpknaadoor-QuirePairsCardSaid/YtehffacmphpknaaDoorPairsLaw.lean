/-
  The walk of QuirePairs: it returns true at any two numbers.
-/
import Derived.Test.YtehffacmphpknaaDoorFactU
import Derived.Test.YtehffacmphpknaaDoorFactQ
import Derived.Test.YtehffacmphpknaaDoorWorks
import Derived.Test.YtehffacmphpknaaDoorMirrorLaw
set_option linter.unusedSimpArgs false
set_option linter.unusedVariables false
namespace Go.Proofs.YtehffacmphpknaaDoor
open Go.RowKit Go.Lib Go.Proofs.Quire

set_option maxRecDepth 100000 in
set_option maxHeartbeats 4000000 in
theorem pairsLaw_any (m b : Nat) (w : World) (hT : Tab w) (hm : m < 256) (hb : b < 256) :
    Calls Tryd.prog 12 #[.int .u8 m, .int .u8 b] w (ValC (.bool true) w) := by
  have h0 := fun W => foldsH_any m b hm hb W
  obtain ⟨k, hk⟩ : ∃ k, m % 7 = k := ⟨_, rfl⟩
  rw [hk] at h0
  have hk6 : k ≤ 6 := by omega
  have hfl := foldsOf_len b k
  have hz := foldsOf_ok b k (by omega)
  generalize hfs : foldsOf b k = fs at h0 hfl hz
  have hbl : (foldsB fs).length = k := by rw [foldsB_len, hfl]
  have h1 := fun W => pileP_any fs W (small _ (by omega))
  have h2 := fun W => pages_any fs W (small _ (by omega))
  rw [hz, show pileP fs = pileL (foldsB fs) by unfold pileP; rw [if_pos hz]] at h1
  rw [hz, show pagesP fs = pagesS (foldsB fs) by unfold pagesP; rw [if_pos hz]] at h2
  obtain ⟨hok, hfa⟩ := pair_facts (foldsB fs) (by omega)
  obtain ⟨hul, hdl⟩ := pages_len (foldsB fs) (by omega)
  have hpl := (pileL_facts (foldsB fs)).1
  have hal : (atL (foldsB fs)).length = 2 ^ (foldsB fs).length := by unfold atL; rw [plS_len, List.length_replicate]
  have hat : plS ((pileL (foldsB fs)).drop 0) 0 (List.replicate (2 ^ (foldsB fs).length) 0) = atL (foldsB fs) := rfl
  rw [hbl] at hok hul hdl hpl hal hat
  simp only [hbl] at hfa
  obtain ⟨n, hn⟩ : ∃ n, 2 ^ k = n := ⟨_, rfl⟩
  obtain ⟨hn1, hn2⟩ := pow_le64 k (by omega)
  have hwr := Lib.hid (shl_one k n hn (by omega))
  rw [hn] at hok hul hdl hpl hal hat hn1 hn2
  simp only [hn] at hfa
  have h1 : ∀ W, Calls Tryd.prog 18 #[.string ⟨fs.toArray⟩] W (RowC (pileL (foldsB fs)) n 0 W) := fun W => (h1 W).mono fun e w' h => h.c rfl hpl rfl
  have h2 : ∀ W, Calls Tryd.prog 20 #[.string ⟨fs.toArray⟩] W (TwoC (pagesS (foldsB fs)).1 (pagesS (foldsB fs)).2 n 0 W) := fun W => (h2 W).mono fun e w' h => h.c rfl rfl hul hdl rfl
  generalize pagesS (foldsB fs) = pg at h2 hul hdl hfa
  obtain ⟨u, d⟩ := pg
  generalize pileL (foldsB fs) = l at h1 hok hpl hat
  generalize atL (foldsB fs) = A at hal hat hfa
  have hs0 : (⟨fs.toArray⟩ : ByteArray).size = k := by rw [size_l]; exact hfl
  generalize (⟨fs.toArray⟩ : ByteArray) = s0 at h0 h1 h2 hs0
  simp only at hul hdl hfa
  have hmk1 := run_make_ints n (by omega)
  have hmk2 := run_make_bools n (by omega)
  have hws := fun W hW => works_any W hW
  have HOK : Hid (okS n (l.drop 0) (List.replicate n false) = true) := hok
  have HAT := Lib.hid hat; have HFA := Lib.hid hfa; have HUL := Lib.hid hul; have HDL := Lib.hid hdl; have HPL := Lib.hid hpl; have HAL := Lib.hid hal
  have hra : Hid ((List.replicate n 0).length = n) := List.length_replicate
  have hrm : Hid ((List.replicate n false).length = n) := List.length_replicate
  clear hok hat hfa hul hdl hpl hal hz hfs hbl hfl hn
  generalize List.replicate n 0 = a0 at hmk1 HAT hra
  generalize List.replicate n false = m0 at hmk2 HOK hrm
  go_enter Tryd.func12, Tryd.ntmps12
  go_wp2_with (fail)
  refine (h0 _).mono ?_; rintro e w1 ⟨rfl, q1, rfl⟩
  have hB1 : Below w.heap.size w (w.drewN q1) := below_drewN (Below.refl _ _) _
  generalize w.drewN q1 = w1 at hB1 ⊢
  go_upto_region 3 with (fail)
  simp only [hwr.out]
  go_wp2_with (fail)
  refine (h1 _).mono ?_; rintro e w2 ⟨⟨Al, cl, rfl, hrl⟩, hb1⟩
  have hB2 := hB1.trans (hb1.mono hB1.size)
  clear hB1 hb1 h0 h1
  go_wp2_with (fail)
  refine (h2 _).mono ?_; rintro e w3 ⟨⟨Au, cu, Ad, cd, rfl, hru, hrd⟩, hb2⟩
  have hB3 := hB2.trans (hb2.mono hB2.size)
  have hrl3 := hrl.below hb2
  clear hB2 hb2 h2 hrl
  go_wp2_with (fail)
  have hsz3 := hB3.size
  have hb4 : Below w3.heap.size w3 ((w3.alloc (.cells (ints a0).toArray 3)).alloc (.cells (bools m0).toArray 4)) := ((Below.refl _ _).alloc (Nat.le_refl _) _).alloc (by simp) _
  have ha4 : Arr ((w3.alloc (.cells (ints a0).toArray 3)).alloc (.cells (bools m0).toArray 4)) w3.heap.size (ints a0) := (Arr.new w3 (ints a0) 3).alloc _
  have hm4 : Arr ((w3.alloc (.cells (ints a0).toArray 3)).alloc (.cells (bools m0).toArray 4)) (w3.heap.size + 1) (bools m0) := by
    have h := Arr.new (w3.alloc (.cells (ints a0).toArray 3)) (bools m0) 4
    simp only [World.size_alloc] at h; exact h
  generalize ((w3.alloc (.cells (ints a0).toArray 3)).alloc (.cells (bools m0).toArray 4)) = w4 at hb4 ha4 hm4 ⊢
  have HRL := Lib.hid hrl3
  have hGG : w3.heap.size + 1 ≠ w3.heap.size := by omega
  clear hmk1 hmk2 hrl3
  go_loopw [14, 15, 66] (fun _ _ v wr => ∃ (t : Nat) (a : List Nat) (mt : List Bool), t ≤ n ∧ v = .int .i64 t ∧ Hid (a.length = n) ∧ Hid (mt.length = n) ∧ Arr wr w3.heap.size (ints a) ∧ Arr wr (w3.heap.size + 1) (bools mt) ∧ Below w3.heap.size w3 wr ∧ Hid (plS (l.drop t) t a = A) ∧ Hid (okS n (l.drop t) mt = true)) (fun _ _ v _ => n - (RowKit.intOf v).toNat)
  case atStart => exact ⟨0, a0, m0, Nat.zero_le _, rfl, hra, hrm, ha4, hm4, hb4, HAT, HOK⟩
  case round =>
    clear hb4 ha4 hm4 hra hrm HAT HOK
    obtain ⟨t, a, mt, ht, rfl, hla, hlm, ha, hmm, hbr, hf, hg⟩ := hrel
    by_cases hlt : t < n
    · have htl : t < l.length := by rw [HPL.out]; exact hlt
      obtain ⟨g, o, rfl, hgl, _, hc⟩ := HRL.out.2 (by omega)
      have hcx := (hbr.cell (p := ⟨g, o + t, none⟩) hgl).trans (hc t hlt)
      rw [ints_getD _ _ htl] at hcx
      obtain ⟨hx1, hx2, hx3⟩ := okS_step htl hg.out
      have hst : Hid (plS (l.drop (t + 1)) (t + 1) (a.set (l.getD t 0) t) = A) := by show _ = _; rw [← hf.out, drop_cons l t 0 htl]; rfl
      generalize l.getD t 0 = x at hcx hx1 hx2 hx3 hst
      obtain ⟨ix, fx⟩ := ha.2 x (by rw [ints_length, hla.out]; exact hx1)
      obtain ⟨im, fm⟩ := hmm.2 x (by rw [bools_length, hlm.out]; exact hx1)
      rw [ints_getD _ _ (by rw [hla.out]; exact hx1)] at ix
      rw [bools_getD _ _ (by rw [hlm.out]; exact hx1), hx2] at im
      have s1 := ha.set x (by rw [ints_length, hla.out]; exact hx1) (.int .i64 (t : Int))
      rw [ints_set] at s1
      have s2 := (hmm.other (p := ⟨w3.heap.size, x, none⟩) (fun e => hGG e.symm) (.int .i64 (t : Int))).set x (by rw [bools_length, hlm.out]; exact hx1) (.bool true)
      rw [bools_set] at s2
      have s3 := s1.other (p := ⟨w3.heap.size + 1, x, none⟩) hGG (.bool true)
      have s4 := (hbr.setCell (p := ⟨w3.heap.size, x, none⟩) (Nat.le_refl _) (.int .i64 (t : Int))).setCell (p := ⟨w3.heap.size + 1, x, none⟩) (by simp) (.bool true)
      have hl1 : Hid ((a.set x t).length = n) := by show _ = _; rw [List.length_set]; exact hla.out
      have hl2 : Hid ((mt.set x true).length = n) := by show _ = _; rw [List.length_set]; exact hlm.out
      have S2 := Lib.hid s2; have S3 := Lib.hid s3; have S4 := Lib.hid s4; have HX3 := Lib.hid hx3
      have hxn : ¬ (n : Int) ≤ (x : Int) := by omega
      clear hc ha hmm s1 s2 s3 s4 hx2 hx3
      go_wp2_with (fail)
      exact ⟨⟨t + 1, _, _, by omega, by go_num, hl1, hl2, S3.out, S2.out, S4.out, hst, HX3⟩, by simp [RowKit.intOf]; omega⟩
    · have hA : Hid (a = A) := by
        show _ = _; rw [← hf.out, List.drop_eq_nil_of_le (by rw [HPL.out]; omega)]; rfl
      rw [hA.out] at ha
      clear hf hg hla hlm hmm hA
      go_wp2_with (fail)
      have hBr := hB3.trans (hbr.mono hsz3)
      have hru4 := hru.below hbr
      have hrd4 := hrd.below hbr
      have HU := Lib.hid hru4; have HD := Lib.hid hrd4; have HA := Lib.hid ha
      clear hru4 hrd4 ha hbr
      have hBrH := Lib.hid hBr
      generalize hwz : wr = wz at HU HD HA hBr hBrH ⊢
      go_loopw [16, 17, 18, 93] (fun _ _ _ v wr => ∃ s : Nat, s ≤ n ∧ v = .int .i64 s ∧ Below w.heap.size w wr ∧ Below wz.heap.size wz wr) (fun _ _ _ v _ => n - (RowKit.intOf v).toNat)
      case atStart => exact ⟨0, Nat.zero_le _, rfl, hBr, Below.refl _ _⟩
      case round =>
        clear hBr
        rename_i wr0
        obtain ⟨s, hs, rfl, hbr, hbz⟩ := hrel
        by_cases hls : s < n
        · obtain ⟨f1, f2, f3, f4⟩ := HFA.out s hls
          obtain ⟨gu, ou, rfl, hgu, _, hcu⟩ := HU.out.2 (by omega)
          obtain ⟨gd, od, rfl, hgd, _, hcd⟩ := HD.out.2 (by omega)
          have c1 := (hbz.cell (p := ⟨gu, ou + s, none⟩) hgu).trans (hcu s hls)
          have c2 := (hbz.cell (p := ⟨gd, od + s, none⟩) hgd).trans (hcd s hls)
          have hA2 := HA.out.below hbz
          obtain ⟨j, hj⟩ : ∃ j : Nat, n - 1 - s = j := ⟨_, rfl⟩
          have c3 := (hA2.2 s (by rw [ints_length, HAL.out]; exact hls)).1
          have c4 := (hA2.2 j (by rw [ints_length, HAL.out]; omega)).1
          rw [ints_getD _ _ (by rw [HUL.out]; exact hls)] at c1
          rw [ints_getD _ _ (by rw [HDL.out]; exact hls)] at c2
          rw [ints_getD _ _ (by rw [HAL.out]; exact hls)] at c3
          rw [ints_getD _ _ (by rw [HAL.out]; omega)] at c4
          rw [hj] at f1
          have hx64 : A.getD j 0 ≤ 1000000 ∨ True := .inr trivial
          clear hcu hcd hA2
          generalize A.getD s 0 = x at f1 f2 f3 f4 c3
          have f1' : n ≠ 1 → A.getD j 0 < 1000 := fun h => by have := f1 h; omega
          generalize A.getD j 0 = y at f1 f1' c4
          generalize u.getD s 0 = us at f3 c1
          generalize d.getD s 0 = ds at f4 c2
          have e1 : IntKind.i64.wrap ((n : Int) - 1) = (n : Int) - 1 := by rw [IntKind.wrap_i64]; omega
          have e2 : IntKind.i64.wrap ((n : Int) - 1 - s) = (j : Int) := by rw [IntKind.wrap_i64]; omega
          have e3 : IntKind.i64.wrap ((x : Int) / 2) = (x : Int) / 2 := by rw [IntKind.wrap_i64]; omega
          have e4 : (x : Int).tdiv 2 = (x : Int) / 2 := by rw [Int.tdiv_eq_ediv_of_nonneg (by omega)]
          have e5 : (y : Int).tdiv 2 = (y : Int) / 2 := by rw [Int.tdiv_eq_ediv_of_nonneg (by omega)]
          have e6 : IntKind.i64.wrap (2 * (x : Int)) = 2 * (x : Int) := by rw [IntKind.wrap_i64]; omega
          have e7 : IntKind.i64.wrap (2 * (x : Int) + 1) = 2 * (x : Int) + 1 := by rw [IntKind.wrap_i64]; omega
          have e8 : IntKind.i64.wrap (2 * (x : Int) + 2) = 2 * (x : Int) + 2 := by rw [IntKind.wrap_i64]; omega
          have hjn : j < n := by omega
          have hstep : ∀ us' ds' : Nat, us' = 2 * x + 1 → ds' = 2 * x + 2 → Hid (((us' : Int) != 2 * (x : Int) + 1) = false ∧ ((ds' : Int) != 2 * (x : Int) + 2) = false) := fun us' ds' h1 h2 => by
            show _ ∧ _; subst h1; subst h2; constructor <;> (simp; try omega)
          have hgt : Hid (n = 1 ∨ (n ≠ 1 ∧ 1 < n)) := by show _ ∨ _; omega
          rcases hgt.out with hn1' | ⟨hn1', hgt1⟩
          · have hg1 : decide ((1 : Int) < (n : Int)) = false := by simp; omega
            clear hn1'
            clear f1 f1' hj hgt
            have HST := Lib.hid hstep
            clear hstep
            go_wp2_with (fail)
            go_quiet (fail)
            have hbr2 := below_drewN hbr nq
            have hbz2 := below_drewN hbz nq
            have d1 : (wr.drewN nq).cell? ⟨gu, ou + s, none⟩ = some (.int .i64 (us : Int)) := c1
            have d2 : (wr.drewN nq).cell? ⟨gd, od + s, none⟩ = some (.int .i64 (ds : Int)) := c2
            have d3 : (wr.drewN nq).cell? ⟨w3.heap.size, s, none⟩ = some (.int .i64 (x : Int)) := c3
            generalize wr.drewN nq = wq at hbr2 hbz2 d1 d2 d3 ⊢
            clear c1 c2 c3 c4 hbr hbz
            by_cases p2 : s % 2 = 1
            · have hpb : ((s : Int) % 2 == 1) = true := by simp; omega
              rw [if_pos p2] at f3 f4
              obtain ⟨g1, g2⟩ := (HST.out ds us f4 f3).out
              clear p2 f3 f4
              go_wp2_with (fail)
              go_quiet (fail)
              go_wp2_with (fail)
              exact ⟨⟨s + 1, by omega, by go_num, below_drewN hbr2 _, below_drewN hbz2 _⟩, by simp [RowKit.intOf]; omega⟩
            · have hpb : ((s : Int) % 2 == 1) = false := by simp; omega
              rw [if_neg p2] at f3 f4
              obtain ⟨g1, g2⟩ := (HST.out us ds f3 f4).out
              clear p2 f3 f4
              go_wp2_with (fail)
              go_quiet (fail)
              go_wp2_with (fail)
              exact ⟨⟨s + 1, by omega, by go_num, below_drewN hbr2 _, below_drewN hbz2 _⟩, by simp [RowKit.intOf]; omega⟩
          · have hg1 : decide ((1 : Int) < (n : Int)) = true := by simp; omega
            have hy := f1' hn1'
            have e9 : IntKind.i64.wrap ((y : Int) / 2) = (y : Int) / 2 := by rw [IntKind.wrap_i64]; omega
            have hdv : (((x : Int) / 2) != ((y : Int) / 2)) = false := by have := f1 hn1'; simp; omega
            clear hn1' hy
            clear f1 f1' hj hgt
            have HST := Lib.hid hstep
            clear hstep
            go_wp2_with (fail)
            go_quiet (fail)
            have hbr2 := below_drewN hbr nq
            have hbz2 := below_drewN hbz nq
            have d1 : (wr.drewN nq).cell? ⟨gu, ou + s, none⟩ = some (.int .i64 (us : Int)) := c1
            have d2 : (wr.drewN nq).cell? ⟨gd, od + s, none⟩ = some (.int .i64 (ds : Int)) := c2
            have d3 : (wr.drewN nq).cell? ⟨w3.heap.size, s, none⟩ = some (.int .i64 (x : Int)) := c3
            generalize wr.drewN nq = wq at hbr2 hbz2 d1 d2 d3 ⊢
            clear c1 c2 c3 c4 hbr hbz
            by_cases p2 : s % 2 = 1
            · have hpb : ((s : Int) % 2 == 1) = true := by simp; omega
              rw [if_pos p2] at f3 f4
              obtain ⟨g1, g2⟩ := (HST.out ds us f4 f3).out
              clear p2 f3 f4
              go_wp2_with (fail)
              go_quiet (fail)
              go_wp2_with (fail)
              exact ⟨⟨s + 1, by omega, by go_num, below_drewN hbr2 _, below_drewN hbz2 _⟩, by simp [RowKit.intOf]; omega⟩
            · have hpb : ((s : Int) % 2 == 1) = false := by simp; omega
              rw [if_neg p2] at f3 f4
              obtain ⟨g1, g2⟩ := (HST.out us ds f3 f4).out
              clear p2 f3 f4
              go_wp2_with (fail)
              go_quiet (fail)
              go_wp2_with (fail)
              exact ⟨⟨s + 1, by omega, by go_num, below_drewN hbr2 _, below_drewN hbz2 _⟩, by simp [RowKit.intOf]; omega⟩
        · have hT5 := hT.below hbr
          go_wp2_with (fail)
          refine (hws _ hT5).mono ?_; rintro e w6 ⟨rfl, hb6⟩
          have hB6 := hbr.trans (hb6.mono hbr.size)
          go_wp2_with (fail)
          go_ret
          exact ⟨rfl, hB6⟩
end Go.Proofs.YtehffacmphpknaaDoor
