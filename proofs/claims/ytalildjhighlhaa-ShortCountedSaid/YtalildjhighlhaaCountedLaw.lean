/-
  The walk of ShortCounted: it returns true at any word by numbers and any number of letters, and writes nothing that was there.
-/
import Derived.Test.YtalildjhighlhaaOfSize
import Derived.Test.YtalildjhighlhaaDifferLaw
namespace Go.Proofs.Ytalildjhighlhaa
open Go.RowKit Go.Proofs.Short Go.Maps Go.WideMaps

theorem sized_le (x : List UInt8) (z : Nat) (hx : x.length ≤ 10) : ((partsL [x]).filter fun p => p.length == z).length ≤ 1024 :=
  Nat.le_trans (List.length_filter_le _ _) (by have := partsL_length [x] (by simpa using hx); simpa using this)
/-- what is known of the memory while the parts are counted -/
def CntSt (w : World) (b n : Nat) (D : DataW Unit) (wr : World) : Prop := OwnI wr b n D ∧ Below w.heap.size w wr
theorem CntSt.below {w wr w' : World} {b n : Nat} {D : DataW Unit} (h : CntSt w b n D wr) (hb : Below wr.heap.size wr w') : CntSt w b n D w' :=
  ⟨h.1.kept (grown_below' hb none) (by simp), h.2.trans (hb.mono h.2.size)⟩

set_option maxRecDepth 100000 in
set_option maxHeartbeats 4000000 in
theorem countedLaw_any (cs : Array Value) (m : Nat) (ls : List Nat) (kk : Nat) (w : World) (hS : IsSlip cs m ls) (hkk : kk < 256) :
    Calls Try.prog 10 #[.agg cs, .int .u8 kk] w fun e w' => e = .returned (.bool true) ∧ Below w.heap.size w w' := by
  obtain ⟨k, hk⟩ : ∃ k : Nat, (1 + (kk : Int) % 6 = (k : Int)) ∧ 1 ≤ k ∧ k ≤ 6 := ⟨1 + kk % 6, by simp, by omega, by omega⟩
  obtain ⟨hk, h1, h6⟩ := hk
  have hM : ∀ W, Calls Try.prog 49 #[.agg cs, .int .i64 9, .int .i64 k] W fun e w' => e = .returned (.string ⟨(wordL k (ls.take (m % (9 + 1)))).toArray⟩) ∧ Below W.heap.size W w' := fun W => made_w cs m ls 9 k W hS (by omega) h1 h6
  have hinf : (Try.prog.info? 52).map (·.size) = some cs.size := by rw [hS.size]; kernel_rfl
  have hhp := heap_alloc_new w (.cells cs 52)
  have HINF := Lib.hid hinf; have HHP := Lib.hid hhp; clear hinf hhp
  have hlen : (wordL k (ls.take (m % (9 + 1)))).length ≤ 9 := by
    unfold wordL; rw [List.length_map, List.length_take]; have := Nat.mod_lt m (show 0 < 9 + 1 by omega); omega
  have hin := wordL_alpha h1 h6 (ls.take (m % (9 + 1)))
  have HM := Lib.hid hM; have HIN := Lib.hid hin; clear hM hin
  generalize wordL k (ls.take (m % (9 + 1))) = x at hlen HM HIN
  have hx10 : x.length ≤ 10 := by omega
  have HC1 := Lib.hid fun W => count_alpha HIN.out hx10 W
  have e1 : (partsL [x]).length = totL x := rfl
  rw [e1] at HC1
  have hch := chk_alpha HIN.out hx10
  have hchs : ∀ p ∈ partsL [x], chks [x, p] = 0 := fun p hp => by
    obtain ⟨y, hy, hs⟩ := mem_partsL.1 hp
    rw [List.mem_singleton.1 hy] at hs
    have hp1 := hs.length_le
    have hpo : p.all okc = true := List.all_eq_true.2 fun c hc => List.all_eq_true.1 (chk_zero hch).2 c (hs.subset hc)
    exact chks_pair hx10 (by omega) (chk_zero hch).2 hpo
  have HCH := Lib.hid hch; have HCHS := Lib.hid hchs; clear hch hchs e1
  have hzv := fun (W : World) => (by kernel_rfl : (zeroValue 3).run Try.prog W = .ok (.int .i64 0) W)
  have HZ := Lib.hid hzv; clear hzv
  go_enter Try.func10, Try.ntmps10
  go_wp2_with (refine wpList_load_row rfl 52 (.tmp 2) rfl w.heap.size rfl 52 cs (0, 0) _ HHP.out Try.underlying52 rfl HINF.out ?_)
  refine (HM.out _).mono ?_; rintro e w1 ⟨rfl, hb1⟩
  have hW1 : Below w.heap.size w w1 := ((Below.refl _ w).alloc (Nat.le_refl _) (.cells cs 52)).trans (hb1.mono (by simp))
  clear hb1 hk
  go_wp2_with (fail)
  refine (parts_m x _ hx10).mono ?_; rintro e w2 ⟨b, n, D, rfl, hbb, hown, hn, hcnt, hb2⟩
  have hsz := size_cnt hown hcnt
  have HCNT := Lib.hid hcnt; clear hcnt
  have hst : CntSt w b n D w2 := ⟨hown, hW1.trans (hb2.mono hW1.size)⟩
  clear hown hb2 hW1 hbb
  go_wp2_with (fail)
  refine (HC1.out _).mono ?_; rintro e w3 ⟨rfl, hb3⟩
  have hst3 := hst.below hb3
  have hln := hst3.1.len Try.underlying56 3
  rw [hsz] at hln
  clear hst hb3 hsz
  generalize totL x = tt at hln
  go_wp2_with (fail)
  clear hln
  go_loopw [9, 42] (fun cv iv wr => ∃ (z : Nat), z ≤ x.length + 1 ∧ iv = .int .i64 z ∧ cv = .int .i64 (binom x.length z : Nat) ∧ CntSt w b n D wr) (fun _ iv _ => x.length + 1 - (intOf iv).toNat)
  case atStart => exact ⟨0, by omega, rfl, by rw [binom_zero x.length (by omega)]; rfl, hst3⟩
  case round =>
    clear hst3
    obtain ⟨z, hz, rfl, rfl, hst⟩ := hrel
    by_cases hlt : z ≤ x.length
    · have hzd : decide ((z : Int) < (x.length : Int) + 1) = true := by simp; omega
      have HP := Lib.hid fun W => parts_ok partsOf_said x z W HCH.out hlt
      have hwz := ways_size x z
      have hL1 := sized_le x z hx10
      have hbs := binom_step x.length (by omega) z (by omega) hlt
      have hpm : ∀ p ∈ (partsL [x]).filter (fun p => p.length == z), p ∈ partsL [x] := fun p hp => (List.mem_filter.1 hp).1
      have hpl : ∀ p ∈ (partsL [x]).filter (fun p => p.length == z), p.length = z := fun p hp => by simpa using (List.mem_filter.1 hp).2
      have HO := Lib.hid fun (w : World) (h : OwnI w b n D) => ofSize_m b n z D x w h HCNT.out hx10 (by omega)
      have hsl : sizedL x z = (partsL [x]).filter fun p => p.length == z := rfl
      rw [hsl] at HP
      unfold SizePost at HO
      have HWZ := Lib.hid hwz; have HPM := Lib.hid hpm; have HPL := Lib.hid hpl; have HBS := Lib.hid hbs
      clear hwz hpm hpl hbs hsl
      generalize (partsL [x]).filter (fun p => p.length == z) = L at HP HO HWZ HPM HPL hL1
      go_wp2_with (fail)
      refine (HP.out _).mono ?_; rintro e w4 ⟨hb4, v4, rfl, hrow4⟩
      obtain ⟨A4, c4, rfl⟩ := ownsRow_shape hrow4
      have hst4 := hst.below hb4
      have hrd4 := rd_own hrow4
      clear hst hb4 hrow4
      go_wp2_with (fail)
      refine (HO.out _ hst4.1).mono ?_; rintro e w5 ⟨A5, c5, rfl, hrd5, hb5⟩
      have hst5 := hst4.below hb5
      have hrd45 := hrd4.below hb5
      clear hst4 hb5 hrd4
      go_wp2_with (fail)
      refine (equal_self _ _ _ _ _ _ _ hrd45 hrd5 (by unfold maxLen; omega)).mono ?_; rintro e w6 ⟨rfl, hb6⟩
      have hst6 := hst5.below hb6
      have hrd6 := hrd45.below hb6
      clear hst5 hb6 hrd45 hrd5
      go_wp2_with (fail)
      obtain ⟨f, hf⟩ : ∃ f : List UInt8 → Nat, Hid (f = fun p => (subs x).count p) := ⟨_, Lib.hid rfl⟩
      have hwz := HWZ.out
      rw [← hf.out] at hwz
      have hbl : ∀ j, sumL f (L.take j) ≤ binom x.length z := fun j => by rw [← hwz]; exact sumL_take_le f L j
      have hB4 : binom x.length z ≤ 100000 := by
        have : ∀ n < 10, ∀ s < 10, binom n s ≤ 1000 := by decide
        have := this x.length (by omega) z (by omega); omega
      have hB2 : binom x.length (z + 1) ≤ 1000 := by
        have : ∀ n < 10, ∀ s < 11, binom n s ≤ 1000 := by decide
        exact this x.length (by omega) (z + 1) (by omega)
      obtain ⟨P, hP⟩ : ∃ P : Nat, ((binom x.length z : Nat) : Int) * ((x.length : Int) - (z : Int)) = (P : Int) ∧ P = binom x.length z * (x.length - z) := ⟨_, by rw [show ((x.length : Int) - (z : Int)) = ((x.length - z : Nat) : Int) by omega]; simp, rfl⟩
      obtain ⟨hP, hP2⟩ := hP
      have hP3 : P ≤ 100000 := by rw [hP2]; exact HBS.out.2
      have hQ : (P : Int) / ((z : Int) + 1) = ((binom x.length (z + 1) : Nat) : Int) := by
        have h := HBS.out.1
        rw [← hP2] at h
        rw [← h]; simp
      have HF := Lib.hid hf; have HWZ2 := Lib.hid hwz; have HBL := Lib.hid hbl; have HPP := Lib.hid hP; have HQ := Lib.hid hQ
      clear hwz hbl hP hP2 hQ HBS HWZ hf
      generalize binom x.length z = B at HWZ2 HBL hB4 HPP
      go_loopw [13, 63] (fun sv jv wx => ∃ (j : Nat), j ≤ L.length ∧ jv = .int .i64 j ∧ sv = .int .i64 (sumL f (L.take j) : Nat) ∧ CntSt w b n D wx ∧ Rd wx A4 L.length (L.map encStr)) (fun _ jv _ => L.length - (intOf jv).toNat)
      case atStart => exact ⟨0, Nat.zero_le _, rfl, rfl, hst6, hrd6⟩
      case round =>
        clear hst6 hrd6
        obtain ⟨j, hj, rfl, rfl, hst, hrd⟩ := hrel
        by_cases hjl : j < L.length
        · obtain ⟨g, o, rfl, hat⟩ := hrd.at (by omega)
          have hcell := hat.str hjl rfl
          have hmem : L.getD j [] ∈ L := by rw [getD_lt _ _ _ hjl]; exact List.getElem_mem _
          have hst2 : sumL f (L.take (j + 1)) = sumL f (L.take j) + f (L.getD j []) := by rw [sumL_take f L j hjl, getD_lt _ _ _ hjl]
          have hle := HBL.out (j + 1)
          rw [hst2] at hle
          have hyl := HPL.out _ hmem
          have HW := Lib.hid fun W => ways_any x (L.getD j []) W (HCHS.out _ (HPM.out _ hmem))
          have hwc : waysL x (L.getD j []) = f (L.getD j []) := by rw [waysL_eq, waysR_count, HF.out.out]
          rw [hwc] at HW
          have hct := (HCNT.out (L.getD j [])).2
          have hct2 : D.atKey (.string (L.getD j [])) (.lit (.int .i64 0)) = .lit (.int .i64 (f (L.getD j []) : Nat)) := by rw [HF.out.out]; exact hct
          have hkey := keyT_str (L.getD j []) (by unfold maxLen; omega)
          have HST := Lib.hid hst2; have HCT := Lib.hid hct2; have HYL := Lib.hid hyl
          clear hst2 hmem hwc hct hct2 hyl
          generalize sumL f (L.take j) = s0 at HST hle
          generalize f (L.getD j []) = fy at HST hle HW HCT
          generalize L.getD j [] = y at hcell HW HCT hkey
          go_wp2_with (fail)
          refine (HW.out _).mono ?_; rintro e w7 ⟨rfl, hb7⟩
          have hst7 := hst.below hb7
          have hrd7 := hrd.below hb7
          obtain ⟨c, hrun, hatc, hwc⟩ := hst7.1.lookup_int Try.keyT Try.underlying56 Try.underlying3 (HZ.out w7) hkey
          obtain rfl : c = (fy : Int) := by have h := HCT.out; rw [hatc] at h; simpa using h
          clear hatc hwc hcell hat hst hrd hb7 hkey
          go_wp2_with (fail)
          exact ⟨⟨j + 1, by omega, by go_num, by rw [HST.out]; go_num, hst7, hrd7⟩, by simp [intOf]; omega⟩
        · obtain rfl : j = L.length := by omega
          have e : sumL f (L.take L.length) = B := by rw [List.take_length]; exact HWZ2.out
          rw [e]
          have hPd := HPP.out
          have hQd := HQ.out
          have hz0 : ((z : Int) + 1 == 0) = false := by rw [beq_eq_false_iff_ne]; omega
          clear e hrd
          go_wp2_with (fail)
          exact ⟨⟨z + 1, by omega, by go_num, rfl, hst⟩, by simp [intOf]; omega⟩
    · obtain rfl : z = x.length + 1 := by omega
      have hzd : decide ((x.length : Int) + 1 < (x.length : Int) + 1) = false := by simp
      have HR := Lib.hid fun W => parts_range x ((x.length : Int) + 1) W HCH.out (by omega)
      go_wp2_with (fail)
      refine (HR.out _).mono ?_; rintro e w4 ⟨rfl, hb4⟩
      have hst4 := hst.below hb4
      go_wp2_with (fail)
      refine (works_any _).mono ?_; rintro e w5 ⟨rfl, hb5⟩
      have hst5 := hst4.below hb5
      go_wp2_with (fail)
      go_ret
      exact ⟨rfl, hst5.2⟩
end Go.Proofs.Ytalildjhighlhaa
