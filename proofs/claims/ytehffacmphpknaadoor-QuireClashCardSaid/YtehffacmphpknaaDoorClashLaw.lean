/-
  The walk of QuireClash: it returns true at any three numbers.
-/
import Derived.Test.YtehffacmphpknaaDoorClashN
import Derived.Test.YtehffacmphpknaaDoorWorks
import Derived.Test.YtehffacmphpknaaDoorPowerH
import Derived.Test.YtehffacmphpknaaDoorMirrorLaw
import Derived.Deep.RegionHeld3
set_option linter.unusedSimpArgs false
set_option linter.unusedVariables false
namespace Go.Proofs.YtehffacmphpknaaDoor
open Go.RowKit Go.Lib Go.Proofs.Quire

theorem cut_pre (c : List UInt8) (a : Nat) (ha : a ≤ c.length) (W : World) : (Instr.slice 9 (.string ⟨c.toArray⟩) none (some (.int .i64 (a : Int))) none).run Tryd.prog W = .ok (.string ⟨(c.take a).toArray⟩) W := by
  rw [run_slice_string_h (P := Tryd.prog) W 9 ⟨c.toArray⟩ Tryd.underlying9 .i64 (a : Int) (by omega) (by rw [size_l]; omega)]
  congr 2
  apply ByteArray.ext; simp
theorem cut_suf (c : List UInt8) (a : Nat) (ha : a ≤ c.length) (W : World) : (Instr.slice 9 (.string ⟨c.toArray⟩) (some (.int .i64 (a : Int))) none none).run Tryd.prog W = .ok (.string ⟨(c.drop a).toArray⟩) W := by
  rw [run_slice_string_l (P := Tryd.prog) W 9 ⟨c.toArray⟩ Tryd.underlying9 .i64 (a : Int) (by omega) (by rw [size_l]; omega)]
  congr 2
  apply ByteArray.ext; apply Array.toList_inj.1
  rw [Lib.extract_data, size_l]
  exact List.take_of_length_le (by simp)
theorem cut_one (c : List UInt8) (a : Nat) (ha : a < c.length) (W : World) : (Instr.slice 9 (.string ⟨c.toArray⟩) (some (.int .i64 (a : Int))) (some (.int .i64 ((a : Int) + 1))) none).run Tryd.prog W = .ok (.string ⟨[c.getD a 0].toArray⟩) W := by
  rw [run_slice_string (P := Tryd.prog) (w := W) 9 ⟨c.toArray⟩ .i64 .i64 (a : Int) ((a : Int) + 1) Tryd.underlying9 (by omega) (by omega) (by rw [size_l]; omega)]
  congr 2
  apply ByteArray.ext; apply Array.toList_inj.1
  rw [Lib.extract_data, show ((a : Int)).toNat = a by omega, show ((a : Int) + 1).toNat = a + 1 by omega]
  show (c.drop a).take (a + 1 - a) = [c.getD a 0]
  rw [drop_cons c a 0 ha, show a + 1 - a = 1 by omega]; rfl
theorem cat_two (x y : List UInt8) (hx : x.length ≤ 1000) (hy : y.length ≤ 1000) (W : World) : (Op.stringOp .add ⟨x.toArray⟩ ⟨y.toArray⟩).run Tryd.prog W = .ok (.string ⟨(x ++ y).toArray⟩) W :=
  run_string_add_lists W x y (by omega) (by omega)
/-- what has been found so far, in two slots -/
def XYs (r0 : Option (Nat × Nat)) (vx vy : Value) : Prop := match r0 with
  | none => vx = .int .i64 (-1) ∧ vy = .int .i64 (-1)
  | some p => vx = .int .i64 p.1 ∧ vy = .int .i64 p.2
def SeenO (f : Nat → Nat → Bool) (n i : Nat) (r0 r : Option (Nat × Nat)) : Prop := match r0 with
  | none => firstP f n (n - i) i = r
  | some p => r = some p
def SeenI (f : Nat → Nat → Bool) (n i j : Nat) (r0 r : Option (Nat × Nat)) : Prop := match r0 with
  | none => InnerAt f n i j r
  | some p => r = some p
set_option maxRecDepth 100000 in
set_option maxHeartbeats 4000000 in
theorem clashLaw_any (m b pl : Nat) (w : World) (hT : Tab w) (hm : m < 256) (hb : b < 256) (hpl : pl < 256) :
    Calls Tryd.prog 9 #[.int .u8 m, .int .u8 b, .int .u8 pl] w (ValC (.bool true) w) := by
  have h0 := fun W => foldsH_any m b hm hb W
  obtain ⟨k, hk⟩ : ∃ k, m % 7 = k := ⟨_, rfl⟩
  rw [hk] at h0
  have hk6 : k ≤ 6 := by omega
  have hfl := foldsOf_len b k
  have hz := foldsOf_ok b k (by omega)
  have hback := folds_back b k
  generalize hfs : foldsOf b k = fs at h0 hfl hz hback
  have hfm : ∀ c ∈ fs, c = 111 ∨ c = 117 := fun c hc => bitL_mem (b := b) (k := k) (by rw [hfs]; exact hc)
  have hbl : (foldsB fs).length = k := by rw [foldsB_len, hfl]
  have h1 := fun W => creases_any fs W (small _ (by omega))
  rw [hz, show creP fs = creS (foldsB fs) by unfold creP; rw [if_pos hz]] at h1
  have h1 : ∀ W, Calls Tryd.prog 23 #[.string ⟨fs.toArray⟩] W (ValC (.tuple #[.string ⟨(creS (foldsB fs)).toArray⟩, .int .i64 0]) W) := h1
  have hcl := creS_len (foldsB fs)
  rw [hbl] at hcl
  have hcm : ∀ x ∈ creS (foldsB fs), x = 118 ∨ x = 104 := fun x hx => by
    obtain ⟨i, hi, e⟩ := List.mem_iff_getElem.1 hx
    have := creS_get (foldsB fs) (by omega) i (by rw [hbl]; omega)
    rw [getD_lt _ _ _ hi, e] at this
    rw [this]; split
    · exact .inl rfl
    · exact .inr rfl
  have hn64 : 2 ^ k ≤ 64 := Nat.le_trans (Nat.pow_le_pow_right (by omega) hk6) (by decide)
  have hn1 : 1 ≤ 2 ^ k := Nat.one_le_two_pow
  have hwc := ways_cre (foldsB fs) (by omega)
  rw [hbl, hback] at hwc
  have hr0 : firstP (clashB (creS (foldsB fs))) (creS (foldsB fs)).length (creS (foldsB fs)).length 0 = none := (noclash _ k hk6 hcl hcm).2 (by rw [hwc])
  have hst0 := strip_ok (cs := creS (foldsB fs)) hk6 hcl hcm
  have h2 := fun W hW => why_any (creS (foldsB fs)) W hW (small _ (by omega))
  rw [show whyR (creS (foldsB fs)) = .tuple #[.int .i64 0, .int .i64 0, .int .i64 13] by unfold whyR; rw [if_pos hst0, hr0]; rfl] at h2
  have hbw := fun a h1 ha h => bad_ways (foldsB fs) a h1 (by omega) ha h
  rw [hbl] at hbw
  simp only [hback] at hbw
  generalize creS (foldsB fs) = c at h1 h2 hcl hcm hbw
  obtain ⟨n, hn⟩ : ∃ n, 2 ^ k = n := ⟨_, rfl⟩
  have hwr := Lib.hid (shl_one k n hn (by omega))
  obtain ⟨N, hN⟩ : ∃ N, c.length = N := ⟨_, rfl⟩
  have hszf : (⟨fs.toArray⟩ : ByteArray).size = k := by rw [size_l]; exact hfl
  have hszc : (⟨c.toArray⟩ : ByteArray).size = N := by rw [size_l]; exact hN
  have hws := fun W hW => works_any W hW
  rw [hn] at hcl hn64 hn1
  have hne0 : ((N : Int) != (n : Int) - 1) = false := by simp; omega
  clear hwc hr0 hst0 hback hbl
  rcases Nat.eq_zero_or_pos N with hN0 | hN0
  · obtain rfl : c = [] := List.eq_nil_of_length_eq_zero (by omega)
    have hN' : N = 0 := hN0
    subst hN'
    generalize hs0 : (⟨fs.toArray⟩ : ByteArray) = s0 at h0 h1 hszf
    clear hbw hcm hn hN0
    go_enter Tryd.func9, Tryd.ntmps9
    go_wp2_with (fail)
    refine (h0 _).mono ?_; rintro e w1 ⟨rfl, q1, rfl⟩
    have hB1 : Below w.heap.size w (w.drewN q1) := below_drewN (Below.refl _ _) _
    generalize w.drewN q1 = w1 at hB1 ⊢
    go_wp2_with (fail)
    refine (h1 _).mono ?_; rintro e w2 ⟨rfl, hb2⟩
    have hB2 := hB1.trans (hb2.mono hB1.size)
    go_wp2_with (simp only [hwr.out])
    refine (h2 _ (hT.below hB2)).mono ?_; rintro e w3 ⟨rfl, hb3⟩
    have hB3 := hB2.trans (hb3.mono hB2.size)
    go_wp2_with (fail)
    refine (hws _ (hT.below hB3)).mono ?_; rintro e w4 ⟨rfl, hb4⟩
    have hB4 := hB3.trans (hb4.mono hB3.size)
    go_wp2_with (fail)
    go_ret
    exact ⟨rfl, hB4⟩
  · obtain ⟨a, ha⟩ : ∃ a, pl % N = a := ⟨_, rfl⟩
    have haN : a < N := by rw [← ha]; exact Nat.mod_lt _ hN0
    have hbl := badL_len c a (by omega)
    have hbm := badL_mem c a (by omega) hcm
    have hbad : badL c a = (c.take a ++ [swapU 118 104 (c.getD a 0)]) ++ c.drop (a + 1) := rfl
    have hNn : N + 1 = n := by omega
    have hbw := fun h => hbw a (by
      rcases Nat.eq_zero_or_pos k with e | e
      · subst e; simp at hn; omega
      · exact e) (by omega) h
    have hst := strip_ok (cs := badL c a) (k := k) hk6 (by omega) hbm
    have hnc := noclash (badL c a) k hk6 (by omega) hbm
    have h3 := fun W hW => why_any (badL c a) W hW (small _ (by omega))
    have h4 := fun W => folds_any (badL c a) W (small _ (by omega))
    have h5 := fun i j W hW hi hj => proves_any (badL c a) i j W hW (small _ (by omega)) hi hj
    rw [show whyR (badL c a) = pairR (firstP (clashB (badL c a)) (badL c a).length (badL c a).length 0) by unfold whyR; rw [if_pos hst]] at h3
    have hfo : foldsP (badL c a) = if creS (foldsB (waysL (badL c a) 7 (2 ^ k))) = badL c a then (waysL (badL c a) 7 (2 ^ k), 0) else ([], 12) := by
      unfold foldsP; rw [if_pos hst, show (badL c a).length + 1 = 2 ^ k by omega]
    rw [hfo] at h4
    have hpv : ∀ i j : Nat, i < j → j < N → provE (badL c a) i j = if clashB (badL c a) i j then 0 else 14 := fun i j hij hj => by
      unfold provE; rw [if_pos hst, if_neg (by omega), if_neg (by omega)]; rfl
    rw [hbl, hN] at h3 hnc
    have hch : ∀ i j, clashB (badL c a) i j = if tzN (i + 1) = tzN (j + 1) then ((badL c a).getD i 0 == (badL c a).getD j 0) != decide ((oddN (j + 1) - oddN (i + 1)) % 4 = 0) else false := fun i j => rfl
    have hx1 := fun W => exch_any [c.getD a 0] 118 104 W (by simp) (fun x hx => by
      rw [List.mem_singleton.1 hx]; rcases hcm (c.getD a 0) (by rw [getD_lt _ _ _ (by omega)]; exact List.getElem_mem _) with e | e <;> rw [e] <;> decide) (by decide) (by decide)
    have hx2 := fun W => exch_any (fs.take 1) 111 117 W (by rw [List.length_take]; omega) (fun x hx => by
      rcases hfm x (List.mem_of_mem_take hx) with e | e <;> rw [e] <;> decide) (by decide) (by decide)
    have s1 := fun W => cut_pre c a (by omega) W
    have s2 := fun W => cut_one c a (by omega) W
    have s3 := fun W => cut_suf c (a + 1) (by omega) W
    have t1 := fun W => cat_two (c.take a) [swapU 118 104 (c.getD a 0)] (by rw [List.length_take]; omega) (by simp) W
    have t2 := fun W => cat_two (c.take a ++ [swapU 118 104 (c.getD a 0)]) (c.drop (a + 1)) (by rw [List.length_append, List.length_take]; simp; omega) (by rw [List.length_drop]; omega) W
    rw [← hbad] at t2
    have hszb : (⟨(badL c a).toArray⟩ : ByteArray).size = N := by rw [size_l]; omega
    have hem : (⟨c.toArray⟩ : ByteArray).toList.isEmpty = false := by
      rw [ByteArray.toList_mk]
      cases c with
      | nil => simp at hN; omega
      | cons x y => rfl
    have hbyb : ∀ i (h : i < (⟨(badL c a).toArray⟩ : ByteArray).size), (⟨(badL c a).toArray⟩ : ByteArray)[i] = (badL c a).getD i 0 := fun i h => byte_at _ i (by rw [hbl, hN]; rw [hszb] at h; exact h) h
    have hx1 : ∀ W, Calls Tryd.prog 47 #[.string ⟨[c.getD a 0].toArray⟩, .int .i32 118, .int .i32 104] W (ValC (.string ⟨[swapU 118 104 (c.getD a 0)].toArray⟩) W) := hx1
    have hx2 : ∀ W, Calls Tryd.prog 47 #[.string ⟨(fs.take 1).toArray⟩, .int .i32 111, .int .i32 117] W (ValC (.string ⟨((fs.take 1).map (swapU 111 117)).toArray⟩) W) := hx2
    generalize hbg : badL c a = bad at h3 h4 h5 hnc hpv hch t2 hszb hbyb hbw
    have hal : (a : Int) + 1 = ((a + 1 : Nat) : Int) := by omega
    rw [← hal] at s3
    generalize (⟨c.toArray⟩ : ByteArray) = sc at h1 h2 hszc s1 s2 s3 hem
    generalize (⟨(c.take a).toArray⟩ : ByteArray) = p1 at s1 t1
    generalize (⟨[c.getD a 0].toArray⟩ : ByteArray) = p2 at s2 hx1
    generalize (⟨[swapU 118 104 (c.getD a 0)].toArray⟩ : ByteArray) = p3 at hx1 t1
    generalize (⟨(c.take a ++ [swapU 118 104 (c.getD a 0)]).toArray⟩ : ByteArray) = p4 at t1 t2
    generalize (⟨(c.drop (a + 1)).toArray⟩ : ByteArray) = p5 at s3 t2
    have hsf1 : ∀ W, (Instr.slice 9 (.string ⟨fs.toArray⟩) none (some (.int .i64 1)) none).run Tryd.prog W = .ok (.string ⟨(fs.take 1).toArray⟩) W := fun W => cut_pre fs 1 (by rw [hfl]; rcases Nat.eq_zero_or_pos k with e | e; subst e; simp at hn; omega; exact e) W
    have hsf2 : ∀ W, (Instr.slice 9 (.string ⟨fs.toArray⟩) (some (.int .i64 1)) none none).run Tryd.prog W = .ok (.string ⟨(fs.drop 1).toArray⟩) W := fun W => cut_suf fs 1 (by rw [hfl]; rcases Nat.eq_zero_or_pos k with e | e; subst e; simp at hn; omega; exact e) W
    have hcf := fun W => cat_two ((fs.take 1).map (swapU 111 117)) (fs.drop 1) (by rw [List.length_map, List.length_take]; omega) (by rw [List.length_drop]; omega) W
    generalize ((fs.take 1).map (swapU 111 117)) ++ fs.drop 1 = ff at hbw hcf
    generalize (⟨((fs.take 1).map (swapU 111 117)).toArray⟩ : ByteArray) = p7 at hcf hx2
    generalize (⟨(fs.drop 1).toArray⟩ : ByteArray) = p8 at hcf hsf2
    generalize (⟨(fs.take 1).toArray⟩ : ByteArray) = p6 at hsf1 hx2
    generalize hs0 : (⟨fs.toArray⟩ : ByteArray) = s0 at h0 h1 hszf hsf1 hsf2
    obtain ⟨sb, hsb⟩ : ∃ sb : ByteArray, ⟨bad.toArray⟩ = sb := ⟨_, rfl⟩
    rw [hsb] at h3 h4 h5 t2 hszb
    have hbyb : ∀ i (h : i < sb.size), sb[i] = bad.getD i 0 := by rw [← hsb]; exact hbyb
    obtain ⟨r, hr⟩ : ∃ r, Hid (firstP (clashB bad) N (N - 0) 0 = r) := ⟨_, rfl⟩
    rw [show firstP (clashB bad) N N 0 = r from hr.out] at h3 hnc
    have H3 := Lib.hid h3; have H4 := Lib.hid h4; have H5 := Lib.hid h5; have HNC := Lib.hid hnc; have HPV := Lib.hid hpv; have HCH := Lib.hid hch; have HBW := Lib.hid hbw; have HBY := Lib.hid hbyb
    have hra : (pl : Int) % (N : Int) = (a : Int) := by omega
    have ew : IntKind.i64.wrap ((a : Int) + 1) = (a : Int) + 1 := by rw [IntKind.wrap_i64]; omega
    have hNb : ((N : Int) == 0) = false := by simp; omega
    have hNe : ¬ (N : Int) = 0 := by omega
    have hN63 : N ≤ 63 := by omega
    clear h3 h4 h5 hnc hpv hch hbw hbyb hfo hst hbm hcm hbad hbl hsb hbg hfm hn ha hs0 hfs hal hz hcl
    go_enter Tryd.func9, Tryd.ntmps9
    go_wp2_with (fail)
    refine (h0 _).mono ?_; rintro e w1 ⟨rfl, q1, rfl⟩
    have hB1 : Below w.heap.size w (w.drewN q1) := below_drewN (Below.refl _ _) _
    generalize w.drewN q1 = w1 at hB1 ⊢
    go_wp2_with (fail)
    refine (h1 _).mono ?_; rintro e w2 ⟨rfl, hb2⟩
    have hB2 := hB1.trans (hb2.mono hB1.size)
    go_wp2_with (simp only [hwr.out])
    refine (h2 _ (hT.below hB2)).mono ?_; rintro e w3 ⟨rfl, hb3⟩
    have hB3 := hB2.trans (hb3.mono hB2.size)
    clear hB1 hb2 hB2 hb3
    go_wp2_with (fail)
    have hrefl : Below w3.heap.size w3 w3.drew := (Below.refl _ _).drew
    go_region_held3 (fun w' => Below w3.heap.size w3 w')
      (first
        | assumption
        | exact Below.trans (b := w3.drew) (by assumption) (hbc.mono (Nat.le_refl _))
        | exact Below.trans (by assumption) (hbc.mono (Below.size (B := w3.heap.size) (w := w3) (by assumption))))
      ((go_at_call 47; ((with_reducible refine (hx1 _).mono ?_); rintro e w' ⟨rfl, hbc⟩)))
    rename_i hHd
    have hB4 := hB3.trans (hHd.mono hB3.size)
    clear hHd hrefl hB3 h0 h1 h2 hx1 s1 s2 s3 t1 t2 ew hra hNb hNe hem
    generalize w' = wA at hB4 ⊢
    go_wp2_with (fail)
    go_loopw [14, 15, 84] (fun v14 v15 v84 wr => ∃ (i : Nat) (r0 : Option (Nat × Nat)), i ≤ N ∧ v84 = .int .i64 i ∧ XYs r0 v14 v15 ∧ Hid (SeenO (clashB bad) N i r0 r) ∧ Below w.heap.size w wr) (fun _ _ v _ => N - (RowKit.intOf v).toNat)
    case atStart => exact ⟨0, none, Nat.zero_le _, rfl, ⟨rfl, rfl⟩, hr, hB4⟩
    case round =>
      clear hB4
      obtain ⟨i, r0, hi, rfl, hxy, hso, hbr⟩ := hrel
      by_cases hlt : i < N
      · have hsi : Hid (SeenI (clashB bad) N i (i + 1) r0 r) := by
          rcases r0 with _ | p0
          · have h := hso.out
            show InnerAt _ _ _ _ _
            unfold SeenO at h; simp only at h
            show _ = _; rw [← h, firstP_step hlt]
          · exact hso.out
        go_wp2_with (fail)
        go_loopw [14, 15, 17] (fun v14 v15 v17 wr => ∃ (j : Nat) (r0 : Option (Nat × Nat)), i < j ∧ j ≤ N ∧ v17 = .int .i64 j ∧ XYs r0 v14 v15 ∧ Hid (SeenI (clashB bad) N i j r0 r) ∧ Below w.heap.size w wr) (fun _ _ v _ => N - (RowKit.intOf v).toNat)
        case atStart => exact ⟨i + 1, r0, by omega, by omega, by go_num, hxy, hsi, hbr⟩
        case round =>
          clear hxy hso hbr hsi
          obtain ⟨j, r0, hij, hj, rfl, hxy, hsi, hbr⟩ := hrel
          by_cases hlj : j < N
          · have hp1 := fun W => power_any (i + 1) (by omega) (by omega) W
            have hp2 := fun W => power_any (j + 1) (by omega) (by omega) W
            rw [show ((i + 1 : Nat) : Int) = (i : Int) + 1 by omega] at hp1
            rw [show ((j + 1 : Nat) : Int) = (j : Int) + 1 by omega] at hp2
            have hpr := fun W hW => H5.out (i : Int) (j : Int) W hW (by rw [IntKind.wrap_i64]; omega) (by rw [IntKind.wrap_i64]; omega)
            rw [HPV.out i j hij hlj] at hpr
            have hdef := HCH.out i j
            have hstj := firstJ_step (f := clashB bad) (i := i) hlj
            have hsn : ∀ c0, clashB bad i j = c0 → SeenI (clashB bad) N i (j + 1) (if c0 = true then some (r0.getD (i, j)) else r0) r := fun c0 hc0 => by
              have h := hsi.out
              rcases r0 with _ | p0
              · unfold SeenI at h; simp only at h
                unfold InnerAt at h; rw [hstj, hc0] at h
                cases c0
                · simp only [Bool.false_eq_true, if_false] at h ⊢
                  exact h
                · simp only [if_true] at h ⊢
                  exact h.symm
              · unfold SeenI at h; simp only at h
                cases c0 <;> exact h
            have HSN := Lib.hid hsn
            have hib : i < sb.size := by omega
            have hjb : j < sb.size := by omega
            have hbe : ((sb[i].toNat : Int) == (sb[j].toNat : Int)) = (bad.getD i 0 == bad.getD j 0) := by
              rw [HBY.out i hib, HBY.out j hjb, Bool.eq_iff_iff]; simp only [beq_iff_eq]
              exact ⟨fun h => UInt8.toNat_inj.1 (by omega), fun h => by rw [h]⟩
            obtain ⟨o1, o2⟩ := tz_facts (i + 1) (by omega) (by omega)
            have oo := fun h => tz_facts (j + 1) h (by omega)
            have e1 : IntKind.i64.wrap ((j : Int) - i) = (j : Int) - i := by rw [IntKind.wrap_i64]; omega
            clear hstj hsn hsi
            by_cases ht : tzN (i + 1) = tzN (j + 1)
            · have hjo : oddN (j + 1) * 2 ^ tzN (i + 1) = j + 1 := by
                rw [ht]
                rcases Nat.lt_or_ge (j + 1) 64 with h | h
                · exact (oo h).2
                · have : j + 1 = 64 := by omega
                  rw [this]; decide
              have hle := odd_le (i := i + 1) (j := j + 1) (by omega) ht
              have hq : j - i = (oddN (j + 1) - oddN (i + 1)) * 2 ^ tzN (i + 1) := by rw [Nat.sub_mul, hjo, o2]; omega
              have hpos : 0 < 2 ^ tzN (i + 1) := Nat.two_pow_pos _
              rw [if_pos ht] at hdef
              rw [← ht] at hp2
              generalize 2 ^ tzN (i + 1) = Pw at hp1 hp2 hq hpos
              obtain ⟨qq, hqq⟩ : ∃ qq, oddN (j + 1) - oddN (i + 1) = qq := ⟨_, rfl⟩
              rw [hqq] at hq hdef
              have hqle : qq ≤ j - i := by rw [hq]; exact Nat.le_mul_of_pos_right _ hpos
              have e2 : ((j : Int) - i).tdiv (Pw : Int) = (qq : Int) := by
                rw [show (j : Int) - i = ((j - i : Nat) : Int) by omega, Int.tdiv_eq_ediv_of_nonneg (by omega), hq]
                rw [Int.natCast_mul, Int.mul_ediv_cancel _ (by omega)]
              have e3 : IntKind.i64.wrap (qq : Int) = (qq : Int) := by rw [IntKind.wrap_i64]; omega
              have e4 : (qq : Int).tmod 4 = ((qq % 4 : Nat) : Int) := by rw [Int.tmod_eq_emod_of_nonneg (by omega)]; omega
              have e5 : IntKind.i64.wrap ((qq % 4 : Nat) : Int) = ((qq % 4 : Nat) : Int) := by rw [IntKind.wrap_i64]; omega
              have e6 : (((qq % 4 : Nat) : Int) == 0) = decide (qq % 4 = 0) := by rw [Bool.eq_iff_iff]; simp only [beq_iff_eq, decide_eq_true_eq]; omega
              have e7 : ((Pw : Int) == 0) = false := by simp; omega
              have e8 : ¬ (Pw : Int) = 0 := by omega
              generalize decide (qq % 4 = 0) = dd at hdef e6
              generalize (bad.getD i 0 == bad.getD j 0) = be at hdef hbe
              generalize qq % 4 = q4 at e4 e5 e6
              clear o1 o2 oo hjo hle hq hpos hqq ht hqle
              cases be <;> cases dd
              all_goals
                simp only [bne_self_eq_false, Bool.bne_true, Bool.bne_false, Bool.true_bne, Bool.false_bne, Bool.not_true, Bool.not_false] at hdef
                have hsn := HSN.out _ hdef
                rw [hdef] at hpr
                simp only [if_true, Bool.false_eq_true, if_false] at hpr hsn
                have HS := Lib.hid hsn
                clear hdef hsn
                go_wp2_with (fail)
                refine (hp1 _).mono ?_; rintro e w5 ⟨rfl, hw5⟩
                rw [hw5]; clear hw5
                go_wp2_with (fail)
                refine (hp2 _).mono ?_; rintro e w5 ⟨rfl, hw5⟩
                rw [hw5]; clear hw5
                go_wp2_with (fail)
                go_quiet (fail)
                have hbq := below_drewN hbr nq
                generalize wr.drewN nq = wq at hbq ⊢
                clear hbr
                have hTq := hT.below hbq
                rcases r0 with _ | p0
                · obtain ⟨hvx, hvy⟩ : _ ∧ _ := hxy
                  subst hvx
                  subst hvy
                  by_cases ha1 : i = a
                  · have hia : ((i : Int) == (a : Int)) = true := by simp [ha1]
                    clear ha1
                    go_wp2_with (fail)
                    refine (hpr _ hTq).mono ?_; rintro e w7 ⟨rfl, hb7⟩
                    have hB7 := hbq.trans (hb7.mono hbq.size)
                    go_wp2_with (fail)
                    exact ⟨⟨j + 1, _, by omega, by omega, by go_num, (by first | exact ⟨rfl, rfl⟩ | exact hxy), HS.out, hB7⟩, by simp [RowKit.intOf]; omega⟩
                  · have hia : ((i : Int) == (a : Int)) = false := by simp; omega
                    by_cases ha2 : j = a
                    · have hja : ((j : Int) == (a : Int)) = true := by simp [ha2]
                      clear ha1 ha2
                      go_wp2_with (fail)
                      refine (hpr _ hTq).mono ?_; rintro e w7 ⟨rfl, hb7⟩
                      have hB7 := hbq.trans (hb7.mono hbq.size)
                      go_wp2_with (fail)
                      exact ⟨⟨j + 1, _, by omega, by omega, by go_num, (by first | exact ⟨rfl, rfl⟩ | exact hxy), HS.out, hB7⟩, by simp [RowKit.intOf]; omega⟩
                    · have hja : ((j : Int) == (a : Int)) = false := by simp; omega
                      clear ha1 ha2
                      go_wp2_with (fail)
                      exact ⟨⟨j + 1, _, by omega, by omega, by go_num, (by first | exact ⟨rfl, rfl⟩ | exact hxy), HS.out, hbq⟩, by simp [RowKit.intOf]; omega⟩
                · obtain ⟨hvx, hvy⟩ : _ ∧ _ := hxy
                  subst hvx
                  subst hvy
                  have hxn : ¬ ((p0.1 : Int) < 0) := by omega
                  have hxd : decide ((p0.1 : Int) < 0) = false := by simp
                  by_cases ha1 : i = a
                  · have hia : ((i : Int) == (a : Int)) = true := by simp [ha1]
                    clear ha1
                    go_wp2_with (fail)
                    refine (hpr _ hTq).mono ?_; rintro e w7 ⟨rfl, hb7⟩
                    have hB7 := hbq.trans (hb7.mono hbq.size)
                    go_wp2_with (fail)
                    exact ⟨⟨j + 1, _, by omega, by omega, by go_num, (by first | exact ⟨rfl, rfl⟩ | exact hxy), HS.out, hB7⟩, by simp [RowKit.intOf]; omega⟩
                  · have hia : ((i : Int) == (a : Int)) = false := by simp; omega
                    by_cases ha2 : j = a
                    · have hja : ((j : Int) == (a : Int)) = true := by simp [ha2]
                      clear ha1 ha2
                      go_wp2_with (fail)
                      refine (hpr _ hTq).mono ?_; rintro e w7 ⟨rfl, hb7⟩
                      have hB7 := hbq.trans (hb7.mono hbq.size)
                      go_wp2_with (fail)
                      exact ⟨⟨j + 1, _, by omega, by omega, by go_num, (by first | exact ⟨rfl, rfl⟩ | exact hxy), HS.out, hB7⟩, by simp [RowKit.intOf]; omega⟩
                    · have hja : ((j : Int) == (a : Int)) = false := by simp; omega
                      clear ha1 ha2
                      go_wp2_with (fail)
                      exact ⟨⟨j + 1, _, by omega, by omega, by go_num, (by first | exact ⟨rfl, rfl⟩ | exact hxy), HS.out, hbq⟩, by simp [RowKit.intOf]; omega⟩
            · rw [if_neg ht] at hdef
              have e2 : ((2 ^ tzN (i + 1) : Nat) : Int) ≠ ((2 ^ tzN (j + 1) : Nat) : Int) := fun e => ht (by
                have : (2 : Nat) ^ tzN (i + 1) = 2 ^ tzN (j + 1) := by omega
                exact (Nat.pow_right_inj (by decide)).1 this)
              have e3 : (((2 ^ tzN (i + 1) : Nat) : Int) == ((2 ^ tzN (j + 1) : Nat) : Int)) = false := by simpa using e2
              generalize 2 ^ tzN (i + 1) = Pw at hp1 e3
              generalize 2 ^ tzN (j + 1) = Px at hp2 e3
              have hsn := HSN.out _ hdef
              rw [hdef] at hpr
              simp only [Bool.false_eq_true, if_false] at hpr hsn
              have HS := Lib.hid hsn
              clear hdef hsn o1 o2 oo ht e2 hbe
              go_wp2_with (fail)
              refine (hp1 _).mono ?_; rintro e w5 ⟨rfl, hw5⟩
              rw [hw5]; clear hw5
              go_wp2_with (fail)
              refine (hp2 _).mono ?_; rintro e w5 ⟨rfl, hw5⟩
              rw [hw5]; clear hw5
              go_wp2_with (fail)
              go_quiet (fail)
              have hbq := below_drewN hbr nq
              generalize wr.drewN nq = wq at hbq ⊢
              clear hbr
              have hTq := hT.below hbq
              rcases r0 with _ | p0
              · obtain ⟨hvx, hvy⟩ : _ ∧ _ := hxy
                subst hvx
                subst hvy
                by_cases ha1 : i = a
                · have hia : ((i : Int) == (a : Int)) = true := by simp [ha1]
                  clear ha1
                  go_wp2_with (fail)
                  refine (hpr _ hTq).mono ?_; rintro e w7 ⟨rfl, hb7⟩
                  have hB7 := hbq.trans (hb7.mono hbq.size)
                  go_wp2_with (fail)
                  exact ⟨⟨j + 1, _, by omega, by omega, by go_num, (by first | exact ⟨rfl, rfl⟩ | exact hxy), HS.out, hB7⟩, by simp [RowKit.intOf]; omega⟩
                · have hia : ((i : Int) == (a : Int)) = false := by simp; omega
                  by_cases ha2 : j = a
                  · have hja : ((j : Int) == (a : Int)) = true := by simp [ha2]
                    clear ha1 ha2
                    go_wp2_with (fail)
                    refine (hpr _ hTq).mono ?_; rintro e w7 ⟨rfl, hb7⟩
                    have hB7 := hbq.trans (hb7.mono hbq.size)
                    go_wp2_with (fail)
                    exact ⟨⟨j + 1, _, by omega, by omega, by go_num, (by first | exact ⟨rfl, rfl⟩ | exact hxy), HS.out, hB7⟩, by simp [RowKit.intOf]; omega⟩
                  · have hja : ((j : Int) == (a : Int)) = false := by simp; omega
                    clear ha1 ha2
                    go_wp2_with (fail)
                    exact ⟨⟨j + 1, _, by omega, by omega, by go_num, (by first | exact ⟨rfl, rfl⟩ | exact hxy), HS.out, hbq⟩, by simp [RowKit.intOf]; omega⟩
              · obtain ⟨hvx, hvy⟩ : _ ∧ _ := hxy
                subst hvx
                subst hvy
                have hxn : ¬ ((p0.1 : Int) < 0) := by omega
                have hxd : decide ((p0.1 : Int) < 0) = false := by simp
                by_cases ha1 : i = a
                · have hia : ((i : Int) == (a : Int)) = true := by simp [ha1]
                  clear ha1
                  go_wp2_with (fail)
                  refine (hpr _ hTq).mono ?_; rintro e w7 ⟨rfl, hb7⟩
                  have hB7 := hbq.trans (hb7.mono hbq.size)
                  go_wp2_with (fail)
                  exact ⟨⟨j + 1, _, by omega, by omega, by go_num, (by first | exact ⟨rfl, rfl⟩ | exact hxy), HS.out, hB7⟩, by simp [RowKit.intOf]; omega⟩
                · have hia : ((i : Int) == (a : Int)) = false := by simp; omega
                  by_cases ha2 : j = a
                  · have hja : ((j : Int) == (a : Int)) = true := by simp [ha2]
                    clear ha1 ha2
                    go_wp2_with (fail)
                    refine (hpr _ hTq).mono ?_; rintro e w7 ⟨rfl, hb7⟩
                    have hB7 := hbq.trans (hb7.mono hbq.size)
                    go_wp2_with (fail)
                    exact ⟨⟨j + 1, _, by omega, by omega, by go_num, (by first | exact ⟨rfl, rfl⟩ | exact hxy), HS.out, hB7⟩, by simp [RowKit.intOf]; omega⟩
                  · have hja : ((j : Int) == (a : Int)) = false := by simp; omega
                    clear ha1 ha2
                    go_wp2_with (fail)
                    exact ⟨⟨j + 1, _, by omega, by omega, by go_num, (by first | exact ⟨rfl, rfl⟩ | exact hxy), HS.out, hbq⟩, by simp [RowKit.intOf]; omega⟩
          · have hso : Hid (SeenO (clashB bad) N (i + 1) r0 r) := by
              rcases r0 with _ | p0
              · have h := hsi.out
                unfold SeenI InnerAt at h; simp only at h
                rw [show N - j = 0 by omega] at h
                exact h
              · exact hsi.out
            go_wp2_with (fail)
            exact ⟨⟨i + 1, r0, by omega, by go_num, hxy, hso, hbr⟩, by simp [RowKit.intOf]; omega⟩
      · obtain rfl : i = N := by omega
        have hrr : r = r0 := by
          rcases r0 with _ | p0
          · have h := hso.out
            unfold SeenO at h; simp only at h
            rw [Nat.sub_self] at h; exact h.symm
          · exact hso.out
        subst hrr
        have hTb := hT.below hbr
        rcases r with _ | p0
        · obtain ⟨hvx, hvy⟩ : _ ∧ _ := hxy
          subst hvx
          subst hvy
          have hcs := HNC.out.1 rfl
          have h4 := H4.out
          rw [if_pos hcs, HBW.out hcs] at h4
          have h4 : ∀ W, Calls Tryd.prog 29 #[.string sb] W (ValC (.tuple #[.string ⟨ff.toArray⟩, .int .i64 0]) W) := h4
          have h3 : ∀ W, Tab W → Calls Tryd.prog 31 #[.string sb] W (ValC (.tuple #[.int .i64 0, .int .i64 0, .int .i64 13]) W) := H3.out
          clear hcs hso H3 H4 H5 HNC HPV HCH HBW HBY
          go_wp2_with (fail)
          refine (h3 _ hTb).mono ?_; rintro e w5 ⟨rfl, hb5⟩
          have hB5 := hbr.trans (hb5.mono hbr.size)
          go_wp2_with (fail)
          refine (h4 _).mono ?_; rintro e w6 ⟨rfl, hb6⟩
          have hB6 := hB5.trans (hb6.mono hB5.size)
          have hTq : ∀ W, Below w6.heap.size w6 W → Tab W := fun W h => (hT.below hB6).below h
          clear hb5 hB5 hb6 hbr hTb
          go_wp2_with (fail)
          have hrefl : Below w6.heap.size w6 w6.drew := (Below.refl _ _).drew
          go_region_held3 (fun w' => Below w6.heap.size w6 w')
            (first
              | assumption
              | exact Below.trans (b := w6.drew) (by assumption) (hbc.mono (Nat.le_refl _))
              | exact Below.trans (by assumption) (hbc.mono (Below.size (B := w6.heap.size) (w := w6) (by assumption))))
            ((first
              | (go_at_call 47; ((with_reducible refine (hx2 _).mono ?_); rintro e w' ⟨rfl, hbc⟩))
              | (go_at_call 17; ((with_reducible refine (hws _ (hTq _ (by assumption))).mono ?_); rintro e w' ⟨rfl, hbc⟩))))
          rename_i hHd
          have hB7 := hB6.trans (hHd.mono hB6.size)
          clear hHd
          go_wp2_with (fail)
          go_ret
          exact ⟨rfl, hB7⟩
        · obtain ⟨hvx, hvy⟩ : _ ∧ _ := hxy
          subst hvx
          subst hvy
          have hxn : ¬ ((p0.1 : Int) < 0) := by omega
          have hxd : decide ((p0.1 : Int) < 0) = false := by simp
          have hcs : ¬ creS (foldsB (waysL bad 7 (2 ^ k))) = bad := fun h => by have := HNC.out.2 h; cases this
          have h4 := H4.out
          rw [if_neg hcs] at h4
          have h4 : ∀ W, Calls Tryd.prog 29 #[.string sb] W (ValC (.tuple #[.string ⟨#[]⟩, .int .i64 12]) W) := h4
          obtain ⟨px, py⟩ := p0
          have h3 : ∀ W, Tab W → Calls Tryd.prog 31 #[.string sb] W (ValC (.tuple #[.int .i64 px, .int .i64 py, .int .i64 0]) W) := H3.out
          simp only at hxn hxd
          clear hcs hso H3 H4 H5 HNC HPV HCH HBW HBY
          go_wp2_with (fail)
          refine (h3 _ hTb).mono ?_; rintro e w5 ⟨rfl, hb5⟩
          have hB5 := hbr.trans (hb5.mono hbr.size)
          go_wp2_with (fail)
          refine (h4 _).mono ?_; rintro e w6 ⟨rfl, hb6⟩
          have hB6 := hB5.trans (hb6.mono hB5.size)
          have hTq := hT.below hB6
          clear hb5 hB5 hb6 hbr hTb
          go_wp2_with (fail)
          refine (hws _ hTq).mono ?_; rintro e w7 ⟨rfl, hb7⟩
          have hB7 := hB6.trans (hb7.mono hB6.size)
          go_wp2_with (fail)
          go_ret
          exact ⟨rfl, hB7⟩
end Go.Proofs.YtehffacmphpknaaDoor
