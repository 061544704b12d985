/-
  The reference's End; the walk of QuireFolds: it returns true at any string.
-/
import Derived.Test.YtbkmicimpgabgaaDoorRefC
import Derived.Test.YtbkmicimpgabgaaDoorWorks
set_option linter.unusedSimpArgs false
set_option linter.unusedVariables false
namespace Go.Proofs.YtbkmicimpgabgaaDoor
open Go.RowKit Go.Lib Go.Proofs.Quire

set_option maxRecDepth 100000 in
set_option maxHeartbeats 2000000 in
theorem rend_any (cs : List UInt8) (w : World) (hs : cs.length ≤ maxLen) :
    Calls Tryd.prog 16 #[.string ⟨cs.toArray⟩] w fun e w' => e = .returned (endR cs) ∧ Below w.heap.size w w' := by
  have h1 := fun W => rcreases_any cs W hs
  obtain ⟨r, hr⟩ : ∃ r, Hid (endR cs = r) := ⟨_, rfl⟩
  rw [hr.out]
  by_cases hz : chkF cs = 0
  · have hle := (chkL_zero (show chkL 6 111 117 cs = 0 from hz)).1
    have hl : (creP cs).length ≤ 63 := by unfold creP; rw [if_pos hz]; exact creS_le hle
    have h2 := fun W => rwalk_any (creP cs) W hl
    have hR : Hid (r = .tuple #[.int .i64 (ptAt (walkL (creP cs)) ((creP cs).length + 1)).1, .int .i64 (ptAt (walkL (creP cs)) ((creP cs).length + 1)).2, .int .i64 0]) := by show _ = _; rw [← hr.out]; unfold endR; rw [if_pos hz]
    have hPl := walkL_len (creP cs)
    rw [hz] at h1
    generalize creP cs = l at h1 h2 hR hPl hl
    generalize walkL l = P at h2 hR hPl
    unfold StrEPost at h1
    obtain ⟨n, hn⟩ : ∃ n, l.length = n := ⟨_, rfl⟩
    rw [hn] at h2 hR hPl hl
    generalize (⟨l.toArray⟩ : ByteArray) = sl at h1 h2
    clear hz hr hn
    go_enter Tryd.func16, Tryd.ntmps16
    go_wp2_with (fail)
    refine (h1 _).mono ?_; rintro e w1 ⟨rfl, hb1⟩
    go_wp2_with (fail)
    refine (h2 _).mono ?_; rintro e w2 ⟨⟨A, c, rfl, hrd⟩, hb2⟩
    obtain ⟨g, o, rfl, _, hat⟩ := hrd.2 (by omega)
    obtain ⟨a1, a2⟩ := hat (n + 1) (by omega)
    generalize ptAt P (n + 1) = pt at a1 a2 hR
    obtain ⟨x, y⟩ := pt
    simp only at a1 a2 hR
    have e1 : ((n : Int) + 2 - 1) = (n : Int) + 1 := by omega
    have e2 : ((n : Int) + 1).toNat = n + 1 := by omega
    have e3 : IntKind.i64.wrap ((n : Int) + 2 - 1) = (n : Int) + 1 := by rw [IntKind.wrap_i64]; omega
    have hbF := hb1.trans (hb2.mono hb1.size)
    clear hat hrd hPl hb1 hb2 h1 h2
    go_wp2_with (fail)
    go_quiet (fail)
    go_wp2_with (fail)
    go_ret3
    refine ⟨by rw [hR.out]; rfl, ?_⟩
    exact below_drewN hbF _
  · have hR : Hid (r = .tuple #[.int .i64 0, .int .i64 0, .int .i64 (chkF cs)]) := by show _ = _; rw [← hr.out]; unfold endR; rw [if_neg hz]
    have hz2 : (chkF cs != 0) = true := by simpa using hz
    generalize chkF cs = z at h1 hz2 hR
    clear hz hr
    go_enter Tryd.func16, Tryd.ntmps16
    go_wp2_with (fail)
    refine (h1 _).mono ?_; rintro e w1 ⟨rfl, hb1⟩
    go_wp2_with (fail)
    go_ret3
    exact ⟨by rw [hR.out]; rfl, hb1⟩
theorem endR_form (cs : List UInt8) : ∃ x y z : Int, endR cs = .tuple #[.int .i64 x, .int .i64 y, .int .i64 z] := by
  unfold endR
  split
  · exact ⟨_, _, _, rfl⟩
  · exact ⟨_, _, _, rfl⟩
theorem pow6_le {f : List Bool} (h : f.length ≤ 6) : 2 ^ f.length ≤ 64 := Nat.le_trans (Nat.pow_le_pow_right (by omega) h) (by decide)
theorem pileP_le (cs : List UInt8) : (pileP cs).length ≤ 1000 := by
  unfold pileP
  split
  · rename_i h
    have hle := (chkL_zero (show chkL 6 111 117 cs = 0 from h)).1
    have := pow6_le (f := foldsB cs) (by rw [foldsB_len]; exact hle)
    rw [(pileL_facts _).1]; omega
  · simp
theorem pagesP_le (cs : List UInt8) : (pagesP cs).1.length ≤ 1000 ∧ (pagesP cs).2.length ≤ 1000 := by
  unfold pagesP
  split
  · rename_i h
    have hle := (chkL_zero (show chkL 6 111 117 cs = 0 from h)).1
    have h6 : (foldsB cs).length ≤ 6 := by rw [foldsB_len]; exact hle
    have h64 := pow6_le h6
    obtain ⟨h1, h2⟩ := pgS_len (stripL (foldsB cs)).trn (pileL (foldsB cs)) 0 (List.replicate (stripL (foldsB cs)).trn.length 0) (List.replicate (stripL (foldsB cs)).trn.length 0)
    have h3 : (stripL (foldsB cs)).trn.length = 2 ^ (foldsB cs).length := (strip_inv _).1
    unfold pagesS
    rw [h1, h2, List.length_replicate, h3]
    omega
  · simp
set_option maxRecDepth 100000 in
set_option maxHeartbeats 8000000 in
theorem foldsLaw_any (cs : List UInt8) (w : World) (hT : Tab w) (hs : cs.length ≤ maxLen) :
    Calls Tryd.prog 3 #[.string ⟨cs.toArray⟩] w (ValC (.bool true) w) := by
  have hsz := size_l cs
  by_cases h100 : 100 < cs.length
  · have hw := fun W hW => works_any W hW
    have hb : (100 : Int) < ((⟨cs.toArray⟩ : ByteArray).size : Int) := by rw [hsz]; omega
    generalize (⟨cs.toArray⟩ : ByteArray) = s at hb ⊢
    clear hsz
    go_enter Tryd.func3, Tryd.ntmps3
    go_wp2_with (fail)
    refine (hw _ hT).mono ?_; rintro e w1 ⟨rfl, hb1⟩
    go_wp2_with (fail)
    go_ret
    exact ⟨rfl, hb1⟩
  · have h1 := fun W => pileP_any cs W hs
    have h2 := fun W => rpile_any cs W hs
    have h3 := fun W => pages_any cs W hs
    have h4 := fun W => rpages_any cs W hs
    have h5 := fun W => creases_any cs W hs
    have h6 := fun W => rcreases_any cs W hs
    have h7 := fun W => end_any cs W hs
    have h8 := fun W => rend_any cs W hs
    have h9 := fun W => check_any ⟨cs.toArray⟩ W (by rw [size_l]; exact hs)
    have h10 := fun W => rcheck_any cs W hs
    simp only [List.toList_toArray] at h9
    rw [show chkL 6 111 117 cs = chkF cs from rfl] at h9
    obtain ⟨x, y, z, hv⟩ := endR_form cs
    rw [hv] at h7 h8
    have hl := pileP_le cs
    obtain ⟨hu, hd⟩ := pagesP_le cs
    unfold StrEPost at h5 h6
    generalize (⟨(creP cs).toArray⟩ : ByteArray) = sc at h5 h6
    generalize pileP cs = l at h1 h2 hl
    generalize pagesP cs = pg at h3 h4 hu hd
    obtain ⟨u, d⟩ := pg
    simp only at h3 h4 hu hd
    generalize chkF cs = ee at h1 h2 h3 h4 h5 h6 h9 h10
    have hb : ¬ (100 : Int) < ((⟨cs.toArray⟩ : ByteArray).size : Int) := by rw [hsz]; omega
    generalize (⟨cs.toArray⟩ : ByteArray) = s at hb h1 h2 h3 h4 h5 h6 h7 h8 h9 h10 ⊢
    clear hsz hv
    obtain ⟨nl, hnl⟩ : ∃ n, Hid (l.length = n) := ⟨_, rfl⟩
    obtain ⟨nu, hnu⟩ : ∃ n, Hid (u.length = n) := ⟨_, rfl⟩
    obtain ⟨nd, hnd⟩ : ∃ n, Hid (d.length = n) := ⟨_, rfl⟩
    have s1 := fun A A' c c' W h h' => same_self l nl hnl.out (by rw [← hnl.out]; exact hl) A A' c c' W h h'
    have s2 := fun A A' c c' W h h' => same_self u nu hnu.out (by rw [← hnu.out]; exact hu) A A' c c' W h h'
    have s3 := fun A A' c c' W h h' => same_self d nd hnd.out (by rw [← hnd.out]; exact hd) A A' c c' W h h'
    clear hl hu hd
    go_enter Tryd.func3, Tryd.ntmps3
    go_wp2_with (fail)
    refine (h1 _).mono ?_; rintro e w1 ⟨A1, c1, rfl, ra, hb1⟩
    rw [hnl.out] at ra
    rw [hnl.out]
    have hB := hb1
    clear hb1 h1
    go_wp2_with (fail)
    refine (h2 _).mono ?_; rintro e w2 ⟨A2, c2, rfl, rb, hb2⟩
    rw [hnl.out] at rb
    rw [hnl.out]
    have ra := ra.below hb2
    have hB := hB.trans (hb2.mono hB.size)
    clear hb2 h2
    go_wp2_with (fail)
    refine (h3 _).mono ?_; rintro e w3 ⟨A3, c3, A4, c4, rfl, rc, rd, hb3⟩
    rw [hnu.out] at rc
    rw [hnd.out] at rd
    rw [hnu.out, hnd.out]
    have ra := ra.below hb3; have rb := rb.below hb3
    have hB := hB.trans (hb3.mono hB.size)
    clear hb3 h3
    go_wp2_with (fail)
    refine (h4 _).mono ?_; rintro e w4 ⟨A5, c5, A6, c6, rfl, re, rf, hb4⟩
    rw [hnu.out] at re
    rw [hnd.out] at rf
    rw [hnu.out, hnd.out]
    have ra := ra.below hb4; have rb := rb.below hb4; have rc := rc.below hb4; have rd := rd.below hb4
    have hB := hB.trans (hb4.mono hB.size)
    clear hb4 h4
    go_wp2_with (fail)
    refine (s1 _ _ _ _ _ ra rb).mono ?_; rintro e w5 ⟨rfl, hb5⟩
    have rc := rc.below hb5; have rd := rd.below hb5; have re := re.below hb5; have rf := rf.below hb5
    have hB := hB.trans (hb5.mono hB.size)
    clear hb5 s1 ra rb
    go_wp2_with (fail)
    refine (s2 _ _ _ _ _ rc re).mono ?_; rintro e w6 ⟨rfl, hb6⟩
    have rd := rd.below hb6; have rf := rf.below hb6
    have hB := hB.trans (hb6.mono hB.size)
    clear hb6 s2 rc re
    go_wp2_with (fail)
    refine (s3 _ _ _ _ _ rd rf).mono ?_; rintro e w7 ⟨rfl, hb7⟩
    have hB := hB.trans (hb7.mono hB.size)
    clear hb7 s3 rd rf
    go_wp2_with (fail)
    refine (h5 _).mono ?_; rintro e w8 ⟨rfl, hb8⟩
    have hB := hB.trans (hb8.mono hB.size)
    clear hb8 h5
    go_wp2_with (fail)
    refine (h6 _).mono ?_; rintro e w9 ⟨rfl, hb9⟩
    have hB := hB.trans (hb9.mono hB.size)
    clear hb9 h6
    go_wp2_with (fail)
    refine (h7 _).mono ?_; rintro e wa ⟨rfl, hba⟩
    have hB := hB.trans (hba.mono hB.size)
    clear hba h7
    go_wp2_with (fail)
    refine (h8 _).mono ?_; rintro e wb ⟨rfl, hbb⟩
    have hB := hB.trans (hbb.mono hB.size)
    clear hbb h8
    go_wp2_with (fail)
    refine (h9 _).mono ?_; rintro e wc ⟨rfl, hbc⟩
    have hB := hB.trans (hbc.mono hB.size)
    clear hbc h9
    go_wp2_with (fail)
    refine (h10 _).mono ?_; rintro e wd ⟨rfl, hwd⟩
    rw [hwd]
    clear hwd h10
    have hT5 := hT.below hB
    go_wp2_with (fail)
    refine (works_any _ hT5).mono ?_; rintro e we ⟨rfl, hbe⟩
    have hB6 := hB.trans (hbe.mono hB.size)
    go_wp2_with (fail)
    go_ret
    exact ⟨rfl, hB6⟩
end Go.Proofs.YtbkmicimpgabgaaDoor
