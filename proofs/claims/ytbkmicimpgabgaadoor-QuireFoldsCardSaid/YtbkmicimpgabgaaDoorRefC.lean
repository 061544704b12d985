/-
  The reference's Check, Pile, Creases, End and Pages.
-/
import Derived.Test.YtbkmicimpgabgaaDoorRefS
import Derived.Test.YtbkmicimpgabgaaDoorRefW
import Derived.Test.YtbkmicimpgabgaaDoorPages
set_option linter.unusedSimpArgs false
set_option linter.unusedVariables false
namespace Go.Proofs.YtbkmicimpgabgaaDoor
open Go.RowKit Go.Lib Go.Proofs.Quire

theorem rcheck_any (cs : List UInt8) (w : World) (hs : cs.length ≤ maxLen) :
    Calls Tryd.prog 18 #[.string ⟨cs.toArray⟩] w fun e w' => e = .returned (.int .i64 (chkF cs)) ∧ w' = w := by
  have h1 := fun W => rletters_any ⟨cs.toArray⟩ 6 111 117 W (by rw [size_l]; exact hs) (by decide)
  simp only [List.toList_toArray, show ((6 : Nat) : Int) = 6 from rfl, show ((111 : UInt8).toNat : Int) = 111 from rfl, show ((117 : UInt8).toNat : Int) = 117 from rfl] at h1
  rw [show chkL 6 111 117 cs = chkF cs from rfl] at h1
  generalize chkF cs = z at h1 ⊢
  go_enter Tryd.func18, Tryd.ntmps18
  go_wp2_with (fail)
  refine (h1 _).mono ?_; rintro e w1 ⟨rfl, hw⟩
  rw [hw]
  go_wp2_with (fail)
  go_ret
  exact ⟨rfl, rfl⟩
def RStripC (F : List Bool) (w : World) (e : Ending) (w' : World) : Prop :=
  ∃ A c A2 c2 T, e = .returned (.tuple #[.slice A (pileL F).length c, .slice A2 (pileL F).length c2, .string ⟨(creS F).toArray⟩]) ∧ Rd w' A (pileL F).length (ints (pileL F)) ∧ Rd w' A2 (pileL F).length (ints T) ∧ T.map (fun n => n % 2 == 1) = trnC F ∧ Below w.heap.size w w'
theorem rstripC_any (cs : List UInt8) (w : World) (hl : cs.length ≤ 6) :
    Calls Tryd.prog 38 #[.string ⟨cs.toArray⟩] w (RStripC (foldsB cs) w) := by
  have hb : (foldsB cs).length ≤ 6 := by rw [foldsB_len]; exact hl
  obtain ⟨h1, h2, h3⟩ := refs (foldsB cs) hb
  refine (rstrip_any cs w hl).mono ?_
  rintro e w' ⟨A, c, A2, c2, h4, h5, h6, h7⟩
  have e1 : (refL (foldsB cs)).cols.getD 0 [] = pileL (foldsB cs) := by rw [h1, pileL_C _ hb]; rfl
  have e2 : (refL (foldsB cs)).cre.map UInt8.ofNat = creS (foldsB cs) := by unfold creS; rw [h3, (closed _ hb).2.2]
  have e3 : (refL (foldsB cs)).trn.length = (pileL (foldsB cs)).length := by
    rw [(pileL_facts _).1]; exact (refL_inv (foldsB cs)).1
  rw [e1, e2, e3] at h4
  rw [e1] at h5
  rw [e3] at h6
  exact ⟨A, c, A2, c2, _, h4, h5, h6, h2, h7⟩
theorem rpile_any (cs : List UInt8) (w : World) (hs : cs.length ≤ maxLen) :
    Calls Tryd.prog 9 #[.string ⟨cs.toArray⟩] w (RowEPost (pileP cs) (chkF cs) w) := by
  have h1 := fun W => rcheck_any cs W hs
  by_cases hz : chkF cs = 0
  · have hle := (chkL_zero (show chkL 6 111 117 cs = 0 from hz)).1
    have h2 := fun W => rstripC_any cs W hle
    have hP : Hid (pileP cs = pileL (foldsB cs)) := by show _ = _; unfold pileP; rw [if_pos hz]
    rw [hP.out, hz]
    rw [hz] at h1
    unfold RStripC at h2
    generalize pileL (foldsB cs) = l at h2 ⊢
    clear hz hP
    go_enter Tryd.func9, Tryd.ntmps9
    go_wp2_with (fail)
    refine (h1 _).mono ?_; rintro e w1 ⟨rfl, hw1⟩
    rw [hw1]
    clear hw1 w1
    go_wp2_with (fail)
    refine (h2 _).mono ?_; rintro e w2 ⟨A, c, A2, c2, T, rfl, hrd, _, _, hb⟩
    have HRD := Lib.hid hrd
    clear hrd
    go_wp2_with (fail)
    go_ret2
    exact ⟨A, c, rfl, HRD.out, hb⟩
  · have hP : Hid (pileP cs = []) := by show _ = _; unfold pileP; rw [if_neg hz]
    have hz2 : (chkF cs != 0) = true := by simpa using hz
    rw [hP.out]
    generalize chkF cs = z at h1 hz2 ⊢
    clear hz hP
    go_enter Tryd.func9, Tryd.ntmps9
    go_wp2_with (fail)
    refine (h1 _).mono ?_; rintro e w1 ⟨rfl, hw1⟩
    rw [hw1]
    go_wp2_with (fail)
    go_ret2
    exact ⟨none, 0, rfl, rd_nil _ _ _, Below.refl _ _⟩
theorem rcreases_any (cs : List UInt8) (w : World) (hs : cs.length ≤ maxLen) :
    Calls Tryd.prog 14 #[.string ⟨cs.toArray⟩] w (StrEPost (creP cs) (chkF cs) w) := by
  have h1 := fun W => rcheck_any cs W hs
  by_cases hz : chkF cs = 0
  · have hle := (chkL_zero (show chkL 6 111 117 cs = 0 from hz)).1
    have h2 := fun W => rstripC_any cs W hle
    have hP : Hid (creP cs = creS (foldsB cs)) := by show _ = _; unfold creP; rw [if_pos hz]
    rw [hP.out, hz]
    rw [hz] at h1
    unfold RStripC at h2
    generalize creS (foldsB cs) = l at h2 ⊢
    unfold StrEPost
    generalize (⟨l.toArray⟩ : ByteArray) = s1 at h2 ⊢
    clear hz hP
    go_enter Tryd.func14, Tryd.ntmps14
    go_wp2_with (fail)
    refine (h1 _).mono ?_; rintro e w1 ⟨rfl, hw1⟩
    rw [hw1]
    clear hw1 w1
    go_wp2_with (fail)
    refine (h2 _).mono ?_; rintro e w2 ⟨A, c, A2, c2, T, rfl, _, _, _, hb⟩
    go_wp2_with (fail)
    go_ret2
    exact ⟨rfl, hb⟩
  · have hP : Hid (creP cs = []) := by show _ = _; unfold creP; rw [if_neg hz]
    have hz2 : (chkF cs != 0) = true := by simpa using hz
    rw [hP.out]
    generalize chkF cs = z at h1 hz2 ⊢
    clear hz hP
    go_enter Tryd.func14, Tryd.ntmps14
    go_wp2_with (fail)
    refine (h1 _).mono ?_; rintro e w1 ⟨rfl, hw1⟩
    rw [hw1]
    go_wp2_with (fail)
    go_ret2
    exact ⟨rfl, Below.refl _ _⟩
set_option maxRecDepth 100000 in
set_option maxHeartbeats 8000000 in
theorem rpages_any (cs : List UInt8) (w : World) (hs : cs.length ≤ maxLen) :
    Calls Tryd.prog 11 #[.string ⟨cs.toArray⟩] w (TwoRowsPost (pagesP cs).1 (pagesP cs).2 (chkF cs) w) := by
  have h1 := fun W => rcheck_any cs W hs
  by_cases hz : chkF cs = 0
  · have hle := (chkL_zero (show chkL 6 111 117 cs = 0 from hz)).1
    have hfl : (foldsB cs).length ≤ 6 := by rw [foldsB_len]; exact hle
    have h2 := fun W => rstripC_any cs W hle
    have hP : Hid (pagesP cs = pagesS (foldsB cs)) := by show _ = _; unfold pagesP; rw [if_pos hz]
    rw [hP.out, hz]
    rw [hz] at h1
    obtain ⟨hpl, hpx⟩ := pileL_facts (foldsB cs)
    have hp64 : 2 ^ (foldsB cs).length ≤ 64 := Nat.le_trans (Nat.pow_le_pow_right (by omega) hfl) (by decide)
    have hres : Hid (pagesS (foldsB cs) = pgS (trnC (foldsB cs)) (pileL (foldsB cs)) 0 (List.replicate (pileL (foldsB cs)).length 0) (List.replicate (pileL (foldsB cs)).length 0)) := by
      show _ = _; unfold pagesS; rw [(closed _ hfl).2.1, hpl, show (trnC (foldsB cs)).length = 2 ^ (foldsB cs).length by simp [trnC]]
    have htl : (trnC (foldsB cs)).length = (pileL (foldsB cs)).length := by rw [hpl]; simp [trnC]
    rw [← hpl] at hpx hp64
    unfold RStripC at h2
    generalize pagesS (foldsB cs) = r at hres ⊢
    generalize trnC (foldsB cs) = tb at h2 hres htl
    generalize pileL (foldsB cs) = l at h2 hpx hp64 hres htl
    obtain ⟨N, hN⟩ : ∃ N, Hid (l.length = N) := ⟨_, rfl⟩
    rw [hN.out] at hpx hp64 hres h2 htl
    have hmk := run_make_ints N (by omega)
    have hst : Hid (pgS tb (l.drop 0) 0 (List.replicate N 0) (List.replicate N 0) = r) := hres.out.symm
    have hlen := pgS_len tb l 0 (List.replicate N 0) (List.replicate N 0)
    rw [← hres.out, List.length_replicate] at hlen
    have HLEN := Lib.hid hlen; have HTL := Lib.hid htl; have HPX := Lib.hid hpx
    clear hz hP hres hpx hpl hlen htl hfl
    go_enter Tryd.func11, Tryd.ntmps11
    go_wp2_with (fail)
    refine (h1 _).mono ?_; rintro e w1 ⟨rfl, hw1⟩
    rw [hw1]
    clear hw1 w1
    go_wp2_with (fail)
    refine (h2 _).mono ?_; rintro e w2 ⟨A, c, A2, c2, T, rfl, hrd, hrT, hT, hbF⟩
    have HTT := Lib.hid hT
    have HTN : Hid (T.length = N) := by show _ = _; have := hrT.1; simpa using this
    have HR1 := Lib.hid hrd; have HR2 := Lib.hid hrT
    clear h1 h2 hrd hrT hT
    go_wp2_with (fail)
    go_region
    all_goals
      have hb3 : Below w2.heap.size w2 (((w2.alloc (.cells (ints (List.replicate N 0)).toArray 3)).alloc (.cells (ints (List.replicate N 0)).toArray 3)).drew) := (((Below.refl _ w2).alloc (Nat.le_refl _) _).alloc (by simp) _).drew
      have hx1 : Arr (((w2.alloc (.cells (ints (List.replicate N 0)).toArray 3)).alloc (.cells (ints (List.replicate N 0)).toArray 3)).drew) w2.heap.size (ints (List.replicate N 0)) := ((Arr.new w2 (ints (List.replicate N 0)) 3).alloc (.cells (ints (List.replicate N 0)).toArray 3)).drewN 1
      have hx2 : Arr (((w2.alloc (.cells (ints (List.replicate N 0)).toArray 3)).alloc (.cells (ints (List.replicate N 0)).toArray 3)).drew) (w2.heap.size + 1) (ints (List.replicate N 0)) := by
        have h := Arr.new (w2.alloc (.cells (ints (List.replicate N 0)).toArray 3)) (ints (List.replicate N 0)) 3
        simp only [World.size_alloc] at h; exact h.drewN 1
      generalize ((w2.alloc (.cells (ints (List.replicate N 0)).toArray 3)).alloc (.cells (ints (List.replicate N 0)).toArray 3)).drew = w3 at hb3 hx1 hx2 ⊢
      obtain ⟨ga, hga⟩ : ∃ ga, ga = w2.heap.size := ⟨_, rfl⟩
      obtain ⟨gb, hgb⟩ : ∃ gb, gb = w2.heap.size + 1 := ⟨_, rfl⟩
      have hgl : w2.heap.size ≤ ga ∧ w2.heap.size ≤ gb ∧ ga ≠ gb := by omega
      rw [← hga] at hx1
      rw [← hgb] at hx2
      rw [← hgb]
      simp only [← hga]
      clear hga hgb
    · go_wp2_with (fail)
      go_loopw [11] (fun v wr => ∃ (k : Nat) (u d : List Nat), k ≤ N ∧ v = .int .i64 k ∧ Hid (u.length = N) ∧ Hid (d.length = N) ∧ Arr wr ga (ints u) ∧ Arr wr gb (ints d) ∧ Below w2.heap.size w2 wr ∧ Hid (pgS tb (l.drop k) k u d = r)) (fun v _ => N - (RowKit.intOf v).toNat)
      case atStart => exact ⟨0, _, _, Nat.zero_le _, rfl, List.length_replicate, List.length_replicate, hx1, hx2, hb3, hst⟩
      case round =>
        clear hx1 hx2 hb3 hst
        obtain ⟨k, u, d, hk, rfl, hlu, hld, hau, had, hbr, hf⟩ := hrel
        by_cases hlt : k < N
        · have hkl : k < l.length := by rw [hN.out]; exact hlt
          have hgw : ga ≠ gb := hgl.2.2
          obtain ⟨gp, op, rfl, hgp, _, hcp⟩ := HR1.out.2 (by omega)
          obtain ⟨gq, oq, rfl, hgq, _, hcq⟩ := HR2.out.2 (by omega)
          have hcx := (hbr.cell (p := ⟨gp, op + k, none⟩) hgp).trans (hcp k hlt)
          rw [ints_getD _ _ hkl] at hcx
          have hxk : l.getD k 0 < N := HPX.out _ (by rw [getD_lt _ _ _ hkl]; exact List.getElem_mem _)
          have hstep : Hid (r = if tb.getD (l.getD k 0) false = true then pgS tb (l.drop (k + 1)) (k + 1) (u.set (l.getD k 0) (2 * k + 2)) (d.set (l.getD k 0) (2 * k + 1)) else pgS tb (l.drop (k + 1)) (k + 1) (u.set (l.getD k 0) (2 * k + 1)) (d.set (l.getD k 0) (2 * k + 2))) := by
            show _ = _; rw [← hf.out, drop_cons l k 0 hkl]; rfl
          generalize l.getD k 0 = x at hcx hxk hstep
          have hct := (hbr.cell (p := ⟨gq, oq + x, none⟩) hgq).trans (hcq x hxk)
          rw [ints_getD _ _ (by rw [HTN.out]; exact hxk)] at hct
          have htx : tb.getD x false = (T.getD x 0 % 2 == 1) := by
            rw [← HTT.out, List.getD_eq_getElem?_getD, List.getD_eq_getElem?_getD, List.getElem?_map, List.getElem?_eq_getElem (show x < T.length by rw [HTN.out]; exact hxk)]; rfl
          generalize T.getD x 0 = ti at hct htx
          have hrn : (ti : Int).tmod 2 = (ti : Int) % 2 := by rw [Int.tmod_eq_emod_of_nonneg (by omega)]
          have hrm : ((ti : Int) % 2 == 0) = !(ti % 2 == 1) := by
            rw [Bool.eq_iff_iff]; simp only [beq_iff_eq, Bool.not_eq_true', beq_eq_false_iff_ne, ne_eq]; omega
          rw [← htx] at hrm
          obtain ⟨iu, fu⟩ := hau.2 x (by rw [ints_length, hlu.out]; exact hxk)
          obtain ⟨il, fl⟩ := had.2 x (by rw [ints_length, hld.out]; exact hxk)
          rw [ints_getD _ _ (by rw [hlu.out]; exact hxk)] at iu
          rw [ints_getD _ _ (by rw [hld.out]; exact hxk)] at il
          have hset : ∀ a b : Nat, Hid (Arr (((wr.setCell ⟨ga, x, none⟩ (.int .i64 (a : Int))).setCell ⟨gb, x, none⟩ (.int .i64 (b : Int))).drew) ga (ints (u.set x a)) ∧ Arr (((wr.setCell ⟨ga, x, none⟩ (.int .i64 (a : Int))).setCell ⟨gb, x, none⟩ (.int .i64 (b : Int))).drew) gb (ints (d.set x b)) ∧ Below w2.heap.size w2 (((wr.setCell ⟨ga, x, none⟩ (.int .i64 (a : Int))).setCell ⟨gb, x, none⟩ (.int .i64 (b : Int))).drew)) := fun a b => by
            have s1 := hau.set x (by rw [ints_length, hlu.out]; exact hxk) (.int .i64 (a : Int))
            rw [ints_set] at s1
            have s2 := (had.other (p := ⟨ga, x, none⟩) hgw (.int .i64 (a : Int))).set x (by rw [ints_length, hld.out]; exact hxk) (.int .i64 (b : Int))
            rw [ints_set] at s2
            exact ⟨(s1.other (fun e => hgw e.symm) _).drewN 1, s2.drewN 1, ((hbr.setCell (p := ⟨ga, x, none⟩) (by show w2.heap.size ≤ ga; omega) _).setCell (by show w2.heap.size ≤ gb; omega) _).drew⟩
          have hsl : ∀ a : Nat, Hid ((u.set x a).length = N ∧ (d.set x a).length = N) := fun a => by
            show _ ∧ _; rw [List.length_set, List.length_set]; exact ⟨hlu.out, hld.out⟩
          have HBR := Lib.hid hbr
          have hw2k : IntKind.i64.wrap (2 * (k : Int)) = 2 * (k : Int) := by rw [IntKind.wrap_i64]; omega
          have hw2a : IntKind.i64.wrap (2 * (k : Int) + 1) = 2 * (k : Int) + 1 := by rw [IntKind.wrap_i64]; omega
          have hw2b : IntKind.i64.wrap (2 * (k : Int) + 2) = 2 * (k : Int) + 2 := by rw [IntKind.wrap_i64]; omega
          clear hau had hcp hcq hbr htx
          have e1 : ((2 * k + 2 : Nat) : Int) = 2 * (k : Int) + 2 := by omega
          have e2 : ((2 * k + 1 : Nat) : Int) = 2 * (k : Int) + 1 := by omega
          cases htx : tb.getD x false with
          | true =>
            rw [htx] at hstep hrm
            have hrm : ((ti : Int) % 2 == 0) = false := hrm
            have hS1 := hset (2 * k + 2) (2 * k + 1)
            have hst2 : Hid (pgS tb (l.drop (k + 1)) (k + 1) (u.set x (2 * k + 2)) (d.set x (2 * k + 1)) = r) := by show _ = _; rw [hstep.out]; rfl
            rw [e1, e2] at hS1
            clear htx hstep hset e1 e2
            go_wp2_with (fail)
            go_region
            go_wp2_with (fail)
            exact ⟨⟨k + 1, _, _, by omega, by go_num, (hsl _).out.1, (hsl _).out.2, hS1.out.1, hS1.out.2.1, hS1.out.2.2, hst2⟩, by simp [RowKit.intOf]; omega⟩
          | false =>
            rw [htx] at hstep hrm
            have hrm : ((ti : Int) % 2 == 0) = true := hrm
            have hS1 := hset (2 * k + 1) (2 * k + 2)
            have hst2 : Hid (pgS tb (l.drop (k + 1)) (k + 1) (u.set x (2 * k + 1)) (d.set x (2 * k + 2)) = r) := by show _ = _; rw [hstep.out]; rfl
            rw [e1, e2] at hS1
            clear htx hstep hset e1 e2
            go_wp2_with (fail)
            go_region
            go_wp2_with (fail)
            exact ⟨⟨k + 1, _, _, by omega, by go_num, (hsl _).out.1, (hsl _).out.2, hS1.out.1, hS1.out.2.1, hS1.out.2.2, hst2⟩, by simp [RowKit.intOf]; omega⟩
        · have hR : Hid ((u, d) = r) := by
            have e : l.drop k = [] := List.drop_eq_nil_of_le (by rw [hN.out]; omega)
            show _ = _; rw [← hf.out, e]; rfl
          have hru : Rd wr (some ⟨ga, 0, none⟩) N (ints u) := by
            have h := hau.rdI (X := []) (by simp); rw [hlu.out] at h; exact h
          have hrd : Rd wr (some ⟨gb, 0, none⟩) N (ints d) := by
            have h := had.rdI (X := []) (by simp); rw [hld.out] at h; exact h
          have HRU := Lib.hid hru; have HRD := Lib.hid hrd
          have hbE := hbF.trans (hbr.mono hbF.size)
          clear hau had hf hru hrd
          go_wp2_with (fail)
          go_ret3
          refine ⟨some ⟨ga, 0, none⟩, N, some ⟨gb, 0, none⟩, N, ?_, ?_, ?_, hbE⟩
          · rw [HLEN.out.1, HLEN.out.2]; rfl
          · rw [HLEN.out.1, ← hR.out]; exact HRU.out
          · rw [HLEN.out.2, ← hR.out]; exact HRD.out
    · go_wp2_with (fail)
      go_loopw [11] (fun v wr => ∃ (k : Nat) (u d : List Nat), k ≤ N ∧ v = .int .i64 k ∧ Hid (u.length = N) ∧ Hid (d.length = N) ∧ Arr wr gb (ints u) ∧ Arr wr ga (ints d) ∧ Below w2.heap.size w2 wr ∧ Hid (pgS tb (l.drop k) k u d = r)) (fun v _ => N - (RowKit.intOf v).toNat)
      case atStart => exact ⟨0, _, _, Nat.zero_le _, rfl, List.length_replicate, List.length_replicate, hx2, hx1, hb3, hst⟩
      case round =>
        clear hx1 hx2 hb3 hst
        obtain ⟨k, u, d, hk, rfl, hlu, hld, hau, had, hbr, hf⟩ := hrel
        by_cases hlt : k < N
        · have hkl : k < l.length := by rw [hN.out]; exact hlt
          have hgw : gb ≠ ga := fun e => hgl.2.2 e.symm
          obtain ⟨gp, op, rfl, hgp, _, hcp⟩ := HR1.out.2 (by omega)
          obtain ⟨gq, oq, rfl, hgq, _, hcq⟩ := HR2.out.2 (by omega)
          have hcx := (hbr.cell (p := ⟨gp, op + k, none⟩) hgp).trans (hcp k hlt)
          rw [ints_getD _ _ hkl] at hcx
          have hxk : l.getD k 0 < N := HPX.out _ (by rw [getD_lt _ _ _ hkl]; exact List.getElem_mem _)
          have hstep : Hid (r = if tb.getD (l.getD k 0) false = true then pgS tb (l.drop (k + 1)) (k + 1) (u.set (l.getD k 0) (2 * k + 2)) (d.set (l.getD k 0) (2 * k + 1)) else pgS tb (l.drop (k + 1)) (k + 1) (u.set (l.getD k 0) (2 * k + 1)) (d.set (l.getD k 0) (2 * k + 2))) := by
            show _ = _; rw [← hf.out, drop_cons l k 0 hkl]; rfl
          generalize l.getD k 0 = x at hcx hxk hstep
          have hct := (hbr.cell (p := ⟨gq, oq + x, none⟩) hgq).trans (hcq x hxk)
          rw [ints_getD _ _ (by rw [HTN.out]; exact hxk)] at hct
          have htx : tb.getD x false = (T.getD x 0 % 2 == 1) := by
            rw [← HTT.out, List.getD_eq_getElem?_getD, List.getD_eq_getElem?_getD, List.getElem?_map, List.getElem?_eq_getElem (show x < T.length by rw [HTN.out]; exact hxk)]; rfl
          generalize T.getD x 0 = ti at hct htx
          have hrn : (ti : Int).tmod 2 = (ti : Int) % 2 := by rw [Int.tmod_eq_emod_of_nonneg (by omega)]
          have hrm : ((ti : Int) % 2 == 0) = !(ti % 2 == 1) := by
            rw [Bool.eq_iff_iff]; simp only [beq_iff_eq, Bool.not_eq_true', beq_eq_false_iff_ne, ne_eq]; omega
          rw [← htx] at hrm
          obtain ⟨iu, fu⟩ := hau.2 x (by rw [ints_length, hlu.out]; exact hxk)
          obtain ⟨il, fl⟩ := had.2 x (by rw [ints_length, hld.out]; exact hxk)
          rw [ints_getD _ _ (by rw [hlu.out]; exact hxk)] at iu
          rw [ints_getD _ _ (by rw [hld.out]; exact hxk)] at il
          have hset : ∀ a b : Nat, Hid (Arr (((wr.setCell ⟨gb, x, none⟩ (.int .i64 (a : Int))).setCell ⟨ga, x, none⟩ (.int .i64 (b : Int))).drew) gb (ints (u.set x a)) ∧ Arr (((wr.setCell ⟨gb, x, none⟩ (.int .i64 (a : Int))).setCell ⟨ga, x, none⟩ (.int .i64 (b : Int))).drew) ga (ints (d.set x b)) ∧ Below w2.heap.size w2 (((wr.setCell ⟨gb, x, none⟩ (.int .i64 (a : Int))).setCell ⟨ga, x, none⟩ (.int .i64 (b : Int))).drew)) := fun a b => by
            have s1 := hau.set x (by rw [ints_length, hlu.out]; exact hxk) (.int .i64 (a : Int))
            rw [ints_set] at s1
            have s2 := (had.other (p := ⟨gb, x, none⟩) hgw (.int .i64 (a : Int))).set x (by rw [ints_length, hld.out]; exact hxk) (.int .i64 (b : Int))
            rw [ints_set] at s2
            exact ⟨(s1.other (fun e => hgw e.symm) _).drewN 1, s2.drewN 1, ((hbr.setCell (p := ⟨gb, x, none⟩) (by show w2.heap.size ≤ gb; omega) _).setCell (by show w2.heap.size ≤ ga; omega) _).drew⟩
          have hsl : ∀ a : Nat, Hid ((u.set x a).length = N ∧ (d.set x a).length = N) := fun a => by
            show _ ∧ _; rw [List.length_set, List.length_set]; exact ⟨hlu.out, hld.out⟩
          have HBR := Lib.hid hbr
          have hw2k : IntKind.i64.wrap (2 * (k : Int)) = 2 * (k : Int) := by rw [IntKind.wrap_i64]; omega
          have hw2a : IntKind.i64.wrap (2 * (k : Int) + 1) = 2 * (k : Int) + 1 := by rw [IntKind.wrap_i64]; omega
          have hw2b : IntKind.i64.wrap (2 * (k : Int) + 2) = 2 * (k : Int) + 2 := by rw [IntKind.wrap_i64]; omega
          clear hau had hcp hcq hbr htx
          have e1 : ((2 * k + 2 : Nat) : Int) = 2 * (k : Int) + 2 := by omega
          have e2 : ((2 * k + 1 : Nat) : Int) = 2 * (k : Int) + 1 := by omega
          cases htx : tb.getD x false with
          | true =>
            rw [htx] at hstep hrm
            have hrm : ((ti : Int) % 2 == 0) = false := hrm
            have hS1 := hset (2 * k + 2) (2 * k + 1)
            have hst2 : Hid (pgS tb (l.drop (k + 1)) (k + 1) (u.set x (2 * k + 2)) (d.set x (2 * k + 1)) = r) := by show _ = _; rw [hstep.out]; rfl
            rw [e1, e2] at hS1
            clear htx hstep hset e1 e2
            go_wp2_with (fail)
            go_region
            go_wp2_with (fail)
            exact ⟨⟨k + 1, _, _, by omega, by go_num, (hsl _).out.1, (hsl _).out.2, hS1.out.1, hS1.out.2.1, hS1.out.2.2, hst2⟩, by simp [RowKit.intOf]; omega⟩
          | false =>
            rw [htx] at hstep hrm
            have hrm : ((ti : Int) % 2 == 0) = true := hrm
            have hS1 := hset (2 * k + 1) (2 * k + 2)
            have hst2 : Hid (pgS tb (l.drop (k + 1)) (k + 1) (u.set x (2 * k + 1)) (d.set x (2 * k + 2)) = r) := by show _ = _; rw [hstep.out]; rfl
            rw [e1, e2] at hS1
            clear htx hstep hset e1 e2
            go_wp2_with (fail)
            go_region
            go_wp2_with (fail)
            exact ⟨⟨k + 1, _, _, by omega, by go_num, (hsl _).out.1, (hsl _).out.2, hS1.out.1, hS1.out.2.1, hS1.out.2.2, hst2⟩, by simp [RowKit.intOf]; omega⟩
        · have hR : Hid ((u, d) = r) := by
            have e : l.drop k = [] := List.drop_eq_nil_of_le (by rw [hN.out]; omega)
            show _ = _; rw [← hf.out, e]; rfl
          have hru : Rd wr (some ⟨gb, 0, none⟩) N (ints u) := by
            have h := hau.rdI (X := []) (by simp); rw [hlu.out] at h; exact h
          have hrd : Rd wr (some ⟨ga, 0, none⟩) N (ints d) := by
            have h := had.rdI (X := []) (by simp); rw [hld.out] at h; exact h
          have HRU := Lib.hid hru; have HRD := Lib.hid hrd
          have hbE := hbF.trans (hbr.mono hbF.size)
          clear hau had hf hru hrd
          go_wp2_with (fail)
          go_ret3
          refine ⟨some ⟨gb, 0, none⟩, N, some ⟨ga, 0, none⟩, N, ?_, ?_, ?_, hbE⟩
          · rw [HLEN.out.1, HLEN.out.2]; rfl
          · rw [HLEN.out.1, ← hR.out]; exact HRU.out
          · rw [HLEN.out.2, ← hR.out]; exact HRD.out
  · have hP : Hid (pagesP cs = ([], [])) := by show _ = _; unfold pagesP; rw [if_neg hz]
    have hz2 : (chkF cs != 0) = true := by simpa using hz
    rw [hP.out]
    generalize chkF cs = z at h1 hz2 ⊢
    clear hz hP
    go_enter Tryd.func11, Tryd.ntmps11
    go_wp2_with (fail)
    refine (h1 _).mono ?_; rintro e w1 ⟨rfl, hw1⟩
    rw [hw1]
    go_wp2_with (fail)
    go_ret3
    exact ⟨none, 0, none, 0, rfl, rd_nil _ _ _, rd_nil _ _ _, Below.refl _ _⟩
end Go.Proofs.YtbkmicimpgabgaaDoor
