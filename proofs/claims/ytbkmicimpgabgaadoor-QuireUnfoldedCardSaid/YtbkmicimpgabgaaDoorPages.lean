/-
  Package quire's Pages.
-/
import Derived.Test.YtbkmicimpgabgaaDoorPile
set_option linter.unusedSimpArgs false
set_option linter.unusedVariables false
namespace Go.Proofs.Quire
/-- the pages of the squares of a pile, from place k on -/
def pgS (t : List Bool) : List Nat → Nat → List Nat → List Nat → List Nat × List Nat
  | [], _, u, l => (u, l)
  | s :: p, k, u, l => if t.getD s false = true then pgS t p (k + 1) (u.set s (2 * k + 2)) (l.set s (2 * k + 1)) else pgS t p (k + 1) (u.set s (2 * k + 1)) (l.set s (2 * k + 2))
def pagesS (f : List Bool) : List Nat × List Nat := pgS (stripL f).trn (pileL f) 0 (List.replicate (stripL f).trn.length 0) (List.replicate (stripL f).trn.length 0)
def pagesP (cs : List UInt8) : List Nat × List Nat := if chkF cs = 0 then pagesS (foldsB cs) else ([], [])
theorem pgS_len (t : List Bool) : ∀ (p : List Nat) k u l, (pgS t p k u l).1.length = u.length ∧ (pgS t p k u l).2.length = l.length
  | [], k, u, l => ⟨rfl, rfl⟩
  | s :: p, k, u, l => by
    unfold pgS
    split
    · have := pgS_len t p (k + 1) (u.set s (2 * k + 2)) (l.set s (2 * k + 1)); simpa using this
    · have := pgS_len t p (k + 1) (u.set s (2 * k + 1)) (l.set s (2 * k + 2)); simpa using this
theorem pileL_facts (f : List Bool) : (pileL f).length = 2 ^ f.length ∧ ∀ x ∈ pileL f, x < 2 ^ f.length := by
  obtain ⟨_, _, h3, h4⟩ := strip_inv f
  rw [Nat.sub_self] at h3
  exact h4 _ (getD_mem (by rw [h3]; decide))
end Go.Proofs.Quire
namespace Go.Proofs.YtbkmicimpgabgaaDoor
open Go.RowKit Go.Lib Go.Proofs.Quire

def PileAtPost (w0 : World) (l : List Nat) (w : World) (e : Ending) (w' : World) : Prop := ∃ A c, e = .returned (.slice A l.length c) ∧ Rd w0 A l.length (ints l) ∧ w' = w
theorem pile_at (p gt gc : Nat) (s : St) (w0 w : World) (hs : StripAt w0 p gt gc s) (hb : Below w0.heap.size w0 w) (h0 : 0 < s.cols.length) :
    Calls Tryd.prog 37 #[.pointer (some ⟨p, 0, none⟩)] w (PileAtPost w0 (s.cols.getD 0 []) w) := by
  obtain ⟨h1, h2, h3, Ac, cc, ct, ce, hcc, hp, ht, hc, hcols⟩ := hs
  obtain ⟨g, o, rfl, hg, _, hh⟩ := hcols h0
  obtain ⟨A0, c0, hcell0, ⟨hrd, _⟩, _⟩ := hh 0 h0
  have hp0 : w.cell? ⟨p, 0, none⟩ = some (.slice (some ⟨g, o, none⟩) s.cols.length cc) := ((hp.below hb).2 0 (by simp)).1
  have hcell := (hb.cell (p := ⟨g, o + 0, none⟩) hg).trans hcell0
  have hr0 := hrd.mono (Y := []) (by simp)
  rw [Nat.add_zero] at hcell
  have HR := Lib.hid hr0
  clear hcell0
  generalize s.cols.getD 0 [] = l at hcell HR
  generalize s.cols.length = m at hp0 h0
  clear hh hrd hr0 hcols hp ht hc hb
  go_enter Tryd.func37, Tryd.ntmps37
  go_wp2_with (fail)
  go_ret
  exact ⟨A0, c0, rfl, HR.out, rfl⟩
def TwoRowsPost (u l : List Nat) (z : Int) (w : World) (e : Ending) (w' : World) : Prop :=
  ∃ A c A' c', e = .returned (.tuple #[.slice A u.length c, .slice A' l.length c', .int .i64 z]) ∧ Rd w' A u.length (ints u) ∧ Rd w' A' l.length (ints l) ∧ Below w.heap.size w w'
set_option maxRecDepth 100000 in
set_option maxHeartbeats 4000000 in
theorem pages_any (cs : List UInt8) (w : World) (hs : cs.length ≤ maxLen) :
    Calls Tryd.prog 10 #[.string ⟨cs.toArray⟩] w (TwoRowsPost (pagesP cs).1 (pagesP cs).2 (chkF cs) w) := by
  have h1 := fun W => check_any ⟨cs.toArray⟩ W (by rw [size_l]; exact hs)
  simp only [List.toList_toArray] at h1
  by_cases hz : chkF cs = 0
  · have hle := (chkL_zero (show chkL 6 111 117 cs = 0 from hz)).1
    have h2 := fun W => foldAll_any cs W hle
    have hP : Hid (pagesP cs = pagesS (foldsB cs)) := by show _ = _; unfold pagesP; rw [if_pos hz]
    rw [hP.out, hz]
    rw [show chkL 6 111 117 cs = 0 from hz] at h1
    obtain ⟨hb64, _, ⟨hi, _⟩, _, _⟩ := inv_bounds (strip_inv (foldsB cs)) (by rw [foldsB_len]; exact hle) (Nat.le_refl _)
    have htn := (strip_inv (foldsB cs)).1
    obtain ⟨hpl, hpx⟩ := pileL_facts (foldsB cs)
    rw [← htn] at hpl hpx
    have hres : Hid (pagesS (foldsB cs) = pgS (stripL (foldsB cs)).trn (pileL (foldsB cs)) 0 (List.replicate (stripL (foldsB cs)).trn.length 0) (List.replicate (stripL (foldsB cs)).trn.length 0)) := rfl
    have h3 : ∀ p gt gc w0 W, StripAt w0 p gt gc (stripL (foldsB cs)) → Below w0.heap.size w0 W → Calls Tryd.prog 37 #[.pointer (some ⟨p, 0, none⟩)] W (PileAtPost w0 (pileL (foldsB cs)) W) := fun p gt gc w0 W h hb => pile_at p gt gc _ w0 W h hb hi
    generalize pagesS (foldsB cs) = r at hres ⊢
    generalize pileL (foldsB cs) = l at h3 hpl hpx hres
    generalize stripL (foldsB cs) = st at h2 hi h3 hpl hpx hres hb64 htn
    obtain ⟨cols, t, c0⟩ := st
    simp only at *
    obtain ⟨N, hN⟩ : ∃ N, Hid (t.length = N) := ⟨_, rfl⟩
    have hmk := run_make_ints t.length (by omega)
    have hst : Hid (pgS t (l.drop 0) 0 (List.replicate t.length 0) (List.replicate t.length 0) = r) := hres.out.symm
    have HPL := Lib.hid hpl; have HPX := Lib.hid hpx
    clear hz hP htn hres hpx hpl
    go_enter Tryd.func10, Tryd.ntmps10
    go_wp2_with (fail)
    refine (h1 _).mono ?_; rintro e w1 ⟨rfl, hb1⟩
    go_wp2_with (fail)
    refine (h2 _).mono ?_; rintro e w2 ⟨p, gt, gc, rfl, _, hstr, hb2⟩
    have hS := Lib.hid hstr
    obtain ⟨n1, n2, n3, Ac, cc, ct, ce, _, hp, ht, hc, _⟩ := hstr
    have p1 : w2.cell? ⟨p, 1, none⟩ = some (.slice (some ⟨gt, 0, none⟩) t.length ct) := (hp.2 1 (by simp)).1
    have hbF := hb1.trans (hb2.mono hb1.size)
    have hpp := hp.1; have hgt := ht.1
    clear h1 h2 hb1 hb2 hc n2 n3
    go_wp2_with (fail)
    go_region
    · have hb3 : Below w2.heap.size w2 (((w2.alloc (.cells (ints (List.replicate t.length 0)).toArray 3)).alloc (.cells (ints (List.replicate t.length 0)).toArray 3)).drew) := (((Below.refl _ w2).alloc (Nat.le_refl _) _).alloc (by simp) _).drew
      have hx1 : Arr (((w2.alloc (.cells (ints (List.replicate t.length 0)).toArray 3)).alloc (.cells (ints (List.replicate t.length 0)).toArray 3)).drew) w2.heap.size (ints (List.replicate t.length 0)) := ((Arr.new w2 (ints (List.replicate t.length 0)) 3).alloc (.cells (ints (List.replicate t.length 0)).toArray 3)).drewN 1
      have hx2 : Arr (((w2.alloc (.cells (ints (List.replicate t.length 0)).toArray 3)).alloc (.cells (ints (List.replicate t.length 0)).toArray 3)).drew) (w2.heap.size + 1) (ints (List.replicate t.length 0)) := by
        have h := Arr.new (w2.alloc (.cells (ints (List.replicate t.length 0)).toArray 3)) (ints (List.replicate t.length 0)) 3
        simp only [World.size_alloc] at h; exact h.drewN 1
      generalize ((w2.alloc (.cells (ints (List.replicate t.length 0)).toArray 3)).alloc (.cells (ints (List.replicate t.length 0)).toArray 3)).drew = w3 at hb3 hx1 hx2 ⊢
      have hpl3 := h3 p gt gc w2 w3 hS.out hb3
      clear h3 hS p1
      go_wp2_with (fail)
      refine hpl3.mono ?_; rintro e w4 ⟨A, c, rfl, hrd, rfl⟩
      clear hpl3
      rw [HPL.out]
      rw [HPL.out] at hrd
      have HRD := Lib.hid hrd
      clear hrd
      go_wp2_with (fail)
      go_loopw [7, 8, 9, 10, 33] (fun _ _ _ _ v wr => ∃ (k : Nat) (u d : List Nat), k ≤ t.length ∧ v = .int .i64 k ∧ Hid (u.length = t.length) ∧ Hid (d.length = t.length) ∧ Arr wr (w2.heap.size) (ints u) ∧ Arr wr (w2.heap.size + 1) (ints d) ∧ Below w2.heap.size w2 wr ∧ Hid (pgS t (l.drop k) k u d = r)) (fun _ _ _ _ v _ => t.length - (RowKit.intOf v).toNat)
      case atStart => exact ⟨0, _, _, Nat.zero_le _, rfl, List.length_replicate, List.length_replicate, hx1, hx2, hb3, hst⟩
      case round =>
        clear hx1 hx2 hb3 hst
        obtain ⟨k, u, d, hk, rfl, hlu, hld, hau, had, hbr, hf⟩ := hrel
        by_cases hlt : k < t.length
        · have hkl : k < l.length := by rw [HPL.out]; exact hlt
          have hgw : (w2.heap.size) ≠ (w2.heap.size + 1) := by omega
          have c1 : wr.cell? ⟨p, 1, none⟩ = some (.slice (some ⟨gt, 0, none⟩) t.length ct) := ((hp.below hbr).2 1 (by simp)).1
          have hat := ht.below hbr
          obtain ⟨gp, op, rfl, hgp, _, hcp⟩ := HRD.out.2 (by omega)
          have hcx := (hbr.cell (p := ⟨gp, op + k, none⟩) hgp).trans (hcp k hlt)
          rw [ints_getD _ _ hkl] at hcx
          have hxk : l.getD k 0 < t.length := HPX.out _ (by rw [getD_lt _ _ _ hkl]; exact List.getElem_mem _)
          have hstep : Hid (r = if t.getD (l.getD k 0) false = true then pgS t (l.drop (k + 1)) (k + 1) (u.set (l.getD k 0) (2 * k + 2)) (d.set (l.getD k 0) (2 * k + 1)) else pgS t (l.drop (k + 1)) (k + 1) (u.set (l.getD k 0) (2 * k + 1)) (d.set (l.getD k 0) (2 * k + 2))) := by
            show _ = _; rw [← hf.out, drop_cons l k 0 hkl]; rfl
          generalize l.getD k 0 = x at hcx hxk hstep
          obtain ⟨it, _⟩ := hat.2 x (by rw [bools_length]; exact hxk)
          rw [bools_getD _ _ hxk] at it
          obtain ⟨iu, fu⟩ := hau.2 x (by rw [ints_length, hlu.out]; exact hxk)
          obtain ⟨il, fl⟩ := had.2 x (by rw [ints_length, hld.out]; exact hxk)
          rw [ints_getD _ _ (by rw [hlu.out]; exact hxk)] at iu
          rw [ints_getD _ _ (by rw [hld.out]; exact hxk)] at il
          have hset : ∀ a b : Nat, Hid (Arr ((wr.setCell ⟨w2.heap.size, x, none⟩ (.int .i64 (a : Int))).setCell ⟨w2.heap.size + 1, x, none⟩ (.int .i64 (b : Int))) (w2.heap.size) (ints (u.set x a)) ∧ Arr ((wr.setCell ⟨w2.heap.size, x, none⟩ (.int .i64 (a : Int))).setCell ⟨w2.heap.size + 1, x, none⟩ (.int .i64 (b : Int))) (w2.heap.size + 1) (ints (d.set x b)) ∧ Below w2.heap.size w2 ((wr.setCell ⟨w2.heap.size, x, none⟩ (.int .i64 (a : Int))).setCell ⟨w2.heap.size + 1, x, none⟩ (.int .i64 (b : Int)))) := fun a b => by
            have s1 := hau.set x (by rw [ints_length, hlu.out]; exact hxk) (.int .i64 (a : Int))
            rw [ints_set] at s1
            have s2 := (had.other (p := ⟨w2.heap.size, x, none⟩) hgw (.int .i64 (a : Int))).set x (by rw [ints_length, hld.out]; exact hxk) (.int .i64 (b : Int))
            rw [ints_set] at s2
            exact ⟨s1.other (fun e => hgw e.symm) _, s2, (hbr.setCell (p := ⟨w2.heap.size, x, none⟩) (by simp) _).setCell (by simp) _⟩
          have hsl : ∀ a : Nat, Hid ((u.set x a).length = t.length ∧ (d.set x a).length = t.length) := fun a => by
            show _ ∧ _; rw [List.length_set, List.length_set]; exact ⟨hlu.out, hld.out⟩
          have HBR := Lib.hid hbr
          clear hat hau had hcp hbr
          cases htx : t.getD x false with
          | true =>
            rw [htx] at it hstep
            have hS1 := hset (2 * k + 2) (2 * k + 1)
            have hst2 : Hid (pgS t (l.drop (k + 1)) (k + 1) (u.set x (2 * k + 2)) (d.set x (2 * k + 1)) = r) := by show _ = _; rw [hstep.out]; rfl
            have e1 : ((2 * k + 2 : Nat) : Int) = 2 * (k : Int) + 2 := by omega
            have e2 : ((2 * k + 1 : Nat) : Int) = 2 * (k : Int) + 1 := by omega
            rw [e1, e2] at hS1
            clear htx hstep hset e1 e2
            go_wp2_with (fail)
            exact ⟨⟨k + 1, _, _, by omega, by go_num, (hsl _).out.1, (hsl _).out.2, hS1.out.1, hS1.out.2.1, hS1.out.2.2, hst2⟩, by simp [RowKit.intOf]; omega⟩
          | false =>
            rw [htx] at it hstep
            have hS1 := hset (2 * k + 1) (2 * k + 2)
            have hst2 : Hid (pgS t (l.drop (k + 1)) (k + 1) (u.set x (2 * k + 1)) (d.set x (2 * k + 2)) = r) := by show _ = _; rw [hstep.out]; rfl
            have e1 : ((2 * k + 2 : Nat) : Int) = 2 * (k : Int) + 2 := by omega
            have e2 : ((2 * k + 1 : Nat) : Int) = 2 * (k : Int) + 1 := by omega
            rw [e1, e2] at hS1
            clear htx hstep hset e1 e2
            go_wp2_with (fail)
            exact ⟨⟨k + 1, _, _, by omega, by go_num, (hsl _).out.1, (hsl _).out.2, hS1.out.1, hS1.out.2.1, hS1.out.2.2, hst2⟩, by simp [RowKit.intOf]; omega⟩
        · have e0 : l.drop k = [] := List.drop_eq_nil_of_le (by rw [HPL.out]; omega)
          have hR1 : Hid (r.1 = u) := by show _ = _; rw [← hf.out, e0]; rfl
          have hR2 : Hid (r.2 = d) := by show _ = _; rw [← hf.out, e0]; rfl
          have hru := hau.rdI (X := []) (by simp)
          have hrd' := had.rdI (X := []) (by simp)
          rw [← hR1.out] at hru
          rw [← hR2.out] at hrd'
          have HU := Lib.hid hru; have HD := Lib.hid hrd'
          have l1 : r.1.length = t.length := by rw [hR1.out, hlu.out]
          have l2 : r.2.length = t.length := by rw [hR2.out, hld.out]
          have L1 := Lib.hid l1; have L2 := Lib.hid l2
          clear hru hrd' e0 l1 l2
          go_wp2_with (fail)
          go_ret3
          exact ⟨_, t.length, _, t.length, by rw [L1.out, L2.out]; rfl, HU.out, HD.out, hbF.trans (hbr.mono hbF.size)⟩
    · have hb3 : Below w2.heap.size w2 (((w2.alloc (.cells (ints (List.replicate t.length 0)).toArray 3)).alloc (.cells (ints (List.replicate t.length 0)).toArray 3)).drew) := (((Below.refl _ w2).alloc (Nat.le_refl _) _).alloc (by simp) _).drew
      have hx1 : Arr (((w2.alloc (.cells (ints (List.replicate t.length 0)).toArray 3)).alloc (.cells (ints (List.replicate t.length 0)).toArray 3)).drew) w2.heap.size (ints (List.replicate t.length 0)) := ((Arr.new w2 (ints (List.replicate t.length 0)) 3).alloc (.cells (ints (List.replicate t.length 0)).toArray 3)).drewN 1
      have hx2 : Arr (((w2.alloc (.cells (ints (List.replicate t.length 0)).toArray 3)).alloc (.cells (ints (List.replicate t.length 0)).toArray 3)).drew) (w2.heap.size + 1) (ints (List.replicate t.length 0)) := by
        have h := Arr.new (w2.alloc (.cells (ints (List.replicate t.length 0)).toArray 3)) (ints (List.replicate t.length 0)) 3
        simp only [World.size_alloc] at h; exact h.drewN 1
      generalize ((w2.alloc (.cells (ints (List.replicate t.length 0)).toArray 3)).alloc (.cells (ints (List.replicate t.length 0)).toArray 3)).drew = w3 at hb3 hx1 hx2 ⊢
      have hpl3 := h3 p gt gc w2 w3 hS.out hb3
      clear h3 hS p1
      go_wp2_with (fail)
      refine hpl3.mono ?_; rintro e w4 ⟨A, c, rfl, hrd, rfl⟩
      clear hpl3
      rw [HPL.out]
      rw [HPL.out] at hrd
      have HRD := Lib.hid hrd
      clear hrd
      go_wp2_with (fail)
      go_loopw [7, 8, 9, 10, 33] (fun _ _ _ _ v wr => ∃ (k : Nat) (u d : List Nat), k ≤ t.length ∧ v = .int .i64 k ∧ Hid (u.length = t.length) ∧ Hid (d.length = t.length) ∧ Arr wr (w2.heap.size + 1) (ints u) ∧ Arr wr (w2.heap.size) (ints d) ∧ Below w2.heap.size w2 wr ∧ Hid (pgS t (l.drop k) k u d = r)) (fun _ _ _ _ v _ => t.length - (RowKit.intOf v).toNat)
      case atStart => exact ⟨0, _, _, Nat.zero_le _, rfl, List.length_replicate, List.length_replicate, hx2, hx1, hb3, hst⟩
      case round =>
        clear hx1 hx2 hb3 hst
        obtain ⟨k, u, d, hk, rfl, hlu, hld, hau, had, hbr, hf⟩ := hrel
        by_cases hlt : k < t.length
        · have hkl : k < l.length := by rw [HPL.out]; exact hlt
          have hgw : (w2.heap.size + 1) ≠ (w2.heap.size) := by omega
          have c1 : wr.cell? ⟨p, 1, none⟩ = some (.slice (some ⟨gt, 0, none⟩) t.length ct) := ((hp.below hbr).2 1 (by simp)).1
          have hat := ht.below hbr
          obtain ⟨gp, op, rfl, hgp, _, hcp⟩ := HRD.out.2 (by omega)
          have hcx := (hbr.cell (p := ⟨gp, op + k, none⟩) hgp).trans (hcp k hlt)
          rw [ints_getD _ _ hkl] at hcx
          have hxk : l.getD k 0 < t.length := HPX.out _ (by rw [getD_lt _ _ _ hkl]; exact List.getElem_mem _)
          have hstep : Hid (r = if t.getD (l.getD k 0) false = true then pgS t (l.drop (k + 1)) (k + 1) (u.set (l.getD k 0) (2 * k + 2)) (d.set (l.getD k 0) (2 * k + 1)) else pgS t (l.drop (k + 1)) (k + 1) (u.set (l.getD k 0) (2 * k + 1)) (d.set (l.getD k 0) (2 * k + 2))) := by
            show _ = _; rw [← hf.out, drop_cons l k 0 hkl]; rfl
          generalize l.getD k 0 = x at hcx hxk hstep
          obtain ⟨it, _⟩ := hat.2 x (by rw [bools_length]; exact hxk)
          rw [bools_getD _ _ hxk] at it
          obtain ⟨iu, fu⟩ := hau.2 x (by rw [ints_length, hlu.out]; exact hxk)
          obtain ⟨il, fl⟩ := had.2 x (by rw [ints_length, hld.out]; exact hxk)
          rw [ints_getD _ _ (by rw [hlu.out]; exact hxk)] at iu
          rw [ints_getD _ _ (by rw [hld.out]; exact hxk)] at il
          have hset : ∀ a b : Nat, Hid (Arr ((wr.setCell ⟨w2.heap.size + 1, x, none⟩ (.int .i64 (a : Int))).setCell ⟨w2.heap.size, x, none⟩ (.int .i64 (b : Int))) (w2.heap.size + 1) (ints (u.set x a)) ∧ Arr ((wr.setCell ⟨w2.heap.size + 1, x, none⟩ (.int .i64 (a : Int))).setCell ⟨w2.heap.size, x, none⟩ (.int .i64 (b : Int))) (w2.heap.size) (ints (d.set x b)) ∧ Below w2.heap.size w2 ((wr.setCell ⟨w2.heap.size + 1, x, none⟩ (.int .i64 (a : Int))).setCell ⟨w2.heap.size, x, none⟩ (.int .i64 (b : Int)))) := fun a b => by
            have s1 := hau.set x (by rw [ints_length, hlu.out]; exact hxk) (.int .i64 (a : Int))
            rw [ints_set] at s1
            have s2 := (had.other (p := ⟨w2.heap.size + 1, x, none⟩) hgw (.int .i64 (a : Int))).set x (by rw [ints_length, hld.out]; exact hxk) (.int .i64 (b : Int))
            rw [ints_set] at s2
            exact ⟨s1.other (fun e => hgw e.symm) _, s2, (hbr.setCell (p := ⟨w2.heap.size + 1, x, none⟩) (by simp) _).setCell (by simp) _⟩
          have hsl : ∀ a : Nat, Hid ((u.set x a).length = t.length ∧ (d.set x a).length = t.length) := fun a => by
            show _ ∧ _; rw [List.length_set, List.length_set]; exact ⟨hlu.out, hld.out⟩
          have HBR := Lib.hid hbr
          clear hat hau had hcp hbr
          cases htx : t.getD x false with
          | true =>
            rw [htx] at it hstep
            have hS1 := hset (2 * k + 2) (2 * k + 1)
            have hst2 : Hid (pgS t (l.drop (k + 1)) (k + 1) (u.set x (2 * k + 2)) (d.set x (2 * k + 1)) = r) := by show _ = _; rw [hstep.out]; rfl
            have e1 : ((2 * k + 2 : Nat) : Int) = 2 * (k : Int) + 2 := by omega
            have e2 : ((2 * k + 1 : Nat) : Int) = 2 * (k : Int) + 1 := by omega
            rw [e1, e2] at hS1
            clear htx hstep hset e1 e2
            go_wp2_with (fail)
            exact ⟨⟨k + 1, _, _, by omega, by go_num, (hsl _).out.1, (hsl _).out.2, hS1.out.1, hS1.out.2.1, hS1.out.2.2, hst2⟩, by simp [RowKit.intOf]; omega⟩
          | false =>
            rw [htx] at it hstep
            have hS1 := hset (2 * k + 1) (2 * k + 2)
            have hst2 : Hid (pgS t (l.drop (k + 1)) (k + 1) (u.set x (2 * k + 1)) (d.set x (2 * k + 2)) = r) := by show _ = _; rw [hstep.out]; rfl
            have e1 : ((2 * k + 2 : Nat) : Int) = 2 * (k : Int) + 2 := by omega
            have e2 : ((2 * k + 1 : Nat) : Int) = 2 * (k : Int) + 1 := by omega
            rw [e1, e2] at hS1
            clear htx hstep hset e1 e2
            go_wp2_with (fail)
            exact ⟨⟨k + 1, _, _, by omega, by go_num, (hsl _).out.1, (hsl _).out.2, hS1.out.1, hS1.out.2.1, hS1.out.2.2, hst2⟩, by simp [RowKit.intOf]; omega⟩
        · have e0 : l.drop k = [] := List.drop_eq_nil_of_le (by rw [HPL.out]; omega)
          have hR1 : Hid (r.1 = u) := by show _ = _; rw [← hf.out, e0]; rfl
          have hR2 : Hid (r.2 = d) := by show _ = _; rw [← hf.out, e0]; rfl
          have hru := hau.rdI (X := []) (by simp)
          have hrd' := had.rdI (X := []) (by simp)
          rw [← hR1.out] at hru
          rw [← hR2.out] at hrd'
          have HU := Lib.hid hru; have HD := Lib.hid hrd'
          have l1 : r.1.length = t.length := by rw [hR1.out, hlu.out]
          have l2 : r.2.length = t.length := by rw [hR2.out, hld.out]
          have L1 := Lib.hid l1; have L2 := Lib.hid l2
          clear hru hrd' e0 l1 l2
          go_wp2_with (fail)
          go_ret3
          exact ⟨_, t.length, _, t.length, by rw [L1.out, L2.out]; rfl, HU.out, HD.out, hbF.trans (hbr.mono hbF.size)⟩
  · have hP : Hid (pagesP cs = ([], [])) := by show _ = _; unfold pagesP; rw [if_neg hz]
    have hz2 : (chkF cs != 0) = true := by simpa using hz
    rw [hP.out]
    rw [show chkL 6 111 117 cs = chkF cs from rfl] at h1
    generalize chkF cs = z at h1 hz2 ⊢
    clear hz hP
    go_enter Tryd.func10, Tryd.ntmps10
    go_wp2_with (fail)
    refine (h1 _).mono ?_; rintro e w1 ⟨rfl, hb1⟩
    go_wp2_with (fail)
    go_ret3
    exact ⟨none, 0, none, 0, rfl, rd_nil _ _ _, rd_nil _ _ _, hb1⟩
end Go.Proofs.YtbkmicimpgabgaaDoor
