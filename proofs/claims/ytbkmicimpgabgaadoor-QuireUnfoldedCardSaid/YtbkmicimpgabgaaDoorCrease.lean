/-
  Package quire's crease: the creases of a fold.
-/
import Derived.Test.YtbkmicimpgabgaaDoorCols
import Derived.Deep.RegionWith
set_option linter.unusedSimpArgs false
set_option linter.unusedVariables false
namespace Go.Proofs.YtbkmicimpgabgaaDoor
open Go.RowKit Go.Lib Go.Proofs.Quire

theorem creL_step {a : List Nat} {t : List Bool} {last n i : Nat} {o : Bool} {c : List Nat} (h : i < n) : creL a t last o (n - i) i c = creL a t last o (n - (i + 1)) (i + 1) (if a.getD i 0 + a.getD (i + 1) 0 = last then c.set i (crOf o (t.getD i false)) else c) := by
  rw [show n - i = (n - (i + 1)) + 1 by omega]; rfl
def CreasePost (p gc : Nat) (fs : List Value) (c : List Nat) (w : World) (e : Ending) (w' : World) : Prop :=
  e = .returned (.tuple #[]) ∧ Arr w' gc (u8s c) ∧ Arr w' p fs ∧ Keep [gc] w w'
set_option maxRecDepth 100000 in
set_option maxHeartbeats 4000000 in
theorem crease_any (p gt gc ct cc ce : Nat) (Ac : Option Addr) (b : UInt8) (s : St) (w : World) (hp : Arr w p [.slice Ac s.cols.length cc, .slice (some ⟨gt, 0, none⟩) s.trn.length ct, .slice (some ⟨gc, 0, none⟩) s.cre.length ce])
    (ht : Arr w gt (bools s.trn)) (hc : Arr w gc (u8s s.cre)) (h1 : gt ≠ p) (h2 : gc ≠ p) (h3 : gt ≠ gc)
    (hcols : Cols w [] Ac s.cols) (hN : s.trn.length ≤ 1000) (hce : s.cre.length + 1 = s.trn.length) (hm : 0 < s.cols.length ∧ s.cols.length ≤ 1000) (hx : ∀ c ∈ s.cols, c.length ≤ 1000 ∧ ∀ x ∈ c, x < s.trn.length)
    (hmk : ∀ x ∈ marks s.cols 0 (List.replicate s.trn.length 0), x ≤ 1000) :
    Calls Tryd.prog 65 #[.pointer (some ⟨p, 0, none⟩), .int .u8 b.toNat] w
      (CreasePost p gc [.slice Ac s.cols.length cc, .slice (some ⟨gt, 0, none⟩) s.trn.length ct, .slice (some ⟨gc, 0, none⟩) s.cre.length ce] (creL (marks s.cols 0 (List.replicate s.trn.length 0)) s.trn (s.cols.length - 1) (b == 111) s.cre.length 0 s.cre) w) := by
  have hcl := columns_any p (some ⟨gt, 0, none⟩) Ac s.trn.length ct cc _ s.cols w hp hcols hN hm.2 hx
  have hml := marks_len s.cols 0 (List.replicate s.trn.length 0)
  rw [List.length_replicate] at hml
  obtain ⟨r, hr⟩ : ∃ r, Hid (creL (marks s.cols 0 (List.replicate s.trn.length 0)) s.trn (s.cols.length - 1) (b == 111) (s.cre.length - 0) 0 s.cre = r) := ⟨_, rfl⟩
  rw [show creL (marks s.cols 0 (List.replicate s.trn.length 0)) s.trn (s.cols.length - 1) (b == 111) s.cre.length 0 s.cre = r from hr.out]
  generalize marks s.cols 0 (List.replicate s.trn.length 0) = a at hcl hml hr hmk
  obtain ⟨cols, t, c0⟩ := s
  simp only at *
  have c0' : w.cell? ⟨p, 0, none⟩ = some (.slice Ac cols.length cc) := (hp.2 0 (by simp)).1
  have HM := Lib.hid hml; have HMK := Lib.hid hmk; have HCE := Lib.hid hce
  obtain ⟨hm0, hm1⟩ := hm
  have hcr := fun t W => creaseOf_any b t W
  generalize (b == 111) = o at hr hcr
  have hpl := hp.1; have htl := ht.1; have hcl2 := hc.1
  have hcx : c0.length ≤ 1000 := by omega
  clear hml hmk hce hcols hx
  go_enter Tryd.func65, Tryd.ntmps65
  go_wp2_with (fail)
  refine hcl.mono ?_
  rintro e w1 ⟨g, rfl, hg, hga, hb1⟩
  rw [HM.out]
  have hp1 := hp.below hb1
  have ht1 := ht.below hb1
  have hc1 := hc.below hb1
  have hK1 : Keep [gc] w w1 := .of_below hb1
  have d2 : w1.cell? ⟨p, 2, none⟩ = some (.slice (some ⟨gc, 0, none⟩) c0.length ce) := (hp1.2 2 (by simp)).1
  clear hcl hb1 hc hp ht
  go_wp2_with (fail)
  go_loopw [20] (fun v wr => ∃ (i : Nat) (c : List Nat), i ≤ c0.length ∧ v = .int .i64 i ∧ Hid (c.length = c0.length) ∧ Arr wr gc (u8s c) ∧ Arr wr gt (bools t) ∧ Arr wr g (ints a) ∧ Arr wr p [.slice Ac cols.length cc, .slice (some ⟨gt, 0, none⟩) t.length ct, .slice (some ⟨gc, 0, none⟩) c0.length ce] ∧ Keep [gc] w wr ∧
      Hid (creL a t (cols.length - 1) o (c0.length - i) i c = r)) (fun v _ => c0.length - (RowKit.intOf v).toNat)
  case atStart => exact ⟨0, c0, Nat.zero_le _, rfl, rfl, hc1, ht1, hga, hp1, hK1, hr⟩
  case round =>
    clear hc1 ht1 hga hp1 hK1 d2 hr
    obtain ⟨i, c, hi, rfl, hlc, hcw, htw, haw, hpw, hK, hf⟩ := hrel
    by_cases hlt : i < c0.length
    · have hst : Hid (creL a t (cols.length - 1) o (c0.length - (i + 1)) (i + 1) (if a.getD i 0 + a.getD (i + 1) 0 = cols.length - 1 then c.set i (crOf o (t.getD i false)) else c) = r) := by show _ = _; rw [← hf.out]; exact (creL_step hlt).symm
      have i1 := (haw.2 i (by rw [ints_length, HM.out]; have := HCE.out; omega)).1
      have i2 := (haw.2 (i + 1) (by rw [ints_length, HM.out]; have := HCE.out; omega)).1
      rw [ints_getD _ _ (by rw [HM.out]; have := HCE.out; omega)] at i1 i2
      have b1 : a.getD i 0 ≤ 1000 := HMK.out _ (by rw [getD_lt _ _ _ (by rw [HM.out]; have := HCE.out; omega)]; exact List.getElem_mem _)
      have b2 : a.getD (i + 1) 0 ≤ 1000 := HMK.out _ (by rw [getD_lt _ _ _ (by rw [HM.out]; have := HCE.out; omega)]; exact List.getElem_mem _)
      have hit : i < t.length := by have := HCE.out; omega
      obtain ⟨it, ift⟩ := htw.2 i (by rw [bools_length]; exact hit)
      rw [bools_getD _ _ hit] at it
      obtain ⟨ic, ifc⟩ := hcw.2 i (by rw [u8s_length, hlc.out]; exact hlt)
      rw [u8s_getD _ _ (by rw [hlc.out]; exact hlt)] at ic
      have p1 : wr.cell? ⟨p, 1, none⟩ = some (.slice (some ⟨gt, 0, none⟩) t.length ct) := (hpw.2 1 (by simp)).1
      have p2 : wr.cell? ⟨p, 2, none⟩ = some (.slice (some ⟨gc, 0, none⟩) c0.length ce) := (hpw.2 2 (by simp)).1
      have hset : ∀ z : Nat, Hid (Arr (wr.setCell ⟨gc, i, none⟩ (.int .u8 (z : Int))) gc (u8s (c.set i z))) := fun z => by
        have := hcw.set i (by rw [u8s_length, hlc.out]; exact hlt) (.int .u8 (z : Int))
        rw [u8s_set] at this; exact this
      have HCW := Lib.hid hcw; have HTW := Lib.hid htw; have HAW := Lib.hid haw; have HPW := Lib.hid hpw
      have htrn : Hid (t.getD i false = t.getD i false) := rfl
      generalize a.getD i 0 = x at i1 b1 hst
      generalize a.getD (i + 1) 0 = y at i2 b2 hst
      generalize c.getD i 0 = z at ic
      generalize t.getD i false = tb at it hst htrn
      clear hcw htw haw hpw htrn
      have hcr2 := hcr tb
      clear hcr
      have w1' : IntKind.i64.wrap ((i : Int) + 1) = (i : Int) + 1 := by rw [IntKind.wrap_i64]; omega
      have w2' : IntKind.i64.wrap ((x : Int) + (y : Int)) = (x : Int) + y := by rw [IntKind.wrap_i64]; omega
      have w3' : (0 : Int) ≤ (i : Int) + 1 := by omega
      have w4' : ((i : Int) + 1).toNat = i + 1 := by omega
      have hit1 : i + 1 < t.length := by have := HCE.out; omega
      have hit2 : (i : Int) + 1 < (t.length : Int) := by omega
      by_cases hxy : x + y = cols.length - 1
      · have hb : (((x : Int) + y) == ((cols.length : Int) - 1)) = true := by rw [beq_iff_eq]; omega
        have hst2 : Hid (creL a t (cols.length - 1) o (c0.length - (i + 1)) (i + 1) (c.set i (crOf o tb)) = r) := by show _ = _; rw [← hst.out, if_pos hxy]
        have hS := hset (crOf o tb)
        have hl2 : Hid ((c.set i (crOf o tb)).length = c0.length) := by show _ = _; rw [List.length_set]; exact hlc.out
        have hgg : gc ≠ g := by omega
        generalize crOf o tb = cv at hcr2 hst2 hS hl2
        have HXY := Lib.hid hxy
        clear hst hxy hset
        go_wp2_with (fail)
        go_quiet (fail)
        go_wp2_with (fail)
        go_region_with (go_at_call 71; refine (hcr2 _).mono ?_; rintro e w' ⟨rfl, rfl⟩)
        all_goals
          go_wp2
          exact ⟨⟨i + 1, c.set i cv, by omega, by go_num, hl2, hS.out, (HTW.out.other (p := ⟨gc, i, none⟩) (fun e => h3 e.symm) _), (HAW.out.other (p := ⟨gc, i, none⟩) hgg _), (HPW.out.other (p := ⟨gc, i, none⟩) h2 _), (((hK.drewN nq).setCell (p := ⟨gc, i, none⟩) (.inl (by simp)) _).drewN 1), hst2⟩, by simp [RowKit.intOf]; omega⟩
      · have hb : (((x : Int) + y) == ((cols.length : Int) - 1)) = false := by rw [beq_eq_false_iff_ne]; omega
        have hst2 : Hid (creL a t (cols.length - 1) o (c0.length - (i + 1)) (i + 1) c = r) := by show _ = _; rw [← hst.out, if_neg hxy]
        clear hst hxy hset
        go_wp2_with (fail)
        go_quiet (fail)
        go_wp2_with (fail)
        exact ⟨⟨i + 1, c, by omega, by go_num, hlc, HCW.out, HTW.out, HAW.out, HPW.out, hK.drewN nq, hst2⟩, by simp [RowKit.intOf]; omega⟩
    · have hR : Hid (c = r) := by show _ = _; rw [← hf.out, show c0.length - i = 0 by omega]; rfl
      rw [hR.out] at hcw
      clear hR hf
      go_wp2_with (fail)
      go_end0
      exact ⟨rfl, hcw, hpw, hK⟩
end Go.Proofs.YtbkmicimpgabgaaDoor
