/-
  Package quire's foldAll and pile.
-/
import Derived.Test.YtbkmicimpgabgaaDoorNew
set_option linter.unusedSimpArgs false
set_option linter.unusedVariables false
namespace Go.Proofs.Quire
/-- folds as letters, read -/
def foldsB (cs : List UInt8) : List Bool := cs.map (· == 111)
theorem foldsS_inv : ∀ (f : List Bool) (k j : Nat) (s : St), Inv k j s → j + f.length = k → Inv k k (foldsS f s)
  | [], k, j, s, h, e => by simp at e; subst e; exact h
  | o :: f, k, j, s, h, e => foldsS_inv f k (j + 1) _ (inv_fold o h (by simp at e; omega)) (by simp at e ⊢; omega)
theorem strip_inv (f : List Bool) : Inv f.length f.length (stripL f) := foldsS_inv f f.length 0 _ (inv_new _) (by omega)
end Go.Proofs.Quire
namespace Go.Proofs.YtbkmicimpgabgaaDoor
open Go.RowKit Go.Lib Go.Proofs.Quire

def StripPost (s : St) (w : World) (e : Ending) (w' : World) : Prop :=
  ∃ p gt gc, e = .returned (.pointer (some ⟨p, 0, none⟩)) ∧ (w.heap.size ≤ p ∧ w.heap.size ≤ gt ∧ w.heap.size ≤ gc) ∧ StripAt w' p gt gc s ∧ Below w.heap.size w w'
theorem size_lb (cs : List UInt8) : (⟨cs.toArray⟩ : ByteArray).size = cs.length := by show cs.toArray.size = _; simp
set_option maxRecDepth 100000 in
set_option maxHeartbeats 2000000 in
theorem foldAll_any (cs : List UInt8) (w : World) (hl : cs.length ≤ 6) :
    Calls Tryd.prog 36 #[.string ⟨cs.toArray⟩] w (StripPost (stripL (foldsB cs)) w) := by
  have hnw : ∀ W, Calls Tryd.prog 56 #[.int .i64 cs.length] W (StripPost (newSt cs.length) W) := fun W => new_any cs.length W hl
  obtain ⟨r, hr⟩ : ∃ r, Hid (foldsS (foldsB (cs.drop 0)) (newSt cs.length) = r) := ⟨_, rfl⟩
  have hres : Hid (stripL (foldsB cs) = r) := by show _ = _; rw [← hr.out]; unfold stripL; rw [show (foldsB cs).length = cs.length by unfold foldsB; simp]; rfl
  rw [hres.out]
  have hi0 : Hid (Inv cs.length 0 (newSt cs.length)) := inv_new _
  generalize newSt cs.length = s0 at hr hi0 hnw
  obtain ⟨b, hbs⟩ : ∃ b : ByteArray, b = ⟨cs.toArray⟩ := ⟨_, rfl⟩
  have hsz : b.size = cs.length := by rw [hbs]; exact size_lb cs
  have hget : Hid (∀ j (hj : j < b.size) (hj' : j < cs.length), b[j] = cs[j]) := by
    subst hbs; intro j hj hj'; show cs.toArray[j] = _; simp
  rw [← hbs]
  rw [← hsz] at hnw
  have HSZ := Lib.hid hsz
  clear hbs hsz hres
  have hl2 : b.size ≤ 6 := by rw [HSZ.out]; exact hl
  go_enter Tryd.func36, Tryd.ntmps36
  go_wp2_with (fail)
  refine (hnw _).mono ?_
  rintro e w1 ⟨p, gt, gc, rfl, hlo, hs1, hb1⟩
  have hK1 : Keep [p, gt, gc] w w1 := .of_below hb1
  clear hnw
  go_wp2_with (fail)
  go_loopw [4, 10] (fun _ v wr => ∃ (i : Nat) (st : St), i ≤ b.size ∧ v = .int .i64 i ∧ StripAt wr p gt gc st ∧ Hid (Inv cs.length i st) ∧ Keep [p, gt, gc] w wr ∧ Hid (foldsS (foldsB (cs.drop i)) st = r)) (fun _ v _ => b.size - (RowKit.intOf v).toNat)
  case atStart => exact ⟨0, s0, Nat.zero_le _, rfl, hs1, hi0, hK1, hr⟩
  case round =>
    clear hs1 hi0 hK1 hr hb1
    obtain ⟨i, st, hi, rfl, hs, hinv, hK, hf⟩ := hrel
    by_cases hlt : i < b.size
    · have hlc : i < cs.length := by rw [← HSZ.out]; exact hlt
      obtain ⟨q1, q2, q3, q4, q5⟩ := inv_bounds hinv.out hl (Nat.le_of_lt hlc)
      have hfd := fold_any p gt gc b[i] st wr hs q1 q2 q3 q4 q5
      have hst : Hid (foldsS (foldsB (cs.drop (i + 1))) (fold1 (b[i] == 111) st) = r) := by
        show _ = _; rw [← hf.out, List.drop_eq_getElem_cons hlc, hget.out i hlt hlc]; rfl
      have hin2 : Hid (Inv cs.length (i + 1) (fold1 (b[i] == 111) st)) := inv_fold _ hinv.out hlc
      generalize fold1 (b[i] == 111) st = st2 at hfd hst hin2
      have HFD := Lib.hid hfd
      clear q1 q2 q3 q4 q5 hfd
      go_wp2_with (fail)
      refine HFD.out.mono ?_
      rintro e w3 ⟨rfl, hs3, hk3⟩
      go_wp2_with (fail)
      exact ⟨⟨i + 1, st2, by omega, by go_num, hs3, hin2, hK.trans hk3, hst⟩, by simp [RowKit.intOf]; omega⟩
    · have hR : Hid (st = r) := by
        have e : cs.drop i = [] := List.drop_eq_nil_of_le (by rw [← HSZ.out]; omega)
        show _ = _; rw [← hf.out, e]; rfl
      rw [hR.out] at hs
      go_wp2_with (fail)
      go_ret
      exact ⟨p, gt, gc, rfl, hlo, hs, hK.below (Nat.le_refl _) (fun k hk => by simp at hk; rcases hk with rfl | rfl | rfl <;> omega)⟩
/-- the first column -/
def PilePost (l : List Nat) (w : World) (e : Ending) (w' : World) : Prop := ∃ A c, e = .returned (.slice A l.length c) ∧ Rd w A l.length (ints l) ∧ w' = w
def PileWPost (p : Nat) (l : List Nat) (w : World) (e : Ending) (w' : World) : Prop := ∃ A c, e = .returned (.slice A l.length c) ∧ RdW w (List.range p) A l.length (ints l) ∧ l.length ≤ c ∧ w' = w
theorem pileW_any (p gt gc : Nat) (s : St) (w : World) (hs : StripAt w p gt gc s) (h0 : 0 < s.cols.length) :
    Calls Tryd.prog 37 #[.pointer (some ⟨p, 0, none⟩)] w (PileWPost p (s.cols.getD 0 []) w) := by
  obtain ⟨h1, h2, h3, Ac, cc, ct, ce, hcc, hp, ht, hc, hcols⟩ := hs
  obtain ⟨g, o, rfl, hg, _, hh⟩ := hcols h0
  obtain ⟨A0, c0, hcell, hrd, hcap⟩ := hh 0 h0
  have hp0 : w.cell? ⟨p, 0, none⟩ = some (.slice (some ⟨g, o, none⟩) s.cols.length cc) := (hp.2 0 (by simp)).1
  have hr0 := hrd.mono (Y := List.range p) (fun k hk => List.mem_cons_of_mem _ (List.mem_cons_of_mem _ (List.mem_cons_of_mem _ hk)))
  rw [Nat.add_zero] at hcell
  have HR := Lib.hid hr0
  have HCP := Lib.hid hcap
  clear hcap
  generalize s.cols.getD 0 [] = l at hcell HR HCP
  generalize s.cols.length = m at hp0 h0
  clear hh hrd hr0 hcols hp ht hc
  go_enter Tryd.func37, Tryd.ntmps37
  go_wp2_with (fail)
  go_ret
  exact ⟨A0, c0, rfl, HR.out, HCP.out, rfl⟩
theorem pile_any (p gt gc : Nat) (s : St) (w : World) (hs : StripAt w p gt gc s) (h0 : 0 < s.cols.length) :
    Calls Tryd.prog 37 #[.pointer (some ⟨p, 0, none⟩)] w (PilePost (s.cols.getD 0 []) w) :=
  (pileW_any p gt gc s w hs h0).mono (fun _ _ ⟨A, c, h1, h2, _, h3⟩ => ⟨A, c, h1, (h2.1.mono (by simp)), h3⟩)
end Go.Proofs.YtbkmicimpgabgaaDoor
