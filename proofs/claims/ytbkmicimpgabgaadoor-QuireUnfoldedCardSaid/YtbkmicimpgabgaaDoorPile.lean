/-
  Package quire's Pile, Creases and End.
-/
import Derived.Test.YtbkmicimpgabgaaDoorFoldAll
import Derived.Test.YtbkmicimpgabgaaDoorLanes
import Derived.Laws.IdiomStrings
set_option linter.unusedSimpArgs false
set_option linter.unusedVariables false
namespace Go.Proofs.Quire
def chkF (cs : List UInt8) : Int := chkL 6 111 117 cs
def pileL (f : List Bool) : List Nat := (stripL f).cols.getD 0 []
def pileP (cs : List UInt8) : List Nat := if chkF cs = 0 then pileL (foldsB cs) else []
/-- the creases as letters -/
def creS (f : List Bool) : List UInt8 := (stripL f).cre.map UInt8.ofNat
def creP (cs : List UInt8) : List UInt8 := if chkF cs = 0 then creS (foldsB cs) else []
theorem creL_mem (a : List Nat) (t : List Bool) (last : Nat) (o : Bool) (m : Nat) : ∀ i c x, x ∈ creL a t last o m i c → x ∈ c ∨ x = 118 ∨ x = 104 := by
  induction m with
  | zero => intro i c x h; exact .inl h
  | succ m ih =>
    intro i c x h
    rcases ih _ _ x h with h | h
    · split at h
      · rcases mem_set h with h | h
        · exact .inl h
        · refine .inr ?_; rw [h]; unfold crOf; split
          · exact .inl rfl
          · exact .inr rfl
      · exact .inl h
    · exact .inr h
theorem foldsS_cre : ∀ (f : List Bool) (s : St), (∀ x ∈ s.cre, x = 0 ∨ x = 118 ∨ x = 104) → ∀ x ∈ (foldsS f s).cre, x = 0 ∨ x = 118 ∨ x = 104
  | [], s, h => h
  | o :: f, s, h => foldsS_cre f _ (fun x hx => by
      rcases creL_mem _ _ _ _ _ _ _ x hx with h1 | h1
      · exact h x h1
      · exact .inr h1)
theorem strip_cre (f : List Bool) : ∀ x ∈ (stripL f).cre, x = 0 ∨ x = 118 ∨ x = 104 :=
  foldsS_cre f _ (fun x hx => .inl (List.mem_replicate.1 hx).2)
theorem creS_len (f : List Bool) : (creS f).length + 1 = 2 ^ f.length := by unfold creS; rw [List.length_map]; exact (strip_inv f).2.1
theorem creS_lt (f : List Bool) : ∀ c ∈ creS f, c.toNat < 128 := fun c hc => by
  obtain ⟨x, hx, rfl⟩ := List.mem_map.1 hc
  rcases strip_cre f x hx with rfl | rfl | rfl <;> decide
theorem foldsB_len (cs : List UInt8) : (foldsB cs).length = cs.length := by unfold foldsB; simp
theorem creS_le {cs : List UInt8} (h : cs.length ≤ 6) : (creS (foldsB cs)).length ≤ 63 := by
  have := creS_len (foldsB cs)
  rw [foldsB_len] at this
  have : 2 ^ cs.length ≤ 2 ^ 6 := Nat.pow_le_pow_right (by omega) h
  omega
end Go.Proofs.Quire
namespace Go.Proofs.YtbkmicimpgabgaaDoor
open Go.RowKit Go.Lib Go.Proofs.Quire

def RowEPost (l : List Nat) (z : Int) (w : World) (e : Ending) (w' : World) : Prop :=
  ∃ A c, e = .returned (.tuple #[.slice A l.length c, .int .i64 z]) ∧ Rd w' A l.length (ints l) ∧ Below w.heap.size w w'
def RowWPost (l : List Nat) (z : Int) (w : World) (e : Ending) (w' : World) : Prop :=
  ∃ A c, e = .returned (.tuple #[.slice A l.length c, .int .i64 z]) ∧ RdW w' (List.range w.heap.size) A l.length (ints l) ∧ l.length ≤ c ∧ Below w.heap.size w w'
set_option maxRecDepth 100000 in
set_option maxHeartbeats 1000000 in
theorem pileW_holds (cs : List UInt8) (w : World) (hs : cs.length ≤ maxLen) :
    Calls Tryd.prog 8 #[.string ⟨cs.toArray⟩] w (RowWPost (pileP cs) (chkF cs) w) := by
  have h1 := fun W => check_any ⟨cs.toArray⟩ W (by rw [size_l]; exact hs)
  simp only [List.toList_toArray] at h1
  by_cases hz : chkF cs = 0
  · have hle := (chkL_zero (show chkL 6 111 117 cs = 0 from hz)).1
    have h2 := fun W => foldAll_any cs W hle
    have hP : Hid (pileP cs = pileL (foldsB cs)) := by show _ = _; unfold pileP; rw [if_pos hz]
    rw [hP.out, hz]
    rw [show chkL 6 111 117 cs = 0 from hz] at h1
    have hi := (inv_bounds (strip_inv (foldsB cs)) (by rw [foldsB_len]; exact hle) (Nat.le_refl _)).2.2.1.1
    unfold pileL
    generalize stripL (foldsB cs) = st at h2 hi ⊢
    have h3 := fun p gt gc W h => pileW_any p gt gc st W h hi
    generalize st.cols.getD 0 [] = l at h3 ⊢
    clear hz hP
    go_enter Tryd.func8, Tryd.ntmps8
    go_wp2_with (fail)
    refine (h1 _).mono ?_; rintro e w1 ⟨rfl, hb1⟩
    go_wp2_with (fail)
    refine (h2 _).mono ?_; rintro e w2 ⟨p, gt, gc, rfl, hlo, hst, hb2⟩
    go_wp2_with (fail)
    refine (h3 p gt gc w2 hst).mono ?_; rintro e w3 ⟨A, c, rfl, hrd, hcap, rfl⟩
    go_wp2_with (fail)
    go_ret2
    exact ⟨A, c, rfl, hrd.mono (fun k hk => by have := hb1.size; have := hlo.1; rw [List.mem_range] at hk ⊢; omega), hcap, hb1.trans (hb2.mono hb1.size)⟩
  · have hP : Hid (pileP cs = []) := by show _ = _; unfold pileP; rw [if_neg hz]
    have hz2 : (chkF cs != 0) = true := by simpa using hz
    rw [hP.out]
    rw [show chkL 6 111 117 cs = chkF cs from rfl] at h1
    generalize chkF cs = z at h1 hz2 ⊢
    clear hz hP
    go_enter Tryd.func8, Tryd.ntmps8
    go_wp2_with (fail)
    refine (h1 _).mono ?_; rintro e w1 ⟨rfl, hb1⟩
    go_wp2_with (fail)
    go_ret2
    exact ⟨none, 0, rfl, ⟨rd_nil _ _ _, fun h => absurd h (by simp)⟩, Nat.le_refl _, hb1⟩
theorem pileP_any (cs : List UInt8) (w : World) (hs : cs.length ≤ maxLen) :
    Calls Tryd.prog 8 #[.string ⟨cs.toArray⟩] w (RowEPost (pileP cs) (chkF cs) w) :=
  (pileW_holds cs w hs).mono (fun _ _ ⟨A, c, h1, h2, _, h3⟩ => ⟨A, c, h1, h2.1.mono (by simp), h3⟩)

def StrEPost (l : List UInt8) (z : Int) (w : World) (e : Ending) (w' : World) : Prop :=
  e = .returned (.tuple #[.string ⟨l.toArray⟩, .int .i64 z]) ∧ Below w.heap.size w w'
set_option maxRecDepth 100000 in
set_option maxHeartbeats 1000000 in
theorem creases_any (cs : List UInt8) (w : World) (hs : cs.length ≤ maxLen) :
    Calls Tryd.prog 13 #[.string ⟨cs.toArray⟩] w (StrEPost (creP cs) (chkF cs) w) := by
  have h1 := fun W => check_any ⟨cs.toArray⟩ W (by rw [size_l]; exact hs)
  simp only [List.toList_toArray] at h1
  by_cases hz : chkF cs = 0
  · have hle := (chkL_zero (show chkL 6 111 117 cs = 0 from hz)).1
    have h2 := fun W => foldAll_any cs W hle
    have hP : Hid (creP cs = creS (foldsB cs)) := by show _ = _; unfold creP; rw [if_pos hz]
    have hm := strip_cre (foldsB cs)
    have hcr : Hid (creS (foldsB cs) = (stripL (foldsB cs)).cre.map UInt8.ofNat) := rfl
    rw [hP.out, hz]
    rw [show chkL 6 111 117 cs = 0 from hz] at h1
    generalize creS (foldsB cs) = l at hcr ⊢
    generalize stripL (foldsB cs) = st at h2 hcr hm
    clear hz hP
    go_enter Tryd.func13, Tryd.ntmps13
    go_wp2_with (fail)
    refine (h1 _).mono ?_; rintro e w1 ⟨rfl, hb1⟩
    go_wp2_with (fail)
    refine (h2 _).mono ?_; rintro e w2 ⟨p, gt, gc, rfl, _, ⟨n1, n2, n3, Ac, cc, ct, ce, _, hp, ht, hc, _⟩, hb2⟩
    have p2 : w2.cell? ⟨p, 2, none⟩ = some (.slice (some ⟨gc, 0, none⟩) st.cre.length ce) := (hp.2 2 (by simp)).1
    have hcell : ∀ j (hj : j < l.length), w2.cell? ((⟨gc, 0, none⟩ : Addr).add j) = some (.int .u8 (l[j].toNat : Int)) := fun j hj => by
      have hj' : j < st.cre.length := by rw [hcr.out, List.length_map] at hj; exact hj
      have h := (hc.2 j (by rw [u8s_length]; exact hj')).1
      rw [u8s_getD _ _ hj', getD_lt _ _ _ hj'] at h
      have ea : (⟨gc, 0, none⟩ : Addr).add j = ⟨gc, j, none⟩ := by unfold Addr.add; split <;> simp_all
      have el : l[j].toNat = st.cre[j] := by
        have : l[j] = UInt8.ofNat st.cre[j] := by
          have e := hcr.out; subst e; simp
        rw [this, UInt8.toNat_ofNat']
        rcases hm _ (List.getElem_mem hj') with e | e | e <;> rw [e]
      rw [ea, h, el]
    have hll : l.length = st.cre.length := by rw [hcr.out, List.length_map]
    have hcb := run_convert_bytes_back (P := Tryd.prog) w2 58 9 5 ⟨gc, 0, none⟩ ce l Tryd.underlying58 Tryd.underlying5 Tryd.underlying9 hcell
    rw [hll] at hcb
    clear hcell hp ht hc hll hm
    go_wp2_with (fail)
    go_ret2
    exact ⟨rfl, hb1.trans (hb2.mono hb1.size)⟩
  · have hP : Hid (creP cs = []) := by show _ = _; unfold creP; rw [if_neg hz]
    have hz2 : (chkF cs != 0) = true := by simpa using hz
    rw [hP.out]
    rw [show chkL 6 111 117 cs = chkF cs from rfl] at h1
    generalize chkF cs = z at h1 hz2 ⊢
    clear hz hP
    go_enter Tryd.func13, Tryd.ntmps13
    go_wp2_with (fail)
    refine (h1 _).mono ?_; rintro e w1 ⟨rfl, hb1⟩
    go_wp2_with (fail)
    go_ret2
    exact ⟨rfl, hb1⟩

def endR (cs : List UInt8) : Value :=
  if chkF cs = 0 then .tuple #[.int .i64 (ptAt (walkL (creP cs)) ((creP cs).length + 1)).1, .int .i64 (ptAt (walkL (creP cs)) ((creP cs).length + 1)).2, .int .i64 0]
  else .tuple #[.int .i64 0, .int .i64 0, .int .i64 (chkF cs)]
set_option maxRecDepth 100000 in
set_option maxHeartbeats 1000000 in
theorem end_any (cs : List UInt8) (w : World) (hs : cs.length ≤ maxLen) :
    Calls Tryd.prog 15 #[.string ⟨cs.toArray⟩] w fun e w' => e = .returned (endR cs) ∧ Below w.heap.size w w' := by
  have h1 := fun W => creases_any cs W hs
  obtain ⟨r, hr⟩ : ∃ r, Hid (endR cs = r) := ⟨_, rfl⟩
  rw [hr.out]
  by_cases hz : chkF cs = 0
  · have hle := (chkL_zero (show chkL 6 111 117 cs = 0 from hz)).1
    have hc : ∀ c ∈ creP cs, c.toNat < 128 := by unfold creP; rw [if_pos hz]; exact creS_lt _
    have hl : (creP cs).length ≤ 63 := by unfold creP; rw [if_pos hz]; exact creS_le hle
    have h2 := fun W => walk_any (creP cs) W hl hc
    have hR : Hid (r = .tuple #[.int .i64 (ptAt (walkL (creP cs)) ((creP cs).length + 1)).1, .int .i64 (ptAt (walkL (creP cs)) ((creP cs).length + 1)).2, .int .i64 0]) := by show _ = _; rw [← hr.out]; unfold endR; rw [if_pos hz]
    have hPl := walkL_len (creP cs)
    rw [hz] at h1
    generalize creP cs = l at h1 h2 hR hPl hl
    generalize walkL l = P at h2 hR hPl
    clear hz hr hc
    go_enter Tryd.func15, Tryd.ntmps15
    go_wp2_with (fail)
    refine (h1 _).mono ?_; rintro e w1 ⟨rfl, hb1⟩
    go_wp2_with (fail)
    refine (h2 _).mono ?_; rintro e w2 ⟨A, c, rfl, hown, hb2⟩
    have hrd := own_rdP hown rfl
    rw [hPl] at hrd
    obtain ⟨g, o, rfl, hg, hat⟩ := hrd.2 (by omega)
    obtain ⟨a1, a2⟩ := hat (l.length + 1) (by omega)
    generalize ptAt P (l.length + 1) = pt at a1 a2 hR
    obtain ⟨px, py⟩ := pt
    simp only at a1 a2 hR
    rw [hPl]
    have e1 : ((l.length : Int) + 2 - 1) = (l.length : Int) + 1 := by omega
    have e2 : ((l.length : Int) + 1).toNat = l.length + 1 := by omega
    have hbF := hb1.trans (hb2.mono hb1.size)
    clear hown hat hrd hPl hb1 hb2 h1 h2
    go_wp2_with (fail)
    go_quiet (fail)
    go_wp2_with (fail)
    go_ret3
    refine ⟨by rw [hR.out]; rfl, ?_⟩
    exact below_drewN (hbF.alloc hbF.size _) _
  · have hR : Hid (r = .tuple #[.int .i64 0, .int .i64 0, .int .i64 (chkF cs)]) := by show _ = _; rw [← hr.out]; unfold endR; rw [if_neg hz]
    have hz2 : (chkF cs != 0) = true := by simpa using hz
    generalize chkF cs = z at h1 hz2 hR
    clear hz hr
    go_enter Tryd.func15, Tryd.ntmps15
    go_wp2_with (fail)
    refine (h1 _).mono ?_; rintro e w1 ⟨rfl, hb1⟩
    go_wp2_with (fail)
    go_ret3
    exact ⟨by rw [hR.out]; rfl, hb1⟩
end Go.Proofs.YtbkmicimpgabgaaDoor
