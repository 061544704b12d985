/-
  The walk of QuireUnfolded: it returns true at any two numbers.
-/
import Derived.Test.YtbkmicimpgabgaaDoorUnfP
import Derived.Test.YtbkmicimpgabgaaDoorWorks
import Derived.Test.YtbkmicimpgabgaaDoorHelpH
import Derived.Deep.RegionHeld3
import Derived.Deep.Cut
import Derived.Deep.CutRange
import Derived.Deep.QuietTactic
set_option linter.unusedSimpArgs false
set_option linter.unusedVariables false
namespace Go.Proofs.YtbkmicimpgabgaaDoor
open Go.RowKit Go.Lib Go.Proofs.Quire

def RowWU (l : List Nat) (n : Nat) (z : Int) (w : World) (e : Ending) (w' : World) : Prop :=
  (∃ A c, e = .returned (.tuple #[.slice A n c, .int .i64 z]) ∧ RdW w' [] A n (ints l) ∧ n ≤ c) ∧ Below w.heap.size w w'
theorem RowWPost.u {l : List Nat} {z : Int} {w : World} {e : Ending} {w' : World} (h : RowWPost l z w e w') {l' : List Nat} {n : Nat} {z' : Int} (h1 : l = l') (h2 : l'.length = n) (h3 : z = z') : RowWU l' n z' w e w' := by
  subst h1; subst h2; subst h3
  obtain ⟨A, c, h4, h5, h7, h6⟩ := h
  exact ⟨⟨A, c, h4, h5.mono (by simp), h7⟩, h6⟩
theorem cols_one (w : World) (A : Option Addr) (n c : Nat) (a : List Nat) (ha : a.length = n) (h : RdW w [] A n (ints a)) (hc : n ≤ c) :
    Cols (w.alloc (.cells #[.slice A n c] 23)) [] (some ⟨w.heap.size, 0, none⟩) [a] := fun _ => by
  refine ⟨w.heap.size, 0, rfl, by simp, by simp, fun i hi => ?_⟩
  obtain rfl : i = 0 := by simp at hi; exact hi
  subst ha
  refine ⟨A, c, ?_, h.keep (Y := []) ((Keep.refl _ _).alloc _) (by simp), hc⟩
  have := (Arr.new w [.slice A a.length c] 23).2 0 (by simp)
  exact this.1
def CutU (H : Nat) (lo up : List Nat) (w : World) (v16 v17 : Value) (wx : World) : Prop := ∃ g5 c5 g6 c6, v16 = .slice (some ⟨g5, 0, none⟩) H c5 ∧ v17 = .slice (some ⟨g6, 0, none⟩) H c6 ∧ Arr wx g5 (ints lo) ∧ Arr wx g6 (ints up) ∧ Below w.heap.size w wx ∧ w.heap.size ≤ g5 ∧ w.heap.size ≤ g6 ∧ g5 ≠ g6 ∧ H ≤ c5 ∧ H ≤ c6
set_option maxRecDepth 100000 in
set_option maxHeartbeats 16000000 in
theorem unfoldedLaw_any (m b : Nat) (w : World) (hT : Tab w) (hm : m < 256) (hb : b < 256) :
    Calls Tryd.prog 6 #[.int .u8 m, .int .u8 b] w (ValC (.bool true) w) := by
  have h0 := fun W => foldsH_any m b hm hb W
  obtain ⟨k, hk⟩ : ∃ k, m % 7 = k := ⟨_, rfl⟩
  rw [hk] at h0
  have hk6 : k ≤ 6 := by omega
  have hfl := foldsOf_len b k
  have hz := foldsOf_ok b k (by omega)
  generalize hfs : foldsOf b k = fs at h0 hfl hz
  have hfm : ∀ c ∈ fs, c = 111 ∨ c = 117 := fun c hc => bitL_mem (b := b) (k := k) (by rw [hfs]; exact hc)
  have hbl : (foldsB fs).length = k := by rw [foldsB_len, hfl]
  obtain ⟨n, hn⟩ : ∃ n, 2 ^ k = n := ⟨_, rfl⟩
  obtain ⟨hn1, hn2⟩ := pow_le64 k (by omega)
  have hwr := Lib.hid (shl_one k n hn (by omega))
  obtain ⟨p1, _, _⟩ := perm_of (foldsB fs) (by omega)
  rw [← pileL_C _ (by omega), hbl, hn] at p1
  have huf := unf_of (foldsB fs) (by omega)
  rw [hbl, hn] at huf
  have h1 : ∀ W, Calls Tryd.prog 8 #[.string ⟨fs.toArray⟩] W (RowWU (pileL (foldsB fs)) n 0 W) := fun W => (pileW_holds fs W (small _ (by omega))).mono fun _ _ h => h.u (by unfold pileP; rw [if_pos hz]) p1 hz
  have hfd : ∀ A c W, Rd W A n (ints (pileL (foldsB fs))) → Calls Tryd.prog 25 #[.slice A n c] W (ValC (.tuple #[.string ⟨fs.toArray⟩, .int .i64 0]) W) := fun A c W h => by
    have h2 := folded_any A c ((pileL (foldsB fs)).map fun x : Nat => (x : Int)) W (by rw [List.length_map, zs_ints, p1]; exact h) (small _ (by rw [List.length_map, p1, ← hn]; omega))
    rw [fold_back _ (by omega), foldsB_back fs hfm, List.length_map, p1] at h2
    exact h2
  have hn0 : 0 < n := by rw [hn] at hn1; omega
  have hn64 : n ≤ 64 := by rw [hn] at hn2; omega
  have htk : (foldsB fs).take k = foldsB fs := List.take_of_length_le (by omega)
  rw [← htk] at huf
  have huf0 : Hid (unfL ((foldsB fs).take k).reverse [pileL (foldsB fs)] = (List.range n).map fun i => [i]) := by
    show _ = _; rw [← huf, htk]
  have hbyte : ∀ i, i < k → ∀ h : i < (⟨fs.toArray⟩ : ByteArray).size, (⟨fs.toArray⟩ : ByteArray)[i] = fs.getD i 0 := fun i hi h => byte_at _ i (by omega) h
  have hfold : ∀ i, i < k → (fs.getD i 0 = 111 ∧ (foldsB fs).getD i false = true) ∨ (fs.getD i 0 = 117 ∧ (foldsB fs).getD i false = false) := fun i hi => by
    have hil : i < fs.length := by omega
    have e2 : (foldsB fs).getD i false = (fs.getD i 0 == 111) := by
      unfold foldsB
      rw [List.getD_eq_getElem?_getD, List.getElem?_map, List.getElem?_eq_getElem hil, List.getD_eq_getElem?_getD, List.getElem?_eq_getElem hil]; rfl
    rcases hfm (fs.getD i 0) (by rw [getD_lt _ _ _ hil]; exact List.getElem_mem _) with e | e
    · exact .inl ⟨e, by rw [e2, e]; rfl⟩
    · exact .inr ⟨e, by rw [e2, e]; rfl⟩
  have hszf : (⟨fs.toArray⟩ : ByteArray).size = k := by rw [size_l]; exact hfl
  generalize (⟨fs.toArray⟩ : ByteArray) = s0 at h0 h1 hszf hbyte hfd
  have hst0 : Hid ((∀ c ∈ [pileL (foldsB fs)], c.length = 2 ^ k) ∧ [pileL (foldsB fs)].length * 2 ^ k = n) := ⟨fun c hc => by rw [List.mem_singleton.1 hc, p1, hn], by simp [hn]⟩
  generalize hF : foldsB fs = F at huf0 hst0 hfold h1 p1 hfd hbl
  generalize pileL F = a at huf0 hst0 h1 p1 hfd
  have HFD := Lib.hid hfd
  have HF := Lib.hid hfold; have HBY := Lib.hid hbyte
  obtain ⟨R, hR⟩ : ∃ R, Hid (((List.range n).map fun i => [i]) = R) := ⟨_, rfl⟩
  rw [hR.out] at huf0
  have HN : Hid (2 ^ k = n) := hn
  clear hfold hbyte hfd huf htk hz hfm hn1 hn2 hn hfs
  go_enter Tryd.func6, Tryd.ntmps6
  go_wp2_with (fail)
  refine (h0 _).mono ?_; rintro e w1 ⟨rfl, q1, rfl⟩
  have hB1 : Below w.heap.size w (w.drewN q1) := below_drewN (Below.refl _ _) _
  generalize w.drewN q1 = w1 at hB1 ⊢
  go_upto_region 3 with (fail)
  simp only [hwr.out]
  go_wp2_with (fail)
  refine (h1 _).mono ?_; rintro e w2 ⟨⟨A1, c1, rfl, hr1, hcp1⟩, hb2⟩
  have hB2 := hB1.trans (hb2.mono hB1.size)
  clear hB1 hb2 h0 h1
  go_wp2_with (fail)
  have hB3 : Below w.heap.size w (w2.alloc (.cells #[.slice A1 n c1] 23)) := hB2.alloc hB2.size _
  have hc3 := cols_one w2 A1 n c1 a p1 hr1 hcp1
  have hr3 : Rd (w2.alloc (.cells #[.slice A1 n c1] 23)) A1 n (ints a) := hr1.1.keep (Y := []) ((Keep.refl _ _).alloc _) (by simp)
  generalize hg3 : w2.heap.size = g3 at hc3 ⊢
  generalize w2.alloc (.cells #[.slice A1 n c1] 23) = w3 at hB3 hc3 hr3 ⊢
  clear hB2 hr1
  go_loopw [9, 10, 11, 12, 14, 15, 16, 17] (fun v9 v10 _ _ _ _ _ _ wr => ∃ (j c : Nat) (A : Option Addr) (cols : List (List Nat)), j ≤ k ∧ v10 = .int .i64 ((j : Int) - 1) ∧ v9 = .slice A cols.length c ∧ Cols wr [] A cols ∧ Hid (unfL (F.take j).reverse cols = R) ∧ Hid ((∀ c ∈ cols, c.length = 2 ^ j) ∧ cols.length * 2 ^ j = n) ∧ Below w.heap.size w wr ∧ Rd wr A1 n (ints a)) (fun _ v _ _ _ _ _ _ _ => (RowKit.intOf v + 1).toNat)
  case atStart => exact ⟨k, 1, _, [a], Nat.le_refl _, rfl, rfl, hc3, huf0, hst0, hB3, hr3⟩
  case round =>
    clear hB3 hc3 huf0 hst0 hr3
    obtain ⟨j, c, A, cols, hj, rfl, rfl, hc, hu, hsh, hbr, hr⟩ := hrel
    obtain ⟨wz, hwz⟩ : ∃ wz : World, wz = wr := ⟨_, rfl⟩
    subst hwz
    rcases j with _ | j
    · have hcR : cols = R := hu.out
      have hRn := hR.out
      rw [← hcR] at hRn
      have hcl : cols.length = n := by rw [← hRn]; simp
      have hget : Hid (∀ i, i < n → cols.getD i [] = [i]) := fun i hi => by
        rw [← hRn, List.getD_eq_getElem?_getD, List.getElem?_map, List.getElem?_range hi]; rfl
      rw [hcl]
      obtain ⟨gA, oA, rfl, hgA, _, hcc⟩ := hc (by rw [hcl]; exact hn0)
      rw [hcl] at hcc
      have HCC := Lib.hid hcc
      have hneg : (((0 : Nat) : Int) - 1) = -1 := rfl
      rw [hneg]
      have HHR := Lib.hid hr
      clear hcR hRn hcl hcc hneg hc hu hsh hr
      go_wp2_with (fail)
      go_loopw [18, 19, 90] (fun _ _ v wx => ∃ i : Nat, i ≤ n ∧ v = .int .i64 i ∧ wx = wz) (fun _ _ v _ => n - (RowKit.intOf v).toNat)
      case atStart => exact ⟨0, Nat.zero_le _, rfl, rfl⟩
      case round =>
        obtain ⟨i, hi, rfl, hwx⟩ := hrel
        rw [hwx]
        clear hwx
        by_cases hlt : i < n
        · obtain ⟨Ai, ci, hcell, hrdw, _⟩ := HCC.out i hlt
          rw [hget.out i hlt] at hcell hrdw
          obtain ⟨gi, rfl, hgi⟩ := hrdw.2 (by simp)
          have hc0 : wz.cell? ⟨gi, 0, none⟩ = some (.int .i64 (i : Int)) := (hgi.2 0 (by simp)).1
          have hcell : wz.cell? ⟨gA, oA + i, none⟩ = some (.slice (some ⟨gi, 0, none⟩) 1 ci) := hcell
          have hb1 : ((i : Int) != (i : Int)) = false := by simp
          clear hrdw hgi
          go_wp2_with (fail)
          exact ⟨⟨i + 1, by omega, by go_num, trivial⟩, by simp [RowKit.intOf]; omega⟩
        · have hF := HFD.out A1 c1 wz HHR.out
          clear HFD HCC HHR hget
          go_wp2_with (fail)
          refine hF.mono ?_; rintro e w8 ⟨rfl, hb8⟩
          have hB8 := hbr.trans (hb8.mono hbr.size)
          have hT8 := hT.below hB8
          go_wp2_with (fail)
          refine (works_any _ hT8).mono ?_; rintro e w9 ⟨rfl, hb9⟩
          have hB9 := hB8.trans (hb9.mono hB8.size)
          go_wp2_with (fail)
          go_ret
          exact ⟨rfl, hB9⟩
    · rw [show (((j + 1 : Nat) : Int) - 1) = (j : Int) by omega]
      have hjk : j < k := by omega
      have ht := unfL_take F j (by omega) cols
      rw [ht] at hu
      obtain ⟨hl0, hl1⟩ := hsh.out
      have hj64 : 2 ^ j ≤ 64 := Nat.le_trans (Nat.pow_le_pow_right (by omega) (by omega)) (by decide : 2 ^ 6 ≤ 64)
      have hj1 : 1 ≤ 2 ^ j := Nat.one_le_two_pow
      have hl0 : ∀ c ∈ cols, c.length = 2 * 2 ^ j := fun c hc => by rw [hl0 c hc, Nat.pow_succ]; omega
      obtain ⟨hs1, hs2⟩ := unf1_shape (F.getD j false) cols (2 ^ j) hl0
      have hfo := HF.out j hjk
      have hby := HBY.out j hjk
      generalize F.getD j false = o at hu hs1 hs2 hfo ht
      have hsh2 : Hid ((∀ c ∈ unf1 o cols, c.length = 2 ^ j) ∧ (unf1 o cols).length * 2 ^ j = n) := ⟨hs2, by rw [hs1, ← hl1, Nat.pow_succ, Nat.mul_comm 2, Nat.mul_assoc, Nat.mul_comm 2]⟩
      obtain ⟨r, hrr⟩ : ∃ r, Hid (unfS o (cols.drop 0) [] [] = r) := ⟨_, rfl⟩
      have hu1 : unf1 o cols = r.1 ++ r.2.reverse := by rw [← hrr.out]; rfl
      rw [hu1] at hu hsh2
      have hM64 : cols.length ≤ 64 := by
        have h1 : cols.length * 1 ≤ cols.length * 2 ^ (j + 1) := Nat.mul_le_mul_left _ Nat.one_le_two_pow
        omega
      have hM1 : 0 < cols.length := by
        rcases Nat.eq_zero_or_pos cols.length with e | e
        · rw [e] at hl1; omega
        · exact e
      obtain ⟨H, hH⟩ : ∃ H, Hid (2 ^ j = H) := ⟨2 ^ j, Lib.hid rfl⟩
      have hl0 : ∀ c ∈ cols, c.length = 2 * H := by rw [← hH.out]; exact hl0
      have hH1 : 1 ≤ H := by rw [← hH.out]; exact hj1
      have hH64 : H ≤ 64 := by rw [← hH.out]; exact hj64
      have HL0 := Lib.hid hl0
      obtain ⟨gA, oA, rfl, hgA, _, hcc⟩ := hc hM1
      have HCC := Lib.hid hcc
      clear hs1 hs2 ht hsh hl1 hl0 hj1 hj64 hu1 hc hcc
      go_wp2_with (fail)
      go_loopw [11, 12, 14, 15, 16, 17, 51] (fun v11 v12 _ _ _ _ v51 wx => ∃ (i : Nat) (Al Ar : Option Addr) (cl cr : Nat) (xl xr : List Value) (al ar : List (List Nat)), i ≤ cols.length ∧ v51 = .int .i64 i ∧ v11 = .slice Al i cl ∧ v12 = .slice Ar i cr ∧
        wx.ownsRow wz.heap.size 23 1 (.slice Al i cl) i xl ∧ EachN wx (ownL (.slice Al i cl) ++ ownL (.slice Ar i cr)) xl al ∧ wx.ownsRow wz.heap.size 23 1 (.slice Ar i cr) i xr ∧ EachN wx (ownL (.slice Ar i cr) ++ ownL (.slice Al i cl)) xr ar ∧
        (∀ q, q ∈ ownL (.slice Al i cl) → q ∉ ownL (.slice Ar i cr)) ∧ Hid (al.length = i ∧ ar.length = i) ∧ Hid (unfS o (cols.drop i) al ar = r) ∧ Below wz.heap.size wz wx) (fun _ _ _ _ _ _ v _ => cols.length - (RowKit.intOf v).toNat)
      case atStart => exact ⟨0, none, none, 0, 0, [], [], [], [], Nat.zero_le _, rfl, rfl, rfl, World.ownsRow_nil _ _ _ _, EachN.nil _ _, World.ownsRow_nil _ _ _ _, EachN.nil _ _, fun q hq => by simp [ownL, Value.ownBlock] at hq, ⟨rfl, rfl⟩, hrr, Below.refl _ _⟩
      case round =>
        clear hrr
        obtain ⟨i, Al, Ar, cl, cr, xl, xr, al, ar, hi, rfl, rfl, rfl, hol, hel, hor, her, hdis, hlen, hst, hbx⟩ := hrel
        by_cases hlt : i < cols.length
        · obtain ⟨Ai, ci, hcell0, hrdw, hcap⟩ := HCC.out i hlt
          have hcell := (hbx.cell (p := ⟨gA, oA + i, none⟩) hgA).trans hcell0
          have hcl := HL0.out (cols.getD i []) (by rw [getD_lt _ _ _ hlt]; exact List.getElem_mem _)
          have hstep : Hid (unfS o (cols.drop (i + 1)) (al ++ [lowO o (cols.getD i [])]) (ar ++ [uppO o (cols.getD i [])]) = r) := by
            show _ = _; rw [← hst.out, unfS_step o cols al ar i hlt]
          generalize cols.getD i [] = col at hcell hcl hstep hrdw hcap
          clear hcell0
          rw [hcl] at hcell hrdw hcap
          obtain ⟨gi, rfl, _⟩ := hrdw.2 (by omega)
          have hlow := rd_drop hrdw.1 H (by omega)
          have hupp := rd_take hrdw.1 H (by omega)
          rw [show 2 * H - H = H by omega] at hlow
          have hlo : ∀ (c : Nat) (W : World), Below wz.heap.size wz W → Calls Tryd.prog 28 #[.slice (some ⟨gi, H, none⟩) (2 * H - H) c] W (fun e w' => Clone2Post (col.drop H) H W e w' ∧ Below wz.heap.size wz w') := fun c W hB => by
            rw [show 2 * H - H = H by omega, show (⟨gi, H, none⟩ : Addr) = ⟨gi, 0 + H, none⟩ by rw [Nat.zero_add]]
            exact Calls.mono (clone2_any _ c H (col.drop H) W (by rw [List.length_drop]; omega) (by omega) (by omega) (hlow.below hB)) (fun e w' h => ⟨h, by obtain ⟨_, _, _, _, _, hb, _⟩ := h; exact hB.trans (hb.mono hB.size)⟩)
          have hup : ∀ (c : Nat) (W : World), Below wz.heap.size wz W → Calls Tryd.prog 28 #[.slice (some ⟨gi, 0, none⟩) H c] W (fun e w' => Clone2Post (col.take H) H W e w' ∧ Below wz.heap.size wz w') := fun c W hB => Calls.mono (clone2_any _ c H (col.take H) W (by rw [List.length_take]; omega) (by omega) (by omega) (hupp.below hB)) (fun e w' h => ⟨h, by obtain ⟨_, _, _, _, _, hb, _⟩ := h; exact hB.trans (hb.mono hB.size)⟩)
          have eH : (((2 * H : Nat) : Int)).tdiv 2 = (H : Int) := by rw [Int.tdiv_eq_ediv_of_nonneg (by omega)]; omega
          have eH2 : (((2 * H : Nat) : Int)) / 2 = (H : Int) := by omega
          have HLO := Lib.hid hlo; have HUP := Lib.hid hup
          clear hlow hupp hlo hup hrdw hst
          -- THE THREE ORDERS
          go_upto_region 15 with (fail)
          go_cut [16, 17] from 52 to 82 (fun v16 v17 wx => CutU H (col.drop H) (col.take H) wr v16 v17 wx)
          case first =>
            go_region_with (go_at_call 28; (first
              | ((with_reducible refine (HLO.out _ _ (by first | assumption | exact Below.drew (by assumption))).mono ?_); rintro e wL ⟨⟨g5, c5, rfl, hg5, ha5, hb5, hk5⟩, hB5⟩)
              | ((with_reducible refine (HUP.out _ _ (by first | assumption | exact Below.drew (by assumption))).mono ?_); rintro e wU ⟨⟨g6, c6, rfl, hg6, ha6, hb6, hk6⟩, hB6⟩)))
            all_goals
              have hDr : Below wr.heap.size wr wr.drew := (Below.refl _ wr).drew
              first
              | (have hF : CutU H (col.drop H) (col.take H) wr (.slice (some ⟨g5, 0, none⟩) H c5) (.slice (some ⟨g6, 0, none⟩) H c6) wU := by
                   have h1 : wr.heap.size ≤ wL.heap.size := hb5.size
                   have h2 : wL.heap.size ≤ g6 := hg6
                   have h3 := ha5.1
                   exact ⟨g5, c5, g6, c6, rfl, rfl, ha5.below hb6, ha6, (hDr.trans hb5).trans (hb6.mono h1), hg5, Nat.le_trans h1 h2, by omega, hk5, hk6⟩
                 go_wp2_with (fail)
                 go_meet
                 exact hF)
              | (have hF : CutU H (col.drop H) (col.take H) wr (.slice (some ⟨g5, 0, none⟩) H c5) (.slice (some ⟨g6, 0, none⟩) H c6) wL := by
                   have h1 : wr.heap.size ≤ wU.heap.size := hb6.size
                   have h2 : wU.heap.size ≤ g5 := hg5
                   have h3 := ha6.1
                   exact ⟨g5, c5, g6, c6, rfl, rfl, ha5, ha6.below hb5, (hDr.trans hb6).trans (hb5.mono h1), Nat.le_trans h1 h2, hg6, by omega, hk5, hk6⟩
                 go_wp2_with (fail)
                 go_meet
                 exact hF)
          case rest =>
            obtain ⟨g5, c5, g6, c6, rfl, rfl, hAl, hAu, hBf, hgl, hgu, hne, hk5, hk6⟩ := hcut
            obtain ⟨wf, hwf⟩ : ∃ wf : World, wf = wc := ⟨_, rfl⟩
            subst hwf
            have hjs : j < s0.size := by rw [hszf]; exact hjk
            rcases hfo with ⟨hb1, rfl⟩ | ⟨hb1, rfl⟩
            · have hbq : ((s0[j].toNat : Int) == 117) = false := by rw [hby hjs, hb1]; rfl
              have hlow : lowO true col = col.drop H := by unfold lowO; rw [hcl, show 2 * H / 2 = H by omega]; rfl
              have hupp : uppO true col = (col.take H).reverse := by unfold uppO; rw [hcl, show 2 * H / 2 = H by omega]; rfl
              have hstep2 : Hid (unfS true (cols.drop (i + 1)) (al ++ [col.drop H]) (ar ++ [(col.take H).reverse]) = r) := by show _ = _; rw [← hlow, ← hupp]; exact hstep.out
              have hll : (col.drop H).length = H := by simp; omega
              have hlu : (col.take H).length = H := by simp; omega
              generalize col.drop H = Lw at hAl hstep2 hll
              generalize col.take H = Up at hAu hstep2 hlu
              have hrv := reverse_any g6 c6 Up wf hAu (by omega)
              rw [hlu] at hrv
              have HLU : Hid (Up.reverse.length = H) := by show _ = _; rw [List.length_reverse]; exact hlu
              generalize Up.reverse = Vp at hrv hstep2 HLU
              have HLL := Lib.hid hll
              clear hlow hupp hll hlu hAu hby hb1
              go_wp2_with (fail)
              refine hrv.mono ?_; rintro e w7 ⟨rfl, hAu7, hk7⟩
              have hAl7 := hAl.keep hk7 (by simpa using hne)
              have hBf7 : Below wr.heap.size wr w7 := hBf.trans (hk7.below hBf.size (fun k hk => by rw [List.mem_singleton.1 hk]; exact hgu))
              have hsz7 := hBf7.size
              have hol7 := own_below hol hBf7
              have hor7 := own_below hor hBf7
              have hel7 := hel.keep (Y := []) (.of_below hBf7) (by simp)
              have her7 := her.keep (Y := []) (.of_below hBf7) (by simp)
              have hbw7 := hbx.trans (hBf7.mono hbx.size)
              have hoL : ∀ q, q ∈ ownL (.slice Al i cl) → wz.heap.size ≤ q ∧ q < wr.heap.size := fun q hq => hol.lt q (mem_ownL hq)
              have hoR : ∀ q, q ∈ ownL (.slice Ar i cr) → wz.heap.size ≤ q ∧ q < wr.heap.size := fun q hq => hor.lt q (mem_ownL hq)
              have hrdl : RdW w7 (ownL (.slice Al i cl) ++ ownL (.slice Ar i cr)) (some ⟨g5, 0, none⟩) H (ints Lw) := arr_rdw hAl7 HLL.out (fun hq => by
                rcases List.mem_append.1 hq with hq | hq
                · have := (hoL _ hq).2; omega
                · have := (hoR _ hq).2; omega)
              have hi1000 : i ≤ 1000 := by omega
              have hzb7 : wz.heap.size ≤ w7.heap.size := hbw7.size
              have HOR := Lib.hid hor7; have HER := Lib.hid her7; have HAU := Lib.hid hAu7
              clear hol hor hel her hbx hBf hAl hk7 hrv hor7 her7 hAu7 hAl7 hstep
              go_wp2_with (at_builtin; refine append_col3 w7 rfl _ _ rfl wz.heap.size i (.slice Al i cl) (ownL (.slice Ar i cr)) xl al Lw (some ⟨g5, 0, none⟩) H c5 HLL.out rfl hol7 hel7 hrdl hk5 w7.heap.size rfl rfl hi1000 hzb7 ?_)
              intro A8 c8 xl8 w8 hol8 hel8 hk8 hm8
              have hN8 : ∀ q, q ∈ ownL (.slice A8 (i + 1) c8) → wz.heap.size ≤ q ∧ q < w8.heap.size := fun q hq => hol8.lt q (mem_ownL hq)
              have hYs : ∀ k, k ∈ ownL (.slice Ar i cr) ++ (ownL (.slice Al i cl) ++ ownL (.slice A8 (i + 1) c8)) → k ∈ ownL (.slice Ar i cr) ++ ownL (.slice Al i cl) ∨ w7.heap.size ≤ k := fun k hk => by
                rcases List.mem_append.1 hk with hk | hk
                · exact .inl (List.mem_append_left _ hk)
                · rcases List.mem_append.1 hk with hk | hk
                  · exact .inl (List.mem_append_right _ hk)
                  · rcases hm8 k hk with h5 | h5
                    · exact .inl (List.mem_append_right _ h5)
                    · exact .inr (by omega)
              have her8 := ((HER.out.more hYs).keep hk8 (fun k hk => List.mem_append_right _ (List.mem_append_left _ hk))).more (Y := ownL (.slice Ar i cr) ++ ownL (.slice A8 (i + 1) c8)) (fun k hk => .inl (by
                rcases List.mem_append.1 hk with hk | hk
                · exact List.mem_append_left _ hk
                · exact List.mem_append_right _ (List.mem_append_right _ hk)))
              have hrdu7 : RdW w7 (ownL (.slice Ar i cr) ++ (ownL (.slice Al i cl) ++ ownL (.slice A8 (i + 1) c8))) (some ⟨g6, 0, none⟩) H (ints Vp) := arr_rdw HAU.out HLU.out (fun hq => by
                have hg7 := HAU.out.1
                rcases hYs _ hq with hq | hq
                · rcases List.mem_append.1 hq with hq | hq
                  · have := (hoR _ hq).2; omega
                  · have := (hoL _ hq).2; omega
                · omega)
              have hrdu8 := (hrdu7.keep hk8 (fun k hk => List.mem_append_right _ (List.mem_append_left _ hk))).more (Y := ownL (.slice Ar i cr) ++ ownL (.slice A8 (i + 1) c8)) (fun k hk => .inl (by
                rcases List.mem_append.1 hk with hk | hk
                · exact List.mem_append_left _ hk
                · exact List.mem_append_right _ (List.mem_append_right _ hk)))
              have hor8 := own_keep HOR.out hk8 (fun k e hk => hdis k hk (by unfold ownL; rw [e]; simp))
              have hbw8 := hbw7.trans (hk8.below hzb7 (fun k hk => (hoL k hk).1))
              have hzb8 : wz.heap.size ≤ w8.heap.size := hbw8.size
              have hz87 := hk8.size
              clear hol7 hel7 hrdl hrdu7 HOR HER HAU hk8 hbw7
              go_wp2_with (at_builtin; refine append_col3 w8 rfl _ _ rfl wz.heap.size i (.slice Ar i cr) (ownL (.slice A8 (i + 1) c8)) xr ar Vp (some ⟨g6, 0, none⟩) H c6 HLU.out rfl hor8 her8 hrdu8 hk6 w8.heap.size rfl rfl hi1000 hzb8 ?_)
              intro A9 c9 xr9 w9 hor9 her9 hk9 hm9
              have hol9 := own_keep hol8 hk9 (fun k e hk => by
                have hkn : k ∈ ownL (.slice A8 (i + 1) c8) := by unfold ownL; rw [e]; simp
                rcases hm8 k hkn with h5 | h5
                · exact hdis k h5 hk
                · have := (hoR k hk).2; omega)
              have hel9 := (hel8.more (Y := ownL (.slice A8 (i + 1) c8) ++ (ownL (.slice Ar i cr) ++ ownL (.slice A9 (i + 1) c9))) (fun k hk => by
                rcases List.mem_append.1 hk with hk | hk
                · exact .inl (List.mem_append_left _ hk)
                · rcases List.mem_append.1 hk with hk | hk
                  · exact .inl (List.mem_append_right _ hk)
                  · rcases hm9 k hk with h5 | h5
                    · exact .inl (List.mem_append_right _ h5)
                    · exact .inr (by omega))).keep hk9 (fun k hk => List.mem_append_right _ (List.mem_append_left _ hk))
              have hel9 := hel9.more (Y := ownL (.slice A8 (i + 1) c8) ++ ownL (.slice A9 (i + 1) c9)) (fun k hk => .inl (by
                rcases List.mem_append.1 hk with hk | hk
                · exact List.mem_append_left _ hk
                · exact List.mem_append_right _ (List.mem_append_right _ hk)))
              have hdis9 : ∀ q, q ∈ ownL (.slice A8 (i + 1) c8) → q ∉ ownL (.slice A9 (i + 1) c9) := fun q hq hq9 => by
                have h3 := (hN8 q hq).2
                rcases hm9 q hq9 with h5 | h5
                · rcases hm8 q hq with h6 | h6
                  · exact hdis q h6 h5
                  · have := (hoR q h5).2; omega
                · omega
              have hbw9 := hbw8.trans (hk9.below hzb8 (fun k hk => (hoR k hk).1))
              have HLN : Hid ((al ++ [Lw]).length = i + 1 ∧ (ar ++ [Vp]).length = i + 1) := by show _ ∧ _; rw [List.length_append, List.length_append, hlen.out.1, hlen.out.2]; exact ⟨rfl, rfl⟩
              clear hol8 hel8 hor8 her8 hrdu8 hk9 hm8 hm9 hdis hbw8 hlen
              go_wp2_with (fail)
              exact ⟨⟨i + 1, A8, A9, c8, c9, xl8, xr9, al ++ [Lw], ar ++ [Vp], by omega, by go_num, rfl, rfl, hol9, hel9, hor9, her9, hdis9, HLN, hstep2, hbw9⟩, by simp [RowKit.intOf]; omega⟩
            · have hbq : ((s0[j].toNat : Int) == 117) = true := by rw [hby hjs, hb1]; rfl
              have hlow : lowO false col = col.take H := by unfold lowO; rw [hcl, show 2 * H / 2 = H by omega]; rfl
              have hupp : uppO false col = (col.drop H).reverse := by unfold uppO; rw [hcl, show 2 * H / 2 = H by omega]; rfl
              have hstep2 : Hid (unfS false (cols.drop (i + 1)) (al ++ [col.take H]) (ar ++ [(col.drop H).reverse]) = r) := by show _ = _; rw [← hlow, ← hupp]; exact hstep.out
              have hll : (col.take H).length = H := by simp; omega
              have hlu : (col.drop H).length = H := by simp; omega
              generalize col.take H = Lw at hAu hstep2 hll
              generalize col.drop H = Up at hAl hstep2 hlu
              have hrv := reverse_any g5 c5 Up wf hAl (by omega)
              rw [hlu] at hrv
              have HLU : Hid (Up.reverse.length = H) := by show _ = _; rw [List.length_reverse]; exact hlu
              generalize Up.reverse = Vp at hrv hstep2 HLU
              have HLL := Lib.hid hll
              clear hlow hupp hll hlu hAl hby hb1
              go_wp2_with (fail)
              refine hrv.mono ?_; rintro e w7 ⟨rfl, hAu7, hk7⟩
              have hAl7 := hAu.keep hk7 (by simpa using fun e => hne e.symm)
              have hBf7 : Below wr.heap.size wr w7 := hBf.trans (hk7.below hBf.size (fun k hk => by rw [List.mem_singleton.1 hk]; exact hgl))
              have hsz7 := hBf7.size
              have hol7 := own_below hol hBf7
              have hor7 := own_below hor hBf7
              have hel7 := hel.keep (Y := []) (.of_below hBf7) (by simp)
              have her7 := her.keep (Y := []) (.of_below hBf7) (by simp)
              have hbw7 := hbx.trans (hBf7.mono hbx.size)
              have hoL : ∀ q, q ∈ ownL (.slice Al i cl) → wz.heap.size ≤ q ∧ q < wr.heap.size := fun q hq => hol.lt q (mem_ownL hq)
              have hoR : ∀ q, q ∈ ownL (.slice Ar i cr) → wz.heap.size ≤ q ∧ q < wr.heap.size := fun q hq => hor.lt q (mem_ownL hq)
              have hrdl : RdW w7 (ownL (.slice Al i cl) ++ ownL (.slice Ar i cr)) (some ⟨g6, 0, none⟩) H (ints Lw) := arr_rdw hAl7 HLL.out (fun hq => by
                rcases List.mem_append.1 hq with hq | hq
                · have := (hoL _ hq).2; omega
                · have := (hoR _ hq).2; omega)
              have hi1000 : i ≤ 1000 := by omega
              have hzb7 : wz.heap.size ≤ w7.heap.size := hbw7.size
              have HOR := Lib.hid hor7; have HER := Lib.hid her7; have HAU := Lib.hid hAu7
              clear hol hor hel her hbx hBf hAu hk7 hrv hor7 her7 hAu7 hAl7 hstep
              go_wp2_with (at_builtin; refine append_col3 w7 rfl _ _ rfl wz.heap.size i (.slice Al i cl) (ownL (.slice Ar i cr)) xl al Lw (some ⟨g6, 0, none⟩) H c6 HLL.out rfl hol7 hel7 hrdl hk6 w7.heap.size rfl rfl hi1000 hzb7 ?_)
              intro A8 c8 xl8 w8 hol8 hel8 hk8 hm8
              have hN8 : ∀ q, q ∈ ownL (.slice A8 (i + 1) c8) → wz.heap.size ≤ q ∧ q < w8.heap.size := fun q hq => hol8.lt q (mem_ownL hq)
              have hYs : ∀ k, k ∈ ownL (.slice Ar i cr) ++ (ownL (.slice Al i cl) ++ ownL (.slice A8 (i + 1) c8)) → k ∈ ownL (.slice Ar i cr) ++ ownL (.slice Al i cl) ∨ w7.heap.size ≤ k := fun k hk => by
                rcases List.mem_append.1 hk with hk | hk
                · exact .inl (List.mem_append_left _ hk)
                · rcases List.mem_append.1 hk with hk | hk
                  · exact .inl (List.mem_append_right _ hk)
                  · rcases hm8 k hk with h5 | h5
                    · exact .inl (List.mem_append_right _ h5)
                    · exact .inr (by omega)
              have her8 := ((HER.out.more hYs).keep hk8 (fun k hk => List.mem_append_right _ (List.mem_append_left _ hk))).more (Y := ownL (.slice Ar i cr) ++ ownL (.slice A8 (i + 1) c8)) (fun k hk => .inl (by
                rcases List.mem_append.1 hk with hk | hk
                · exact List.mem_append_left _ hk
                · exact List.mem_append_right _ (List.mem_append_right _ hk)))
              have hrdu7 : RdW w7 (ownL (.slice Ar i cr) ++ (ownL (.slice Al i cl) ++ ownL (.slice A8 (i + 1) c8))) (some ⟨g5, 0, none⟩) H (ints Vp) := arr_rdw HAU.out HLU.out (fun hq => by
                have hg7 := HAU.out.1
                rcases hYs _ hq with hq | hq
                · rcases List.mem_append.1 hq with hq | hq
                  · have := (hoR _ hq).2; omega
                  · have := (hoL _ hq).2; omega
                · omega)
              have hrdu8 := (hrdu7.keep hk8 (fun k hk => List.mem_append_right _ (List.mem_append_left _ hk))).more (Y := ownL (.slice Ar i cr) ++ ownL (.slice A8 (i + 1) c8)) (fun k hk => .inl (by
                rcases List.mem_append.1 hk with hk | hk
                · exact List.mem_append_left _ hk
                · exact List.mem_append_right _ (List.mem_append_right _ hk)))
              have hor8 := own_keep HOR.out hk8 (fun k e hk => hdis k hk (by unfold ownL; rw [e]; simp))
              have hbw8 := hbw7.trans (hk8.below hzb7 (fun k hk => (hoL k hk).1))
              have hzb8 : wz.heap.size ≤ w8.heap.size := hbw8.size
              have hz87 := hk8.size
              clear hol7 hel7 hrdl hrdu7 HOR HER HAU hk8 hbw7
              go_wp2_with (at_builtin; refine append_col3 w8 rfl _ _ rfl wz.heap.size i (.slice Ar i cr) (ownL (.slice A8 (i + 1) c8)) xr ar Vp (some ⟨g5, 0, none⟩) H c5 HLU.out rfl hor8 her8 hrdu8 hk5 w8.heap.size rfl rfl hi1000 hzb8 ?_)
              intro A9 c9 xr9 w9 hor9 her9 hk9 hm9
              have hol9 := own_keep hol8 hk9 (fun k e hk => by
                have hkn : k ∈ ownL (.slice A8 (i + 1) c8) := by unfold ownL; rw [e]; simp
                rcases hm8 k hkn with h5 | h5
                · exact hdis k h5 hk
                · have := (hoR k hk).2; omega)
              have hel9 := (hel8.more (Y := ownL (.slice A8 (i + 1) c8) ++ (ownL (.slice Ar i cr) ++ ownL (.slice A9 (i + 1) c9))) (fun k hk => by
                rcases List.mem_append.1 hk with hk | hk
                · exact .inl (List.mem_append_left _ hk)
                · rcases List.mem_append.1 hk with hk | hk
                  · exact .inl (List.mem_append_right _ hk)
                  · rcases hm9 k hk with h5 | h5
                    · exact .inl (List.mem_append_right _ h5)
                    · exact .inr (by omega))).keep hk9 (fun k hk => List.mem_append_right _ (List.mem_append_left _ hk))
              have hel9 := hel9.more (Y := ownL (.slice A8 (i + 1) c8) ++ ownL (.slice A9 (i + 1) c9)) (fun k hk => .inl (by
                rcases List.mem_append.1 hk with hk | hk
                · exact List.mem_append_left _ hk
                · exact List.mem_append_right _ (List.mem_append_right _ hk)))
              have hdis9 : ∀ q, q ∈ ownL (.slice A8 (i + 1) c8) → q ∉ ownL (.slice A9 (i + 1) c9) := fun q hq hq9 => by
                have h3 := (hN8 q hq).2
                rcases hm9 q hq9 with h5 | h5
                · rcases hm8 q hq with h6 | h6
                  · exact hdis q h6 h5
                  · have := (hoR q h5).2; omega
                · omega
              have hbw9 := hbw8.trans (hk9.below hzb8 (fun k hk => (hoR k hk).1))
              have HLN : Hid ((al ++ [Lw]).length = i + 1 ∧ (ar ++ [Vp]).length = i + 1) := by show _ ∧ _; rw [List.length_append, List.length_append, hlen.out.1, hlen.out.2]; exact ⟨rfl, rfl⟩
              clear hol8 hel8 hor8 her8 hrdu8 hk9 hm8 hm9 hdis hbw8 hlen
              go_wp2_with (fail)
              exact ⟨⟨i + 1, A8, A9, c8, c9, xl8, xr9, al ++ [Lw], ar ++ [Vp], by omega, by go_num, rfl, rfl, hol9, hel9, hor9, her9, hdis9, HLN, hstep2, hbw9⟩, by simp [RowKit.intOf]; omega⟩
        · obtain rfl : i = cols.length := by omega
          have hR1 : (al, ar) = r := by rw [← hst.out, List.drop_eq_nil_of_le (Nat.le_refl _)]; rfl
          rw [← hR1] at hu hsh2
          have hu2 : Hid (unfL (F.take j).reverse (al ++ ar.reverse) = R) := hu
          have hsh3 : Hid ((∀ c ∈ al ++ ar.reverse, c.length = 2 ^ j) ∧ (al ++ ar.reverse).length * 2 ^ j = n) := hsh2
          have hlal := hlen.out.1; have hlar := hlen.out.2
          have hLEN : Hid ((al ++ ar.reverse).length = cols.length + cols.length) := by show _ = _; rw [List.length_append, List.length_reverse, hlal, hlar]
          obtain ⟨gR, rfl, hgR, haR⟩ := own_arr hor hM1
          have hez := her.encs
          have hxl : xr.length = cols.length := by rw [her.1, hlar]
          have hlz : (xr.map unS).length = cols.length := by rw [List.length_map]; exact hxl
          have hrv := reverseR_any gR cr (xr.map unS) wr (by rw [← hez]; exact haR) (by omega)
          rw [hlz, ← hez] at hrv
          have hgRo : ∀ q, q ∈ ownL (.slice (some ⟨gR, 0, none⟩) cols.length cr) ↔ q = gR := fun q => by simp [ownL, Value.ownBlock]
          have hXL : Hid (xr.reverse.length = cols.length) := by show _ = _; rw [List.length_reverse]; exact hxl
          have hRH := Lib.hid hr
          have HU2 := Lib.hid hu2
          clear hst hu hsh2 hR1 hlen hez hlz hr hu2
          go_wp2_with (fail)
          refine hrv.mono ?_; rintro e w7 ⟨rfl, haR7, hk7⟩
          have hol7 := own_keep hol hk7 (fun k e hk => hdis k (by unfold ownL; rw [e]; simp) ((hgRo k).2 (by simpa using hk)))
          have hel7 := (hel.keep hk7 (fun k hk => List.mem_append_right _ ((hgRo k).2 (by simpa using hk)))).more (Y := ownL (.slice Al cols.length cl)) (fun k hk => .inl (List.mem_append_left _ hk))
          have her7 := (her.reverse.keep hk7 (fun k hk => List.mem_append_left _ ((hgRo k).2 (by simpa using hk)))).more (Y := ownL (.slice Al cols.length cl)) (fun k hk => .inl (List.mem_append_right _ hk))
          have hbw7 := hbx.trans (hk7.below hbx.size (fun k hk => by rw [List.mem_singleton.1 hk]; exact hgR))
          have hzb7 := hbw7.size
          have hoL : ∀ q, q ∈ ownL (.slice Al cols.length cl) → wz.heap.size ≤ q := fun q hq => (hol.lt q (mem_ownL hq)).1
          have hn500 : cols.length ≤ 500 := by omega
          have HBR := Lib.hid hbr
          clear hol hel hor her hbx haR hk7 hrv hdis hgRo hbr
          go_wp2_with (at_builtin; refine append_cols w7 rfl _ _ rfl wz.heap.size cols.length (.slice Al cols.length cl) xl xr.reverse al ar.reverse gR cols.length cr rfl rfl hol7 hel7 haR7 her7 hXL.out hlal hn500 hn500 hzb7 ?_)
          intro A9 c9 w9 hcols9 hcap9 hk9
          have hbw9 := hbw7.trans (hk9.below hzb7 hoL)
          have hb9 := HBR.out.trans (hbw9.mono HBR.out.size)
          have hr9 := hRH.out.below hbw9
          have hmk : Hid (Value.slice A9 (cols.length + cols.length) c9 = Value.slice A9 (al ++ ar.reverse).length c9) := by show _ = _; rw [hLEN.out]
          clear hol7 hel7 haR7 her7 hk9 hbw7 hbw9 HCC
          go_wp2_with (fail)
          exact ⟨⟨j, c9, A9, al ++ ar.reverse, by omega, by go_num, hmk.out, hcols9, HU2.out, hsh3, hb9, hr9⟩, by simp [RowKit.intOf]⟩
end Go.Proofs.YtbkmicimpgabgaaDoor
