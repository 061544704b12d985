/-
  The walk of QuireTurned: it returns true at any four numbers.
-/
import Derived.Test.YtehffacmphpknaaDoorTurnedN
import Derived.Test.YtehffacmphpknaaDoorWorks
import Derived.Test.YtehffacmphpknaaDoorMirrorLaw
set_option linter.unusedSimpArgs false
set_option linter.unusedVariables false
namespace Go.Proofs.YtehffacmphpknaaDoor
open Go.RowKit Go.Lib Go.Proofs.Quire

def RowWC (l : List Nat) (n : Nat) (z : Int) (w : World) (e : Ending) (w' : World) : Prop :=
  (∃ A c, e = .returned (.tuple #[.slice A n c, .int .i64 z]) ∧ RdW w' (List.range w.heap.size) A n (ints l)) ∧ Below w.heap.size w w'
theorem RowWPost.c {l : List Nat} {z : Int} {w : World} {e : Ending} {w' : World} (h : RowWPost l z w e w') {l' : List Nat} {n : Nat} {z' : Int} (h1 : l = l') (h2 : l'.length = n) (h3 : z = z') : RowWC l' n z' w e w' := by
  subst h1; subst h2; subst h3
  obtain ⟨A, c, h4, h5, h6⟩ := h
  exact ⟨⟨A, c, h4, h5⟩, h6⟩
theorem same_two (l l' : List Nat) (n : Nat) (hl : l.length = n) (hl' : l'.length = n) (hn : n ≤ 1000) (A A' : Option Addr) (c c' : Nat) (w : World) (h : Rd w A n (ints l)) (h' : Rd w A' n (ints l')) :
    Calls Tryd.prog 22 #[.slice A n c, .slice A' n c'] w (ValC (.bool (decide (l = l'))) w) := by
  have h2 := same_any A A' c c' l l' w (by rw [hl]; exact h) (by rw [hl']; exact h') (small _ (by omega)) (small _ (by omega))
  rw [hl, hl'] at h2
  exact h2.mono fun e w' ⟨he, q, hw⟩ => ⟨he, by rw [hw]; exact below_drewN (Below.refl _ _) _⟩
set_option maxRecDepth 100000 in
set_option maxHeartbeats 4000000 in
theorem turnedLaw_any (m b x0 y0 : Nat) (w : World) (hT : Tab w) (hm : m < 256) (hb : b < 256) (hx0 : x0 < 256) (hy0 : y0 < 256) :
    Calls Tryd.prog 14 #[.int .u8 m, .int .u8 b, .int .u8 x0, .int .u8 y0] w (ValC (.bool true) w) := by
  have h0 := fun W => foldsH_any m b hm hb W
  obtain ⟨k, hk⟩ : ∃ k, m % 7 = k := ⟨_, rfl⟩
  rw [hk] at h0
  have hk6 : k ≤ 6 := by omega
  have hfl := foldsOf_len b k
  have hz := foldsOf_ok b k (by omega)
  generalize hfs : foldsOf b k = fs at h0 hfl hz
  have hfm : ∀ c ∈ fs, c = 111 ∨ c = 117 := fun c hc => bitL_mem (b := b) (k := k) (by rw [hfs]; exact hc)
  have hbl : (foldsB fs).length = k := by rw [foldsB_len, hfl]
  have hz2 := swap_chk fs (by omega) hfm
  have hfB := foldsB_swap fs hfm
  have hx1 := fun W => exch_any fs 111 117 W (by omega) (fun c hc => by rcases hfm c hc with e | e <;> rw [e] <;> decide) (by decide) (by decide)
  have hfl2 : (fs.map (swapU 111 117)).length = k := by rw [List.length_map]; exact hfl
  generalize fs.map (swapU 111 117) = ft at hz2 hfB hx1 hfl2
  obtain ⟨n, hn⟩ : ∃ n, 2 ^ k = n := ⟨_, rfl⟩
  obtain ⟨hn1, hn2⟩ := pow_le64 k (by omega)
  have hwr := Lib.hid (shl_one k n hn (by omega))
  obtain ⟨p1, _, _⟩ := perm_of (foldsB fs) (by omega)
  rw [← pileL_C _ (by omega), hbl, hn] at p1
  have htur := (tur_of (foldsB fs) (by omega)).1
  rw [← hfB] at htur
  have hp2 : (pileL (foldsB ft)).length = n := by rw [← p1, ← htur, List.length_reverse]
  have hcs := cre_swap (foldsB fs) (by omega)
  rw [← hfB] at hcs
  have hc63 : (creS (foldsB fs)).length ≤ 63 := creS_le (by omega)
  have hx2 := fun W => exch_any (creS (foldsB fs)) 118 104 W (by omega) (creS_lt _) (by decide) (by decide)
  rw [hcs] at hx2
  have h1 : ∀ W, Calls Tryd.prog 18 #[.string ⟨fs.toArray⟩] W (RowWC (pileL (foldsB fs)) n 0 W) := fun W => (pileW_holds fs W (small _ (by omega))).mono fun _ _ h => h.c (by unfold pileP; rw [if_pos hz]) p1 hz
  have h2 : ∀ W, Calls Tryd.prog 18 #[.string ⟨ft.toArray⟩] W (RowWC (pileL (foldsB ft)) n 0 W) := fun W => (pileW_holds ft W (small _ (by omega))).mono fun _ _ h => h.c (by unfold pileP; rw [if_pos hz2]) hp2 hz2
  have h3 : ∀ W, Calls Tryd.prog 23 #[.string ⟨fs.toArray⟩] W (ValC (.tuple #[.string ⟨(creS (foldsB fs)).toArray⟩, .int .i64 0]) W) := fun W => (creases_any fs W (small _ (by omega))).mono fun _ _ h => h.c (by unfold creP; rw [if_pos hz]) hz
  have h4 : ∀ W, Calls Tryd.prog 23 #[.string ⟨ft.toArray⟩] W (ValC (.tuple #[.string ⟨(creS (foldsB ft)).toArray⟩, .int .i64 0]) W) := fun W => (creases_any ft W (small _ (by omega))).mono fun _ _ h => h.c (by unfold creP; rw [if_pos hz2]) hz2
  have hrv : ∀ g c W, Arr W g (ints (pileL (foldsB ft))) → Calls Tryd.prog 50 #[.slice (some ⟨g, 0, none⟩) n c] W (RevPost g (pileL (foldsB fs)) W) := fun g c W h => by
    have := reverse_any g c _ W h (by omega)
    rw [hp2, htur] at this; exact this
  obtain ⟨x, hx⟩ : ∃ x, x0 % n = x := ⟨_, rfl⟩
  obtain ⟨y, hy⟩ : ∃ y, y0 % n = y := ⟨_, rfl⟩
  have hn0 : 0 < n := by rw [hn] at hn1; omega
  have hn64 : n ≤ 64 := by rw [hn] at hn2; omega
  have hxn : x < n := by rw [← hx]; exact Nat.mod_lt _ hn0
  have hyn : y < n := by rw [← hy]; exact Nat.mod_lt _ hn0
  have hbt := fun hxy => bad_told (foldsB fs) (by omega) x y (by rw [hbl, hn]; exact hxn) (by rw [hbl, hn]; exact hyn) hxy
  have hbt : x ≠ y → (∃ q : List UInt8, foldedP ((swp (pileL (foldsB fs)) x y).map fun x : Nat => (x : Int)) = (q, 0) ∧ chkF q = 0 ∧ pileP q = swp (pileL (foldsB fs)) x y ∧ q ≠ fs) ∨
      (foldedP ((swp (pileL (foldsB fs)) x y).map fun x : Nat => (x : Int)) = ([], 12) ∧ ∀ s, pileL (foldsB (foldsOf s k)) ≠ swp (pileL (foldsB fs)) x y) := fun hxy => by
    rcases hbt hxy with ⟨q, e1, e2, e3, e4⟩ | ⟨e1, e2⟩
    · exact .inl ⟨q, e1, e2, e3, e4 fs rfl⟩
    · exact .inr ⟨e1, fun s => e2 _ (by rw [foldsB_len, foldsOf_len, hbl])⟩
  have hfd := fun A c W (h : Rd W A n (ints (swp (pileL (foldsB fs)) x y))) => folded_any A c ((swp (pileL (foldsB fs)) x y).map fun x : Nat => (x : Int)) W (by rw [List.length_map, swp_len, p1, zs_cast]; exact h) (small _ (by rw [List.length_map, swp_len, p1]; omega))
  rw [List.length_map, swp_len, p1] at hfd
  have hsl : (swp (pileL (foldsB fs)) x y).length = n := by rw [swp_len, p1]
  have hsw := ints_swp (pileL (foldsB fs)) x y
  have hcl := fun A c W h => clone_any A c n (pileL (foldsB fs)) W p1 hn0 (by omega) h
  have hss := fun A A' c c' W h h' => same_self (pileL (foldsB fs)) n p1 (by omega) A A' c c' W h h'
  have hst := fun l hl A A' c c' W h h' => same_two l (swp (pileL (foldsB fs)) x y) n hl hsl (by omega) A A' c c' W h h'
  generalize swp (pileL (foldsB fs)) x y = bad at hbt hfd hsl hsw hst
  generalize pileL (foldsB fs) = a at h1 hrv p1 hsw hcl hss htur
  generalize pileL (foldsB ft) = bt at h2 hrv hp2 htur
  have hszf : (⟨fs.toArray⟩ : ByteArray).size = k := by rw [size_l]; exact hfl
  generalize (⟨(creS (foldsB fs)).toArray⟩ : ByteArray) = sc at h3 hx2
  generalize (⟨(creS (foldsB ft)).toArray⟩ : ByteArray) = sd at h4 hx2
  generalize (⟨ft.toArray⟩ : ByteArray) = s1 at h2 h4 hx1
  have hra : (x0 : Int) % (n : Int) = (x : Int) := by omega
  have hrb : (y0 : Int) % (n : Int) = (y : Int) := by omega
  have hNe : ¬ (n : Int) = 0 := by omega
  have hneq : ∀ q : List UInt8, q ≠ fs → ((⟨q.toArray⟩ : ByteArray).toList == (⟨fs.toArray⟩ : ByteArray).toList) = false := fun q hq => by
    rw [ByteArray.toList_mk, ByteArray.toList_mk]; simpa using hq
  generalize (⟨fs.toArray⟩ : ByteArray) = s0 at h0 h1 h3 hx1 hszf hneq
  have HBT := Lib.hid hbt; have HFD := Lib.hid hfd; have HST := Lib.hid hst; have HNQ := Lib.hid hneq; have HSW := Lib.hid hsw
  have HN : Hid (2 ^ k = n) := hn
  clear hbt hfd hst hneq hsw hcs hc63 htur hfB hz hz2 hfm hfl hfl2 hbl hn hx hy hn1 hn2
  go_enter Tryd.func14, Tryd.ntmps14
  go_wp2_with (fail)
  refine (h0 _).mono ?_; rintro e w1 ⟨rfl, q1, rfl⟩
  have hB1 : Below w.heap.size w (w.drewN q1) := below_drewN (Below.refl _ _) _
  generalize w.drewN q1 = w1 at hB1 ⊢
  go_wp2_with (fail)
  refine (hx1 _).mono ?_; rintro e w2 ⟨rfl, hb2⟩
  have hB2 := hB1.trans (hb2.mono hB1.size)
  clear hB1 hb2 h0 hx1
  go_wp2_with (fail)
  refine (h1 _).mono ?_; rintro e w3 ⟨⟨A1, c1, rfl, hr1⟩, hb3⟩
  have hB3 := hB2.trans (hb3.mono hB2.size)
  clear hB2 hb3 h1
  go_wp2_with (fail)
  refine (h2 _).mono ?_; rintro e w4 ⟨⟨A2, c2, rfl, hr2⟩, hb4⟩
  have hB4 := hB3.trans (hb4.mono hB3.size)
  clear h2
  obtain ⟨g2, rfl, ha2⟩ := hr2.2 hn0
  have hg2 : w3.heap.size ≤ g2 := by
    obtain ⟨g', o', hA', _, hnot, _⟩ := hr2.1.2 hn0
    simp only [Option.some.injEq, Addr.mk.injEq, and_true] at hA'
    obtain ⟨e1, _⟩ := hA'
    rw [← e1, List.mem_range] at hnot; omega
  have hr1' := ((hr1.1.mono (Y := []) (by simp)).more (Y := [g2]) (fun k hk => .inr (by rw [List.mem_singleton.1 hk]; exact hg2))).below hb4
  have hG2 : w.heap.size ≤ g2 := Nat.le_trans hB3.size hg2
  clear hr1 hr2 hB3 hb4 hg2
  go_wp2_with (fail)
  refine (h3 _).mono ?_; rintro e w5 ⟨rfl, hb5⟩
  have hB5 := hB4.trans (hb5.mono hB4.size)
  have ha5 := ha2.below hb5
  have hr5 := hr1'.below hb5
  clear hB4 hb5 ha2 hr1' h3
  go_wp2_with (fail)
  refine (h4 _).mono ?_; rintro e w6 ⟨rfl, hb6⟩
  have hB6 := hB5.trans (hb6.mono hB5.size)
  have ha6 := ha5.below hb6
  have hr6 := hr5.below hb6
  clear hB5 hb6 ha5 hr5 h4
  go_wp2_with (simp only [hwr.out])
  refine (hx2 _).mono ?_; rintro e w7 ⟨rfl, hb7⟩
  have hB7 := hB6.trans (hb7.mono hB6.size)
  have ha7 := ha6.below hb7
  have hr7 := hr6.below hb7
  clear hB6 hb7 ha6 hr6 hx2
  go_wp2_with (fail)
  refine (hrv g2 c2 _ ha7).mono ?_; rintro e w8 ⟨rfl, ha8, hk8⟩
  have hr8 := hr7.keep hk8 (by simp)
  have hB8 := hB7.trans (hk8.below hB7.size (fun k hk => by rw [List.mem_singleton.1 hk]; exact hG2))
  clear hB7 ha7 hr7 hk8 hrv
  have hrb8 : Rd w8 (some ⟨g2, 0, none⟩) n (ints a) := by
    have h := ha8.rdI (X := []) (by simp); rw [p1] at h; exact h
  have hra8 : Rd w8 A1 n (ints a) := hr8.mono (by simp)
  go_wp2_with (fail)
  refine (hss _ _ _ _ _ hra8 hrb8).mono ?_; rintro e w9 ⟨rfl, hb9⟩
  have hB9 := hB8.trans (hb9.mono hB8.size)
  have hr9 := hra8.below hb9
  clear hB8 hb9 hra8 hrb8 hr8 ha8 hss
  go_wp2_with (fail)
  go_quiet (fail)
  have hB10 := below_drewN hB9 nq
  have hr10 := hr9.drewN nq
  generalize w9.drewN nq = wA at hB10 hr10 ⊢
  clear hB9 hr9
  by_cases hxy : x = y
  · have hxb : ((x : Int) == (y : Int)) = true := by rw [hxy]; simp
    go_wp2_with (fail)
    refine (works_any _ (hT.below hB10)).mono ?_; rintro e w11 ⟨rfl, hb11⟩
    have hB11 := hB10.trans (hb11.mono hB10.size)
    go_wp2_with (fail)
    go_ret
    exact ⟨rfl, hB11⟩
  · have hxb : ((x : Int) == (y : Int)) = false := by simp; omega
    go_wp2_with (fail)
    refine (hcl _ _ _ hr10).mono ?_; rintro e w11 ⟨g, c, rfl, hg11, ha11, hb11⟩
    have hB11 := hB10.trans (hb11.mono hB10.size)
    have hgw : w.heap.size ≤ g := Nat.le_trans hB10.size hg11
    clear hB10 hr10 hb11 hcl
    obtain ⟨cx, fx⟩ := ha11.2 x (by rw [ints_length, p1]; exact hxn)
    obtain ⟨cy, fy⟩ := ha11.2 y (by rw [ints_length, p1]; exact hyn)
    rw [ints_getD _ _ (by rw [p1]; exact hxn)] at cx
    rw [ints_getD _ _ (by rw [p1]; exact hyn)] at cy
    have s1 := ha11.set x (by rw [ints_length, p1]; exact hxn) (.int .i64 (a.getD y 0 : Nat))
    have s2 := s1.set y (by rw [List.length_set, ints_length, p1]; exact hyn) (.int .i64 (a.getD x 0 : Nat))
    rw [HSW.out] at s2
    have s3 := (hB11.setCell (p := ⟨g, x, none⟩) hgw (.int .i64 (a.getD y 0 : Nat))).setCell (p := ⟨g, y, none⟩) hgw (.int .i64 (a.getD x 0 : Nat))
    generalize a.getD x 0 = vx at cx s1 s2 s3
    generalize a.getD y 0 = vy at cy s1 s2 s3
    have S2 := Lib.hid s2; have S3 := Lib.hid s3
    clear s1 s2 s3 ha11 hB11
    go_wp2_with (fail)
    go_region
    go_wp2_with (fail)
    have hB12 : Below w.heap.size w (((w11.setCell ⟨g, x, none⟩ (.int .i64 (vy : Int))).setCell ⟨g, y, none⟩ (.int .i64 (vx : Int))).drew) := S3.out.drew
    have ha12 : Arr (((w11.setCell ⟨g, x, none⟩ (.int .i64 (vy : Int))).setCell ⟨g, y, none⟩ (.int .i64 (vx : Int))).drew) g (ints bad) := S2.out.drewN 1
    generalize (((w11.setCell ⟨g, x, none⟩ (.int .i64 (vy : Int))).setCell ⟨g, y, none⟩ (.int .i64 (vx : Int))).drew) = wB at hB12 ha12 ⊢
    have hrd : Rd wB (some ⟨g, 0, none⟩) n (ints bad) := by
      have h := ha12.rdI (X := []) (by simp); rw [hsl] at h; exact h
    clear ha12 S2 S3 cx cy fx fy
    rcases HBT.out hxy with ⟨q, e1, e2, e3, e4⟩ | ⟨e1, e2⟩
    · have hF := fun W h => HFD.out (some ⟨g, 0, none⟩) c W h
      rw [e1] at hF
      have hql : q.length ≤ 6 := (chkL_zero (show chkL 6 111 117 q = 0 from e2)).1
      have hP : ∀ W, Calls Tryd.prog 18 #[.string ⟨q.toArray⟩] W (RowC bad n 0 W) := fun W => (pileP_any q W (small _ (by omega))).mono fun _ _ h => h.c e3 hsl e2
      have hq := HNQ.out q e4
      have hF : ∀ W, Rd W (some ⟨g, 0, none⟩) n (ints bad) → Calls Tryd.prog 40 #[.slice (some ⟨g, 0, none⟩) n c] W (ValC (.tuple #[.string ⟨q.toArray⟩, .int .i64 0]) W) := hF
      generalize (⟨q.toArray⟩ : ByteArray) = sq at hF hP hq
      have hS := fun A A' c c' W h h' => HST.out bad hsl A A' c c' W h h'
      rw [show decide (bad = bad) = true by simp] at hS
      clear e1 e2 e3 e4 hql HBT HFD HST HNQ HSW
      refine (hF _ hrd).mono ?_; rintro e w13 ⟨rfl, hb13⟩
      have hB13 := hB12.trans (hb13.mono hB12.size)
      have hr13 := hrd.below hb13
      clear hB12 hrd hb13 hF
      go_wp2_with (fail)
      refine (hP _).mono ?_; rintro e w14 ⟨⟨A3, c3, rfl, hr3⟩, hb14⟩
      have hB14 := hB13.trans (hb14.mono hB13.size)
      have hr14 := hr13.below hb14
      clear hB13 hr13 hb14 hP
      go_wp2_with (fail)
      refine (hS _ _ _ _ _ hr3 hr14).mono ?_; rintro e w15 ⟨rfl, hb15⟩
      have hB15 := hB14.trans (hb15.mono hB14.size)
      go_wp2_with (fail)
      refine (works_any _ (hT.below hB15)).mono ?_; rintro e w16 ⟨rfl, hb16⟩
      have hB16 := hB15.trans (hb16.mono hB15.size)
      go_wp2_with (fail)
      go_ret
      exact ⟨rfl, hB16⟩
    · have hF := fun W h => HFD.out (some ⟨g, 0, none⟩) c W h
      rw [e1] at hF
      have hF : ∀ W, Rd W (some ⟨g, 0, none⟩) n (ints bad) → Calls Tryd.prog 40 #[.slice (some ⟨g, 0, none⟩) n c] W (ValC (.tuple #[.string ⟨[].toArray⟩, .int .i64 12]) W) := hF
      have E2 := Lib.hid e2
      clear e1 e2 HBT HFD HNQ HSW
      refine (hF _ hrd).mono ?_; rintro e w13 ⟨rfl, hb13⟩
      have hB13 := hB12.trans (hb13.mono hB12.size)
      have hr13 := hrd.below hb13
      clear hB12 hrd hb13 hF
      have hku : IntKind.u8.wrap (k : Int) = (k : Int) := by rw [IntKind.wrap_u8]; omega
      go_wp2_with (simp only [hwr.out])
      go_loopw [25, 26, 27, 147] (fun _ _ _ v wr => ∃ s : Nat, s ≤ n ∧ v = .int .i64 s ∧ Below w.heap.size w wr ∧ Rd wr (some ⟨g, 0, none⟩) n (ints bad)) (fun _ _ _ v _ => n - (RowKit.intOf v).toNat)
      case atStart => exact ⟨0, Nat.zero_le _, rfl, hB13, hr13⟩
      case round =>
        clear hB13 hr13
        obtain ⟨s, hs, rfl, hbr, hrr⟩ := hrel
        by_cases hls : s < n
        · have hsu : IntKind.u8.wrap (s : Int) = (s : Int) := by rw [IntKind.wrap_u8]; omega
          have hG := fun W => foldsH_any k s (by omega) (by omega) W
          rw [show k % 7 = k by omega] at hG
          have hgl := foldsOf_len s k
          have hgz := foldsOf_ok s k hk6
          have hgb : (foldsB (foldsOf s k)).length = k := by rw [foldsB_len, hgl]
          have hgp : (pileL (foldsB (foldsOf s k))).length = n := by
            obtain ⟨p1, _, _⟩ := perm_of (foldsB (foldsOf s k)) (by omega)
            rw [← pileL_C _ (by omega), hgb] at p1
            rw [p1]; exact HN.out
          have hP : ∀ W, Calls Tryd.prog 18 #[.string ⟨(foldsOf s k).toArray⟩] W (RowC (pileL (foldsB (foldsOf s k))) n 0 W) := fun W => (pileP_any _ W (small _ (by omega))).mono fun _ _ h => h.c (by unfold pileP; rw [if_pos hgz]) hgp hgz
          have hne := E2.out s
          have hS := fun A A' c c' W h h' => HST.out (pileL (foldsB (foldsOf s k))) hgp A A' c c' W h h'
          rw [show decide (pileL (foldsB (foldsOf s k)) = bad) = false by simpa using hne] at hS
          generalize pileL (foldsB (foldsOf s k)) = l at hP hS hgp hne
          generalize (⟨(foldsOf s k).toArray⟩ : ByteArray) = sg at hG hP
          clear hne hgp hgb hgz hgl
          go_wp2_with (fail)
          refine (hG _).mono ?_; rintro e w14 ⟨rfl, q14, rfl⟩
          have hB14 := below_drewN hbr q14
          have hr14 := hrr.drewN q14
          generalize wr.drewN q14 = wC at hB14 hr14 ⊢
          clear hbr hrr hG
          go_wp2_with (fail)
          refine (hP _).mono ?_; rintro e w15 ⟨⟨A3, c3, rfl, hr3⟩, hb15⟩
          have hB15 := hB14.trans (hb15.mono hB14.size)
          have hr15 := hr14.below hb15
          clear hB14 hr14 hb15 hP
          go_wp2_with (fail)
          refine (hS _ _ _ _ _ hr3 hr15).mono ?_; rintro e w16 ⟨rfl, hb16⟩
          have hB16 := hB15.trans (hb16.mono hB15.size)
          have hr16 := hr15.below hb16
          clear hB15 hr15 hb16 hS
          go_wp2_with (fail)
          exact ⟨⟨s + 1, by omega, by go_num, hB16, hr16⟩, by simp [RowKit.intOf]; omega⟩
        · go_wp2_with (fail)
          refine (works_any _ (hT.below hbr)).mono ?_; rintro e w16 ⟨rfl, hb16⟩
          have hB16 := hbr.trans (hb16.mono hbr.size)
          go_wp2_with (fail)
          go_ret
          exact ⟨rfl, hB16⟩
end Go.Proofs.YtehffacmphpknaaDoor
