/-
  The walk of QuireTried: it returns true at any two numbers.
-/
import Derived.Test.YtehffacmphpknaaDoorTriedM
import Derived.Test.YtehffacmphpknaaDoorWorks
import Derived.Test.YtehffacmphpknaaDoorMirrorLaw
set_option linter.unusedSimpArgs false
set_option linter.unusedVariables false
namespace Go.Proofs.YtehffacmphpknaaDoor
open Go.RowKit Go.Lib Go.Proofs.Quire

set_option maxRecDepth 100000 in
set_option maxHeartbeats 4000000 in
theorem triedLaw_any (m b : Nat) (w : World) (hT : Tab w) (hm : m < 256) (hb : b < 18446744073709551616) :
    Calls Tryd.prog 10 #[.int .u8 m, .int .u64 b] w (ValC (.bool true) w) := by
  obtain ⟨k, hk⟩ : ∃ k, m % 5 = k := ⟨_, rfl⟩
  have hk4 : k ≤ 4 := by omega
  obtain ⟨n, hn⟩ : ∃ n, 2 ^ k = n := ⟨_, rfl⟩
  have hn1 : 1 ≤ n := by rw [← hn]; exact Nat.one_le_two_pow
  have hn2 : n ≤ 16 := by rw [← hn]; exact Nat.le_trans (Nat.pow_le_pow_right (by omega) hk4) (by decide)
  have h0 := fun W => creasedH_any (n - 1) b (by omega) hb W
  rw [show (n - 1) % 64 = n - 1 by omega] at h0
  have hcl := creasesOf_len b (n - 1)
  have hcm : ∀ c ∈ creasesOf b (n - 1), c = 118 ∨ c = 104 := fun c hc => bitC_mem hc
  generalize creasesOf b (n - 1) = cs at h0 hcl hcm
  have hst := strip_ok (cs := cs) (k := k) (by omega) (by omega) hcm
  have hnc := noclash cs k (by omega) (by omega) hcm
  have hall := isT_all (cs := cs) (k := k) hk4
  have hone := fun t ht h => hit_once (cs := cs) (k := k) (t := t) hk4 ht h
  have hF := fun s h => hit_F (cs := cs) (k := k) (s := s) (by omega) h
  have h1 := fun W => folds_any cs W (small _ (by omega))
  have h2 := fun W hW => why_any cs W hW (small _ (by omega))
  have hP : foldsP cs = if creS (foldsB (waysL cs 7 (2 ^ k))) = cs then (waysL cs 7 (2 ^ k), 0) else ([], 12) := by
    unfold foldsP; rw [if_pos hst, show cs.length + 1 = 2 ^ k by omega]
  have hR : whyR cs = pairR (firstP (clashB cs) cs.length cs.length 0) := by unfold whyR; rw [if_pos hst]
  rw [hP] at h1
  rw [hR] at h2
  rw [hn] at hnc hall hP hF
  simp only [hn] at hone h1
  generalize waysL cs 7 n = F at hnc hall hF h1
  generalize firstP (clashB cs) cs.length cs.length 0 = r at hnc h2
  have h3 : ∀ s, s < n → ∀ W, Calls Tryd.prog 42 #[.int .u8 k, .int .u8 s] W fun e w' => e = .returned (.string ⟨(foldsOf s k).toArray⟩) ∧ ∃ q, w' = W.drewN q := fun s hs W => by
    have := foldsH_any k s (by omega) (by omega) W
    rwa [show k % 7 = k by omega] at this
  have h4 : ∀ s W, Calls Tryd.prog 23 #[.string ⟨(foldsOf s k).toArray⟩] W (ValC (.tuple #[.string ⟨(creS (foldsB (foldsOf s k))).toArray⟩, .int .i64 0]) W) := fun s W => by
    have := creases_any (foldsOf s k) W (small _ (by rw [foldsOf_len]; omega))
    rw [foldsOf_ok s k (by omega), show creP (foldsOf s k) = creS (foldsB (foldsOf s k)) by unfold creP; rw [if_pos (foldsOf_ok s k (by omega))]] at this
    exact this
  have hws := fun W hW => works_any W hW
  have hm5 : (m : Int) % 5 = (k : Int) := by omega
  have H1 := Lib.hid h1; have H3 := Lib.hid h3; have HNC := Lib.hid hnc; have HALL := Lib.hid hall; have HONE := Lib.hid hone; have HF := Lib.hid hF
  have hwr := Lib.hid (shl_one k n hn (by omega))
  have e0 : ((2 : Int) ^ k) = (n : Int) := by rw [← hn]; push_cast; rfl
  have e1 : ((2 : Int) ^ k) % 256 = (n : Int) := by rw [e0]; omega
  have e2 : ((2 : Int) ^ k - 1) % 256 = ((n - 1 : Nat) : Int) := by rw [e0]; omega
  have E1 := Lib.hid e1; have E2 := Lib.hid e2
  clear h1 h3 hnc hall hone hF hst hP hR hcm hn e0 e1 e2
  go_enter Tryd.func10, Tryd.ntmps10
  go_wp2_with (fail)
  simp only [E1.out, E2.out, hm5]
  refine (h0 _).mono ?_; rintro e w1 ⟨rfl, q1, rfl⟩
  have hB1 : Below w.heap.size w (w.drewN q1) := below_drewN (Below.refl _ _) _
  generalize w.drewN q1 = w1 at hB1 ⊢
  clear h0
  go_upto_region 6 with (fail)
  simp only [hwr.out]
  go_loopw [7, 8, 28] (fun v7 v8 v28 wr => ∃ (t : Nat) (l : List UInt8) (z : Bool), t ≤ n ∧ v7 = .string ⟨l.toArray⟩ ∧ v8 = .bool z ∧ v28 = .int .i64 t ∧ Hid (z = isT cs k t) ∧ Hid (l = if z = true then F else []) ∧ Below w.heap.size w wr) (fun _ _ v _ => n - (RowKit.intOf v).toNat)
  case atStart => exact ⟨0, [], false, Nat.zero_le _, rfl, rfl, rfl, rfl, rfl, hB1⟩
  case round =>
    clear hB1
    obtain ⟨t, l, z, ht, rfl, rfl, rfl, hz, hl, hbr⟩ := hrel
    by_cases hlt : t < n
    · have hk2 : (k : Int) % 256 = (k : Int) := by omega
      have ht2 : (t : Int) % 256 = (t : Int) := by omega
      have h3t := H3.out t hlt
      have h4t := fun W => h4 t W
      have hhit : hitB cs k t = (creS (foldsB (foldsOf t k)) == cs) := rfl
      have hone := HONE.out t hlt
      have hFt := HF.out t
      have hsucc := isT_succ cs k t
      rw [← hz.out] at hone hsucc
      rw [hhit] at hone hFt hsucc
      have hzz : Hid (isT cs k (t + 1) = (z || (creS (foldsB (foldsOf t k)) == cs))) := hsucc
      generalize creS (foldsB (foldsOf t k)) = lx at h4t hone hFt hzz
      generalize foldsOf t k = lf at h3t h4t hFt
      clear hhit hsucc
      cases hh : (lx == cs) with
      | true =>
        rw [hh] at hone hFt hzz
        have hzf := hone rfl
        have hlf := hFt rfl
        subst hzf
        subst hlf
        clear hone hFt
        go_wp2_with (fail)
        refine (h3t _).mono ?_; rintro e w2 ⟨rfl, q2, rfl⟩
        have hb2 := below_drewN hbr q2
        generalize wr.drewN q2 = w2 at hb2 ⊢
        go_wp2_with (fail)
        refine (h4t _).mono ?_; rintro e w3 ⟨rfl, hb3⟩
        have hb4 := hb2.trans (hb3.mono hb2.size)
        go_wp2_with (fail)
        exact ⟨⟨t + 1, lf, true, by omega, rfl, rfl, by go_num, by show _ = _; rw [hzz.out]; rfl, rfl, hb4⟩, by simp [RowKit.intOf]; omega⟩
      | false =>
        rw [hh] at hzz
        clear hone hFt
        go_wp2_with (fail)
        refine (h3t _).mono ?_; rintro e w2 ⟨rfl, q2, rfl⟩
        have hb2 := below_drewN hbr q2
        generalize wr.drewN q2 = w2 at hb2 ⊢
        go_wp2_with (fail)
        refine (h4t _).mono ?_; rintro e w3 ⟨rfl, hb3⟩
        have hb4 := hb2.trans (hb3.mono hb2.size)
        go_wp2_with (fail)
        exact ⟨⟨t + 1, l, z, by omega, rfl, rfl, by go_num, by show _ = _; rw [hzz.out]; simp, hl, hb4⟩, by simp [RowKit.intOf]; omega⟩
    · obtain rfl : t = n := by omega
      have hze : z = (creS (foldsB F) == cs) := by rw [hz.out]; exact HALL.out
      have hT5 := hT.below hbr
      clear hz h4
      cases hh : (creS (foldsB F) == cs) with
      | true =>
        rw [hh] at hze
        subst hze
        have hlF : l = F := by rw [hl.out]; rfl
        subst hlF
        have hcs : creS (foldsB l) = cs := by simpa using hh
        have h1 := H1.out
        rw [if_pos hcs] at h1
        have h1 : ∀ W, Calls Tryd.prog 29 #[.string ⟨cs.toArray⟩] W (ValC (.tuple #[.string ⟨l.toArray⟩, .int .i64 0]) W) := h1
        have hr : r = none := HNC.out.2 hcs
        subst hr
        have h2 : ∀ W, Tab W → Calls Tryd.prog 31 #[.string ⟨cs.toArray⟩] W (ValC (.tuple #[.int .i64 0, .int .i64 0, .int .i64 13]) W) := h2
        clear hh hl hcs
        go_wp2_with (fail)
        refine (h1 _).mono ?_; rintro e w2 ⟨rfl, hb2⟩
        have hb3 := hbr.trans (hb2.mono hbr.size)
        go_wp2_with (fail)
        refine (h2 _ (hT.below hb3)).mono ?_; rintro e w3 ⟨rfl, hb4⟩
        have hb5 := hb3.trans (hb4.mono hb3.size)
        go_wp2_with (fail)
        refine (hws _ (hT.below hb5)).mono ?_; rintro e w6 ⟨rfl, hb6⟩
        have hB6 := hb5.trans (hb6.mono hb5.size)
        go_wp2_with (fail)
        go_ret
        exact ⟨rfl, hB6⟩
      | false =>
        rw [hh] at hze
        subst hze
        have hcs : ¬ creS (foldsB F) = cs := by simpa using hh
        have h1 := H1.out
        rw [if_neg hcs] at h1
        have h1 : ∀ W, Calls Tryd.prog 29 #[.string ⟨cs.toArray⟩] W (ValC (.tuple #[.string ⟨#[]⟩, .int .i64 12]) W) := h1
        obtain ⟨i, j, hr⟩ : ∃ i j, r = some (i, j) := by
          rcases r with _ | ⟨i, j⟩
          · exact absurd (HNC.out.1 rfl) hcs
          · exact ⟨i, j, rfl⟩
        subst hr
        have h2 : ∀ W, Tab W → Calls Tryd.prog 31 #[.string ⟨cs.toArray⟩] W (ValC (.tuple #[.int .i64 i, .int .i64 j, .int .i64 0]) W) := h2
        clear hh hl hcs
        go_wp2_with (fail)
        refine (h1 _).mono ?_; rintro e w2 ⟨rfl, hb2⟩
        have hb3 := hbr.trans (hb2.mono hbr.size)
        go_wp2_with (fail)
        refine (h2 _ (hT.below hb3)).mono ?_; rintro e w3 ⟨rfl, hb4⟩
        have hb5 := hb3.trans (hb4.mono hb3.size)
        go_wp2_with (fail)
        refine (hws _ (hT.below hb5)).mono ?_; rintro e w6 ⟨rfl, hb6⟩
        have hB6 := hb5.trans (hb6.mono hb5.size)
        go_wp2_with (fail)
        go_ret
        exact ⟨rfl, hB6⟩
end Go.Proofs.YtehffacmphpknaaDoor
