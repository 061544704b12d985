/-
  The walk of QuireWalks: it returns true at any string.
-/
import Derived.Test.YtkidghliglmjgabDoorRefL
import Derived.Test.YtkidghliglmjgabDoorWorks
namespace Go.Proofs.YtkidghliglmjgabDoor
open Go.RowKit Go.Lib Go.Proofs.Quire

theorem lanesR_form (cs : List UInt8) : ∃ x y z : Int, lanesR cs = .tuple #[.int .i64 x, .int .i64 y, .int .i64 z] := by
  unfold lanesR
  split
  · unfold pairR; split
    · exact ⟨_, _, _, rfl⟩
    · exact ⟨_, _, _, rfl⟩
  · exact ⟨_, _, _, rfl⟩
theorem walkP_le (cs : List UInt8) : (walkP cs).length ≤ 1000 := by
  unfold walkP
  split
  · rename_i h; rw [walkL_len]; have := (crE_lt h).1; omega
  · simp
set_option maxRecDepth 100000 in
set_option maxHeartbeats 4000000 in
theorem walksLaw_any (cs : List UInt8) (w : World) (hT : Tab w) (hs : cs.length ≤ maxLen) :
    Calls Tryd.prog 5 #[.string ⟨cs.toArray⟩] w (ValC (.bool true) w) := by
  have hsz := size_l cs
  by_cases h100 : 100 < cs.length
  · have hw := fun W hW => works_any W hW
    have hb : (100 : Int) < ((⟨cs.toArray⟩ : ByteArray).size : Int) := by rw [hsz]; omega
    generalize (⟨cs.toArray⟩ : ByteArray) = s at hb ⊢
    clear hsz
    go_enter Tryd.func5, Tryd.ntmps5
    go_wp2_with (fail)
    refine (hw _ hT).mono ?_; rintro e w1 ⟨rfl, hb1⟩
    go_wp2_with (fail)
    go_ret
    exact ⟨rfl, hb1⟩
  · have h1 := fun W => walkR_any cs W hs
    have h2 := fun W => rWalk_any cs W hs
    have h3 := fun W => lanes_any cs W hs
    have h4 := fun W => rLanes_any cs W hs
    obtain ⟨x, y, z, hv⟩ := lanesR_form cs
    rw [hv] at h3 h4
    have hl := walkP_le cs
    generalize walkP cs = P at h1 h2 hl
    generalize crE cs = ee at h1 h2
    have hb : ¬ (100 : Int) < ((⟨cs.toArray⟩ : ByteArray).size : Int) := by rw [hsz]; omega
    generalize (⟨cs.toArray⟩ : ByteArray) = s at hb h1 h2 h3 h4 ⊢
    clear hsz hv
    obtain ⟨n, hn⟩ : ∃ n, Hid (P.length = n) := ⟨_, rfl⟩
    have hn1 : n ≤ 1000 := by rw [← hn.out]; exact hl
    have hal := fun A A' c c' W h h' => alike_self P n hn.out hn1 A A' c c' W h h'
    clear hl
    go_enter Tryd.func5, Tryd.ntmps5
    go_wp2_with (fail)
    refine (h1 _).mono ?_; rintro e w1 ⟨A1, c1, rfl, hr1, hb1⟩
    rw [hn.out] at hr1
    rw [hn.out]
    have hB1 := hb1
    clear hb1
    go_wp2_with (fail)
    refine (h2 _).mono ?_; rintro e w2 ⟨A2, c2, rfl, hr2, hb2⟩
    rw [hn.out] at hr2
    rw [hn.out]
    have hr12 := hr1.below hb2
    have hB2 := hB1.trans (hb2.mono hB1.size)
    clear hB1 hb2 hr1 h1 h2
    go_wp2_with (fail)
    refine (h3 _).mono ?_; rintro e w3 ⟨rfl, hb3⟩
    have hr13 := hr12.below hb3; have hr23 := hr2.below hb3
    have hB3 := hB2.trans (hb3.mono hB2.size)
    clear hB2 hb3 hr12 hr2 h3
    go_wp2_with (fail)
    refine (h4 _).mono ?_; rintro e w4 ⟨rfl, hb4⟩
    have hr14 := hr13.below hb4; have hr24 := hr23.below hb4
    have hB4 := hB3.trans (hb4.mono hB3.size)
    clear hB3 hb4 hr13 hr23 h4
    go_wp2_with (fail)
    refine (hal _ _ _ _ _ hr14 hr24).mono ?_; rintro e w5 ⟨rfl, hb5⟩
    have hB5 := hB4.trans (hb5.mono hB4.size)
    clear hB4 hb5 hr14 hr24 hal
    have hT5 := hT.below hB5
    go_wp2_with (fail)
    refine (works_any _ hT5).mono ?_; rintro e w6 ⟨rfl, hb6⟩
    have hB6 := hB5.trans (hb6.mono hB5.size)
    go_wp2_with (fail)
    go_ret
    exact ⟨rfl, hB6⟩
end Go.Proofs.YtkidghliglmjgabDoor
