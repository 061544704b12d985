/-
  The walk of QuireCreases: it returns true at any string and any two numbers.
-/
import Derived.Test.YtbkmicimpgabgaaDoorRefX
import Derived.Test.YtbkmicimpgabgaaDoorWorks
set_option linter.unusedSimpArgs false
set_option linter.unusedVariables false
namespace Go.Proofs.YtbkmicimpgabgaaDoor
open Go.RowKit Go.Lib Go.Proofs.Quire

theorem whyR_form (cs : List UInt8) : ∃ x y z : Int, whyR cs = .tuple #[.int .i64 x, .int .i64 y, .int .i64 z] := by
  unfold whyR
  split
  · unfold pairR; split
    · exact ⟨_, _, _, rfl⟩
    · exact ⟨_, _, _, rfl⟩
  · exact ⟨_, _, _, rfl⟩
set_option maxRecDepth 100000 in
set_option maxHeartbeats 8000000 in
theorem creasesLaw_any (cs : List UInt8) (x y : Int) (w : World) (hT : Tab w) (hs : cs.length ≤ maxLen) (hx : IntKind.i64.wrap x = x) (hy : IntKind.i64.wrap y = y) :
    Calls Tryd.prog 4 #[.string ⟨cs.toArray⟩, .int .i64 x, .int .i64 y] w (ValC (.bool true) w) := by
  have hsz := size_l cs
  by_cases h100 : 100 < cs.length
  · have hw := fun W hW => works_any W hW
    have hb : (100 : Int) < ((⟨cs.toArray⟩ : ByteArray).size : Int) := by rw [hsz]; omega
    generalize (⟨cs.toArray⟩ : ByteArray) = s at hb ⊢
    clear hsz hx hy
    go_enter Tryd.func4, Tryd.ntmps4
    go_wp2_with (fail)
    refine (hw _ hT).mono ?_; rintro e w1 ⟨rfl, hb1⟩
    go_wp2_with (fail)
    go_ret
    exact ⟨rfl, hb1⟩
  · have h1 := fun W => folds_any cs W hs
    have h2 := fun W => rfolds_any cs W hs
    have h3 := fun W hW => why_any cs W hW hs
    have h4 := fun W => rwhy_any cs W hs
    have h5 := fun W hW => proves_any cs x y W hW hs hx hy
    have h6 := fun W => rproves_any cs x y W hs hx hy
    obtain ⟨a, b, c, hv⟩ := whyR_form cs
    rw [hv] at h3 h4
    unfold StrEPost at h1 h2
    generalize foldsP cs = fp at h1 h2
    obtain ⟨fs, fe⟩ := fp
    simp only at h1 h2
    generalize (⟨fs.toArray⟩ : ByteArray) = sf at h1 h2
    generalize provE cs x y = pe at h5 h6
    have hb : ¬ (100 : Int) < ((⟨cs.toArray⟩ : ByteArray).size : Int) := by rw [hsz]; omega
    generalize (⟨cs.toArray⟩ : ByteArray) = s at hb h1 h2 h3 h4 h5 h6 ⊢
    clear hsz hv hx hy
    go_enter Tryd.func4, Tryd.ntmps4
    go_wp2_with (fail)
    refine (h1 _).mono ?_; rintro e w1 ⟨rfl, hb1⟩
    have hB := hb1
    clear hb1 h1
    go_wp2_with (fail)
    refine (h2 _).mono ?_; rintro e w2 ⟨rfl, hb2⟩
    have hB := hB.trans (hb2.mono hB.size)
    clear hb2 h2
    go_wp2_with (fail)
    refine (h3 _ (hT.below hB)).mono ?_; rintro e w3 ⟨rfl, hb3⟩
    have hB := hB.trans (hb3.mono hB.size)
    clear hb3 h3
    go_wp2_with (fail)
    refine (h4 _).mono ?_; rintro e w4 ⟨rfl, hb4⟩
    have hB := hB.trans (hb4.mono hB.size)
    clear hb4 h4
    go_wp2_with (fail)
    refine (h5 _ (hT.below hB)).mono ?_; rintro e w5 ⟨rfl, hb5⟩
    have hB := hB.trans (hb5.mono hB.size)
    clear hb5 h5
    go_wp2_with (fail)
    refine (h6 _).mono ?_; rintro e w6 ⟨rfl, hb6⟩
    have hB := hB.trans (hb6.mono hB.size)
    clear hb6 h6
    have hT5 := hT.below hB
    go_wp2_with (fail)
    refine (works_any _ hT5).mono ?_; rintro e we ⟨rfl, hbe⟩
    have hB6 := hB.trans (hbe.mono hB.size)
    go_wp2_with (fail)
    go_ret
    exact ⟨rfl, hB6⟩
end Go.Proofs.YtbkmicimpgabgaaDoor
