/-
  The walk of QuirePiles: it returns true at any numbers.
-/
import Derived.Test.YtbkmicimpgabgaaDoorRefZ
import Derived.Test.YtbkmicimpgabgaaDoorWorks
import Derived.Test.YtbkmicimpgabgaaDoorHelpH
set_option linter.unusedSimpArgs false
set_option linter.unusedVariables false
namespace Go.Proofs.YtbkmicimpgabgaaDoor
open Go.RowKit Go.Lib Go.Proofs.Quire

set_option maxRecDepth 100000 in
set_option maxHeartbeats 8000000 in
theorem pilesLaw_any (A : Option Addr) (n c : Nat) (xs : List Int) (w : World) (hT : Tab w) (hr : Rd w A n (xs.map (Value.int .i64))) (hn : n ≤ maxLen) (hx : xs.length = n ∧ n ≤ c) :
    Calls Tryd.prog 5 #[.slice A n c] w (ValC (.bool true) w) := by
  obtain ⟨hxl, hcap⟩ := hx
  subst hxl
  by_cases h100 : 100 < xs.length
  · have hw := fun W hW => works_any W hW
    have hb : (100 : Int) < (xs.length : Int) := by omega
    go_enter Tryd.func5, Tryd.ntmps5
    go_wp2_with (fail)
    refine (hw _ hT).mono ?_; rintro e w1 ⟨rfl, hb1⟩
    go_wp2_with (fail)
    go_ret
    exact ⟨rfl, hb1⟩
  · have h1 := fun W (h : Rd W A xs.length (zs xs)) => folded_any A c xs W h hn
    have h2 := fun W (h : Rd W A xs.length (zs xs)) => rfolded2_any A c xs W h hn hcap way_back
    unfold StrEPost at h1 h2
    generalize foldedP xs = fp at h1 h2
    obtain ⟨fs, fe⟩ := fp
    simp only at h1 h2
    generalize (⟨fs.toArray⟩ : ByteArray) = sf at h1 h2
    have hb : ¬ (100 : Int) < (xs.length : Int) := by omega
    have HR : Hid (Rd w A xs.length (zs xs)) := hr
    clear hr hcap
    go_enter Tryd.func5, Tryd.ntmps5
    go_wp2_with (fail)
    refine (h1 _ HR.out).mono ?_; rintro e w1 ⟨rfl, hb1⟩
    go_wp2_with (fail)
    refine (h2 _ (HR.out.below hb1)).mono ?_; rintro e w2 ⟨rfl, hb2⟩
    have hB := hb1.trans (hb2.mono hb1.size)
    clear hb1 hb2 h1 h2
    have hT5 := hT.below hB
    go_wp2_with (fail)
    refine (works_any _ hT5).mono ?_; rintro e we ⟨rfl, hbe⟩
    have hB6 := hB.trans (hbe.mono hB.size)
    go_wp2_with (fail)
    go_ret
    exact ⟨rfl, hB6⟩
end Go.Proofs.YtbkmicimpgabgaaDoor
