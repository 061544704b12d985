/-
  The card of 'QuirePiles': it returns true at any arguments, and nothing that was there is written; the listed tables are tied to the library's text.
  CONDITIONS: none.
-/
import Derived.Test.YtbkmicimpgabgaaDoorRows
import Derived.Test.YtbkmicimpgabgaaDoorCards
import Derived.Test.YtbkmicimpgabgaaDoorTie
import Derived.Test.YtbkmicimpgabgaaDoorPilesLaw
import Derived.Test.YtbkmicimpgabgaaDoorOpenI
import Derived.SevenTiedAt
namespace Go.Proofs.YtbkmicimpgabgaaDoor.QuirePilesCard
open Go.ChangeShapes Go.WideShapes Go.ChangeAt Go.RowKit Go.Lib
open Go.ChangeMaps (open_string shut_string)
set_option linter.unusedVariables false

theorem own : ownKnob Tryd.prog.godebug = none := by kernel_rfl

set_option maxRecDepth 100000 in
set_option maxHeartbeats 400000 in
theorem lifted (os : Os) (started : os.Started) (H : Type) (enc : TypeId × Value → H) :
    ReturnsInHanded {} Tryd.checked os 5 .any (fun w args => (Rows.quirePilesSpec.pre enc Tryd.prog Tryd.f5 [] false w args ∧ laidMetH Tryd.prog Rows.quirePilesRow.laid w) ∧ sizedMet enc Tryd.prog Tryd.f5 (OpenSpec.ofChange Rows.quirePilesSpec) false w args)
      (Rows.quirePilesSpec.post enc Tryd.prog Tryd.f5 false true false false) := by
  refine returnsInHanded_of_change_and (C := Tryd.checked) (X := fun w _ => laidMetH Tryd.prog Rows.quirePilesRow.laid w) (fun _ _ _ hh h => h.of_heap hh) own started (by kernel_rfl) Tryd.func5
    (ChangeSpec.witness_shaped (enc := enc) (C := Tryd.checked) (os := os) (X := fun w _ => laidMetH Tryd.prog Rows.quirePilesRow.laid w) false (World.laidAll Tryd.prog os Rows.quirePilesRow.laid) #[(.slice none 0 0)] 8 (World.laidAll_os _ _ _)
      (World.shaped_of_ZipB (by kernel_rfl) (by kernel_rfl)) (by kernel_rfl) (by kernel_rfl) (by kernel_rfl)
      (by rw [MakeChecks.laidMetH_plain _ _ _ (by kernel_rfl)]; exact laidMet_laidAll _ (by kernel_rfl) (by kernel_rfl))) ?_
  intro W base args ds gs before hval0 hW _ _ hL _
  have hW' := hW
  obtain ⟨p, q, hA0, hV, rfl, hfz, hnd⟩ := hW
  have hA : DataW.TrodAll enc Tryd.prog W 0 (fun _ => true) true Tryd.f5.params.toList args.toList ds p := hA0
  have hlt := DataW.TrodAll.lt hA
  rw [Tryd.params5] at hA
  obtain ⟨rfl, rfl⟩ := trodVars_none hV
  obtain ⟨v1, vs1, d1, ds1, p1, q1, hv, rfl, rfl, h1, hA⟩ := trodAll_cons hA
  obtain ⟨hvs, rfl, rfl⟩ := trodAll_none (args := vs1.toArray) (by simpa using hA)
  obtain rfl : vs1 = [] := by simpa using hvs
  obtain rfl : args = #[v1] := by
    have := congrArg List.toArray hv; simpa using this
  have hval : ∀ (j : Nat) t v, Tryd.f5.params[j]? = some t → (#[v1] : Array Value)[j]? = some v → Value.okWide Tryd.prog W .any base t v := hval0
  rw [Tryd.params5] at hval
  have k1 := fun (W' : World) (hb : Below W.heap.size W W') => Below.trod laidOutT (by kernel_rfl) (of_decide_eq_true (by kernel_rfl)) h1 hb (fun x hx => hlt x (by simp [hx]))
  obtain ⟨A1, n1, c1, xs1, rfl, hr1, hl1, hw1, hx1⟩ := open_rowK Tryd.underlying23 Tryd.underlying3 (by kernel_rfl) (hval 0 23 v1 rfl rfl) h1
  have hT : Tab W := tab_of_laid hL
  have hc := pilesLaw_any A1 n1 c1 xs1 W hT hr1 hl1 hx1
  refine hc.mono fun e W' ⟨he, bel⟩ => ?_
  subst he
  exact ⟨_, rfl, _, _, _, [], _, [], hW', trodAll_mk1 (shut_bool Tryd.underlying4 _), trodAll_cons_mk (k1 W' bel) trodAll_mk0, rfl, bel.frame _, fun h => by cases h⟩

theorem over : Rows.quirePilesRow.holds Tryd.pinned (OpenSpec.ofChange Rows.quirePilesSpec) :=
  OpenClaim.holds_of_wide 5 Tryd.f5 rfl rfl rfl rfl rfl rfl rfl ⟨rfl, rfl, rfl, rfl, rfl⟩ rfl rfl rfl rfl rfl (by kernel_rfl) Tryd.func5 (by kernel_rfl)
    (of_decide_eq_true (by kernel_rfl)) (by unfold Func.isWrapper; first | (rw [if_pos (by decide +kernel)]; kernel_rfl) | (rw [if_neg (by decide +kernel)]; exact ⟨rfl, rfl⟩))
    (fun os started H enc _ => lifted os started H enc)

theorem card : Rows.QuirePilesCardSaid :=
  Claim7.holds_tied_plain_at .later [] [.data, .data] true Rows.quirePilesCard.stood.harness false over (fun _ h => by cases h) (by kernel_rfl) (fun _ h => by cases h) quirePiles_row_tie rfl ⟨rfl, rfl⟩ (by kernel_rfl) rfl
    (fun f fn hf hfn => by
      obtain rfl : f = 5 := Option.some.inj ((show Tryd.prog.funcNamed "headword/headwordlaw03.QuirePiles" = some 5 by kernel_rfl).symm.trans hf) |>.symm
      obtain rfl : fn = Tryd.f5 := (Option.some.inj (Tryd.func5.symm.trans hfn)).symm
      exact ⟨by kernel_rfl, fun j t ht => by
        rw [Tryd.params5] at ht
        have hm : t ∈ ([23] : List TypeId) := by simpa using Array.mem_of_getElem? ht
        have hall : (([23] : List TypeId).all fun u => !Tryd.prog.wantsStandIn u) = true := by kernel_rfl
        exact (show Tryd.prog.wantsStandIn t = false by simpa using List.all_eq_true.1 hall t hm)⟩)
    (by kernel_rfl)
end Go.Proofs.YtbkmicimpgabgaaDoor.QuirePilesCard
namespace Go.Proofs.YtbkmicimpgabgaaDoor
theorem quirePiles_card : Rows.QuirePilesCardSaid := QuirePilesCard.card
#print axioms quirePiles_card
end Go.Proofs.YtbkmicimpgabgaaDoor
