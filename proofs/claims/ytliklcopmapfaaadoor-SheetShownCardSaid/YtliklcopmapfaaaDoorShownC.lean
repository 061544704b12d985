/-
  The card of 'SheetShown': it returns true at any arguments, and nothing that was there is written; the listed table is tied to the program's text.
  CONDITIONS: none.
-/
import Derived.Test.YtliklcopmapfaaaDoorRows
import Derived.Test.YtliklcopmapfaaaDoorCards
import Derived.Test.YtliklcopmapfaaaDoorTie
import Derived.Test.YtliklcopmapfaaaDoorTabS
import Derived.Test.YtliklcopmapfaaaDoorSh
import Derived.Lay
import Derived.Lib.LaidTab
import Derived.Stop.LaidErr
import Derived.SevenTiedAt
set_option linter.unusedSimpArgs false
set_option linter.unusedVariables false
namespace Go.Proofs.YtliklcopmapfaaaDoor.SheetShownCard
open Go Go.Proofs.Eng Go.ChangeShapes Go.WideShapes Go.ChangeAt Go.RowKit
open Go.ChangeMaps (open_string shut_string)

theorem own : ownKnob Tryd.prog.godebug = none := by kernel_rfl
theorem laidOutT : laidOutB Tryd.prog = true := by kernel_rfl

set_option maxRecDepth 100000 in
set_option maxHeartbeats 400000 in
theorem lifted (os : Os) (started : os.Started) (H : Type) (enc : TypeId × Value → H) :
    ReturnsInHanded {} Tryd.checked os 4 .any (fun w args => (Rows.sheetShownSpec.pre enc Tryd.prog Tryd.f4 [] false w args ∧ laidMetH Tryd.prog Rows.sheetShownRow.laid w) ∧ sizedMet enc Tryd.prog Tryd.f4 (OpenSpec.ofChange Rows.sheetShownSpec) false w args)
      (Rows.sheetShownSpec.post enc Tryd.prog Tryd.f4 false true false false) := by
  refine returnsInHanded_of_change_and (C := Tryd.checked) (X := fun w _ => laidMetH Tryd.prog Rows.sheetShownRow.laid w) (fun _ _ _ hh h => h.of_heap hh) own started (by kernel_rfl) Tryd.func4
    (ChangeSpec.witness_shaped (enc := enc) (C := Tryd.checked) (os := os) (X := fun w _ => laidMetH Tryd.prog Rows.sheetShownRow.laid w) false (World.laidAll Tryd.prog os Rows.sheetShownRow.laid) #[(.agg ⟨List.replicate 11 (.int .u8 0)⟩), (.agg ⟨List.replicate 8 (.int .i8 0)⟩), (.int .u8 0)] 8 (World.laidAll_os _ _ _)
      (World.shaped_of_ZipB (by kernel_rfl) (by kernel_rfl)) (by kernel_rfl) (by kernel_rfl) (by kernel_rfl)
      (by rw [MakeChecks.laidMetH_plain _ _ _ (by kernel_rfl)]; exact laidMet_laidAll _ (by kernel_rfl) (by kernel_rfl))) ?_
  intro W base args ds gs before hval0 hW _ _ hL _
  have hW' := hW
  obtain ⟨p, q, hA0, hV, rfl, hfz, hnd⟩ := hW
  have hA : DataW.TrodAll enc Tryd.prog W 0 (fun _ => true) true Tryd.f4.params.toList args.toList ds p := hA0
  have hlt := DataW.TrodAll.lt hA
  rw [Tryd.params4] at hA
  obtain ⟨rfl, rfl⟩ := trodVars_none hV
  obtain ⟨v1, vs1, d1, ds1, p1, q1, hv, rfl, rfl, h1, hA⟩ := trodAll_cons hA
  obtain ⟨v2, vs2, d2, ds2, p2, q2, rfl, rfl, rfl, h2, hA⟩ := trodAll_cons hA
  obtain ⟨v3, vs3, d3, ds3, p3, q3, rfl, rfl, rfl, h3, hA⟩ := trodAll_cons hA
  obtain ⟨hvs, rfl, rfl⟩ := trodAll_none (args := vs3.toArray) (by simpa using hA)
  obtain rfl : vs3 = [] := by simpa using hvs
  obtain rfl : args = #[v1, v2, v3] := by
    have := congrArg List.toArray hv; simpa using this
  have hval : ∀ (j : Nat) t v, Tryd.f4.params[j]? = some t → (#[v1, v2, v3] : Array Value)[j]? = some v → Value.okWide Tryd.prog W .any base t v := hval0
  rw [Tryd.params4] at hval
  have k1 := fun (W' : World) (hb : Below W.heap.size W W') => Below.trod laidOutT (by kernel_rfl) (of_decide_eq_true (by kernel_rfl)) h1 hb (fun x hx => hlt x (by simp [hx]))
  obtain ⟨G1, rfl, b1⟩ := open_strip (hval 0 24 v1 rfl rfl) h1
  have k2 := fun (W' : World) (hb : Below W.heap.size W W') => Below.trod laidOutT (by kernel_rfl) (of_decide_eq_true (by kernel_rfl)) h2 hb (fun x hx => hlt x (by simp [hx]))
  obtain ⟨G2, rfl, b2⟩ := open_rowi Tryd.underlying45 (by kernel_rfl) (hval 1 45 v2 rfl rfl) h2
  have k3 := fun (W' : World) (hb : Below W.heap.size W W') => Below.trod laidOutT (by kernel_rfl) (of_decide_eq_true (by kernel_rfl)) h3 hb (fun x hx => hlt x (by simp [hx]))
  obtain ⟨G3, rfl, b3⟩ := open_byte (hval 2 5 v3 rfl rfl) h3
  refine (shown_tab W (fun b => b < W.heap.size) (fun _ h => h) (tab_ok hL) G1 b1 G2 b2 G3 b3).mono fun e W' ⟨he, bel⟩ => ?_
  subst he
  exact ⟨_, rfl, _, _, _, [], _, [], hW', trodAll_mk1 (shut_bool Tryd.underlying4 _), trodAll_cons_mk (k1 W' bel) (trodAll_cons_mk (k2 W' bel) (trodAll_cons_mk (k3 W' bel) trodAll_mk0)), rfl, bel.frame _, fun h => by cases h⟩

theorem over : Rows.sheetShownRow.holds Tryd.pinned (OpenSpec.ofChange Rows.sheetShownSpec) :=
  OpenClaim.holds_of_wide 4 Tryd.f4 rfl rfl rfl rfl rfl rfl rfl ⟨rfl, rfl, rfl, rfl, rfl⟩ rfl rfl rfl rfl rfl (by kernel_rfl) Tryd.func4 (by kernel_rfl)
    (of_decide_eq_true (by kernel_rfl)) (by unfold Func.isWrapper; first | (rw [if_pos (by decide +kernel)]; kernel_rfl) | (rw [if_neg (by decide +kernel)]; exact ⟨rfl, rfl⟩))
    (fun os started H enc _ => lifted os started H enc)

theorem card : Rows.SheetShownCardSaid :=
  Claim7.holds_tied_plain_at .later [] [.data] true Rows.sheetShownCard.stood.harness false over (fun _ h => by cases h) (by kernel_rfl) (fun _ h => by cases h) sheetShown_row_tie rfl ⟨rfl, rfl⟩ (by kernel_rfl) rfl
    (fun f fn hf hfn => by
      obtain rfl : f = 4 := Option.some.inj ((show Tryd.prog.funcNamed "headword/headwordlaw09.SheetShown" = some 4 by kernel_rfl).symm.trans hf) |>.symm
      obtain rfl : fn = Tryd.f4 := (Option.some.inj (Tryd.func4.symm.trans hfn)).symm
      exact ⟨by kernel_rfl, fun j t ht => by
        rw [Tryd.params4] at ht
        have hm : t ∈ ([24, 45, 5] : List TypeId) := by simpa using Array.mem_of_getElem? ht
        have hall : (([24, 45, 5] : List TypeId).all fun u => !Tryd.prog.wantsStandIn u) = true := by kernel_rfl
        exact (show Tryd.prog.wantsStandIn t = false by simpa using List.all_eq_true.1 hall t hm)⟩)
    (by kernel_rfl)
end Go.Proofs.YtliklcopmapfaaaDoor.SheetShownCard
namespace Go.Proofs.YtliklcopmapfaaaDoor
theorem sheetShown_card : Rows.SheetShownCardSaid := SheetShownCard.card
#print axioms sheetShown_card
end Go.Proofs.YtliklcopmapfaaaDoor

