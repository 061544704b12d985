/-
  The card of 'ShortNamed': it returns true at any arguments, and nothing that was there is written; the listed tables are tied to the library's text.
  CONDITIONS: none.
-/
import Derived.Test.YtlbepjmiligpcaaDoorRows
import Derived.Test.YtlbepjmiligpcaaDoorCards
import Derived.Test.YtlbepjmiligpcaaDoorTie
import Derived.Test.YtlbepjmiligpcaaDoorNamedLaw
import Derived.Test.YtlbepjmiligpcaaDoorOpenS
import Derived.Lay
import Derived.Lib.LaidTab
import Derived.Stop.LaidErr
import Derived.MakeChecks
import Derived.SevenTiedAt
namespace Go.Proofs.YtlbepjmiligpcaaDoor.ShortNamedCard
open Go.ChangeShapes Go.WideShapes Go.ChangeAt Go.RowKit Go.Lib
open Go.ChangeMaps (open_string shut_string)
set_option linter.unusedVariables false

theorem own : ownKnob Tryd.prog.godebug = none := by kernel_rfl

set_option maxRecDepth 100000 in
set_option maxHeartbeats 400000 in
theorem lifted (os : Os) (started : os.Started) (H : Type) (enc : TypeId × Value → H) :
    ReturnsInHanded {} Tryd.checked os 3 .any (fun w args => (Rows.shortNamedSpec.pre enc Tryd.prog Tryd.f3 [] false w args ∧ laidMetH Tryd.prog Rows.shortNamedRow.laid w) ∧ sizedMet enc Tryd.prog Tryd.f3 (OpenSpec.ofChange Rows.shortNamedSpec) false w args)
      (Rows.shortNamedSpec.post enc Tryd.prog Tryd.f3 false true false false) := by
  refine returnsInHanded_of_change_and (C := Tryd.checked) (X := fun w _ => laidMetH Tryd.prog Rows.shortNamedRow.laid w) (fun _ _ _ hh h => h.of_heap hh) own started (by kernel_rfl) Tryd.func3
    (ChangeSpec.witness_shaped (enc := enc) (C := Tryd.checked) (os := os) (X := fun w _ => laidMetH Tryd.prog Rows.shortNamedRow.laid w) false (World.laidAll Tryd.prog os Rows.shortNamedRow.laid) #[(.agg ⟨List.replicate 11 (.int .u8 0)⟩), (.agg ⟨List.replicate 11 (.int .u8 0)⟩), (.agg ⟨List.replicate 6 (.int .u8 0)⟩)] 8 (World.laidAll_os _ _ _)
      (World.shaped_of_ZipB (by kernel_rfl) (by kernel_rfl)) (by kernel_rfl) (by kernel_rfl) (by kernel_rfl)
      (by rw [MakeChecks.laidMetH_plain _ _ _ (by kernel_rfl)]; exact laidMet_laidAll _ (by kernel_rfl) (by kernel_rfl))) ?_
  intro W base args ds gs before hval0 hW _ _ hL _
  have hW' := hW
  obtain ⟨p, q, hA0, hV, rfl, hfz, hnd⟩ := hW
  have hA : DataW.TrodAll enc Tryd.prog W 0 (fun _ => true) true Tryd.f3.params.toList args.toList ds p := hA0
  have hlt := DataW.TrodAll.lt hA
  rw [Tryd.params3] at hA
  obtain ⟨rfl, rfl⟩ := trodVars_none hV
  obtain ⟨v1, vs1, d1, ds1, p1, q1, hv, rfl, rfl, h1, hA⟩ := trodAll_cons hA
  obtain ⟨v2, vs2, d2, ds2, p2, q2, rfl, rfl, rfl, h2, hA⟩ := trodAll_cons hA
  obtain ⟨v3, vs3, d3, ds3, p3, q3, rfl, rfl, rfl, h3, hA⟩ := trodAll_cons hA
  obtain ⟨hvs, rfl, rfl⟩ := trodAll_none (args := vs3.toArray) (by simpa using hA)
  obtain rfl : vs3 = [] := by simpa using hvs
  obtain rfl : args = #[v1, v2, v3] := by
    have := congrArg List.toArray hv; simpa using this
  have hval : ∀ (j : Nat) t v, Tryd.f3.params[j]? = some t → (#[v1, v2, v3] : Array Value)[j]? = some v → Value.okWide Tryd.prog W .any base t v := hval0
  rw [Tryd.params3] at hval
  have k1 := fun (W' : World) (hb : Below W.heap.size W W') => Below.trod laidOut (by kernel_rfl) (of_decide_eq_true (by kernel_rfl)) h1 hb (fun x hx => hlt x (by simp [hx]))
  obtain ⟨cs1, m1, ls1, rfl, hS1⟩ := open_slip (hval 0 24 v1 rfl rfl) h1
  have k2 := fun (W' : World) (hb : Below W.heap.size W W') => Below.trod laidOut (by kernel_rfl) (of_decide_eq_true (by kernel_rfl)) h2 hb (fun x hx => hlt x (by simp [hx]))
  obtain ⟨cs2, m2, ls2, rfl, hS2⟩ := open_slip (hval 1 24 v2 rfl rfl) h2
  have k3 := fun (W' : World) (hb : Below W.heap.size W W') => Below.trod laidOut (by kernel_rfl) (of_decide_eq_true (by kernel_rfl)) h3 hb (fun x hx => hlt x (by simp [hx]))
  obtain ⟨cs3, ls3, rfl, hS3⟩ := open_six (hval 2 25 v3 rfl rfl) h3
  have hc := namedLaw_any cs1 m1 ls1 cs2 m2 ls2 cs3 ls3 W hS1 hS2 hS3
  refine hc.mono fun e W' ⟨he, bel⟩ => ?_
  subst he
  exact ⟨_, rfl, _, _, _, [], _, [], hW', trodAll_mk1 (shut_bool Tryd.underlying4 _), trodAll_cons_mk (k1 W' bel) (trodAll_cons_mk (k2 W' bel) (trodAll_cons_mk (k3 W' bel) trodAll_mk0)), rfl, bel.frame _, fun h => by cases h⟩

theorem over : Rows.shortNamedRow.holds Tryd.pinned (OpenSpec.ofChange Rows.shortNamedSpec) :=
  OpenClaim.holds_of_wide 3 Tryd.f3 rfl rfl rfl rfl rfl rfl rfl ⟨rfl, rfl, rfl, rfl, rfl⟩ rfl rfl rfl rfl rfl (by kernel_rfl) Tryd.func3 (by kernel_rfl)
    (of_decide_eq_true (by kernel_rfl)) (by unfold Func.isWrapper; first | (rw [if_pos (by decide +kernel)]; kernel_rfl) | (rw [if_neg (by decide +kernel)]; exact ⟨rfl, rfl⟩))
    (fun os started H enc _ => lifted os started H enc)

theorem card : Rows.ShortNamedCardSaid :=
  Claim7.holds_tied_plain_at .later [] [.data, .pinned] true Rows.shortNamedCard.stood.harness false over (fun _ h => by cases h) (by kernel_rfl) (fun _ h => by cases h) shortNamed_row_tie rfl ⟨rfl, rfl⟩ (by kernel_rfl) rfl
    (fun f fn hf hfn => by
      obtain rfl : f = 3 := Option.some.inj ((show Tryd.prog.funcNamed "headword/headwordlaw01.ShortNamed" = some 3 by kernel_rfl).symm.trans hf) |>.symm
      obtain rfl : fn = Tryd.f3 := (Option.some.inj (Tryd.func3.symm.trans hfn)).symm
      exact ⟨by kernel_rfl, fun j t ht => by
        rw [Tryd.params3] at ht
        have hm : t ∈ ([24, 24, 25] : List TypeId) := by simpa using Array.mem_of_getElem? ht
        have hall : (([24, 24, 25] : List TypeId).all fun u => !Tryd.prog.wantsStandIn u) = true := by kernel_rfl
        exact (show Tryd.prog.wantsStandIn t = false by simpa using List.all_eq_true.1 hall t hm)⟩)
    (by kernel_rfl)
end Go.Proofs.YtlbepjmiligpcaaDoor.ShortNamedCard
namespace Go.Proofs.YtlbepjmiligpcaaDoor
theorem shortNamed_card : Rows.ShortNamedCardSaid := ShortNamedCard.card
#print axioms shortNamed_card
end Go.Proofs.YtlbepjmiligpcaaDoor
