/-
  The card of 'QuireTurned': it returns true at any arguments, and nothing that was there is written; the listed tables are tied to the library's text.
  CONDITIONS: none.
-/
import Derived.Test.YtehffacmphpknaaDoorRows
import Derived.Test.YtehffacmphpknaaDoorCards
import Derived.Test.YtehffacmphpknaaDoorTie
import Derived.Test.YtehffacmphpknaaDoorTurnedLaw
import Derived.Test.YtehffacmphpknaaDoorOpenT
import Derived.SevenTiedAt
namespace Go.Proofs.YtehffacmphpknaaDoor.QuireTurnedCard
open Go.ChangeShapes Go.WideShapes Go.ChangeAt Go.RowKit Go.Lib
open Go.ChangeMaps (open_string shut_string)
set_option linter.unusedVariables false

theorem own : ownKnob Tryd.prog.godebug = none := by kernel_rfl

set_option maxRecDepth 100000 in
set_option maxHeartbeats 400000 in
theorem lifted (os : Os) (started : os.Started) (H : Type) (enc : TypeId × Value → H) :
    ReturnsInHanded {} Tryd.checked os 14 .any (fun w args => (Rows.quireTurnedSpec.pre enc Tryd.prog Tryd.f14 [] false w args ∧ laidMetH Tryd.prog Rows.quireTurnedRow.laid w) ∧ sizedMet enc Tryd.prog Tryd.f14 (OpenSpec.ofChange Rows.quireTurnedSpec) false w args)
      (Rows.quireTurnedSpec.post enc Tryd.prog Tryd.f14 false true false false) := by
  refine returnsInHanded_of_change_and (C := Tryd.checked) (X := fun w _ => laidMetH Tryd.prog Rows.quireTurnedRow.laid w) (fun _ _ _ hh h => h.of_heap hh) own started (by kernel_rfl) Tryd.func14
    (ChangeSpec.witness_shaped (enc := enc) (C := Tryd.checked) (os := os) (X := fun w _ => laidMetH Tryd.prog Rows.quireTurnedRow.laid w) false (World.laidAll Tryd.prog os Rows.quireTurnedRow.laid) #[(.int .u8 0), (.int .u8 0), (.int .u8 0), (.int .u8 0)] 8 (World.laidAll_os _ _ _)
      (World.shaped_of_ZipB (by kernel_rfl) (by kernel_rfl)) (by kernel_rfl) (by kernel_rfl) (by kernel_rfl)
      (by rw [MakeChecks.laidMetH_plain _ _ _ (by kernel_rfl)]; exact laidMet_laidAll _ (by kernel_rfl) (by kernel_rfl))) ?_
  intro W base args ds gs before hval0 hW _ _ hL _
  have hW' := hW
  obtain ⟨p, q, hA0, hV, rfl, hfz, hnd⟩ := hW
  have hA : DataW.TrodAll enc Tryd.prog W 0 (fun _ => true) true Tryd.f14.params.toList args.toList ds p := hA0
  have hlt := DataW.TrodAll.lt hA
  rw [Tryd.params14] at hA
  obtain ⟨rfl, rfl⟩ := trodVars_none hV
  obtain ⟨v1, vs1, d1, ds1, p1, q1, hv, rfl, rfl, h1, hA⟩ := trodAll_cons hA
  obtain ⟨v2, vs2, d2, ds2, p2, q2, rfl, rfl, rfl, h2, hA⟩ := trodAll_cons hA
  obtain ⟨v3, vs3, d3, ds3, p3, q3, rfl, rfl, rfl, h3, hA⟩ := trodAll_cons hA
  obtain ⟨v4, vs4, d4, ds4, p4, q4, rfl, rfl, rfl, h4, hA⟩ := trodAll_cons hA
  obtain ⟨hvs, rfl, rfl⟩ := trodAll_none (args := vs4.toArray) (by simpa using hA)
  obtain rfl : vs4 = [] := by simpa using hvs
  obtain rfl : args = #[v1, v2, v3, v4] := by
    have := congrArg List.toArray hv; simpa using this
  have hval : ∀ (j : Nat) t v, Tryd.f14.params[j]? = some t → (#[v1, v2, v3, v4] : Array Value)[j]? = some v → Value.okWide Tryd.prog W .any base t v := hval0
  rw [Tryd.params14] at hval
  have k1 := fun (W' : World) (hb : Below W.heap.size W W') => Below.trod laidOutT (by kernel_rfl) (of_decide_eq_true (by kernel_rfl)) h1 hb (fun x hx => hlt x (by simp [hx]))
  obtain ⟨z1, rfl, _, _, wf1⟩ := open_int Tryd.underlying5 (hval 0 5 v1 rfl rfl) h1
  obtain ⟨n1, rfl, hn1⟩ := nat_u8 wf1
  have k2 := fun (W' : World) (hb : Below W.heap.size W W') => Below.trod laidOutT (by kernel_rfl) (of_decide_eq_true (by kernel_rfl)) h2 hb (fun x hx => hlt x (by simp [hx]))
  obtain ⟨z2, rfl, _, _, wf2⟩ := open_int Tryd.underlying5 (hval 1 5 v2 rfl rfl) h2
  obtain ⟨n2, rfl, hn2⟩ := nat_u8 wf2
  have k3 := fun (W' : World) (hb : Below W.heap.size W W') => Below.trod laidOutT (by kernel_rfl) (of_decide_eq_true (by kernel_rfl)) h3 hb (fun x hx => hlt x (by simp [hx]))
  obtain ⟨z3, rfl, _, _, wf3⟩ := open_int Tryd.underlying5 (hval 2 5 v3 rfl rfl) h3
  obtain ⟨n3, rfl, hn3⟩ := nat_u8 wf3
  have k4 := fun (W' : World) (hb : Below W.heap.size W W') => Below.trod laidOutT (by kernel_rfl) (of_decide_eq_true (by kernel_rfl)) h4 hb (fun x hx => hlt x (by simp [hx]))
  obtain ⟨z4, rfl, _, _, wf4⟩ := open_int Tryd.underlying5 (hval 3 5 v4 rfl rfl) h4
  obtain ⟨n4, rfl, hn4⟩ := nat_u8 wf4
  have hT : Tab W := tab_of_laid4 hL
  have hc := turnedLaw_any n1 n2 n3 n4 W hT hn1 hn2 hn3 hn4
  refine hc.mono fun e W' ⟨he, bel⟩ => ?_
  subst he
  exact ⟨_, rfl, _, _, _, [], _, [], hW', trodAll_mk1 (shut_bool Tryd.underlying4 _), trodAll_cons_mk (k1 W' bel) (trodAll_cons_mk (k2 W' bel) (trodAll_cons_mk (k3 W' bel) (trodAll_cons_mk (k4 W' bel) trodAll_mk0))), rfl, bel.frame _, fun h => by cases h⟩

theorem over : Rows.quireTurnedRow.holds Tryd.pinned (OpenSpec.ofChange Rows.quireTurnedSpec) :=
  OpenClaim.holds_of_wide 14 Tryd.f14 rfl rfl rfl rfl rfl rfl rfl ⟨rfl, rfl, rfl, rfl, rfl⟩ rfl rfl rfl rfl rfl (by kernel_rfl) Tryd.func14 (by kernel_rfl)
    (of_decide_eq_true (by kernel_rfl)) (by unfold Func.isWrapper; first | (rw [if_pos (by decide +kernel)]; kernel_rfl) | (rw [if_neg (by decide +kernel)]; exact ⟨rfl, rfl⟩))
    (fun os started H enc _ => lifted os started H enc)

theorem card : Rows.QuireTurnedCardSaid :=
  Claim7.holds_tied_plain_at .later [] [.data, .data, .data, .pinned] true Rows.quireTurnedCard.stood.harness false over (fun _ h => by cases h) (by kernel_rfl) (fun _ h => by cases h) quireTurned_row_tie rfl ⟨rfl, rfl⟩ (by kernel_rfl) rfl
    (fun f fn hf hfn => by
      obtain rfl : f = 14 := Option.some.inj ((show Tryd.prog.funcNamed "headword/headwordlaw03.QuireTurned" = some 14 by kernel_rfl).symm.trans hf) |>.symm
      obtain rfl : fn = Tryd.f14 := (Option.some.inj (Tryd.func14.symm.trans hfn)).symm
      exact ⟨by kernel_rfl, fun j t ht => by
        rw [Tryd.params14] at ht
        have hm : t ∈ ([5, 5, 5, 5] : List TypeId) := by simpa using Array.mem_of_getElem? ht
        have hall : (([5, 5, 5, 5] : List TypeId).all fun u => !Tryd.prog.wantsStandIn u) = true := by kernel_rfl
        exact (show Tryd.prog.wantsStandIn t = false by simpa using List.all_eq_true.1 hall t hm)⟩)
    (by kernel_rfl)
end Go.Proofs.YtehffacmphpknaaDoor.QuireTurnedCard
namespace Go.Proofs.YtehffacmphpknaaDoor
theorem quireTurned_card : Rows.QuireTurnedCardSaid := QuireTurnedCard.card
#print axioms quireTurned_card
end Go.Proofs.YtehffacmphpknaaDoor
