/-
  'LineTurned' returns true at any arguments, and nothing that was there is written.
  CONDITIONS: none.
-/
import Derived.Test.YtdmffkknghianaaRows
import Derived.Test.YtdmffkknghianaaSo
import Derived.Test.YtdmffkknghianaaNj
import Derived.Test.YtdmffkknghianaaPcV
set_option linter.unusedSimpArgs false
set_option linter.unusedVariables false
namespace Go.Proofs.Ytdmffkknghianaa
open Go Go.Proofs.Eng Go.RowKit
theorem lineTurned_any (G1 : List Int) (G2 : List Int) (w : World) (l1 : G1.length = 13) (b1 : ∀ x, x ∈ G1 → 0 ≤ x ∧ x ≤ 255) (l2 : G2.length = 10) (b2 : ∀ x, x ∈ G2 → 0 ≤ x ∧ x ≤ 255) :
    Calls Try.prog 8 #[.agg (G1.map iu8).toArray, .agg (G2.map iu8).toArray] w fun e w' => e = .returned (.bool true) ∧ Below w.heap.size w w' := by
  obtain ⟨a, b, e, H, eL, hH, ha, hb, he, bH⟩ := gal_of l1 b1
  have h := turned_law (S := G2) ha hb he hH bH l2 known_run
  rw [← eL] at h
  refine (h.pure orders_mixed xf_ok w (fun _ => False) [.agg (G1.map iu8).toArray, .agg (G2.map iu8).toArray] rfl (fun j u x h1 h2 => ?_) (fun b h => h.elim) (fun p hp => by obtain ⟨g, x, h, _⟩ := hp; cases h)).mono fun e w' ⟨v, h1, h2, h3⟩ => by
    cases h3
    exact ⟨h1, h2⟩
  match j with
  | 0 => cases h1; cases h2; exact ok_row G1
  | 1 => cases h1; cases h2; exact ok_row G2
  | j + 2 => simp at h1
end Go.Proofs.Ytdmffkknghianaa
namespace Go.Proofs.Ytdmffkknghianaa.LineTurnedProof
open Go.ChangeShapes Go.WideShapes Go.ChangeAt Go.RowKit
open Go.ChangeMaps (open_string shut_string)
set_option linter.unusedVariables false

theorem own : ownKnob Try.prog.godebug = none := by kernel_rfl

set_option maxRecDepth 100000 in
set_option maxHeartbeats 400000 in
theorem lifted (os : Os) (started : os.Started) (H : Type) (enc : TypeId × Value → H) :
    ReturnsInHanded {} Try.checked os 8 .any (Rows.lineTurnedSpec.pre6 enc Try.prog Try.f8 Rows.lineTurnedRow.domain false) (Rows.lineTurnedSpec.post enc Try.prog Try.f8 false true false false) := by
  refine returnsInHanded_of_change (C := Try.checked) own started (by kernel_rfl) Try.func8
    (ChangeSpec.witness6 (enc := enc) (C := Try.checked) false ⟨#[], #[(.agg ⟨List.replicate 13 (.int .u8 0)⟩), (.agg ⟨List.replicate 10 (.int .u8 0)⟩)], []⟩ 8 (by kernel_rfl) (by kernel_rfl) (by kernel_rfl) (by kernel_rfl)) ?_
  intro W base args ds gs before hval0 hW hcnd _
  have hW' := hW
  obtain ⟨p, q, hA0, hV, rfl, hfz, hnd⟩ := hW
  have hA : DataW.TrodAll enc Try.prog W 0 (fun _ => true) true Try.f8.params.toList args.toList ds p := hA0
  have hlt := DataW.TrodAll.lt hA
  rw [Try.params8] at hA
  obtain ⟨rfl, rfl⟩ := trodVars_none hV
  obtain ⟨v1, vs1, d1, ds1, p1, q1, hv, rfl, rfl, h1, hA⟩ := trodAll_cons hA
  obtain ⟨v2, vs2, d2, ds2, p2, q2, rfl, rfl, rfl, h2, hA⟩ := trodAll_cons hA
  obtain ⟨hvs, rfl, rfl⟩ := trodAll_none (args := vs2.toArray) (by simpa using hA)
  obtain rfl : vs2 = [] := by simpa using hvs
  obtain rfl : args = #[v1, v2] := by
    have := congrArg List.toArray hv; simpa using this
  have hval : ∀ (j : Nat) t v, Try.f8.params[j]? = some t → (#[v1, v2] : Array Value)[j]? = some v → Value.okWide Try.prog W .any base t v := hval0
  rw [Try.params8] at hval
  have k1 := fun (W' : World) (hb : Below W.heap.size W W') => Below.trod laidOut (by kernel_rfl) (of_decide_eq_true (by kernel_rfl)) h1 hb (fun x hx => hlt x (by simp [hx]))
  obtain ⟨G1, rfl, l1, b1⟩ := open_shelf (hval 0 24 v1 rfl rfl) h1
  have k2 := fun (W' : World) (hb : Below W.heap.size W W') => Below.trod laidOut (by kernel_rfl) (of_decide_eq_true (by kernel_rfl)) h2 hb (fun x hx => hlt x (by simp [hx]))
  obtain ⟨G2, rfl, l2, b2⟩ := open_row Try.underlying22 (by kernel_rfl) (hval 1 22 v2 rfl rfl) h2
  have hc := lineTurned_any G1 G2 W l1 b1 l2 b2
  refine hc.mono fun e W' ⟨he, bel⟩ => ?_
  subst he
  exact ⟨_, rfl, _, _, _, [], _, [], hW', trodAll_mk1 (shut_bool Try.underlying4 _), trodAll_cons_mk (k1 W' bel) (trodAll_cons_mk (k2 W' bel) trodAll_mk0), rfl, bel.frame _, fun h => by cases h⟩

theorem over : Rows.lineTurnedRow.holds Try.pinned (OpenSpec.ofChange Rows.lineTurnedSpec) :=
  OpenClaim.holds_of_wide 8 Try.f8 rfl rfl rfl rfl rfl rfl rfl ⟨rfl, rfl, rfl, rfl, rfl⟩ rfl rfl rfl rfl rfl (by kernel_rfl) Try.func8 (by kernel_rfl)
    (of_decide_eq_true (by kernel_rfl)) (by unfold Func.isWrapper; first | (rw [if_pos (by decide +kernel)]; kernel_rfl) | (rw [if_neg (by decide +kernel)]; exact ⟨rfl, rfl⟩))
    (fun os started H enc _ => lifted os started H enc)

end Go.Proofs.Ytdmffkknghianaa.LineTurnedProof
namespace Go.Proofs.Ytdmffkknghianaa
theorem lineTurned_holds : Rows.LineTurnedSaid := LineTurnedProof.over
#print axioms lineTurned_holds
end Go.Proofs.Ytdmffkknghianaa

