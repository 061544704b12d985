/-
  'ShortApart' returns true at any arguments, and nothing that was there is written.
  CONDITIONS: none.
-/
import Derived.Test.YtalildjhighlhaaRows
import Derived.Test.YtalildjhighlhaaOpen
import Derived.Test.YtalildjhighlhaaApartLaw
import Derived.Test.YtalildjhighlhaaOpenC
namespace Go.Proofs.Ytalildjhighlhaa.ShortApartProof
open Go.ChangeShapes Go.WideShapes Go.ChangeAt Go.RowKit
open Go.ChangeMaps (open_string shut_string)
set_option linter.unusedVariables false

theorem own : ownKnob Try.prog.godebug = none := by kernel_rfl

set_option maxRecDepth 100000 in
set_option maxHeartbeats 400000 in
theorem lifted (os : Os) (started : os.Started) (H : Type) (enc : TypeId × Value → H) :
    ReturnsInHanded {} Try.checked os 6 .any (Rows.shortApartSpec.pre6 enc Try.prog Try.f6 Rows.shortApartRow.domain false) (Rows.shortApartSpec.post enc Try.prog Try.f6 false true false false) := by
  refine returnsInHanded_of_change (C := Try.checked) own started (by kernel_rfl) Try.func6
    (ChangeSpec.witness6 (enc := enc) (C := Try.checked) false ⟨#[], #[(.string ByteArray.empty), (.string ByteArray.empty), (.int .i64 0), (.slice none 0 0), (.int .i64 0)], []⟩ 8 (by kernel_rfl) (by kernel_rfl) (by kernel_rfl) (by kernel_rfl)) ?_
  intro W base args ds gs before hval0 hW hcnd _
  have hW' := hW
  obtain ⟨p, q, hA0, hV, rfl, hfz, hnd⟩ := hW
  have hA : DataW.TrodAll enc Try.prog W 0 (fun _ => true) true Try.f6.params.toList args.toList ds p := hA0
  have hlt := DataW.TrodAll.lt hA
  rw [Try.params6] at hA
  obtain ⟨rfl, rfl⟩ := trodVars_none hV
  obtain ⟨v1, vs1, d1, ds1, p1, q1, hv, rfl, rfl, h1, hA⟩ := trodAll_cons hA
  obtain ⟨v2, vs2, d2, ds2, p2, q2, rfl, rfl, rfl, h2, hA⟩ := trodAll_cons hA
  obtain ⟨v3, vs3, d3, ds3, p3, q3, rfl, rfl, rfl, h3, hA⟩ := trodAll_cons hA
  obtain ⟨v4, vs4, d4, ds4, p4, q4, rfl, rfl, rfl, h4, hA⟩ := trodAll_cons hA
  obtain ⟨v5, vs5, d5, ds5, p5, q5, rfl, rfl, rfl, h5, hA⟩ := trodAll_cons hA
  obtain ⟨hvs, rfl, rfl⟩ := trodAll_none (args := vs5.toArray) (by simpa using hA)
  obtain rfl : vs5 = [] := by simpa using hvs
  obtain rfl : args = #[v1, v2, v3, v4, v5] := by
    have := congrArg List.toArray hv; simpa using this
  have hval : ∀ (j : Nat) t v, Try.f6.params[j]? = some t → (#[v1, v2, v3, v4, v5] : Array Value)[j]? = some v → Value.okWide Try.prog W .any base t v := hval0
  rw [Try.params6] at hval
  have k1 := fun (W' : World) (hb : Below W.heap.size W W') => Below.trod laidOut (by kernel_rfl) (of_decide_eq_true (by kernel_rfl)) h1 hb (fun x hx => hlt x (by simp [hx]))
  obtain ⟨s1, rfl, _, _, ws1⟩ := open_string Try.underlying9 (hval 0 9 v1 rfl rfl) h1
  have e1 : (⟨s1.data.toList.toArray⟩ : ByteArray) = s1 := by cases s1; simp
  have k2 := fun (W' : World) (hb : Below W.heap.size W W') => Below.trod laidOut (by kernel_rfl) (of_decide_eq_true (by kernel_rfl)) h2 hb (fun x hx => hlt x (by simp [hx]))
  obtain ⟨s2, rfl, _, _, ws2⟩ := open_string Try.underlying9 (hval 1 9 v2 rfl rfl) h2
  have e2 : (⟨s2.data.toList.toArray⟩ : ByteArray) = s2 := by cases s2; simp
  have k3 := fun (W' : World) (hb : Below W.heap.size W W') => Below.trod laidOut (by kernel_rfl) (of_decide_eq_true (by kernel_rfl)) h3 hb (fun x hx => hlt x (by simp [hx]))
  obtain ⟨n3, rfl, _, _, wf3⟩ := open_int Try.underlying3 (hval 2 3 v3 rfl rfl) h3
  have k4 := fun (W' : World) (hb : Below W.heap.size W W') => Below.trod laidOut (by kernel_rfl) (of_decide_eq_true (by kernel_rfl)) h4 hb (fun x hx => hlt x (by simp [hx]))
  obtain ⟨A4, len4, cap4, ss4, rfl, hS4⟩ := open_strs (hval 3 36 v4 rfl rfl) h4
  have k5 := fun (W' : World) (hb : Below W.heap.size W W') => Below.trod laidOut (by kernel_rfl) (of_decide_eq_true (by kernel_rfl)) h5 hb (fun x hx => hlt x (by simp [hx]))
  obtain ⟨n5, rfl, _, _, wf5⟩ := open_int Try.underlying3 (hval 4 3 v5 rfl rfl) h5
  have hc := apartLaw_any s1.data.toList s2.data.toList n3 A4 len4 cap4 ss4 n5 W (Nat.le_trans (Nat.le_of_eq Array.length_toList) ws1) (Nat.le_trans (Nat.le_of_eq Array.length_toList) ws2) hS4.1 hS4.2.1 hS4.2.2
  rw [e1, e2] at hc
  refine hc.mono fun e W' ⟨he, bel⟩ => ?_
  subst he
  exact ⟨_, rfl, _, _, _, [], _, [], hW', trodAll_mk1 (shut_bool Try.underlying4 _), trodAll_cons_mk (k1 W' bel) (trodAll_cons_mk (k2 W' bel) (trodAll_cons_mk (k3 W' bel) (trodAll_cons_mk (k4 W' bel) (trodAll_cons_mk (k5 W' bel) trodAll_mk0)))), rfl, bel.frame _, fun h => by cases h⟩

theorem over : Rows.shortApartRow.holds Try.pinned (OpenSpec.ofChange Rows.shortApartSpec) :=
  OpenClaim.holds_of_wide 6 Try.f6 rfl rfl rfl rfl rfl rfl rfl ⟨rfl, rfl, rfl, rfl, rfl⟩ rfl rfl rfl rfl rfl (by kernel_rfl) Try.func6 (by kernel_rfl)
    (of_decide_eq_true (by kernel_rfl)) (by unfold Func.isWrapper; first | (rw [if_pos (by decide +kernel)]; kernel_rfl) | (rw [if_neg (by decide +kernel)]; exact ⟨rfl, rfl⟩))
    (fun os started H enc _ => lifted os started H enc)

end Go.Proofs.Ytalildjhighlhaa.ShortApartProof
namespace Go.Proofs.Ytalildjhighlhaa
theorem shortApart_holds : Rows.ShortApartSaid := ShortApartProof.over
#print axioms shortApart_holds
end Go.Proofs.Ytalildjhighlhaa
