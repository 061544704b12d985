/-
  'TopPiled' returns true at any arguments, and nothing that was there is written.
  CONDITIONS: none.
-/
import Derived.Test.YthhhibpnhokjfabRows
import Derived.Test.YthhhibpnhokjfabRt
import Derived.ProofKit
import Derived.OpenShut
import Derived.ShutString
import Derived.ChangeOld
import Derived.Carry
set_option linter.unusedSimpArgs false
set_option linter.unusedVariables false
namespace Go.Proofs.Ythhhibpnhokjfab
open Go Go.Proofs.Eng Go.RowKit Go.ChangeShapes Go.WideShapes Go.ChangeAt
set_option maxRecDepth 100000
theorem laidOut : laidOutB Try.prog = true := by kernel_rfl
theorem orders_mixed : Try.prog.follows .mixedOrders = true := by kernel_rfl
def iu8 (z : Int) : Value := .int .u8 z
theorem open_byte {H : Type} {enc : TypeId × Value → H} {W : World} {base b0 : Nat} {sp : Nat → Bool} {held : Bool} {v : Value} {d : DataW H} {p : List MemPlace} {r : Reach}
    (hv : Value.okWide Try.prog W r b0 5 v) (h : DataW.Trod enc Try.prog W base sp held 5 v d p) : ∃ z, v = iu8 z ∧ 0 ≤ z ∧ z ≤ 255 := by
  obtain ⟨z, rfl, _, _, wf⟩ := open_int Try.underlying5 hv h
  obtain ⟨h0, h1⟩ := bounds_u8 wf
  exact ⟨z, rfl, by omega, by omega⟩
theorem piled_any (m b : Int) (w : World) (bm : 0 ≤ m ∧ m ≤ 255) :
    Calls Try.prog 3 #[iu8 m, iu8 b] w fun e w' => e = .returned (.bool true) ∧ Below w.heap.size w w' := by
  refine ((piled_run m b bm).pure orders_mixed xf_ok w (fun _ => False) [iu8 m, iu8 b] rfl (fun j u x h1 h2 => ?_) (fun b h => h.elim)).mono fun e w' ⟨v, h1, h2, h3⟩ => by
    cases h3
    exact ⟨h1, h2⟩
  match j with
  | 0 => cases h1; cases h2; exact .v _
  | 1 => cases h1; cases h2; exact .v _
  | j + 2 => simp at h1
end Go.Proofs.Ythhhibpnhokjfab
namespace Go.Proofs.Ythhhibpnhokjfab.TopPiledProof
open Go.ChangeShapes Go.WideShapes Go.ChangeAt Go.RowKit
open Go.ChangeMaps (open_string shut_string)
set_option linter.unusedVariables false

theorem own : ownKnob Try.prog.godebug = none := by kernel_rfl

set_option maxRecDepth 100000 in
set_option maxHeartbeats 400000 in
theorem lifted (os : Os) (started : os.Started) (H : Type) (enc : TypeId × Value → H) :
    ReturnsInHanded {} Try.checked os 3 .any (Rows.topPiledSpec.pre6 enc Try.prog Try.f3 Rows.topPiledRow.domain false) (Rows.topPiledSpec.post enc Try.prog Try.f3 false true false false) := by
  refine returnsInHanded_of_change (C := Try.checked) own started (by kernel_rfl) Try.func3
    (ChangeSpec.witness6 (enc := enc) (C := Try.checked) false ⟨#[], #[(.int .u8 0), (.int .u8 0)], []⟩ 8 (by kernel_rfl) (by kernel_rfl) (by kernel_rfl) (by kernel_rfl)) ?_
  intro W base args ds gs before hval0 hW hcnd _
  have hW' := hW
  obtain ⟨p, q, hA0, hV, rfl, hfz, hnd⟩ := hW
  have hA : DataW.TrodAll enc Try.prog W 0 (fun _ => true) true Try.f3.params.toList args.toList ds p := hA0
  have hlt := DataW.TrodAll.lt hA
  rw [Try.params3] at hA
  obtain ⟨rfl, rfl⟩ := trodVars_none hV
  obtain ⟨v1, vs1, d1, ds1, p1, q1, hv, rfl, rfl, h1, hA⟩ := trodAll_cons hA
  obtain ⟨v2, vs2, d2, ds2, p2, q2, rfl, rfl, rfl, h2, hA⟩ := trodAll_cons hA
  obtain ⟨hvs, rfl, rfl⟩ := trodAll_none (args := vs2.toArray) (by simpa using hA)
  obtain rfl : vs2 = [] := by simpa using hvs
  obtain rfl : args = #[v1, v2] := by
    have := congrArg List.toArray hv; simpa using this
  have hval : ∀ (j : Nat) t v, Try.f3.params[j]? = some t → (#[v1, v2] : Array Value)[j]? = some v → Value.okWide Try.prog W .any base t v := hval0
  rw [Try.params3] at hval
  have k1 := fun (W' : World) (hb : Below W.heap.size W W') => Below.trod laidOut (by kernel_rfl) (of_decide_eq_true (by kernel_rfl)) h1 hb (fun x hx => hlt x (by simp [hx]))
  obtain ⟨z1, rfl, b1⟩ := open_byte (hval 0 5 v1 rfl rfl) h1
  have k2 := fun (W' : World) (hb : Below W.heap.size W W') => Below.trod laidOut (by kernel_rfl) (of_decide_eq_true (by kernel_rfl)) h2 hb (fun x hx => hlt x (by simp [hx]))
  obtain ⟨z2, rfl, b2⟩ := open_byte (hval 1 5 v2 rfl rfl) h2
  have hc := piled_any z1 z2 W b1
  refine hc.mono fun e W' ⟨he, bel⟩ => ?_
  subst he
  exact ⟨_, rfl, _, _, _, [], _, [], hW', trodAll_mk1 (shut_bool Try.underlying4 _), trodAll_cons_mk (k1 W' bel) (trodAll_cons_mk (k2 W' bel) trodAll_mk0), rfl, bel.frame _, fun h => by cases h⟩

theorem over : Rows.topPiledRow.holds Try.pinned (OpenSpec.ofChange Rows.topPiledSpec) :=
  OpenClaim.holds_of_wide 3 Try.f3 rfl rfl rfl rfl rfl rfl rfl ⟨rfl, rfl, rfl, rfl, rfl⟩ rfl rfl rfl rfl rfl (by kernel_rfl) Try.func3 (by kernel_rfl)
    (of_decide_eq_true (by kernel_rfl)) (by unfold Func.isWrapper; first | (rw [if_pos (by decide +kernel)]; kernel_rfl) | (rw [if_neg (by decide +kernel)]; exact ⟨rfl, rfl⟩))
    (fun os started H enc _ => lifted os started H enc)

end Go.Proofs.Ythhhibpnhokjfab.TopPiledProof
namespace Go.Proofs.Ythhhibpnhokjfab
theorem topPiled_holds : Rows.TopPiledSaid := TopPiledProof.over
#print axioms topPiled_holds
end Go.Proofs.Ythhhibpnhokjfab

