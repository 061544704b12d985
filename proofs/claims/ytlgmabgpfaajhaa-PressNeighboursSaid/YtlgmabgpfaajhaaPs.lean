/-
  The law's same.
-/
import Derived.Test.YtlgmabgpfaajhaaPm
set_option linter.unusedSimpArgs false
set_option linter.unusedVariables false
namespace Go.Proofs.Ytlgmabgpfaajhaa
open Go Go.Proofs.Eng
set_option maxRecDepth 100000
set_option maxHeartbeats 1000000
def u8 (z : Int) : AV := .v (.int .u8 z)
theorem ofWE {f : Nat} {fn : XFunc} {args : List AV} {G : AV → Prop} (fuel : Nat) (hf : xf f = some fn)
    (h : W Try.prog (RelU Try.prog xf) 0 [.code fn.body] (Go.Proofs.Eng.start fn args []) fun o c => (o = .ret ∨ o = .normal) ∧ ∃ rs, fn.results.mapM (resOf Try.prog c) = some rs ∧ ∃ r, G r ∧ reify c.η fuel (retOf rs) = some r) : ∃ r, G r ∧ Runs Try.prog xf f args r := by
  obtain ⟨o, c, h1, ho, rs, h3, r, hg, h4⟩ := h
  exact ⟨r, hg, Runs.ofW fuel hf ⟨o, c, h1, ho, rs, h3, h4⟩⟩
theorem undT : pureRun Try.prog (underlying 5) = some (.int .u8) := by kernel_rfl
/-- a byte as a number -/
def rawC (x : AV) (fb : Option Res) : Option Res :=
  match x with
  | .v (.int .u8 z) => some (.val (.v (.int .i64 (IntKind.i64.wrap z))))
  | _ => fb
theorem raw_conv (dst : Nat) (c : Cfg) (x : Operand) (ty : TypeId) : stF_raw Try.prog dst c (.convert 5 3 x) ty = rawC (opA c.σ x) (rawX Try.prog dst c (.convert 5 3 x) ty) := by
  unfold rawC
  split
  · rename_i z hi
    have e1 := toVal_op hi
    unfold stF_raw
    rw [if_pos ⟨rfl, by simp [Op.operands, e1]⟩]
    have h3 : pureRun Try.prog (execOp (fun x => ((argT x).bind fun xa => toVal (evalF c.σ xa)).getD (.bool false)) { dst := none, op := .convert 5 3 x, type := ty, pos := "", after := #[], guard := none }) = some (.value (.int .i64 (IntKind.i64.wrap z))) := by
      simp only [execOp, e1, Option.getD_some, pureRun_bind, convert, undT, und1, Option.bind_some, Conv.intToInt, pureRun_pure]
    rw [h3]; rfl
  · rfl
theorem set_get {L : List Int} {j k : Nat} {v : Int} (h : k < L.length) : (L.set k v).getD j 0 = if k = j then v else L.getD j 0 := by
  rw [List.getD_eq_getElem?_getD, List.getElem?_set, List.getD_eq_getElem?_getD]
  by_cases e : k = j
  · rw [if_pos e, if_pos e, if_pos h]; rfl
  · rw [if_neg e, if_neg e]
/-- the first so many are numbers below i, each once -/
def InvO (T : List Int) (i : Nat) : Prop := (∀ a, a < i → 0 ≤ T.getD a 0 ∧ T.getD a 0 < i) ∧ ∀ a b, a < b → b < i → T.getD a 0 ≠ T.getD b 0
/-- the list after place i is exchanged with place k -/
def swpL (T : List Int) (i k : Nat) : List Int := ((T.set i (i : Int)).set i ((T.set i (i : Int)).getD k 0)).set k (i : Int)
theorem swp_get {T : List Int} {i k : Nat} (hi : i < T.length) (hk : k ≤ i) (a : Nat) : (swpL T i k).getD a 0 = if k = a then (i : Int) else if i = a then T.getD k 0 else T.getD a 0 := by
  unfold swpL
  rw [set_get (by simp; omega), set_get (by simp; omega), set_get hi, set_get hi]
  by_cases h1 : k = a
  · rw [if_pos h1, if_pos h1]
  · rw [if_neg h1, if_neg h1]
    by_cases h2 : i = a
    · rw [if_pos h2, if_pos h2, if_neg (by omega)]
    · rw [if_neg h2, if_neg h2, if_neg h2]
theorem swp_inv {T : List Int} {i k : Nat} (hi : i < T.length) (hk : k ≤ i) (h : InvO T i) : InvO (swpL T i k) (i + 1) := by
  obtain ⟨h1, h2⟩ := h
  refine ⟨fun a ha => ?_, fun a b hab hb => ?_⟩
  · rw [swp_get hi hk]
    by_cases e1 : k = a
    · rw [if_pos e1]; omega
    · rw [if_neg e1]
      by_cases e2 : i = a
      · rw [if_pos e2]; have := h1 k (by omega); omega
      · rw [if_neg e2]; have := h1 a (by omega); omega
  · rw [swp_get hi hk, swp_get hi hk]
    by_cases e1 : k = a
    · rw [if_pos e1, if_neg (by omega)]
      by_cases e2 : i = b
      · rw [if_pos e2]; have := h1 k (by omega); omega
      · rw [if_neg e2]; have := h1 b (by omega); omega
    · rw [if_neg e1, if_neg (show ¬ i = a by omega)]
      by_cases e3 : k = b
      · rw [if_pos e3]; have := h1 a (by omega); omega
      · rw [if_neg e3]
        by_cases e2 : i = b
        · rw [if_pos e2]
          rcases Nat.lt_trichotomy a k with q | q | q
          · exact h2 a k q (by omega)
          · omega
          · exact fun e => h2 k a q (by omega) e.symm
        · rw [if_neg e2]; exact h2 a b hab (by omega)
theorem inv_ok {T : List Int} (h : InvO T T.length) : okO T.length T ∧ okD T := by
  refine ⟨fun x hx => ?_, fun i hi hm => ?_⟩
  · obtain ⟨j, hj, rfl⟩ := List.getElem_of_mem hx
    have e : T.getD j 0 = T[j] := by rw [List.getD_eq_getElem?_getD, List.getElem?_eq_getElem hj]; rfl
    rw [← e]; exact h.1 j hj
  · obtain ⟨j, hj, e⟩ := List.getElem_of_mem hm
    rw [List.length_take] at hj
    rw [List.getElem_take] at e
    have e2 : T.getD j 0 = T[j] := by rw [List.getD_eq_getElem?_getD, List.getElem?_eq_getElem (by omega)]; rfl
    exact h.2 j i (by omega) hi (by rw [e2]; exact e)
end Go.Proofs.Ytlgmabgpfaajhaa

