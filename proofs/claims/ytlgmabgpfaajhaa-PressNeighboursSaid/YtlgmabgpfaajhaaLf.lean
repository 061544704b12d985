/-
  Package press's Turn as a leaf of the interpreter's runs.
-/
import Derived.Test.YtlgmabgpfaajhaaTn
import Derived.Test.YtlgmabgpfaajhaaPa
set_option linter.unusedSimpArgs false
set_option linter.unusedVariables false
namespace Go.Proofs.Ytlgmabgpfaajhaa
open Go Go.Proofs.Eng Go.RowKit
set_option maxRecDepth 100000
def ciA (p : Int × Int) : List AV := [ai p.1, ai p.2]
def ciV (p : Int × Int) : List Value := [.int .i64 p.1, .int .i64 p.2]
theorem flat_sh (zs : List (Int × Int)) : flat (zs.map shA) = zs.flatMap ciA := by
  induction zs with
  | nil => rfl
  | cons p l ih => show cellsOf (shA p) ++ flat (l.map shA) = _; rw [ih]; rfl
theorem ci_at {α : Type} {a b : (Int × Int) → α} : ∀ {zs : List (Int × Int)} {j : Nat}, j < zs.length → (zs.flatMap fun p => [a p, b p])[j * 2]? = some (a (zs.getD j (0, 0))) ∧ (zs.flatMap fun p => [a p, b p])[j * 2 + 1]? = some (b (zs.getD j (0, 0)))
  | [], j, h => by cases h
  | p :: l, 0, _ => ⟨rfl, rfl⟩
  | p :: l, j + 1, h => by
    have := ci_at (a := a) (b := b) (zs := l) (j := j) (by simpa using h)
    simp only [List.flatMap_cons, Nat.add_mul]
    exact ⟨this.1, this.2⟩
theorem ci_len {α : Type} {a b : (Int × Int) → α} (zs : List (Int × Int)) : (zs.flatMap fun p => [a p, b p]).length = zs.length * 2 := by
  induction zs with
  | nil => rfl
  | cons p l ih => simp only [List.flatMap_cons, List.length_append, ih, List.length_cons, List.length_nil]; omega
theorem ci_map (zs : List (Int × Int)) : ∀ (j : Nat) (u : Value) (x : AV), (zs.flatMap ciV)[j]? = some u → (zs.flatMap ciA)[j]? = some x → x = .v u := by
  intro j u x h1 h2
  have hj : j < zs.length * 2 := by
    have := ci_len (a := fun p => ai p.1) (b := fun p => ai p.2) zs
    have h3 := List.getElem?_eq_some_iff.1 h2
    obtain ⟨h3, _⟩ := h3
    exact Nat.lt_of_lt_of_eq h3 this
  have hm : j / 2 < zs.length := by omega
  obtain ⟨a1, a2⟩ := ci_at (a := fun p => Value.int .i64 p.1) (b := fun p => Value.int .i64 p.2) hm
  obtain ⟨b1, b2⟩ := ci_at (a := fun p => ai p.1) (b := fun p => ai p.2) hm
  rcases Nat.mod_two_eq_zero_or_one j with e | e
  · have ej : j = j / 2 * 2 := by omega
    rw [ej] at h1 h2
    have h1 := h1.symm.trans a1; have h2 := h2.symm.trans b1
    cases h1; cases h2; rfl
  · have ej : j = j / 2 * 2 + 1 := by omega
    rw [ej] at h1 h2
    have h1 := h1.symm.trans a2; have h2 := h2.symm.trans b2
    cases h1; cases h2; rfl
theorem ci_map2 (zs : List (Int × Int)) : (zs.flatMap fun p => [Value.int .i64 p.2, Value.int .i64 p.1]) = (zs.map fun p => (p.2, p.1)).flatMap ciV := by
  rw [List.flatMap_map]; rfl
theorem turn_pure (zs : List (Int × Int)) (f : Bool) (h0 : 0 < zs.length) (hlen : zs.length ≤ 1000) (hck : Pure Try.prog 35 [.sl 2 f (zs.map shA)] (ai 0)) :
    Pure Try.prog 31 [.sl 2 f (zs.map shA)] (.tup [.sl 2 false ((zs.reverse.map fun p => (p.2, p.1)).map shA), ai 0]) := by
  intro w S0 vals hl hv hS hT
  match vals, hl with
  | [u], _ =>
    have hu := hv 0 u _ rfl rfl
    have hck := hck w S0 [u] rfl hv hS hT
    cases hu with
    | sl A c s full xs us hc hf hw hl hcap hu h1 hA hN =>
      obtain ⟨g, o, rfl, hg, hAt⟩ := hA (by intro e; rw [List.map_eq_nil_iff] at e; rw [e] at h0; cases h0)
      rw [flat_sh] at hl hu
      have hcell : ∀ j x, (zs.flatMap ciA)[j]? = some (.v x) → w.cell? ⟨g, o + j, none⟩ = some x := fun j x hx => by
        have hjl : j < us.length := by rw [hl]; exact (List.getElem?_eq_some_iff.1 hx).1
        have e := List.getElem?_eq_getElem hjl
        have hx2 := v_inv (hu j _ _ e hx)
        rw [hx2] at e
        exact hAt j _ e
      have hc0 : ∀ j, j < zs.length → w.cell? ⟨g, o + j * 2, none⟩ = some (.int .i64 (zs.getD j (0, 0)).1) := fun j hj => hcell _ _ (ci_at (a := fun p => ai p.1) (b := fun p => ai p.2) hj).1
      have hc1 : ∀ j, j < zs.length → w.cell? ⟨g, o + j * 2 + 1, none⟩ = some (.int .i64 (zs.getD j (0, 0)).2) := fun j hj => hcell _ _ (ci_at (a := fun p => ai p.1) (b := fun p => ai p.2) hj).2
      rw [List.length_map] at hck ⊢
      have ht := callsIn_wide.1 (turn_in Fence.wide 10 trivial trivial trivial trivial rfl (by omega) g o c zs hlen w (hS g hg) hc0 hc1 (callsIn_wide.2 (hck.mono fun e w' ⟨v, h1, h2, h3⟩ => by cases h3; exact ⟨h1, h2⟩)))
      refine ht.mono fun e w' ⟨v, he, hrow, hbel⟩ => ⟨_, he, hbel, ?_⟩
      rw [ci_map2] at hrow
      have hzl : ((zs.reverse.map fun p => (p.2, p.1)).map shA).length = zs.length := by simp
      generalize hz2 : (zs.reverse.map fun p => ((p.2, p.1) : Int × Int)) = z2 at *
      refine .tup [v, .int .i64 0] _ rfl fun j u x h1 h2 => ?_
      match j with
      | 0 =>
        cases h1; cases h2
        rcases hrow with ⟨hrl, ⟨_, h⟩ | ⟨g2, cap2, cur, rfl, hb2, hbl, hn2, hm2, hs2, ht2⟩⟩
        · omega
        · rw [← hzl]
          have hlt : g2 < w'.heap.size := (Array.getElem?_eq_some_iff.1 hbl).1
          have hfl := flat_sh z2
          refine .sl _ cap2 2 false (z2.map shA) (z2.flatMap ciV) (by omega) (fun q => by cases q) (fun y hy => ?_) ?_ (by omega) (fun j u x h3 h4 => ?_) (fun u hu => ?_) (fun _ => ⟨g2, 0, rfl, .inr ⟨hb2, hlt⟩, fun j u h3 => ?_⟩) (by simp)
          · obtain ⟨p, _, rfl⟩ := List.mem_map.1 hy; rfl
          · rw [hfl]; exact (ci_len (a := fun p => Value.int .i64 p.1) (b := fun p => Value.int .i64 p.2) z2).trans (ci_len (a := fun p => ai p.1) (b := fun p => ai p.2) z2).symm
          · rw [hfl] at h4
            rw [ci_map z2 j u x h3 h4]; exact .v u
          · obtain ⟨p, _, hp⟩ := List.mem_flatMap.1 hu
            simp only [ciV, List.mem_cons, List.not_mem_nil, or_false] at hp
            rcases hp with rfl | rfl <;> rfl
          · rw [← ht2] at h3
            rw [List.getElem?_take] at h3
            split at h3
            · unfold World.cell?
              rw [show w'.heap[(Addr.mk g2 (0 + j) none).block]? = _ from hbl]
              simpa using h3
            · cases h3
      | 1 => cases h1; cases h2; exact .v _
      | j + 2 => simp at h1
end Go.Proofs.Ytlgmabgpfaajhaa

