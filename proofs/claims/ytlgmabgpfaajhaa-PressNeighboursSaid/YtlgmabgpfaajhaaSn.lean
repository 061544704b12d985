/-
  Opening the law's arguments: bytes by numbers that came in, as the interpreter's data.
-/
import Derived.Test.YtlgmabgpfaajhaaNc
import Derived.Test.YtlgmabgpfaajhaaPcP
import Derived.ProofKit
import Derived.OpenShut
import Derived.ShutString
import Derived.ChangeOld
import Derived.Carry
set_option linter.unusedSimpArgs false
set_option linter.unusedVariables false
namespace Go.Proofs.Ytlgmabgpfaajhaa
open Go Go.Proofs.Eng Go.RowKit Go.ChangeShapes Go.WideShapes Go.ChangeAt
set_option maxRecDepth 100000
theorem laidOut : laidOutB Try.prog = true := by kernel_rfl
theorem okWide_rowN {P : Program} {w : World} {r : Reach} {base : Nat} {t e : TypeId} {n : Nat} {v : Value} (ht : P.underlying t = some (.array n e)) (h : Value.okWide P w r base t v) : ∃ cs, v = .agg cs ∧ cs.size = P.cellsOf t := by
  simp only [Value.okWide, ht] at h
  obtain ⟨cs, h1, h2, _⟩ := h
  exact ⟨cs, h1, h2⟩
def iu8 (z : Int) : Value := .int .u8 z
theorem wf_u8 {n : Int} (h : (Lit.int .u8 n).wf = true) : 0 ≤ n ∧ n ≤ 255 := by
  obtain ⟨h0, h1⟩ := bounds_u8 h
  omega
/-- the cells of a byte, and of a row of bytes -/
theorem cell_u8 {H : Type} {enc : TypeId × Value → H} {w : World} {base : Nat} {sp : Nat → Bool} {held : Bool} {m : Nat} {cs : List Value} {y : DataW H × List MemPlace}
    (h : DataW.trod enc Try.prog w base sp held m 5 cs = some y) : ∃ z, 0 ≤ z ∧ z ≤ 255 ∧ cs = [iu8 z] := by
  obtain ⟨z, hz, _, hw⟩ := DataW.trod_int Try.underlying5 h
  obtain ⟨a, b⟩ := wf_u8 hw
  exact ⟨z, a, b, hz⟩
theorem cells_u8 : ∀ (n : Nat) (L : List Value), L.length = n → (∀ i, i < n → ∃ z, 0 ≤ z ∧ z ≤ 255 ∧ L[i]? = some (iu8 z)) → ∃ G : List Int, G.length = n ∧ (∀ x, x ∈ G → 0 ≤ x ∧ x ≤ 255) ∧ L = G.map iu8
  | 0, L, hl, _ => ⟨[], rfl, by simp, List.length_eq_zero_iff.1 hl⟩
  | n + 1, [], hl, _ => by simp at hl
  | n + 1, u :: L, hl, h => by
    obtain ⟨z, z0, z1, hz⟩ := h 0 (by omega)
    obtain ⟨G, g1, g2, g3⟩ := cells_u8 n L (by simpa using hl) fun i hi => by simpa using h (i + 1) (by omega)
    simp only [List.getElem?_cons_zero, Option.some.injEq] at hz
    refine ⟨z :: G, by simp [g1], fun x hx => ?_, by rw [hz, g3]; rfl⟩
    rcases List.mem_cons.1 hx with rfl | q
    · exact ⟨z0, z1⟩
    · exact g2 x q
theorem cut_at {L : List Value} {i n : Nat} {u : Value} (h : (L.drop i).take n = [u]) : L[i]? = some u := by
  have h1 : ((L.drop i).take n)[0]? = some u := by rw [h]; rfl
  rw [List.getElem?_take] at h1
  split at h1
  · rw [List.getElem?_drop] at h1; simpa using h1
  · cases h1
theorem row_u8 {H : Type} {enc : TypeId × Value → H} {w : World} {base : Nat} {sp : Nat → Bool} {held : Bool} {t m n : Nat} {cs : List Value} {y : DataW H × List MemPlace}
    (ht : Try.prog.underlying t = some (.array n 5)) (h : DataW.trod enc Try.prog w base sp held m t cs = some y) : ∀ i, i < n → ∃ z, 0 ≤ z ∧ z ≤ 255 ∧ cs[i]? = some (iu8 z) := by
  obtain ⟨xs, k, _, _, hl, hn, hx⟩ := DataW.trod_array ht h
  have hc1 : Try.prog.cellsOf 5 = 1 := by kernel_rfl
  intro i hi
  have h1 := hx i hi
  rw [hc1, Nat.mul_one, List.getElem?_eq_getElem (by omega)] at h1
  obtain ⟨z, z0, z1, hz⟩ := cell_u8 h1
  exact ⟨z, z0, z1, cut_at hz⟩
theorem open_row {H : Type} {enc : TypeId × Value → H} {W : World} {base b0 : Nat} {sp : Nat → Bool} {held : Bool} {t n : Nat} {v : Value} {d : DataW H} {p : List MemPlace} {r : Reach} (ht : Try.prog.underlying t = some (.array n 5)) (hc : Try.prog.cellsOf t = n)
    (hv : Value.okWide Try.prog W r b0 t v) (h : DataW.Trod enc Try.prog W base sp held t v d p) : ∃ G : List Int, v = .agg (G.map iu8).toArray ∧ G.length = n ∧ ∀ x, x ∈ G → 0 ≤ x ∧ x ≤ 255 := by
  obtain ⟨cs, rfl, hsz⟩ := okWide_rowN ht hv
  obtain ⟨fuel, hf⟩ := h
  obtain ⟨G, g1, g2, g3⟩ := cells_u8 n cs.toList (by rw [Array.length_toList, hsz, hc]) (row_u8 ht hf)
  exact ⟨G, by rw [← g3], g1, g2⟩
theorem open_byte {H : Type} {enc : TypeId × Value → H} {W : World} {base b0 : Nat} {sp : Nat → Bool} {held : Bool} {v : Value} {d : DataW H} {p : List MemPlace} {r : Reach}
    (hv : Value.okWide Try.prog W r b0 5 v) (h : DataW.Trod enc Try.prog W base sp held 5 v d p) : ∃ z, v = iu8 z ∧ 0 ≤ z ∧ z ≤ 255 := by
  obtain ⟨z, rfl, _, _, wf⟩ := open_int Try.underlying5 hv h
  exact ⟨z, rfl, wf_u8 wf⟩
theorem open_forme {H : Type} {enc : TypeId × Value → H} {W : World} {base b0 : Nat} {sp : Nat → Bool} {held : Bool} {v : Value} {d : DataW H} {p : List MemPlace} {r : Reach}
    (hv : Value.okWide Try.prog W r b0 25 v) (h : DataW.Trod enc Try.prog W base sp held 25 v d p) : ∃ G : List Int, v = .agg (G.map iu8).toArray ∧ G.length = 16 ∧ ∀ x, x ∈ G → 0 ≤ x ∧ x ≤ 255 := by
  obtain ⟨cs, rfl, hsz⟩ := okWide_struct Try.underlying25 hv
  obtain ⟨fuel, hf⟩ := h
  obtain ⟨xs, n, _, _, hl, hlen, hx⟩ := DataW.trod_struct Try.underlying25 hf
  have hcells : (Value.agg cs).cells.toList = cs.toList := rfl
  rw [hcells] at hx
  have hc16 : Try.prog.cellsOf 25 = 16 := by kernel_rfl
  have hc14 : Try.prog.cellsOf 23 = 14 := by kernel_rfl
  have hc2 : Try.prog.cellsOf 22 = 2 := by kernel_rfl
  have hc1 : Try.prog.cellsOf 5 = 1 := by kernel_rfl
  match xs, hlen with
  | [y0, y1, y2], _ =>
    have h0 := hx 0 _ rfl
    have h1 := hx 1 _ rfl
    have h2 := hx 2 _ rfl
    simp only [List.getElem_toArray, List.getElem_cons_zero, List.getElem_cons_succ, hc1, hc14] at h0 h1 h2
    obtain ⟨a, a0, a1, ha⟩ := cell_u8 h0
    obtain ⟨b, b0, b1, hb⟩ := cell_u8 h1
    obtain ⟨zs, k, _, _, zl, zn, hz⟩ := DataW.trod_array Try.underlying23 h2
    rw [hc2] at hz
    have hpt : ∀ i, i < 16 → ∃ z, 0 ≤ z ∧ z ≤ 255 ∧ cs.toList[i]? = some (iu8 z) := fun i hi => by
      match i, hi with
      | 0, _ => exact ⟨a, a0, a1, cut_at ha⟩
      | 1, _ => exact ⟨b, b0, b1, cut_at hb⟩
      | j + 2, hi =>
        have h3 := hz (j / 2) (by omega)
        rw [List.getElem?_eq_getElem (by omega)] at h3
        obtain ⟨z, z0, z1, e⟩ := row_u8 Try.underlying22 h3 (j % 2) (by omega)
        refine ⟨z, z0, z1, ?_⟩
        rw [List.getElem?_take, if_pos (by omega), List.getElem?_drop, List.getElem?_take, if_pos (by omega), List.getElem?_drop] at e
        rw [← e]
        congr 1
        show j + 2 = 2 + (j / 2 * 2 + j % 2)
        omega
    obtain ⟨G, g1, g2, g3⟩ := cells_u8 16 cs.toList (by rw [Array.length_toList, hsz, hc16]) hpt
    exact ⟨G, by rw [← g3], g1, g2⟩
theorem ok_row {S0 : Nat → Prop} {Γ : Gam} {w : World} (G : List Int) : AVok S0 Γ w (.agg (G.map iu8).toArray) (.ag (G.map u8)) :=
  .ag _ _ (by simp) (fun u hu => by obtain ⟨z, _, rfl⟩ := List.mem_map.1 hu; rfl) fun j u x h1 h2 => by
    rw [List.getElem?_map] at h1 h2
    cases h3 : G[j]? with
    | none => rw [h3] at h1; cases h1
    | some z =>
      rw [h3] at h1 h2
      simp only [Option.map_some, Option.some.injEq] at h1 h2
      rw [← h1, ← h2]
      exact .v _
theorem fo_of {G : List Int} (h : G.length = 16) (hb : ∀ x, x ∈ G → 0 ≤ x ∧ x ≤ 255) : ∃ A B E, (.ag (G.map u8) : AV) = foA A B E ∧ E.length = 7 ∧ (0 ≤ A ∧ A ≤ 255) ∧ (0 ≤ B ∧ B ≤ 255) ∧ ∀ p, p ∈ E → bS 255 p := by
  match G, h with
  | a :: n :: a0 :: b0 :: a1 :: b1 :: a2 :: b2 :: a3 :: b3 :: a4 :: b4 :: a5 :: b5 :: a6 :: b6 :: [], _ =>
    refine ⟨a, n, [(a0, b0), (a1, b1), (a2, b2), (a3, b3), (a4, b4), (a5, b5), (a6, b6)], rfl, rfl, hb a (by simp), hb n (by simp), fun p hp => ?_⟩
    simp only [List.mem_cons, List.not_mem_nil, or_false] at hp
    rcases hp with rfl | rfl | rfl | rfl | rfl | rfl | rfl <;> exact ⟨⟨(hb _ (by simp)).1, (hb _ (by simp)).2⟩, (hb _ (by simp)).1, (hb _ (by simp)).2⟩
theorem near_any (G V : List Int) (g : Int) (w : World) (hG : G.length = 16) (bG : ∀ x, x ∈ G → 0 ≤ x ∧ x ≤ 255) (hV : V.length = 7) (bV : ∀ x, x ∈ V → 0 ≤ x ∧ x ≤ 255) (bg : 0 ≤ g ∧ g ≤ 255) :
    Calls Try.prog 4 #[.agg (G.map iu8).toArray, .agg (V.map iu8).toArray, iu8 g] w fun e w' => e = .returned (.bool true) ∧ Below w.heap.size w w' := by
  obtain ⟨A, B, E, e, hE, hA, hB, hb⟩ := fo_of hG bG
  have h := near_run A B g E V hE hA hB hb hV bV bg known_run
  rw [← e] at h
  refine (h.pure orders_mixed xf_ok w (fun _ => False) [.agg (G.map iu8).toArray, .agg (V.map iu8).toArray, iu8 g] rfl (fun j u x h1 h2 => ?_) (fun b h => h.elim) (fun p hp => by obtain ⟨g, x, h, _⟩ := hp; cases h)).mono fun e w' ⟨v, h1, h2, h3⟩ => by
    cases h3
    exact ⟨h1, h2⟩
  match j with
  | 0 => cases h1; cases h2; exact ok_row G
  | 1 => cases h1; cases h2; exact ok_row V
  | 2 => cases h1; cases h2; exact .v _
  | j + 3 => simp at h1
end Go.Proofs.Ytlgmabgpfaajhaa

