/-
  Opening the law's arguments: bytes by numbers that came in, as the interpreter's data.
-/
import Derived.Test.YtdmffkknghianaaMq
import Derived.ProofKit
import Derived.OpenShut
import Derived.ShutString
import Derived.ChangeOld
import Derived.Carry
set_option linter.unusedSimpArgs false
set_option linter.unusedVariables false
namespace Go.Proofs.Ytdmffkknghianaa
open Go Go.Proofs.Eng Go.RowKit Go.ChangeShapes Go.WideShapes Go.ChangeAt
set_option maxRecDepth 100000
theorem laidOut : laidOutB Try.prog = true := by kernel_rfl
theorem okWide_rowN {P : Program} {w : World} {r : Reach} {base : Nat} {t e : TypeId} {n : Nat} {v : Value} (ht : P.underlying t = some (.array n e)) (h : Value.okWide P w r base t v) : ∃ cs, v = .agg cs ∧ cs.size = P.cellsOf t := by
  simp only [Value.okWide, ht] at h
  obtain ⟨cs, h1, h2, _⟩ := h
  exact ⟨cs, h1, h2⟩
def iu8 (z : Int) : Value := .int .u8 z
theorem wf_u8 {n : Int} (h : (Lit.int .u8 n).wf = true) : 0 ≤ n ∧ n ≤ 255 := by
  obtain ⟨h0, h1⟩ := bounds_u8 h
  omega
/-- the cells of a byte, and of a row of bytes -/
theorem cell_u8 {H : Type} {enc : TypeId × Value → H} {w : World} {base : Nat} {sp : Nat → Bool} {held : Bool} {m : Nat} {cs : List Value} {y : DataW H × List MemPlace}
    (h : DataW.trod enc Try.prog w base sp held m 5 cs = some y) : ∃ z, 0 ≤ z ∧ z ≤ 255 ∧ cs = [iu8 z] := by
  obtain ⟨z, hz, _, hw⟩ := DataW.trod_int Try.underlying5 h
  obtain ⟨a, b⟩ := wf_u8 hw
  exact ⟨z, a, b, hz⟩
theorem cells_u8 : ∀ (n : Nat) (L : List Value), L.length = n → (∀ i, i < n → ∃ z, 0 ≤ z ∧ z ≤ 255 ∧ L[i]? = some (iu8 z)) → ∃ G : List Int, G.length = n ∧ (∀ x, x ∈ G → 0 ≤ x ∧ x ≤ 255) ∧ L = G.map iu8
  | 0, L, hl, _ => ⟨[], rfl, by simp, List.length_eq_zero_iff.1 hl⟩
  | n + 1, [], hl, _ => by simp at hl
  | n + 1, u :: L, hl, h => by
    obtain ⟨z, z0, z1, hz⟩ := h 0 (by omega)
    obtain ⟨G, g1, g2, g3⟩ := cells_u8 n L (by simpa using hl) fun i hi => by simpa using h (i + 1) (by omega)
    simp only [List.getElem?_cons_zero, Option.some.injEq] at hz
    refine ⟨z :: G, by simp [g1], fun x hx => ?_, by rw [hz, g3]; rfl⟩
    rcases List.mem_cons.1 hx with rfl | q
    · exact ⟨z0, z1⟩
    · exact g2 x q
theorem cut_at {L : List Value} {i n : Nat} {u : Value} (h : (L.drop i).take n = [u]) : L[i]? = some u := by
  have h1 : ((L.drop i).take n)[0]? = some u := by rw [h]; rfl
  rw [List.getElem?_take] at h1
  split at h1
  · rw [List.getElem?_drop] at h1; simpa using h1
  · cases h1
theorem row_u8 {H : Type} {enc : TypeId × Value → H} {w : World} {base : Nat} {sp : Nat → Bool} {held : Bool} {t m n : Nat} {cs : List Value} {y : DataW H × List MemPlace}
    (ht : Try.prog.underlying t = some (.array n 5)) (h : DataW.trod enc Try.prog w base sp held m t cs = some y) : ∀ i, i < n → ∃ z, 0 ≤ z ∧ z ≤ 255 ∧ cs[i]? = some (iu8 z) := by
  obtain ⟨xs, k, _, _, hl, hn, hx⟩ := DataW.trod_array ht h
  have hc1 : Try.prog.cellsOf 5 = 1 := by kernel_rfl
  intro i hi
  have h1 := hx i hi
  rw [hc1, Nat.mul_one, List.getElem?_eq_getElem (by omega)] at h1
  obtain ⟨z, z0, z1, hz⟩ := cell_u8 h1
  exact ⟨z, z0, z1, cut_at hz⟩
theorem open_row {H : Type} {enc : TypeId × Value → H} {W : World} {base b0 : Nat} {sp : Nat → Bool} {held : Bool} {t n : Nat} {v : Value} {d : DataW H} {p : List MemPlace} {r : Reach} (ht : Try.prog.underlying t = some (.array n 5)) (hc : Try.prog.cellsOf t = n)
    (hv : Value.okWide Try.prog W r b0 t v) (h : DataW.Trod enc Try.prog W base sp held t v d p) : ∃ G : List Int, v = .agg (G.map iu8).toArray ∧ G.length = n ∧ ∀ x, x ∈ G → 0 ≤ x ∧ x ≤ 255 := by
  obtain ⟨cs, rfl, hsz⟩ := okWide_rowN ht hv
  obtain ⟨fuel, hf⟩ := h
  obtain ⟨G, g1, g2, g3⟩ := cells_u8 n cs.toList (by rw [Array.length_toList, hsz, hc]) (row_u8 ht hf)
  exact ⟨G, by rw [← g3], g1, g2⟩
theorem open_byte {H : Type} {enc : TypeId × Value → H} {W : World} {base b0 : Nat} {sp : Nat → Bool} {held : Bool} {v : Value} {d : DataW H} {p : List MemPlace} {r : Reach}
    (hv : Value.okWide Try.prog W r b0 5 v) (h : DataW.Trod enc Try.prog W base sp held 5 v d p) : ∃ z, v = iu8 z ∧ 0 ≤ z ∧ z ≤ 255 := by
  obtain ⟨z, rfl, _, _, wf⟩ := open_int Try.underlying5 hv h
  exact ⟨z, rfl, wf_u8 wf⟩
/-- the cells of a byte, and of a row of bytes -/
theorem open_shelf {H : Type} {enc : TypeId × Value → H} {W : World} {base b0 : Nat} {sp : Nat → Bool} {held : Bool} {v : Value} {d : DataW H} {p : List MemPlace} {r : Reach}
    (hv : Value.okWide Try.prog W r b0 24 v) (h : DataW.Trod enc Try.prog W base sp held 24 v d p) : ∃ G : List Int, v = .agg (G.map iu8).toArray ∧ G.length = 13 ∧ ∀ x, x ∈ G → 0 ≤ x ∧ x ≤ 255 := by
  obtain ⟨cs, rfl, hsz⟩ := okWide_struct Try.underlying24 hv
  obtain ⟨fuel, hf⟩ := h
  obtain ⟨xs, n, _, _, hl, hlen, hx⟩ := DataW.trod_struct Try.underlying24 hf
  have hcells : (Value.agg cs).cells.toList = cs.toList := rfl
  rw [hcells] at hx
  have hc13 : Try.prog.cellsOf 24 = 13 := by kernel_rfl
  have hc10 : Try.prog.cellsOf 22 = 10 := by kernel_rfl
  have hc1 : Try.prog.cellsOf 5 = 1 := by kernel_rfl
  match xs, hlen with
  | [y0, y1, y2, y3], _ =>
    have h0 := hx 0 _ rfl
    have h1 := hx 1 _ rfl
    have h2 := hx 2 _ rfl
    have h3 := hx 3 _ rfl
    simp only [List.getElem_toArray, List.getElem_cons_zero, List.getElem_cons_succ, hc1, hc10] at h0 h1 h2 h3
    obtain ⟨a, a0, a1, ha⟩ := cell_u8 h0
    obtain ⟨b, b0, b1, hb⟩ := cell_u8 h1
    obtain ⟨c, c0, c1, hc⟩ := cell_u8 h2
    have r3 := row_u8 (n := 10) Try.underlying22 h3
    have hpt : ∀ i, i < 13 → ∃ z, 0 ≤ z ∧ z ≤ 255 ∧ cs.toList[i]? = some (iu8 z) := fun i hi => by
      match i, hi with
      | 0, _ => exact ⟨a, a0, a1, cut_at ha⟩
      | 1, _ => exact ⟨b, b0, b1, cut_at hb⟩
      | 2, _ => exact ⟨c, c0, c1, cut_at hc⟩
      | j + 3, hi =>
        obtain ⟨z, z0, z1, e⟩ := r3 j (by omega)
        refine ⟨z, z0, z1, ?_⟩
        rw [List.getElem?_take, if_pos (by omega), List.getElem?_drop] at e
        rw [← e]
        congr 1
        omega
    obtain ⟨G, g1, g2, g3⟩ := cells_u8 13 cs.toList (by rw [Array.length_toList, hsz, hc13]) hpt
    exact ⟨G, by rw [← g3], g1, g2⟩
theorem ok_row {S0 : Nat → Prop} {Γ : Gam} {w : World} (G : List Int) : AVok S0 Γ w (.agg (G.map iu8).toArray) (.ag (G.map u8)) :=
  .ag _ _ (by simp) (fun u hu => by obtain ⟨z, _, rfl⟩ := List.mem_map.1 hu; rfl) fun j u x h1 h2 => by
    rw [List.getElem?_map] at h1 h2
    cases h3 : G[j]? with
    | none => rw [h3] at h1; cases h1
    | some z =>
      rw [h3] at h1 h2
      simp only [Option.map_some, Option.some.injEq] at h1 h2
      rw [← h1, ← h2]
      exact .v _
theorem gal_of {G : List Int} (h : G.length = 13) (hb : ∀ x, x ∈ G → 0 ≤ x ∧ x ≤ 255) : ∃ a b e H, (.ag (G.map u8) : AV) = gal a b e H ∧ H.length = 10 ∧ (0 ≤ a ∧ a ≤ 255) ∧ (0 ≤ b ∧ b ≤ 255) ∧ (0 ≤ e ∧ e ≤ 255) ∧ ∀ x, x ∈ H → 0 ≤ x ∧ x ≤ 255 := by
  match G, h with
  | a :: b :: c :: T, hT =>
    have hT : T.length = 10 := by simpa using hT
    exact ⟨a, b, c, T, rfl, hT, hb a (by simp), hb b (by simp), hb c (by simp), fun x hx => hb x (List.mem_cons_of_mem _ (List.mem_cons_of_mem _ (List.mem_cons_of_mem _ hx)))⟩
theorem ok_u8 {S0 : Nat → Prop} {Γ : Gam} {w : World} (z : Int) : AVok S0 Γ w (iu8 z) (u8 z) := .v _
end Go.Proofs.Ytdmffkknghianaa

