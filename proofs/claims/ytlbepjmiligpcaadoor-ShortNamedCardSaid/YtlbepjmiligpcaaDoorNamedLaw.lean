/-
  The walk of ShortNamed: it returns true at any two words by numbers and any six numbers.
-/
import Derived.Test.YtlbepjmiligpcaaDoorMadeH
import Derived.Test.YtlbepjmiligpcaaDoorNamedM
import Derived.Test.YtlbepjmiligpcaaDoorMapS
import Derived.Test.YtlbepjmiligpcaaDoorOpenS
import Derived.Test.YtlbepjmiligpcaaDoorWorks
import Derived.Deep.QuietTactic
import Derived.Deep.RegionHeld3
import Derived.Lib.SlBytesConst
set_option linter.unusedSimpArgs false
set_option linter.unusedVariables false
namespace Go.Proofs.YtlbepjmiligpcaaDoor
open Go.RowKit Go.Lib Go.Proofs.Short

/-- six letters in a block, that may be written -/
def LetAt (w : World) (g : Nat) (tl : List UInt8) : Prop :=
  g < w.heap.size ∧ ∀ j, j < tl.length → w.cell? ⟨g, j, none⟩ = some (.int .u8 ((tl.getD j 0).toNat : Int)) ∧ w.frozen? ⟨g, j, none⟩ = false
theorem LetAt.keep {w w' : World} {g : Nat} {tl : List UInt8} (h : LetAt w g tl) (hb : ∀ k, k < w.heap.size → w'.heap[k]? = w.heap[k]?) (hz : w.heap.size ≤ w'.heap.size) : LetAt w' g tl :=
  ⟨Nat.lt_of_lt_of_le h.1 hz, fun j hj => ⟨(World.cell?_of_block (w := w) (a := ⟨g, j, none⟩) (hb g h.1)).trans (h.2 j hj).1, (World.frozen?_of_block (w := w) (a := ⟨g, j, none⟩) (hb g h.1)).trans (h.2 j hj).2⟩⟩
theorem LetAt.set {w : World} {g : Nat} {tl : List UInt8} (h : LetAt w g tl) (j : Nat) (hj : j < tl.length) (c : UInt8) : LetAt (w.setCell ⟨g, j, none⟩ (.int .u8 (c.toNat : Int))) g (tl.set j c) := by
  refine ⟨by simpa [World.setCell] using h.1, fun i hi => ?_⟩
  rw [List.length_set] at hi
  refine ⟨?_, by rw [World.frozen?_setCell]; exact (h.2 i hi).2⟩
  by_cases e : i = j
  · subst e
    rw [World.cell?_setCell_same _ _ _ (h.2 i hi).1, List.getD_eq_getElem?_getD, List.getElem?_set_self hi]; rfl
  · rw [World.cell?_setCell_other _ _ _ _ (by intro e'; injection e' with _ e' _; exact e e'.symm), (h.2 i hi).1, List.getD_eq_getElem?_getD, List.getD_eq_getElem?_getD, List.getElem?_set_ne (fun e' => e e'.symm)]
set_option maxRecDepth 100000 in
set_option maxHeartbeats 1000000 in
/-- the inner closure: the new name of a letter -/
theorem clo_any (tl : List UInt8) (hs : Six tl) (g p c0 : Nat) (c : UInt8) (hc : c ∈ alphaL 6) (w : World) (hp : w.cell? ⟨p, 0, none⟩ = some (.slice (some ⟨g, 0, none⟩) 6 c0)) (hl : LetAt w g tl) :
    Calls Tryd.prog 6 #[.int .i32 c.toNat, .pointer (some ⟨p, 0, none⟩)] w fun e w' => e = .returned (.int .i32 (nameL tl c).toNat) ∧ w' = w := by
  have hn := alpha6_nat hc
  obtain ⟨k, hk⟩ : ∃ k, c.toNat = 97 + k := ⟨c.toNat - 97, by omega⟩
  have hk6 : k < 6 := by omega
  have hcell := (hl.2 k (by rw [hs.1]; exact hk6)).1
  have hnm : nameL tl c = tl.getD k 0 := by unfold nameL; rw [hk, show 97 + k - 97 = k by omega]
  rw [hnm]
  have hlt : (tl.getD k 0).toNat < 256 := by have := (tl.getD k 0).toNat_lt; omega
  generalize tl.getD k 0 = d at hcell hlt ⊢
  obtain ⟨dn, hdn⟩ : ∃ dn, d.toNat = dn := ⟨_, rfl⟩
  rw [hdn] at hcell hlt ⊢
  have e1 : (c.toNat : Int) - 97 = (k : Int) := by omega
  rw [show (c.toNat : Int) = 97 + (k : Int) by omega]
  have e2 : (97 : Int) + (k : Int) - 97 = (k : Int) := by omega
  have e3 : IntKind.i32.wrap (dn : Int) = (dn : Int) := by rw [IntKind.wrap_i32]; omega
  clear e1 hk hn hnm hdn
  go_enter Tryd.func6, Tryd.ntmps6
  go_wp2_with (fail)
  go_ret
  exact ⟨rfl, rfl⟩
set_option maxRecDepth 100000 in
set_option maxHeartbeats 1000000 in
/-- the outer closure: a word with other letters -/
theorem move_any (tl : List UInt8) (hs : Six tl) (g p c0 : Nat) (l : List UInt8) (hl10 : l.length ≤ 100) (hin : ∀ c ∈ l, c ∈ alphaL 6) (w : World) (hp : w.cell? ⟨p, 0, none⟩ = some (.slice (some ⟨g, 0, none⟩) 6 c0)) (hpl : p < w.heap.size) (hl : LetAt w g tl) :
    Calls Tryd.prog 4 #[.string ⟨l.toArray⟩, .pointer (some ⟨p, 0, none⟩)] w fun e w' => e = .returned (.string ⟨(l.map (nameL tl)).toArray⟩) ∧ Below w.heap.size w w' := by
  have h128 : ∀ c ∈ l, c.toNat < 128 := fun c hc => by have := alpha6_nat (hin c hc); omega
  have hren := ren_of hs
  have hf : ∀ c ∈ l, (nameL tl c).toNat < 128 := fun c hc => by have := alpha6_nat (hren.1 c (hin c hc)); omega
  have hclo : MapS.CloC l (nameL tl) p w := fun W c hc hb => clo_any tl hs g p c0 c (hin c hc) W ((hb.cell (p := ⟨p, 0, none⟩) hpl).trans hp) (hl.keep hb.block hb.size)
  have hm := MapS.mapA_any l (nameL tl) p w hl10 h128 hf hclo
  unfold MapS.ValC at hm
  generalize (⟨l.toArray⟩ : ByteArray) = s at hm ⊢
  generalize (⟨(l.map (nameL tl)).toArray⟩ : ByteArray) = s2 at hm ⊢
  clear h128 hf hclo hren hin hl hp
  go_enter Tryd.func4, Tryd.ntmps4
  go_wp2_with (fail)
  refine hm.mono ?_; rintro e w2 ⟨rfl, hb2⟩
  go_wp2_with (fail)
  go_ret
  exact ⟨rfl, hb2⟩
/-- the eleven cells of a word by numbers -/
theorem slip_eleven {cs : Array Value} {m : Nat} {ls : List Nat} (h : IsSlip cs m ls) : ∃ a0 a1 a2 a3 a4 a5 a6 a7 a8 a9 a10 : Value, cs = #[a0, a1, a2, a3, a4, a5, a6, a7, a8, a9, a10] := by
  have hs := h.size
  obtain ⟨l⟩ := cs
  match l, hs with
  | [a0, a1, a2, a3, a4, a5, a6, a7, a8, a9, a10], _ => exact ⟨a0, a1, a2, a3, a4, a5, a6, a7, a8, a9, a10, rfl⟩
theorem word6_in (ls : List Nat) : ∀ c ∈ wordL 6 ls, c ∈ alphaL 6 := fun c hc => by
  obtain ⟨n, _, rfl⟩ := List.mem_map.1 hc
  have h3 := Nat.mod_lt n (show 0 < 6 by omega)
  have e : lettL 6 n = UInt8.ofNat (97 + n % 6) := rfl
  rw [e]
  generalize n % 6 = k at h3 ⊢
  match k, h3 with
  | 0, _ => decide
  | 1, _ => decide
  | 2, _ => decide
  | 3, _ => decide
  | 4, _ => decide
  | 5, _ => decide
theorem grown_set {w0 w : World} {g : Nat} (h : w0.grownBy w (some g)) (j : Nat) (v : Value) : w0.grownBy (w.setCell ⟨g, j, none⟩ v) (some g) :=
  ⟨h.os, h.tape, h.output, by simpa [World.setCell] using h.size, fun k hk hne => (Below.heap_setCell _ _ _ _ (fun e => hne (by cases e; rfl))).trans (h.block k hk hne)⟩
theorem grown_drew {w0 w : World} {r : Option Nat} (h : w0.grownBy w r) : w0.grownBy w.drew r := ⟨h.os, h.tape, h.output, h.size, h.block⟩
theorem let_new {w : World} {g : Nat} (h : w.heap[g]? = some (.cells #[.int .u8 97, .int .u8 98, .int .u8 99, .int .u8 100, .int .u8 101, .int .u8 102] 5 (6, 7))) : LetAt w g [97, 98, 99, 100, 101, 102] := by
  refine ⟨(Array.getElem?_eq_some_iff.1 h).1, fun j hj => ?_⟩
  have hj : j < 6 := hj
  match j, hj with
  | 0, _ => exact ⟨by simp [World.cell?, h], by simp [World.frozen?, h]⟩
  | 1, _ => exact ⟨by simp [World.cell?, h], by simp [World.frozen?, h]⟩
  | 2, _ => exact ⟨by simp [World.cell?, h], by simp [World.frozen?, h]⟩
  | 3, _ => exact ⟨by simp [World.cell?, h], by simp [World.frozen?, h]⟩
  | 4, _ => exact ⟨by simp [World.cell?, h], by simp [World.frozen?, h]⟩
  | 5, _ => exact ⟨by simp [World.cell?, h], by simp [World.frozen?, h]⟩
/-- the world when the loop begins -/
structure Laid (w w0 : World) (cs ds bs : Array Value) : Prop where
  below : Below w.heap.size w w0
  size : w0.heap.size = w.heap.size + 5
  one : w0.heap[w.heap.size]? = some (.cells cs 24 (0, 0))
  two : w0.heap[w.heap.size + 1]? = some (.cells ds 24 (0, 0))
  by_ : w0.heap[w.heap.size + 1 + 1]? = some (.cells bs 25 (0, 0))
  row : w0.heap[w.heap.size + 1 + 1 + 1]? = some (.cells #[.int .u8 97, .int .u8 98, .int .u8 99, .int .u8 100, .int .u8 101, .int .u8 102] 5 (6, 7))
  ptr : w0.heap[w.heap.size + 1 + 1 + 1 + 1]? = some (.cells #[.slice (some ⟨w.heap.size + 1 + 1 + 1, 0, none⟩) 6 6] 26 (0, 0))
theorem laid_new (w : World) (cs ds bs : Array Value) : Laid w (((((w.alloc (.cells cs 24)).alloc (.cells ds 24)).alloc (.cells bs 25)).alloc (.cells #[.int .u8 97, .int .u8 98, .int .u8 99, .int .u8 100, .int .u8 101, .int .u8 102] 5 (6, 7))).alloc (.cells #[.slice (some ⟨w.heap.size + 1 + 1 + 1, 0, none⟩) 6 6] 26)) cs ds bs := by
  have hn : ∀ (W : World) (o : Obj), (W.alloc o).heap[W.heap.size]? = some o := fun W o => heap_alloc_new W o
  have ho : ∀ (W : World) (o : Obj) (k : Nat), k < W.heap.size → (W.alloc o).heap[k]? = W.heap[k]? := fun W o k hk => Below.heap_alloc _ _ _ hk
  refine ⟨(((((Below.refl _ w).alloc (Nat.le_refl _) _).alloc (by simp) _).alloc (by simp; omega) _).alloc (by simp; omega) _).alloc (by simp; omega) _, by simp, ?_, ?_, ?_, ?_, ?_⟩
  · rw [ho _ _ _ (by simp <;> omega), ho _ _ _ (by simp <;> omega), ho _ _ _ (by simp <;> omega), ho _ _ _ (by simp)]
    exact hn _ _
  · rw [ho _ _ _ (by simp <;> omega), ho _ _ _ (by simp <;> omega), ho _ _ _ (by simp)]
    have := hn (w.alloc (.cells cs 24)) (.cells ds 24)
    simpa using this
  · rw [ho _ _ _ (by simp <;> omega), ho _ _ _ (by simp)]
    have := hn ((w.alloc (.cells cs 24)).alloc (.cells ds 24)) (.cells bs 25)
    simpa using this
  · rw [ho _ _ _ (by simp)]
    have := hn (((w.alloc (.cells cs 24)).alloc (.cells ds 24)).alloc (.cells bs 25)) (.cells #[.int .u8 97, .int .u8 98, .int .u8 99, .int .u8 100, .int .u8 101, .int .u8 102] 5 (6, 7))
    simpa using this
  · have := hn ((((w.alloc (.cells cs 24)).alloc (.cells ds 24)).alloc (.cells bs 25)).alloc (.cells #[.int .u8 97, .int .u8 98, .int .u8 99, .int .u8 100, .int .u8 101, .int .u8 102] 5 (6, 7))) (.cells #[.slice (some ⟨w.heap.size + 1 + 1 + 1, 0, none⟩) 6 6] 26)
    simpa using this
set_option maxRecDepth 100000 in
set_option maxHeartbeats 8000000 in
theorem namedLaw_any (cs : Array Value) (m : Nat) (ls : List Nat) (ds : Array Value) (m2 : Nat) (ls2 : List Nat) (bs : Array Value) (us : List Nat) (w : World) (hS : IsSlip cs m ls) (hS2 : IsSlip ds m2 ls2) (hB : IsSix bs us) :
    Calls Tryd.prog 3 #[.agg cs, .agg ds, .agg bs] w fun e w' => e = .returned (.bool true) ∧ Below w.heap.size w w' := by
  have kc : ∀ (W : World) (C : Array Value) (n c g : Nat), g = W.heap.size → (convert 26 26 (.slice (some ⟨g, 0, none⟩) n c)).run Tryd.prog (W.alloc (.cells C 5)) = .ok (.slice (some ⟨g, 0, none⟩) n c) (W.alloc (.cells C 5 (C.size, C.size + 1))) := fun W C n c g hg => by
    subst hg; exact Lib.run_convert_bytes_const W 26 5 C n c Tryd.underlying26 Tryd.underlying5
  have kc1 := kc (((w.alloc (.cells cs 24)).alloc (.cells ds 24)).alloc (.cells bs 25)) #[.int .u8 97, .int .u8 98, .int .u8 99, .int .u8 100, .int .u8 101, .int .u8 102] 6 6 (w.heap.size + 1 + 1 + 1) (by simp)
  have hL0 := laid_new w cs ds bs
  have hM1 : ∀ W, Calls Tryd.prog 7 #[.agg cs, .int .i64 10, .int .i64 6] W fun e w' => e = .returned (.string ⟨(wordL 6 (ls.take (m % (10 + 1)))).toArray⟩) ∧ Below W.heap.size W w' := fun W => made_w cs m ls 10 6 W hS (by omega) (by omega) (by omega)
  have hM2 : ∀ W, Calls Tryd.prog 7 #[.agg ds, .int .i64 4, .int .i64 6] W fun e w' => e = .returned (.string ⟨(wordL 6 (ls2.take (m2 % (4 + 1)))).toArray⟩) ∧ Below W.heap.size W w' := fun W => made_w ds m2 ls2 4 6 W hS2 (by omega) (by omega) (by omega)
  have hx10 : (wordL 6 (ls.take (m % (10 + 1)))).length ≤ 10 := by
    unfold wordL; rw [List.length_map, List.length_take]; have := Nat.mod_lt m (show 0 < 10 + 1 by omega); omega
  have hy10 : (wordL 6 (ls2.take (m2 % (4 + 1)))).length ≤ 10 := by
    unfold wordL; rw [List.length_map, List.length_take]; have := Nat.mod_lt m2 (show 0 < 4 + 1 by omega); omega
  have hxi := word6_in (ls.take (m % (10 + 1)))
  have hyi := word6_in (ls2.take (m2 % (4 + 1)))
  generalize wordL 6 (ls.take (m % (10 + 1))) = x at hM1 hx10 hxi
  generalize wordL 6 (ls2.take (m2 % (4 + 1))) = y at hM2 hy10 hyi
  have HM1 := Lib.hid hM1; have HM2 := Lib.hid hM2; have HL0 := Lib.hid hL0; have HXI := Lib.hid hxi; have HYI := Lib.hid hyi; have HB := Lib.hid hB
  clear kc hM1 hM2 hL0 hxi hyi
  go_enter Tryd.func3, Tryd.ntmps3
  go_upto_region 2 with (fail)
  clear kc1
  generalize (((((w.alloc (.cells cs 24)).alloc (.cells ds 24)).alloc (.cells bs 25)).alloc (.cells #[.int .u8 97, .int .u8 98, .int .u8 99, .int .u8 100, .int .u8 101, .int .u8 102] 5 (6, 7))).alloc (.cells #[.slice (some ⟨w.heap.size + 1 + 1 + 1, 0, none⟩) 6 6] 26)) = W0 at HL0 ⊢
  obtain ⟨hb0, hz0, h1, h2, h3, h4, h5⟩ := HL0.out
  have hl0 := let_new h4
  have hp0 : W0.cell? ⟨w.heap.size + 1 + 1 + 1 + 1, 0, none⟩ = some (.slice (some ⟨w.heap.size + 1 + 1 + 1, 0, none⟩) 6 6) := by simp [World.cell?, h5]
  have hby : Hid (∀ i, i < 6 → W0.cell? ⟨w.heap.size + 1 + 1, i, none⟩ = some (.int .u8 (us.getD i 0 : Nat))) := fun i hi => by
    have := HB.out.get i hi
    simp only [World.cell?, h3]; exact this
  have HLT := Lib.hid HB.out.lt
  obtain ⟨B, hBs⟩ : ∃ B, w.heap.size = B := ⟨_, rfl⟩
  rw [hBs] at hp0 hl0 hz0 hby h1 h2
  have HBS := Lib.hid hBs
  have HZ := Lib.hid hz0
  have hg0 : W0.grownBy W0 (some (B + 1 + 1 + 1)) := ⟨rfl, rfl, rfl, Nat.le_refl _, fun _ _ _ => rfl⟩
  rw [hBs]
  clear h3 h4 h5 hBs hz0
  go_wp2_with (fail)
  go_loopw [8, 9, 29] (fun _ _ v wr => ∃ (i : Nat) (tl : List UInt8), i ≤ 6 ∧ v = .int .i64 i ∧ Hid (Six tl) ∧ LetAt wr (B + 1 + 1 + 1) tl ∧ W0.grownBy wr (some (B + 1 + 1 + 1))) (fun _ _ v _ => 6 - (intOf v).toNat)
  case atStart => exact ⟨0, [97, 98, 99, 100, 101, 102], by omega, rfl, six_abc, hl0, hg0⟩
  case round =>
    clear hl0 hg0
    obtain ⟨i, tl, hi, rfl, hsix, hlt6, hgr⟩ := hrel
    have hp : wr.cell? ⟨B + 1 + 1 + 1 + 1, 0, none⟩ = some (.slice (some ⟨B + 1 + 1 + 1, 0, none⟩) 6 6) := (World.cell?_of_block (w := W0) (a := ⟨B + 1 + 1 + 1 + 1, 0, none⟩) (hgr.block (B + 1 + 1 + 1 + 1) (by have := HZ.out; omega) (by simp))).trans hp0
    by_cases hlt : i < 6
    · have hcb := (World.cell?_of_block (w := W0) (a := ⟨B + 1 + 1, i, none⟩) (hgr.block (B + 1 + 1) (by have := HZ.out; omega) (by simp))).trans (hby.out i hlt)
      have hu := HLT.out i
      generalize us.getD i 0 = u at hcb hu
      obtain ⟨k, hk⟩ : ∃ k, u % (i + 1) = k := ⟨_, rfl⟩
      have hk6 : k < i + 1 := by rw [← hk]; exact Nat.mod_lt _ (by omega)
      have e1 : (u : Int) % ((i : Int) + 1) = (k : Int) := by rw [← hk]; simp
      have e2 : ((i : Int) + 1 == 0) = false := by simp; omega
      have e3 : (u : Int).tmod ((i : Int) + 1) = (k : Int) := by rw [Int.tmod_eq_emod_of_nonneg (by omega)]; exact e1
      have e4 : ¬ (i : Int) + 1 = 0 := by omega
      have hk60 : k < 6 := by omega
      obtain ⟨ci, fi⟩ := hlt6.2 i (by rw [hsix.out.1]; exact hlt)
      obtain ⟨ck, fk⟩ := hlt6.2 k (by rw [hsix.out.1]; exact hk60)
      have hs6 : Hid (Six (swapL tl i k)) := six_swap hsix.out hlt hk60
      have s1 := hlt6.set i (by rw [hsix.out.1]; exact hlt) (tl.getD k 0)
      have s2 := s1.set k (by rw [List.length_set, hsix.out.1]; exact hk60) (tl.getD i 0)
      have s3 := grown_set (grown_set hgr i (.int .u8 ((tl.getD k 0).toNat : Int))) k (.int .u8 ((tl.getD i 0).toNat : Int))
      rw [show (tl.set i (tl.getD k 0)).set k (tl.getD i 0) = swapL tl i k from rfl] at s2
      generalize swapL tl i k = tn at s2 hs6
      generalize (tl.getD k 0).toNat = vk at ck s2 s3
      generalize (tl.getD i 0).toNat = vi at ci s2 s3
      have S2 := Lib.hid s2; have S3 := Lib.hid s3
      have ck2 : (wr.setCell ⟨B + 1 + 1 + 1, i, none⟩ (.int .u8 (vk : Int))).drew.cell? ⟨B + 1 + 1 + 1, k, none⟩ = some (.int .u8 (vk : Int)) := by
        show (wr.setCell ⟨B + 1 + 1 + 1, i, none⟩ (.int .u8 (vk : Int))).cell? ⟨B + 1 + 1 + 1, k, none⟩ = _
        by_cases e : k = i
        · subst e; rw [World.cell?_setCell_same _ _ _ ck]
        · rw [World.cell?_setCell_other _ _ _ _ (by intro e'; injection e' with _ e' _; exact e e'.symm)]; exact ck
      have fk2 : (wr.setCell ⟨B + 1 + 1 + 1, i, none⟩ (.int .u8 (vk : Int))).drew.frozen? ⟨B + 1 + 1 + 1, k, none⟩ = false := by
        show (wr.setCell ⟨B + 1 + 1 + 1, i, none⟩ (.int .u8 (vk : Int))).frozen? ⟨B + 1 + 1 + 1, k, none⟩ = false
        rw [World.frozen?_setCell]; exact fk
      have hk6i : (k : Int) < 6 := by omega
      have hi6i : (i : Int) < 6 := by omega
      clear s1 s2 s3 hlt6 hgr hk
      go_wp2_with (fail)
      go_region
      go_wp2_with (fail)
      exact ⟨⟨i + 1, tn, by omega, by go_num, hs6, S2.out.keep (fun k _ => rfl) (Nat.le_refl _), grown_drew S3.out⟩, by simp [intOf]; omega⟩
    · have hbW : Below w.heap.size w wr := hb0.grown hgr (by have := HZ.out; have := HBS.out; omega) (fun k e => by have := HBS.out; injection e with e; omega)
      have hz1 : W0.heap.size ≤ wr.heap.size := hgr.size
      have hplt : B + 1 + 1 + 1 + 1 < wr.heap.size := by have := HZ.out; omega
      have e1 : wr.heap[B]? = some (.cells cs 24 (0, 0)) := (hgr.block B (by have := HZ.out; omega) (by simp; omega)).trans h1
      have e2 : wr.heap[B + 1]? = some (.cells ds 24 (0, 0)) := (hgr.block (B + 1) (by have := HZ.out; omega) (by simp)).trans h2
      have hmv : ∀ (l : List UInt8), l.length ≤ 10 → (∀ c ∈ l, c ∈ alphaL 6) → ∀ W, Below wr.heap.size wr W → Calls Tryd.prog 4 #[.string ⟨l.toArray⟩, .pointer (some ⟨B + 1 + 1 + 1 + 1, 0, none⟩)] W fun e w' => e = .returned (.string ⟨(l.map (nameL tl)).toArray⟩) ∧ Below W.heap.size W w' := fun l hl hin W hb =>
        move_any tl hsix.out (B + 1 + 1 + 1) (B + 1 + 1 + 1 + 1) 6 l (by omega) hin W ((hb.cell (p := ⟨B + 1 + 1 + 1 + 1, 0, none⟩) hplt).trans hp) (Nat.lt_of_lt_of_le hplt hb.size) (hlt6.keep hb.block hb.size)
      have hren := ren_of hsix.out
      have hmx := hmv x hx10 HXI.out
      have hmy := hmv y hy10 HYI.out
      have hxi2 : ∀ c ∈ x.map (nameL tl), c ∈ alphaL 6 := fun c hc => by
        obtain ⟨d, hd, rfl⟩ := List.mem_map.1 hc; exact hren.1 d (HXI.out d hd)
      have hyi2 : ∀ c ∈ y.map (nameL tl), c ∈ alphaL 6 := fun c hc => by
        obtain ⟨d, hd, rfl⟩ := List.mem_map.1 hc; exact hren.1 d (HYI.out d hd)
      have hx2 : (x.map (nameL tl)).length ≤ 10 := by rw [List.length_map]; exact hx10
      have hy2 : (y.map (nameL tl)).length ≤ 10 := by rw [List.length_map]; exact hy10
      have hw1 := fun W => ways_alpha HXI.out HYI.out hx10 hy10 W
      have hw2 := fun W => ways_alpha hxi2 hyi2 hx2 hy2 W
      rw [waysL_ren hren HXI.out HYI.out] at hw2
      have hn1 := fun W => count_alpha HXI.out hx10 W
      have hn2 := fun W => count_alpha hxi2 hx2 W
      rw [parts_ren hren HXI.out] at hn2
      have ha1 := fun W => arches_alpha HXI.out hx10 (show 1 ≤ 6 by omega) (by omega) W
      have ha2 := fun W => arches_alpha hxi2 hx2 (show 1 ≤ 6 by omega) (by omega) W
      have har := arches_ren hren 6 x 0 [] HXI.out (by simp)
      rw [List.map_nil] at har
      rw [har] at ha2
      have hal : (archesL 6 0 [] x).length ≤ 1000 := Nat.le_trans (archesL_le 6 x 0 []) (by omega)
      generalize archesL 6 0 [] x = ar at ha1 ha2 hal
      generalize (waysL x y : Nat) = wy at hw1 hw2
      generalize (partsL [x]).length = nn at hn1 hn2
      generalize x.map (nameL tl) = x2 at hmx hw2 hn2 ha2
      generalize y.map (nameL tl) = y2 at hmy hw2
      have HM1b := HM1.out; have HM2b := HM2.out
      unfold RowErr at ha1 ha2
      obtain ⟨na, hna⟩ : ∃ na, Hid (ar.length = na) := ⟨_, rfl⟩
      rw [hna.out] at ha1 ha2 hal
      have hsame : ∀ A A' c c' W, Rd W A na (ints ar) → Rd W A' na (ints ar) → Calls Tryd.prog 11 #[.slice A na c, .slice A' na c'] W fun e w' => e = .returned (.bool true) ∧ Below W.heap.size W w' := fun A A' c c' W h h' =>
        (same_any A A' na na c c' ar ar W h h' (by unfold maxLen; omega) (by unfold maxLen; omega)).mono fun e w' ⟨he, q, hw⟩ => ⟨by rw [he]; simp, by rw [hw]; exact ⟨rfl, rfl, rfl, Nat.le_refl _, fun _ _ => rfl⟩⟩
      generalize (⟨x.toArray⟩ : ByteArray) = sx at HM1b hmx hw1 hn1 ha1
      generalize (⟨y.toArray⟩ : ByteArray) = sy at HM2b hmy hw1
      generalize (⟨x2.toArray⟩ : ByteArray) = sx2 at hmx hw2 hn2 ha2
      generalize (⟨y2.toArray⟩ : ByteArray) = sy2 at hmy hw2
      have hc1 : ∀ w', Below wr.heap.size wr w' → ∀ j v, cs[j]? = some v → w'.cell? ⟨B, j, none⟩ = some v := fun w' hb j v h => by rw [cell_of_row w' _ j _ _ _ ((hb.block _ (by omega)).trans e1)]; exact h
      have hc2 : ∀ w', Below wr.heap.size wr w' → ∀ j v, ds[j]? = some v → w'.cell? ⟨B + 1, j, none⟩ = some v := fun w' hb j v h => by rw [cell_of_row w' _ j _ _ _ ((hb.block _ (by omega)).trans e2)]; exact h
      obtain ⟨a0, a1, a2, a3, a4, a5, a6, a7, a8, a9, a10, rfl⟩ := slip_eleven hS
      obtain ⟨b0, b1, b2, b3, b4, b5, b6, b7, b8, b9, b10, rfl⟩ := slip_eleven hS2
      have p0 : ∀ w', Below wr.heap.size wr w' → w'.cell? ⟨B, 0, none⟩ = some a0 := fun w' hb => hc1 w' hb 0 _ rfl
      have p1 : ∀ w', Below wr.heap.size wr w' → w'.cell? ⟨B, 1, none⟩ = some a1 := fun w' hb => hc1 w' hb 1 _ rfl
      have p2 : ∀ w', Below wr.heap.size wr w' → w'.cell? ⟨B, 2, none⟩ = some a2 := fun w' hb => hc1 w' hb 2 _ rfl
      have p3 : ∀ w', Below wr.heap.size wr w' → w'.cell? ⟨B, 3, none⟩ = some a3 := fun w' hb => hc1 w' hb 3 _ rfl
      have p4 : ∀ w', Below wr.heap.size wr w' → w'.cell? ⟨B, 4, none⟩ = some a4 := fun w' hb => hc1 w' hb 4 _ rfl
      have p5 : ∀ w', Below wr.heap.size wr w' → w'.cell? ⟨B, 5, none⟩ = some a5 := fun w' hb => hc1 w' hb 5 _ rfl
      have p6 : ∀ w', Below wr.heap.size wr w' → w'.cell? ⟨B, 6, none⟩ = some a6 := fun w' hb => hc1 w' hb 6 _ rfl
      have p7 : ∀ w', Below wr.heap.size wr w' → w'.cell? ⟨B, 7, none⟩ = some a7 := fun w' hb => hc1 w' hb 7 _ rfl
      have p8 : ∀ w', Below wr.heap.size wr w' → w'.cell? ⟨B, 8, none⟩ = some a8 := fun w' hb => hc1 w' hb 8 _ rfl
      have p9 : ∀ w', Below wr.heap.size wr w' → w'.cell? ⟨B, 9, none⟩ = some a9 := fun w' hb => hc1 w' hb 9 _ rfl
      have p10 : ∀ w', Below wr.heap.size wr w' → w'.cell? ⟨B, 10, none⟩ = some a10 := fun w' hb => hc1 w' hb 10 _ rfl
      have q0 : ∀ w', Below wr.heap.size wr w' → w'.cell? ⟨B + 1, 0, none⟩ = some b0 := fun w' hb => hc2 w' hb 0 _ rfl
      have q1 : ∀ w', Below wr.heap.size wr w' → w'.cell? ⟨B + 1, 1, none⟩ = some b1 := fun w' hb => hc2 w' hb 1 _ rfl
      have q2 : ∀ w', Below wr.heap.size wr w' → w'.cell? ⟨B + 1, 2, none⟩ = some b2 := fun w' hb => hc2 w' hb 2 _ rfl
      have q3 : ∀ w', Below wr.heap.size wr w' → w'.cell? ⟨B + 1, 3, none⟩ = some b3 := fun w' hb => hc2 w' hb 3 _ rfl
      have q4 : ∀ w', Below wr.heap.size wr w' → w'.cell? ⟨B + 1, 4, none⟩ = some b4 := fun w' hb => hc2 w' hb 4 _ rfl
      have q5 : ∀ w', Below wr.heap.size wr w' → w'.cell? ⟨B + 1, 5, none⟩ = some b5 := fun w' hb => hc2 w' hb 5 _ rfl
      have q6 : ∀ w', Below wr.heap.size wr w' → w'.cell? ⟨B + 1, 6, none⟩ = some b6 := fun w' hb => hc2 w' hb 6 _ rfl
      have q7 : ∀ w', Below wr.heap.size wr w' → w'.cell? ⟨B + 1, 7, none⟩ = some b7 := fun w' hb => hc2 w' hb 7 _ rfl
      have q8 : ∀ w', Below wr.heap.size wr w' → w'.cell? ⟨B + 1, 8, none⟩ = some b8 := fun w' hb => hc2 w' hb 8 _ rfl
      have q9 : ∀ w', Below wr.heap.size wr w' → w'.cell? ⟨B + 1, 9, none⟩ = some b9 := fun w' hb => hc2 w' hb 9 _ rfl
      have q10 : ∀ w', Below wr.heap.size wr w' → w'.cell? ⟨B + 1, 10, none⟩ = some b10 := fun w' hb => hc2 w' hb 10 _ rfl
      have HMA := Lib.hid HM1b; have HMB := Lib.hid HM2b; have HMX := Lib.hid hmx; have HMY := Lib.hid hmy; have HSM := Lib.hid hsame
      have hrefl : Below wr.heap.size wr wr.drew := (Below.refl _ _).drew
      clear hc1 hc2 HM1 HM2 HM1b HM2b hmx hmy hmv hren hxi2 hyi2 hx2 hy2 har hsame e1 e2 h1 h2 hp0 hby hgr hp hlt6 HL0 hsix
      go_wp2_with (fail)
      go_region_held3 (fun w' => Below wr.heap.size wr w')
        (first
          | assumption
          | exact Below.trans (b := wr.drew) (by assumption) (hbc.mono (Nat.le_refl _))
          | exact Below.trans (by assumption) (hbc.mono (Below.size (B := wr.heap.size) (w := wr) (by assumption)))
          | (trace_state; fail))
        ((go_at_call 7; (first | ((with_reducible refine (HMA.out _).mono ?_); rintro e w' ⟨rfl, hbc⟩) | ((with_reducible refine (HMB.out _).mono ?_); rintro e w' ⟨rfl, hbc⟩))))
      rename_i w0' hbc0 hHd
      have hbS := hHd
      have hsz1 : w.heap.size ≤ wr.heap.size := hbW.size
      clear hbc0 hbc hrefl
      clear p0 q0 p1 q1 p2 q2 p3 q3 p4 q4 p5 q5 p6 q6 p7 q7 p8 q8 p9 q9 p10 q10
      go_wp2_with (fail)
      refine (hw1 _).mono ?_; rintro e wa ⟨rfl, hba⟩
      have hbS := hbS.trans (hba.mono hbS.size)
      clear hba hw1
      go_wp2_with (fail)
      refine (HMX.out _ hbS).mono ?_; rintro e wb ⟨rfl, hbb⟩
      have hbS := hbS.trans (hbb.mono hbS.size)
      clear hbb
      go_wp2_with (fail)
      refine (HMY.out _ hbS).mono ?_; rintro e wc ⟨rfl, hbc⟩
      have hbS := hbS.trans (hbc.mono hbS.size)
      clear hbc
      go_wp2_with (fail)
      refine (hw2 _).mono ?_; rintro e wd ⟨rfl, hbd⟩
      have hbS := hbS.trans (hbd.mono hbS.size)
      clear hbd hw2
      go_wp2_with (fail)
      refine (hn1 _).mono ?_; rintro e we ⟨rfl, hbe⟩
      have hbS := hbS.trans (hbe.mono hbS.size)
      clear hbe hn1
      go_wp2_with (fail)
      refine (HMX.out _ hbS).mono ?_; rintro e wf ⟨rfl, hbf⟩
      have hbS := hbS.trans (hbf.mono hbS.size)
      clear hbf
      go_wp2_with (fail)
      refine (hn2 _).mono ?_; rintro e wg ⟨rfl, hbg⟩
      have hbS := hbS.trans (hbg.mono hbS.size)
      clear hbg hn2
      go_wp2_with (fail)
      refine (ha1 _).mono ?_; rintro e wh ⟨hbh, A1, k1, rfl, hr1⟩
      have hbS := hbS.trans (hbh.mono hbS.size)
      clear hbh ha1
      go_wp2_with (fail)
      refine (HMX.out _ hbS).mono ?_; rintro e wi ⟨rfl, hbi⟩
      have hbS := hbS.trans (hbi.mono hbS.size)
      have hr1 := hr1.below hbi
      clear hbi
      go_wp2_with (fail)
      refine (ha2 _).mono ?_; rintro e wj ⟨hbj, A2, k2, rfl, hr2⟩
      have hbS := hbS.trans (hbj.mono hbS.size)
      have hr1 := hr1.below hbj
      clear hbj ha2
      go_wp2_with (fail)
      refine (HSM.out _ _ _ _ _ hr1 hr2).mono ?_; rintro e wk ⟨rfl, hbk⟩
      have hbS := hbS.trans (hbk.mono hbS.size)
      clear hbk hr1 hr2
      go_wp2_with (fail)
      refine (works_any _).mono ?_; rintro e wl ⟨rfl, hbl⟩
      have hbS := hbS.trans (hbl.mono hbS.size)
      go_wp2_with (fail)
      go_ret
      exact ⟨rfl, hbW.trans (hbS.mono hsz1)⟩
end Go.Proofs.YtlbepjmiligpcaaDoor
