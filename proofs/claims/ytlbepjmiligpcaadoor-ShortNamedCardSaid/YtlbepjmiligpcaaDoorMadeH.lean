/-
  Words by numbers: what made returns.
-/
import Derived.Test.YtlbepjmiligpcaaDoorBuild
import Derived.Test.YtlbepjmiligpcaaDoorParts
import Derived.Laws.BitsLemmas
set_option linter.unusedSimpArgs false
set_option linter.unusedVariables false
namespace Go.Proofs.YtlbepjmiligpcaaDoor
open Go.RowKit Go.Proofs.Short

/-- a Slip: how many, and ten bytes -/
structure IsSlip (cs : Array Value) (m : Nat) (ls : List Nat) : Prop where
  size : cs.size = 11
  many : cs[0]? = some (.int .u8 m)
  letter : ∀ i, i < 10 → cs[1 + i]? = some (.int .u8 (ls.getD i 0 : Nat))
  len : ls.length = 10
  m_lt : m < 256
  l_lt : ∀ i, ls.getD i 0 < 256
def lettL (L n : Nat) : UInt8 := UInt8.ofNat (97 + n % L)
def wordL (L : Nat) (l : List Nat) : List UInt8 := l.map (lettL L)
theorem lettL_toNat {L n : Nat} (h1 : 1 ≤ L) (h6 : L ≤ 6) : (lettL L n).toNat = 97 + n % L := by
  have := Nat.mod_lt n h1
  unfold lettL
  simp; omega
theorem index_alpha {L n : Nat} (h1 : 1 ≤ L) (h6 : L ≤ 6) (W : World) : (Instr.index 9 (.string ⟨#[97, 98, 99, 100, 101, 102]⟩) (.int .i64 ((n : Int) % (L : Int)))).run Tryd.prog W = .ok (.int .u8 ((lettL L n).toNat : Int)) W := by
  rw [lettL_toNat h1 h6, ← Int.natCast_emod]
  have := Nat.mod_lt n h1
  generalize n % L = k at this
  have hk : k < 6 := by omega
  have hsz : (⟨#[97, 98, 99, 100, 101, 102]⟩ : ByteArray).size = 6 := rfl
  rw [run_index_string W 9 ⟨#[97, 98, 99, 100, 101, 102]⟩ .i64 (k : Int) Tryd.underlying9, dif_pos ⟨by omega, by rw [hsz]; omega⟩]
  match k, hk with
  | 0, _ => rfl
  | 1, _ => rfl
  | 2, _ => rfl
  | 3, _ => rfl
  | 4, _ => rfl
  | 5, _ => rfl
theorem slice_arr (b n : Nat) (hn : n ≤ 10) (W : World) : (Instr.sliceAt 22 (.pointer (some ⟨b, 1, none⟩)) none (some (.int .i64 (n : Int))) none).run Tryd.prog W = .ok (.slice (some ⟨b, 1, none⟩) n 10) W := by
  have hl : Tryd.prog.arrayLen 22 = 10 := by kernel_rfl
  have he : Tryd.prog.elem 22 = 5 := by kernel_rfl
  have h := run_sliceAt_array_h (P := Tryd.prog) W 22 ⟨b, 1, none⟩ (by kernel_rfl) .i64 (n : Int) (by omega) (by rw [hl]; omega)
  rw [h, hl, he]
  simp [slicedAt, Addr.add, Tryd.sizeOf5]
set_option maxRecDepth 100000 in
set_option maxHeartbeats 1000000 in
theorem made_w (cs : Array Value) (m : Nat) (ls : List Nat) (most L : Nat) (w : World) (hS : IsSlip cs m ls) (hn : most ≤ 10) (h1 : 1 ≤ L) (h6 : L ≤ 6) :
    Calls Tryd.prog 7 #[.agg cs, .int .i64 most, .int .i64 L] w fun e w' => e = .returned (.string ⟨(wordL L (ls.take (m % (most + 1)))).toArray⟩) ∧ Below w.heap.size w w' := by
  have hcount : m % (most + 1) ≤ 10 := by have := Nat.mod_lt m (show 0 < most + 1 by omega); omega
  have hcell0 : ((w.alloc (.cells cs 24)).alloc (.cells #[.pointer none, .slice none 0 0] 43)).cell? ⟨w.heap.size, 0, none⟩ = some (.int .u8 (m : Nat)) := by
    rw [World.cell?_alloc_lt _ _ _ (by simp), World.cell?_alloc_new]; exact hS.many
  have hmlt := hS.m_lt
  have hsl : ∀ (b : Nat) (W : World), (Instr.sliceAt 22 (.pointer (some ⟨b, 1, none⟩)) none (some (.int .i64 ((m : Int) % ((most : Int) + 1)))) none).run Tryd.prog W = .ok (.slice (some ⟨b, 1, none⟩) (m % (most + 1)) 10) W := fun b W => by
    have e : (m : Int) % ((most : Int) + 1) = ((m % (most + 1) : Nat) : Int) := by simp
    rw [e]; exact slice_arr b (m % (most + 1)) hcount W
  have hm0 : ((most : Int) + 1 == 0) = false := by rw [beq_eq_false_iff_ne]; omega
  have hidx := fun (x : Nat) (W : World) => index_alpha (n := x) h1 h6 W
  have h0 := isB_new (w.alloc (.cells cs 24))
  rw [World.size_alloc] at h0
  have hcell : ∀ i, i < 10 → ((w.alloc (.cells cs 24)).alloc (.cells #[.pointer none, .slice none 0 0] 43)).cell? ⟨w.heap.size, 1 + i, none⟩ = some (.int .u8 (ls.getD i 0 : Nat)) := fun i hi => by
    rw [World.cell?_alloc_lt _ _ _ (by simp), World.cell?_alloc_new]; exact hS.letter i hi
  have hb0 : Below w.heap.size w ((w.alloc (.cells cs 24)).alloc (.cells #[.pointer none, .slice none 0 0] 43)) := ((Below.refl _ w).alloc (Nat.le_refl _) _).alloc (by simp) _
  have hs0 : ((w.alloc (.cells cs 24)).alloc (.cells #[.pointer none, .slice none 0 0] 43)).heap.size = w.heap.size + 2 := by simp
  have hlen := hS.len
  have hll := hS.l_lt
  have hL0 : ((L : Int) == 0) = false := by rw [beq_eq_false_iff_ne]; omega
  obtain ⟨N, hN⟩ : ∃ N, Hid (N = (m % (most + 1))) := ⟨_, Lib.hid rfl⟩
  rw [← hN.out] at hsl ⊢
  have hN10 : N ≤ 10 := by rw [hN.out]; exact hcount
  obtain ⟨r, hr⟩ : ∃ r, Hid (wordL L (ls.take N) = r) := ⟨_, rfl⟩
  rw [hr.out]
  have HC := Lib.hid hcell; have HL := Lib.hid hlen; have HLL := Lib.hid hll; have HI := Lib.hid hidx; have HS := Lib.hid hs0; clear hcell hlen hll hidx hs0
  go_enter Tryd.func7, Tryd.ntmps7
  go_wp2
  generalize (w.alloc (.cells cs 24)).alloc (.cells #[.pointer none, .slice none 0 0] 43) = W0 at h0 HC hb0 HS ⊢
  go_loopw [19] (fun i wr => ∃ (k : Nat) (l : List UInt8), k ≤ N ∧ i = .int .i64 k ∧ Hid (l = wordL L (ls.take k)) ∧ l.length ≤ k ∧ IsB wr (w.heap.size + 1) (w.heap.size + 1) l ∧ Below (w.heap.size + 1) W0 wr) (fun i _ => N - (intOf i).toNat)
  case atStart => exact ⟨0, [], Nat.zero_le _, rfl, rfl, Nat.le_refl _, h0, Below.refl _ _⟩
  case round =>
    obtain ⟨k, l, hk, rfl, hl, hlen, hB, hb⟩ := hrel
    have hbs : w.heap.size + 1 ≤ wr.heap.size := by have := hb.size; have := HS.out; omega
    by_cases hlt : k < N
    · have hcell : wr.cell? ⟨w.heap.size, 1 + k, none⟩ = some (.int .u8 (ls.getD k 0 : Nat)) := (hb.cell (p := ⟨w.heap.size, 1 + k, none⟩) (Nat.lt_succ_self _)).trans (HC.out k (by omega))
      have hx := HLL.out k
      have htk : wordL L (ls.take (k + 1)) = l ++ [lettL L (ls.getD k 0)] := by
        rw [hl.out, List.take_succ_eq_append_getElem (by have := HL.out; omega), getD_lt _ _ _ (by have := HL.out; omega)]; unfold wordL; rw [List.map_append]; rfl
      have HT := Lib.hid htk; clear htk
      generalize ls.getD k 0 = x at hcell hx HT
      have hi := HI.out x
      have hl1000 : l.length ≤ 1000 := by omega
      go_wp2_with (go_at_call 19; refine (writeByteC (w.heap.size + 1) (w.heap.size + 1) l (lettL L x) _ wr rfl hB hl1000 hbs).mono ?_; rintro e w2 ⟨rfl, hB2, hb2, _⟩)
      exact ⟨⟨k + 1, l ++ [lettL L x], by omega, by go_num, HT.out.symm, by simp; omega, hB2, hb.trans hb2⟩, by simp [intOf]; omega⟩
    · obtain rfl : k = N := by omega
      have e : l = r := by rw [hl.out]; exact hr.out
      have HE := Lib.hid e; clear e
      go_wp2_with (go_at_call 20; refine (stringC (w.heap.size + 1) (w.heap.size + 1) l wr hB hbs).mono ?_; rintro e w2 ⟨rfl, hb2⟩)
      go_ret
      rw [HE.out]
      exact ⟨rfl, hb0.trans ((hb.trans hb2).mono (Nat.le_succ _))⟩
end Go.Proofs.YtlbepjmiligpcaaDoor
