/-
  The walk of package short's Ways: it returns what the plain Lean function says.
-/
import Derived.Test.YtlbepjmiligpcaaDoorHolds
import Derived.OwnWalk
import Derived.Lib.OthersKept
import Derived.Maps.Own
set_option linter.unusedSimpArgs false
set_option linter.unusedVariables false
namespace Go.Proofs.YtlbepjmiligpcaaDoor
open Go.RowKit Go.Proofs.Short Go.Lib

theorem Tryd.infoInt : (Tryd.prog.info? 3).map (fun i => (i.zero, i.size, i.bytes)) = some (some (.int .i64 0), 1, 8) := by kernel_rfl

abbrev ints (l : List Nat) : List Value := l.map fun x : Nat => Value.int .i64 (x : Int)
theorem ints_made (n : Nat) : (madeCells (Value.int .i64 0).cells (n * 1)).toList = ints (List.replicate n 0) := by
  show (madeCells #[Value.int .i64 0] (n * 1)).toList = _
  rw [Nat.mul_one, toList_madeCells_one]; simp [ints]
theorem grownBy_iterAt (w : World) (k : Nat) (s : ByteArray) (p : Nat) (row : Option Nat) (h : row = some k) : w.grownBy (w.iterAt k s p) row :=
  ⟨rfl, rfl, rfl, by simp [iterAt_size], fun j _ hj => iterAt_other w k j s p (fun e => hj (by rw [h, e]))⟩
theorem ownsRow_iter {w : World} {base : Nat} {e : TypeId} {size : Nat} {g c n : Nat} {xs : List Value} (h : w.ownsRow base e size (.slice (some ⟨g, 0, none⟩) n c) n xs) {k : Nat} (hk : g ≠ k) (s : ByteArray) (p : Nat) :
    (w.iterAt k s p).ownsRow base e size (.slice (some ⟨g, 0, none⟩) n c) n xs :=
  h.kept (grownBy_iterAt w k s p (some k) rfl) (.inr (by simpa [Value.ownBlock] using hk))
theorem heap_setCell_ne {w : World} {a : Addr} {u : Value} {k : Nat} (h : k ≠ a.block) : (w.setCell a u).heap[k]? = w.heap[k]? := Below.heap_setCell w a u k h

theorem next_l {P : Program} (wr : World) (I : Nat) (a : List UInt8) (pos : Nat) (c : UInt8) (hit : wr.heap[I]? = some (.stringIter ⟨a.toArray⟩ pos)) (hc : a[pos]? = some c) (h128 : c.toNat < 128) (ty : TypeId) :
    (Instr.next (.pointer (some ⟨I, 0, none⟩)) true ty).run P wr = .ok (.tuple #[.bool true, .int .i64 pos, .int .i32 c.toNat]) (wr.iterAt I ⟨a.toArray⟩ (pos + 1)) := by
  obtain ⟨hp, rfl⟩ := List.getElem?_eq_some_iff.1 hc
  exact run_next_ascii_at wr I ⟨a.toArray⟩ pos ty hit (by simpa [ByteArray.size] using hp) h128
theorem next_l_end {P : Program} (wr : World) (I : Nat) (a : List UInt8) (pos : Nat) (hit : wr.heap[I]? = some (.stringIter ⟨a.toArray⟩ pos)) (hp : ¬ pos < a.length) (ty : TypeId) :
    (Instr.next (.pointer (some ⟨I, 0, none⟩)) true ty).run P wr = .ok (.tuple #[.bool false]) wr :=
  run_next_end_at wr I ⟨a.toArray⟩ pos ty hit (by simpa [ByteArray.size] using hp)
theorem okc_get {l : List UInt8} (h : l.all okc = true) {k : Nat} {c : UInt8} (hc : l[k]? = some c) : okc c = true := by
  obtain ⟨hk, rfl⟩ := List.getElem?_eq_some_iff.1 hc; exact okc_at h hk
theorem ownsCell {w : World} {base g c n : Nat} {l : List Nat} {j x : Nat} (h : w.ownsRow base 3 1 (.slice (some ⟨g, 0, none⟩) n c) n (ints l)) (hj : l[j]? = some x) (hn : j < n) : w.cell? ⟨g, j, none⟩ = some (.int .i64 (x : Int)) := by
  rw [h.cellAt j (by omega), List.getElem?_map, hj]; rfl

theorem wrap_byte (x : UInt8) : wrap32 (x.toNat : Int) = x.toNat := by
  have := x.toNat_lt
  unfold wrap32; omega
theorem byte_of {b : List UInt8} {m : Nat} (_hm : m < b.length) {c : UInt8} {h : m < (⟨b.toArray⟩ : ByteArray).size} (hq : (wrap32 (((⟨b.toArray⟩ : ByteArray)[m]'h).toNat : Int) == (c.toNat : Int)) = true) : b[m] = c := by
  rw [wrap_byte, byte_beq, beq_iff_eq] at hq; exact hq
theorem byte_ne {b : List UInt8} {m : Nat} (_hm : m < b.length) {c : UInt8} {h : m < (⟨b.toArray⟩ : ByteArray).size} (hq : (wrap32 (((⟨b.toArray⟩ : ByteArray)[m]'h).toNat : Int) == (c.toNat : Int)) = false) : b[m] ≠ c := by
  rw [wrap_byte, byte_beq, beq_eq_false_iff_ne] at hq; exact hq

set_option maxRecDepth 100000 in
set_option maxHeartbeats 1000000 in
theorem ways_any (a b : List UInt8) (w : World) (hz : chks [a, b] = 0) :
    Calls Tryd.prog 8 #[.string ⟨a.toArray⟩, .string ⟨b.toArray⟩] w fun e w' => e = .returned (.tuple #[.int .i64 (waysL a b), .int .i64 0]) ∧ Below w.heap.size w w' := by
  obtain ⟨⟨hla, hoa⟩, hlb, hob⟩ := chks_two hz
  have ha : a.length ≤ maxLen := by unfold maxLen; omega
  have hb : b.length ≤ maxLen := by unfold maxLen; omega
  have hz2 : (chks [a, b] != 0) = false := by simp [hz]
  have HZ := Lib.hid hz; clear hz
  have HOA := Lib.hid hoa; have HOB := Lib.hid hob; clear hoa hob
  obtain ⟨i0, hi, hz0, hz1, hz2'⟩ := info_parts Tryd.infoInt
  go_enter Tryd.func8, Tryd.ntmps8
  go_wp2_with (first
      | (go_at_call 21; refine (checkTwo a b _ _ ha hb).mono ?_; rintro e w1 ⟨rfl, hb1⟩)
      | (refine wpList_make_full _ rfl _ _ _ rfl w.heap.size 3 i0 (.int .i64 0) 1 Tryd.underlying35 hi hz0 hz1 .i64 .i64 _ _ (b.length + 1) rfl rfl (by simp) (by simp) (by rw [hz2']; omega) (by unfold maxLen; omega) hb1.size ?_; intro w2 hown2 hg2; rw [ints_made] at hown2; have hc0 := hown2.cellAt 0 (by omega); have hf0 := hown2.frozenAt 0; rw [List.getElem?_map, List.getElem?_replicate, if_pos (by omega)] at hc0; simp only [Option.map_some] at hc0))
  have hlt2 : w1.heap.size < w2.heap.size := (hown2.lt _ rfl).2
  have hownA := (hown2.stored 0 (.int .i64 1)).1.alloc (.stringIter ⟨a.toArray⟩ 0)
  have hsA : (w2.setCell ⟨w1.heap.size, 0, none⟩ (.int .i64 1)).heap.size = w2.heap.size := by simp [World.setCell]
  have hitA := World.iter_heap (w2.setCell ⟨w1.heap.size, 0, none⟩ (.int .i64 1)) ⟨a.toArray⟩ 0
  rw [hsA] at hitA
  have hb2 : Below w.heap.size w w2 := hb1.grown hg2 hb1.size (fun k e => by cases e)
  have hbA : Below w.heap.size w ((w2.setCell ⟨w1.heap.size, 0, none⟩ (.int .i64 1)).iter ⟨a.toArray⟩ 0) := (hb2.setCell (p := ⟨w1.heap.size, 0, none⟩) hb1.size _).alloc (by rw [hsA]; exact hb2.size) _
  have e0 : (ints (List.replicate (b.length + 1) 0)).set 0 (.int .i64 1) = ints (cnts [] b) := by rw [cnts_nil, ints, ints, List.map_set]; rfl
  rw [e0] at hownA
  clear e0 hown2 hg2 hc0 hf0
  change World.ownsRow ((w2.setCell ⟨w1.heap.size, 0, none⟩ (.int .i64 1)).iter ⟨a.toArray⟩ 0) _ _ _ _ _ _ at hownA
  generalize (w2.setCell ⟨w1.heap.size, 0, none⟩ (.int .i64 1)).iter ⟨a.toArray⟩ 0 = wA at hownA hitA hbA ⊢
  have hI := hb2.size
  generalize w2.heap.size = I at hitA hlt2 hI ⊢
  have hB := hb1.size
  generalize w1.heap.size = B at hownA hlt2 hB ⊢
  clear hsA hb2 hb1
  go_loopw [9] (fun _ wr => ∃ (pos : Nat), pos ≤ a.length ∧ wr.ownsRow w.heap.size 3 1 (.slice (some ⟨B, 0, none⟩) (b.length + 1) (b.length + 1)) (b.length + 1) (ints (cnts (a.take pos).reverse b)) ∧ wr.heap[I]? = some (.stringIter ⟨a.toArray⟩ pos) ∧ Below w.heap.size w wr)
    (fun _ wr => a.length - wr.iterPos I)
  case atStart => exact ⟨0, Nat.zero_le _, hownA, hitA, hbA⟩
  case round =>
    obtain ⟨pos, hpos, hown, hit, hbr⟩ := hrel
    have hit0 := Lib.hid hit
    by_cases hp : pos < a.length
    · obtain ⟨c, hc⟩ : ∃ c, a[pos]? = some c := ⟨_, List.getElem?_eq_getElem hp⟩
      have hcc := okc_lt (okc_get HOA.out hc)
      have hnx := next_l (P := Tryd.prog) wr I a pos c hit hc hcc
      have HC := Lib.hid hc; clear hc
      go_wp2
      have hownB := ownsRow_iter hown (k := I) (by omega) ⟨a.toArray⟩ (pos + 1)
      have hitB := iterAt_heap wr I ⟨a.toArray⟩ pos (pos + 1) hit
      have hbB := below_iterAt hbr (k := I) (by omega) ⟨a.toArray⟩ (pos + 1)
      rw [← cm_top (a.take pos).reverse c b] at hownB
      clear hnx hown hit hbr
      generalize wr.iterAt I ⟨a.toArray⟩ (pos + 1) = wB at hownB hitB hbB ⊢
      go_loopw [10] (fun nv wx => ∃ (n : Nat), n ≤ b.length ∧ nv = .int .i64 n ∧ wx.ownsRow w.heap.size 3 1 (.slice (some ⟨B, 0, none⟩) (b.length + 1) (b.length + 1)) (b.length + 1) (ints (cm (a.take pos).reverse c b n)) ∧ wx.heap[I]? = some (.stringIter ⟨a.toArray⟩ (pos + 1)) ∧ Below w.heap.size w wx)
        (fun nv _ => (intOf nv).toNat)
      case atStart => exact ⟨b.length, Nat.le_refl _, rfl, hownB, hitB, hbB⟩
      case round =>
        obtain ⟨n, hn, rfl, hown, hit, hbx⟩ := hrel
        by_cases h0 : 0 < n
        · obtain ⟨m, rfl⟩ : ∃ m, n = m + 1 := ⟨n - 1, by omega⟩
          obtain ⟨d, hd⟩ : ∃ d, b[m]? = some d := ⟨_, List.getElem?_eq_getElem (by omega)⟩
          have hcell1 := ownsCell hown (cm_at (a.take pos).reverse c b (m + 1) (m + 1) (by omega) (by omega)) (by omega)
          have hcell0 := ownsCell hown (cm_at (a.take pos).reverse c b (m + 1) m (by omega) (by omega)) (by omega)
          have hfz := hown.frozenAt (m + 1)
          have hmb : m < b.length := by omega
          have hx1 := waysR_le (a.take pos).reverse (b.take (m + 1)).reverse
          have hx0 := waysR_le (a.take pos).reverse (b.take m).reverse
          have hpw : 2 ^ ((a.take pos).reverse).length ≤ 1024 := by
            have : ((a.take pos).reverse).length ≤ 10 := by simp; omega
            calc 2 ^ ((a.take pos).reverse).length ≤ 2 ^ 10 := Nat.pow_le_pow_right (by omega) this
              _ = 1024 := by decide
          obtain ⟨X1, HX1⟩ : ∃ X, Hid (waysR (a.take pos).reverse (b.take (m + 1)).reverse = X) := ⟨_, rfl⟩
          obtain ⟨X0, HX0⟩ : ∃ X, Hid (waysR (a.take pos).reverse (b.take m).reverse = X) := ⟨_, rfl⟩
          rw [HX1.out] at hcell1 hx1
          rw [HX0.out] at hcell0 hx0
          generalize 2 ^ ((a.take pos).reverse).length = PW at hpw hx1 hx0
          go_wp2
          · have hq : (wrap32 (((⟨b.toArray⟩ : ByteArray)[m]'(by simpa [ByteArray.size] using hmb)).toNat : Int) == (c.toNat : Int)) = true := by assumption
            have hq2 : b[m] = c := byte_of hmb hq
            have HQ := Lib.hid hq2; clear hq2
            go_region
            go_wp2
            have hs := hown.stored (m + 1) (.int .i64 ((X1 : Int) + (X0 : Int)))
            have e : (ints (cm (a.take pos).reverse c b (m + 1))).set (m + 1) (.int .i64 ((X1 : Int) + (X0 : Int))) = ints (cm (a.take pos).reverse c b m) := by
              rw [← cm_step_t _ _ _ _ hmb HQ.out, HX1.out, HX0.out, ints, ints, List.map_set, Int.natCast_add]
            rw [e] at hs
            exact ⟨⟨m, by omega, rfl, hs.1, (heap_setCell_ne (by simp; omega)).trans hit, (hbx.setCell (p := ⟨B, m + 1, none⟩) hB _).drew⟩, by simp [intOf]⟩
          · have hq : (wrap32 (((⟨b.toArray⟩ : ByteArray)[m]'(by simpa [ByteArray.size] using hmb)).toNat : Int) == (c.toNat : Int)) = false := by assumption
            have hq2 : b[m] ≠ c := byte_ne hmb hq
            have e := cm_step_f (a.take pos).reverse c b m hmb hq2
            rw [e] at hown
            exact ⟨⟨m, by omega, rfl, hown, hit, hbx⟩, by simp [intOf]⟩
        · obtain rfl : n = 0 := by omega
          have ec : a[pos] = c := by have := HC.out; rw [List.getElem?_eq_getElem hp] at this; simpa using this
          rw [cm_bot, ← ec, ← take_rev a pos hp] at hown
          clear ec
          go_wp2
          exact ⟨⟨pos + 1, by omega, hown, hit, hbx⟩, by rw [iterPos_of hit, iterPos_of hit0.out]; omega⟩
    · have hnx := next_l_end (P := Tryd.prog) wr I a pos hit hp
      obtain rfl : pos = a.length := by omega
      rw [List.take_length] at hown
      have hce := ownsCell hown (cnts_at a.reverse b b.length (Nat.le_refl _)) (by omega)
      rw [List.take_length] at hce
      change _ = some (Value.int .i64 ((waysL a b : Nat) : Int)) at hce
      rw [HZ.out]
      go_wp2
      go_ret2
      exact ⟨rfl, hbr⟩
end Go.Proofs.YtlbepjmiligpcaaDoor
