/-
  The walk of the statements' helper opposite: a string from its end.
-/
import Derived.Test.YtalildjhighlhaaLeft
import Derived.Test.YtalildjhighlhaaShelfH
import Derived.Laws.IdiomStrings
namespace Go.Proofs.Ytalildjhighlhaa
open Go.RowKit Go.Proofs.Short Go.Sort

def encB (b : UInt8) : Value := .int .u8 (b.toNat : Int)
theorem grown_put (w : World) (g n : Nat) (d : Array UInt8) : w.grownBy (putRow encB (Sort.ahead w n) g 0 d) (some g) := by
  refine ⟨rfl, rfl, rfl, by simp, fun k hk hne => ?_⟩
  have : g ≠ k := fun e => hne (by rw [e])
  simp [putRow, mapBlock, Sort.ahead, Array.getElem?_modify, this]
set_option maxHeartbeats 1000000 in
theorem opposite_any (x : List UInt8) (w : World) (hx : x.length ≤ 100) :
    Calls Try.prog 54 #[.string ⟨x.toArray⟩] w fun e w' => e = .returned (.string ⟨x.reverse.toArray⟩) ∧ Below w.heap.size w w' := by
  have hcv := run_bytes_of_string (P := Try.prog) w 9 79 5 ⟨x.toArray⟩ Try.underlying9 Try.underlying79 Try.underlying5
  have hsz : (⟨x.toArray⟩ : ByteArray).size = x.length := by simp [ByteArray.size]
  rw [hsz] at hcv
  generalize grownCap w x.length 0 5 = cap at hcv
  have hrow : ∀ j (hj : j < x.length), (bytesRow ⟨x.toArray⟩ cap)[j]? = some (encB x[j]) := fun j hj => by
    unfold bytesRow
    rw [Array.getElem?_append_left (by simpa using hj)]
    simp [encB, hj]
  have hrs : x.length ≤ (bytesRow ⟨x.toArray⟩ cap).size := by unfold bytesRow; simp
  generalize bytesRow ⟨x.toArray⟩ cap = C at hcv hrow hrs
  have hH : Holds encB (w.drew.alloc (.cells C 5 (C.size, C.size + 1))) w.heap.size 0 x.toArray := fun j hj => by
    have hj' : j < x.length := by simpa using hj
    refine ⟨?_, ?_⟩
    · rw [Nat.zero_add]
      have h := World.cell?_alloc_mark w.drew C 5 (C.size, C.size + 1) j
      refine h.trans ?_
      rw [hrow j hj', getElem!_pos x.toArray j hj]; simp
    · have hb : (w.drew.alloc (.cells C 5 (C.size, C.size + 1))).heap[w.heap.size]? = some (.cells C 5 (C.size, C.size + 1)) := by
        show (w.heap.push _)[w.heap.size]? = _
        simp
      simp only [World.frozen?, hb]
      simp; omega
  have hb1 : Below w.heap.size w (w.drew.alloc (.cells C 5 (C.size, C.size + 1))) := ((Below.refl _ w).drew).alloc (Nat.le_refl _) _
  have HH := Lib.hid hH; have HB := Lib.hid hb1
  have hz0 : (⟨x.toArray⟩ : ByteArray).data.toList = x := by simp
  clear hH hb1 hrow hrs hsz hz0
  generalize w.drew.alloc (.cells C 5 (C.size, C.size + 1)) = w1 at hcv HH HB
  go_enter Try.func54, Try.ntmps54
  go_wp2_with (fail)
  have hR := AnyE.slices_Reverse Try.revB encB (fun _ => rfl) w.heap.size 0 cap x w1 HH.out (by omega)
  change Calls Try.prog 75 _ _ _ at hR
  clear hcv
  refine hR.mono ?_
  rintro e w2 ⟨rfl, n, hw2⟩
  have hcell : ∀ j (hj : j < x.reverse.length), w2.cell? ((⟨w.heap.size, 0, none⟩ : Addr).add j) = some (.int .u8 (x.reverse[j].toNat : Int)) := fun j hj => by
    have hj' : j < x.length := by simpa using hj
    rw [hw2]
    have h := cell?_putRow encB (Sort.ahead w1 n) w.heap.size 0 x.toArray x.reverse.toArray HH.out (by simp) j (by simpa using hj')
    have ea : (⟨w.heap.size, 0, none⟩ : Addr).add j = ⟨w.heap.size, 0 + j, none⟩ := by unfold Addr.add; split <;> simp_all
    rw [ea, h, getElem!_pos _ j (by simpa using hj')]; simp [encB]
  have hcb := run_convert_bytes_back (P := Try.prog) w2 79 9 5 ⟨w.heap.size, 0, none⟩ cap x.reverse Try.underlying79 Try.underlying5 Try.underlying9 hcell
  rw [List.length_reverse] at hcb
  have hb2 : Below w.heap.size w w2 := by
    rw [hw2]; exact HB.out.grown (grown_put _ _ _ _) HB.out.size (fun k e => by cases e; exact Nat.le_refl _)
  clear hcell hw2 hR HH HB
  go_wp2_with (fail)
  go_ret
  exact ⟨rfl, hb2⟩
end Go.Proofs.Ytalildjhighlhaa
