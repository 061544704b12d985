/-
  The contracts of strings.Builder (WriteByte, String) at this translation.
-/
import Derived.Test.YtalildjhighlhaaShelfC
import Derived.Test.YtalildjhighlhaaShelfD
import Derived.Test.YtalildjhighlhaaLeft
namespace Go.Proofs.Ytalildjhighlhaa
open Go.RowKit Go.Proofs.Short Go.Lib Go.Shelf

theorem Try.extraW : Builder.Extra Try.prog Try.lays167_ren := {
  sizeBuilder := by kernel_rfl
  liesBuilder := by kernel_rfl
  t5 := Try.underlying5
  a5 := Try.isAgg5
  z5 := Try.sizeOf5
  v5 := Try.zeroValue5
  infoByte := by kernel_rfl
  cellsByte := by kernel_rfl
  sizeByte := by kernel_rfl
  neB5 := by decide }
theorem Try.extraS : Builder.Extra Try.prog Try.lays169_ren := {
  sizeBuilder := by kernel_rfl
  liesBuilder := by kernel_rfl
  t5 := Try.underlying5
  a5 := Try.isAgg5
  z5 := Try.sizeOf5
  v5 := Try.zeroValue5
  infoByte := by kernel_rfl
  cellsByte := by kernel_rfl
  sizeByte := by kernel_rfl
  neB5 := by decide }
/-- block b is a builder that holds these bytes -/
abbrev IsB (w : World) (B b : Nat) (l : List UInt8) : Prop := Lib.IsBuilderF 89 5 B b (Lib.byteCells l) w
theorem isB_new (w : World) : IsB (w.alloc (.cells #[.pointer none, .slice none 0 0] 89)) w.heap.size w.heap.size [] := Lib.IsBuilderF.of (Lib.fresh_isBuilder 89 5 w)
theorem writeByteC (B b : Nat) (l : List UInt8) (c : UInt8) (z : Int) (w : World) (hz : z = (c.toNat : Int)) (h : IsB w B b l) (hl : l.length ≤ 1000) (hB : B ≤ w.heap.size) :
    Calls Try.prog 72 #[.pointer (some ⟨b, 0, none⟩), .int .u8 z] w fun e w' => e = .returned .nilIface ∧ IsB w' B b (l ++ [c]) ∧ Below B w w' ∧ Lib.OthersKept 5 (some b) w w' := by
  subst hz
  refine (Any.Builder_WriteByte_k Try.lays167 Try.extraW B b (Lib.byteCells l) (c.toNat : Int) w h (by rw [Lib.byteCells_length]; omega) hB).mono ?_
  rintro e w' ⟨rfl, h1, h2, h3⟩
  refine ⟨rfl, .inr ?_, h2, h3⟩
  have e : Lib.byteCells (l ++ [c]) = Lib.byteCells l ++ [.int .u8 (c.toNat : Int)] := by simp [Lib.byteCells]
  rw [e]; exact h1
theorem stringC (B b : Nat) (l : List UInt8) (w : World) (h : IsB w B b l) (hB : B ≤ w.heap.size) :
    Calls Try.prog 73 #[.pointer (some ⟨b, 0, none⟩)] w fun e w' => e = .returned (.string ⟨l.toArray⟩) ∧ Below B w w' :=
  (Any.Builder_String_any_f Try.lays169 Try.extraS B b l w h hB).mono fun _ _ h => ⟨h.1, h.2.2⟩
end Go.Proofs.Ytalildjhighlhaa
