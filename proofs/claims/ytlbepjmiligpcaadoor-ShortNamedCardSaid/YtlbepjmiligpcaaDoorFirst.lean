/-
  The walk of package short's First: it returns what the plain Lean function says.
-/
import Derived.Test.YtlbepjmiligpcaaDoorWays
set_option linter.unusedSimpArgs false
set_option linter.unusedVariables false
namespace Go.Proofs.YtlbepjmiligpcaaDoor
open Go.RowKit Go.Proofs.Short Go.Lib

theorem ownsRow_shape {w : World} {base : Nat} {e : TypeId} {size n : Nat} {v : Value} {xs : List Value} (h : w.ownsRow base e size v n xs) : ∃ A c, v = .slice A n c := by
  rcases h.2 with ⟨rfl, rfl⟩ | ⟨g, cap, cur, rfl, _⟩
  · exact ⟨none, 0, rfl⟩
  · exact ⟨_, _, rfl⟩
theorem ownsRow_ne_it {w : World} {base : Nat} {e : TypeId} {size n : Nat} {v : Value} {xs : List Value} (h : w.ownsRow base e size v n xs) {I : Nat} {s : ByteArray} {p : Nat} (hit : w.heap[I]? = some (.stringIter s p)) : v.ownBlock ≠ some I := by
  rcases h.2 with ⟨rfl, rfl⟩ | ⟨g, cap, cur, rfl, _, hh, _⟩
  · simp [Value.ownBlock]
  · intro e
    have : g = I := by simpa [Value.ownBlock] using e
    subst this
    rw [hh] at hit
    exact absurd hit (by simp)
theorem ownsRow_it {w : World} {base : Nat} {e : TypeId} {size n : Nat} {v : Value} {xs : List Value} (h : w.ownsRow base e size v n xs) {I : Nat} {s : ByteArray} {p : Nat} (hit : w.heap[I]? = some (.stringIter s p)) (p' : Nat) :
    (w.iterAt I s p').ownsRow base e size v n xs :=
  h.kept (grownBy_iterAt w I s p' (some I) rfl) (.inr (ownsRow_ne_it h hit))
/-- the iterator lies as it lay behind an append to an owned row -/
theorem it_grown {w w' : World} {base : Nat} {e : TypeId} {size n : Nat} {v : Value} {xs : List Value} (h : w.ownsRow base e size v n xs) {I : Nat} {s : ByteArray} {p : Nat} (hit : w.heap[I]? = some (.stringIter s p)) (hg : w.grownBy w' v.ownBlock) : w'.heap[I]? = some (.stringIter s p) :=
  (hg.block I (Array.getElem?_eq_some_iff.1 hit).1 (fun e => ownsRow_ne_it h hit e.symm)).trans hit
theorem below_own {w0 w w' : World} {base : Nat} {e : TypeId} {size n : Nat} {v : Value} {xs : List Value} (h : w.ownsRow base e size v n xs) (hb : Below base w0 w) (hB : base ≤ w.heap.size) (hg : w.grownBy w' v.ownBlock) : Below base w0 w' :=
  hb.grown hg hB (fun k e => (h.lt k e).1)

def FirstPost (w : World) (r : Option (List Nat)) (e : Ending) (w' : World) : Prop :=
  Below w.heap.size w w' ∧ match r with
    | none => e = .returned (.tuple #[.slice none 0 0, .int .i64 12])
    | some ps => ∃ v, e = .returned (.tuple #[v, .int .i64 0]) ∧ w'.ownsRow w.heap.size 3 1 v ps.length (ints ps)
def FInv (a b : List UInt8) (pos n : Nat) (ps : List Nat) : Prop := ps.length = n ∧ n ≤ b.length ∧ (firstL pos (a.drop pos) (b.drop n)).map (ps ++ ·) = firstL 0 a b
theorem finv_start (a b : List UInt8) : FInv a b 0 0 [] := ⟨rfl, Nat.zero_le _, by simp⟩
theorem drop_get {l : List UInt8} {k : Nat} {c : UInt8} (h : l[k]? = some c) : l.drop k = c :: l.drop (k + 1) := by
  obtain ⟨hk, rfl⟩ := List.getElem?_eq_some_iff.1 h; exact List.drop_eq_getElem_cons hk
theorem finv_hit {a b : List UInt8} {pos n : Nat} {ps : List Nat} {c : UInt8} (h : FInv a b pos n ps) (ha : a[pos]? = some c) (hb : b[n]? = some c) : FInv a b (pos + 1) (n + 1) (ps ++ [pos]) := by
  obtain ⟨h1, h2, h3⟩ := h
  refine ⟨by simp [h1], by have := (List.getElem?_eq_some_iff.1 hb).1; omega, ?_⟩
  rw [← h3, drop_get ha, drop_get hb]
  conv => rhs; unfold firstL
  rw [if_pos rfl, Option.map_map]
  congr 1; funext x; simp
theorem finv_miss {a b : List UInt8} {pos n : Nat} {ps : List Nat} {c d : UInt8} (h : FInv a b pos n ps) (ha : a[pos]? = some c) (hb : b[n]? = some d) (hne : d ≠ c) : FInv a b (pos + 1) n ps := by
  obtain ⟨h1, h2, h3⟩ := h
  refine ⟨h1, h2, ?_⟩
  rw [← h3, drop_get ha, drop_get hb]
  conv => rhs; unfold firstL
  rw [if_neg (fun e => hne e.symm)]
theorem finv_full {a b : List UInt8} {pos n : Nat} {ps : List Nat} (h : FInv a b pos n ps) (hn : n = b.length) : firstL 0 a b = some ps := by
  obtain ⟨h1, h2, h3⟩ := h
  rw [← h3, hn, List.drop_length, firstL_nil]; simp
theorem finv_over {a b : List UInt8} {pos n : Nat} {ps : List Nat} (h : FInv a b pos n ps) (hn : n = b.length) : FInv a b (pos + 1) n ps := by
  refine ⟨h.1, h.2.1, ?_⟩
  have := finv_full h hn
  rw [this, hn, List.drop_length, firstL_nil]; simp
theorem finv_out {a b : List UInt8} {pos n : Nat} {ps : List Nat} (h : FInv a b pos n ps) (hp : a.length ≤ pos) (hn : n < b.length) : firstL 0 a b = none := by
  obtain ⟨h1, h2, h3⟩ := h
  rw [← h3, List.drop_eq_nil_of_le hp, List.drop_eq_getElem_cons hn]; rfl

set_option maxRecDepth 100000 in
set_option maxHeartbeats 1000000 in
theorem first_any (a b : List UInt8) (w : World) (hz : chks [a, b] = 0) :
    Calls Tryd.prog 26 #[.string ⟨a.toArray⟩, .string ⟨b.toArray⟩] w (FirstPost w (firstL 0 a b)) := by
  obtain ⟨⟨hla, hoa⟩, hlb, hob⟩ := chks_two hz
  have ha : a.length ≤ maxLen := by unfold maxLen; omega
  have hb : b.length ≤ maxLen := by unfold maxLen; omega
  have hz2 : (chks [a, b] != 0) = false := by simp [hz]
  have HZ := Lib.hid hz; clear hz
  have HOA := Lib.hid hoa; have HOB := Lib.hid hob; clear hoa hob
  obtain ⟨i0, hi, hz0, hz1, hz2'⟩ := info_parts Tryd.infoInt
  go_enter Tryd.func26, Tryd.ntmps26
  go_wp2_with (first
      | (go_at_call 21; refine (checkTwo a b _ _ ha hb).mono ?_; rintro e w1 ⟨rfl, hb1⟩))
  have hownA := (World.ownsRow_made (base := w.heap.size) (e := 3) (size := 1) w1 #[] 0 hb1.size (Nat.zero_le _) rfl).alloc (.stringIter ⟨a.toArray⟩ 0)
  have hitA := World.iter_heap (w1.alloc (.cells #[] 3)) ⟨a.toArray⟩ 0
  have hsA : (w1.alloc (.cells #[] 3)).heap.size = w1.heap.size + 1 := by simp
  rw [hsA] at hitA
  have hbA : Below w.heap.size w ((w1.alloc (.cells #[] 3)).iter ⟨a.toArray⟩ 0) := (hb1.alloc hb1.size _).alloc (by rw [hsA]; have := hb1.size; omega) _
  change World.ownsRow ((w1.alloc (.cells #[] 3)).iter ⟨a.toArray⟩ 0) _ _ _ _ _ _ at hownA
  have hI : w.heap.size ≤ w1.heap.size + 1 := by have := hb1.size; omega
  have hfin := finv_start a b
  generalize (w1.alloc (.cells #[] 3)).iter ⟨a.toArray⟩ 0 = wA at hownA hitA hbA ⊢
  generalize hg0 : w1.heap.size = B at hownA hitA hI ⊢
  generalize B + 1 = I at hitA hI ⊢
  clear hsA hb1 hg0
  go_loopw [7] (fun v wr => ∃ (pos n : Nat) (ps : List Nat) (A : Option Addr) (c : Nat), pos ≤ a.length ∧ v = .slice A n c ∧ Hid (FInv a b pos n ps) ∧ n ≤ b.length ∧ wr.ownsRow w.heap.size 3 1 (.slice A n c) n (ints ps) ∧ wr.heap[I]? = some (.stringIter ⟨a.toArray⟩ pos) ∧ Below w.heap.size w wr)
    (fun _ wr => a.length - wr.iterPos I)
  case atStart => exact ⟨0, 0, [], _, _, Nat.zero_le _, rfl, hfin, Nat.zero_le _, hownA, hitA, hbA⟩
  case round =>
    obtain ⟨pos, n, ps, A, c, hpos, rfl, hinv, hnb, hown, hit, hbr⟩ := hrel
    have hit0 := Lib.hid hit
    have hsz := hbr.size
    by_cases hp : pos < a.length
    · obtain ⟨x, hx⟩ : ∃ x, a[pos]? = some x := ⟨_, List.getElem?_eq_getElem hp⟩
      have hxx := okc_lt (okc_get HOA.out hx)
      have hnx := next_l (P := Tryd.prog) wr I a pos x hit hx hxx
      have HX := Lib.hid hx; clear hx
      have hownB := ownsRow_it hown hit (pos + 1)
      have hitB := iterAt_heap wr I ⟨a.toArray⟩ pos (pos + 1) hit
      have hbB := below_iterAt hbr (k := I) hI ⟨a.toArray⟩ (pos + 1)
      have hszB := iterAt_size wr I ⟨a.toArray⟩ (pos + 1)
      have HSZ := Lib.hid hszB; clear hszB
      by_cases hn : n < b.length
      · have hnb2 : n < (⟨b.toArray⟩ : ByteArray).size := by simpa [ByteArray.size] using hn
        go_wp2_with (first
          | (at_builtin; refine wpList_append_own _ rfl _ _ 35 rfl w.heap.size 3 i0 (.int .i64 0) 1 8 Tryd.underlying35 hi hz0 hz1 hz2' rfl (by decide) _ _ _ rfl (hownB.alloc _) ⟨_, 0, none⟩ 1 1 [.int .i64 (pos : Int)] rfl rfl ?c1 ?c2 ?c3 ?c4 ?c5 ?_))
        case c1 => exact cell_one_new _ _ _
        case c2 => exact fun u hu => by rw [List.mem_singleton.1 hu]; rfl
        case c3 => unfold maxLen; omega
        case c4 => omega
        case c5 => simp only [World.size_alloc]; rw [HSZ.out]; omega
        · intro v1 w2 hown2 hg2 _
          obtain ⟨A2, c2, rfl⟩ := ownsRow_shape hown2
          have hq : (wrap32 (((⟨b.toArray⟩ : ByteArray)[n]'hnb2).toNat : Int) == (x.toNat : Int)) = true := by assumption
          have hq2 : b[n] = x := byte_of hn hq
          have hfi := finv_hit hinv.out HX.out (by rw [List.getElem?_eq_getElem hn, hq2])
          have HF := Lib.hid hfi; clear hfi hq2
          have hbA2 := hbB.alloc (by rw [HSZ.out]; exact hsz) (.cells #[.int .i64 (pos : Int)] 3)
          have hit2 : w2.heap[I]? = some (.stringIter ⟨a.toArray⟩ (pos + 1)) := it_grown (hownB.alloc (.cells #[.int .i64 (pos : Int)] 3)) ((Below.heap_alloc _ _ I (Array.getElem?_eq_some_iff.1 hitB).1).trans hitB) hg2
          have hb2 := below_own (hownB.alloc (.cells #[.int .i64 (pos : Int)] 3)) hbA2 (by simp only [World.size_alloc]; rw [HSZ.out]; omega) hg2
          have e : ints ps ++ [.int .i64 (pos : Int)] = ints (ps ++ [pos]) := by simp [ints]
          rw [e] at hown2
          clear e hbA2 hg2
          go_wp2
          exact ⟨⟨pos + 1, n + 1, ps ++ [pos], A2, c2, by omega, by go_num, HF, by omega, hown2, hit2, hb2⟩, by rw [iterPos_of hit2, iterPos_of hit0.out]; omega⟩
        · have hq : (wrap32 (((⟨b.toArray⟩ : ByteArray)[n]'hnb2).toNat : Int) == (x.toNat : Int)) = false := by assumption
          have hq2 : b[n] ≠ x := byte_ne hn hq
          have hfi := finv_miss hinv.out HX.out (List.getElem?_eq_getElem hn) hq2
          exact ⟨⟨pos + 1, n, ps, A, c, by omega, rfl, hfi, by omega, hownB, hitB, hbB⟩, by rw [iterPos_of hitB, iterPos_of hit0.out]; omega⟩
      · have hfi := finv_over hinv.out (by omega)
        have HF := Lib.hid hfi; clear hfi
        go_wp2
        exact ⟨⟨pos + 1, n, ps, A, c, by omega, rfl, HF, by omega, hownB, hitB, hbB⟩, by rw [iterPos_of hitB, iterPos_of hit0.out]; omega⟩
    · have hnx := next_l_end (P := Tryd.prog) wr I a pos hit hp
      have hlen := hinv.out.1
      by_cases hn : n < b.length
      · have hfi := finv_out hinv.out (by omega) hn
        have HF := Lib.hid hfi; clear hfi hlen
        go_wp2
        go_ret2
        refine ⟨hbr, ?_⟩
        rw [HF.out]
        rfl
      · have hfi := finv_full hinv.out (by omega)
        have HF := Lib.hid hfi; have HL := Lib.hid hlen; clear hfi hlen
        go_wp2
        go_ret2
        refine ⟨hbr, ?_⟩
        rw [HF.out]
        exact ⟨_, by rw [HZ.out]; rfl, by rw [HL.out]; exact hown⟩
end Go.Proofs.YtlbepjmiligpcaaDoor
