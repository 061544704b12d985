/-
  The walks of package short's firstMissing and Missing, and the errors of Arches and Missing.
-/
import Derived.Test.YtlbepjmiligpcaaDoorArches
import Derived.Test.YtlbepjmiligpcaaDoorAddParts
import Derived.Deep.RegionHeld3
import Derived.StillTailTactics
set_option linter.unusedSimpArgs false
set_option linter.unusedVariables false
namespace Go.Proofs.YtlbepjmiligpcaaDoor
open Go.RowKit Go.Proofs.Short Go.Lib Go.Maps Go.WideMaps Go.Shelf

theorem index_idx (c : UInt8) : ∀ l : List UInt8, Lib.indexByte l c = match idxL c l with | none => -1 | some i => (i : Int)
  | [] => rfl
  | b :: l => by
    have ih := index_idx c l
    unfold Lib.indexByte idxL
    by_cases h : b = c
    · subst h; simp
    · have h1 : (b == c) = false := by simpa using h
      rw [h1, if_neg h]
      simp only [Bool.false_eq_true, if_false]
      rw [ih]
      cases idxL c l with
      | none => rfl
      | some i =>
        have h2 : ((i : Int) == -1) = false := by rw [beq_eq_false_iff_ne]; omega
        simp only [h2, Bool.false_eq_true, if_false, Option.map_some]
        exact (Int.natCast_add i 1).symm
theorem idx_lt {c : UInt8} : ∀ {l : List UInt8} {i : Nat}, idxL c l = some i → i < l.length
  | [], i, h => by simp [idxL] at h
  | b :: l, i, h => by
    unfold idxL at h
    split at h
    · have : i = 0 := by simpa using h.symm
      subst this; simp
    · obtain ⟨j, hj, rfl⟩ := Option.map_eq_some_iff.1 h
      have := idx_lt hj
      simp; omega
theorem indexC (l : List UInt8) (c : UInt8) (hc : c.toNat < 128) (W : World) :
    Calls Tryd.prog 59 #[.string ⟨l.toArray⟩, .int .i32 (c.toNat : Int)] W fun e w' => e = .returned (.int .i64 (match idxL c l with | none => -1 | some i => (i : Int))) ∧ w' = W := by
  have h := Any.strings_IndexRune_ascii Tryd.lays152 ⟨l.toArray⟩ (c.toNat : Int) W (by omega) (by omega)
  rw [byte_back] at h
  rw [← index_idx]
  exact h
theorem indexC_none (l : List UInt8) (c : UInt8) (hc : c.toNat < 128) (hi : idxL c l = none) (W : World) :
    Calls Tryd.prog 59 #[.string ⟨l.toArray⟩, .int .i32 (c.toNat : Int)] W fun e w' => e = .returned (.int .i64 (-1)) ∧ w' = W := by
  have h := indexC l c hc W
  rw [hi] at h; exact h
theorem indexC_some (l : List UInt8) (c : UInt8) (hc : c.toNat < 128) (i : Nat) (hi : idxL c l = some i) (W : World) :
    Calls Tryd.prog 59 #[.string ⟨l.toArray⟩, .int .i32 (c.toNat : Int)] W fun e w' => e = .returned (.int .i64 (i : Int)) ∧ w' = W := by
  have h := indexC l c hc W
  rw [hi] at h; exact h
theorem alphaL_ok {k pos : Nat} {c : UInt8} (h : (alphaL k)[pos]? = some c) : c.toNat < 128 := by
  have hm : c ∈ [97, 98, 99, 100, 101, 102] := List.mem_of_mem_take (List.mem_of_getElem? h)
  simp at hm
  rcases hm with rfl | rfl | rfl | rfl | rfl | rfl <;> decide
theorem alphaL_len {k : Nat} (h : k ≤ 6) : (alphaL k).length = k := by unfold alphaL; rw [List.length_take]; simp; omega

def missF (rest : List UInt8) (t : List (List UInt8)) (f : List UInt8) (l : List UInt8) : List UInt8 := l.foldl (fun f c => better f (missBy c rest t)) f
theorem miss_step {rest : List UInt8} {t : List (List UInt8)} {f l : List UInt8} {pos : Nat} {c : UInt8} (hc : l[pos]? = some c) : missF rest t f (l.drop pos) = missF rest t (better f (missBy c rest t)) (l.drop (pos + 1)) := by
  rw [drop_get hc]; rfl
theorem better_nil (x : List UInt8) : better [] x = x := if_pos rfl
theorem better_lt {f x : List UInt8} (h : ltW x f = true) : better f x = x := by
  unfold better
  by_cases hf : f = []
  · rw [if_pos hf]
  · rw [if_neg hf, if_pos h]
theorem better_ge {f x : List UInt8} (hf : f ≠ []) (h : ltW x f = false) : better f x = f := by
  unfold better
  rw [if_neg hf, if_neg (by rw [h]; decide)]

set_option maxRecDepth 100000 in
set_option maxHeartbeats 1000000 in
theorem firstMissing_any (rest : List UInt8) (t : List (List UInt8)) (k g o n c0 : Nat) (w : World) (hr : rest.length ≤ 10) (hn : n = rest.length + 1) (h1 : 1 ≤ k) (h6 : k ≤ 6) (hg : g < w.heap.size)
    (hcell : ∀ j, j < rest.length → w.cell? ⟨g, o + (j + 1), none⟩ = some (.string ⟨(t.getD j []).toArray⟩)) (hlen : ∀ j, (t.getD j []).length ≤ 1000) :
    Calls Tryd.prog 46 #[.string ⟨rest.toArray⟩, .slice (some ⟨g, o, none⟩) n c0, .int .i64 k] w fun e w' => e = .returned (.string ⟨(firstMissL rest t k).toArray⟩) ∧ Below w.heap.size w w' := by
  have hsl := slice_alpha k h1 h6
  have hal := alphaL_len h6
  obtain ⟨r, hr0⟩ : ∃ r, Hid (missF rest t [] ((alphaL k).drop 0) = r) := ⟨_, rfl⟩
  have hrr : firstMissL rest t k = r := hr0.out
  rw [hrr]
  obtain ⟨al, hal'⟩ : ∃ al, al = alphaL k := ⟨_, rfl⟩
  have hok : ∀ (pos : Nat) (c : UInt8), al[pos]? = some c → c.toNat < 128 := fun pos c h => alphaL_ok (k := k) (by rw [← hal']; exact h)
  rw [← hal'] at hsl hal hr0
  have HN := Lib.hid hn; have HAL := Lib.hid hal; have HC := Lib.hid hcell; have HLEN := Lib.hid hlen; have HOK := Lib.hid hok
  have hnn : n ≤ 11 := by omega
  clear hrr hal' hn hal hcell hlen hok
  go_enter Tryd.func46, Tryd.ntmps46
  go_wp2
  have hitA := World.iter_heap w ⟨al.toArray⟩ 0
  have hbA : Below w.heap.size w (w.iter ⟨al.toArray⟩ 0) := (Below.refl _ w).alloc (Nat.le_refl _) _
  generalize w.iter ⟨al.toArray⟩ 0 = wA at hitA hbA ⊢
  obtain ⟨I, hI⟩ : ∃ I, I = w.heap.size := ⟨_, rfl⟩
  rw [← hI] at hitA ⊢
  have HI := Lib.hid hI; clear hI
  go_loopw [7] (fun fv wr => ∃ (pos : Nat) (f : List UInt8) (s : ByteArray), pos ≤ al.length ∧ f.length ≤ 2000 ∧ fv = .string s ∧ Hid (s = ⟨f.toArray⟩) ∧ wr.heap[I]? = some (.stringIter ⟨al.toArray⟩ pos) ∧ Below w.heap.size w wr ∧ Hid (missF rest t f (al.drop pos) = r))
    (fun _ wr => al.length - wr.iterPos I)
  case atStart => exact ⟨0, [], _, Nat.zero_le _, by simp, rfl, rfl, hitA, hbA, hr0⟩
  case round =>
    obtain ⟨pos, f, s, hpos, hfl, rfl, hs, hit, hbr, hf⟩ := hrel
    have hit0 := Lib.hid hit
    by_cases hp : pos < al.length
    · obtain ⟨c, hc⟩ : ∃ c, al[pos]? = some c := ⟨_, List.getElem?_eq_getElem hp⟩
      have hcc := HOK.out pos c hc
      have hnx := next_l (P := Tryd.prog) wr I al pos c hit hc hcc
      have hst := miss_step (rest := rest) (t := t) (f := f) hc
      have henc := encode_byte c hcc
      have hitB := iterAt_heap wr I ⟨al.toArray⟩ pos (pos + 1) hit
      have hbB := below_iterAt hbr (k := I) (by rw [HI.out]; exact Nat.le_refl _) ⟨al.toArray⟩ (pos + 1)
      have HST := Lib.hid hst; have HE := Lib.hid henc; clear hst hc henc
      generalize hwB : wr.iterAt I ⟨al.toArray⟩ (pos + 1) = wB at hnx hitB hbB
      clear hwB
      have hee := HE.out
      rcases Option.eq_none_or_eq_some (idxL c rest) with hidx | ⟨at_, hidx⟩
      · have hmb : missBy c rest t = [c] := by unfold missBy; rw [hidx]
        have hIx := indexC_none rest c hcc hidx
        rw [hmb] at HST
        have HIX := Lib.hid hIx
        have HYL : Hid (([c] : List UInt8).length ≤ 2000) := by show 1 ≤ 2000; omega
        have HYS : Hid ((⟨#[c]⟩ : ByteArray) = ⟨([c] : List UInt8).toArray⟩) := rfl
        clear hmb hidx hIx
        by_cases hfe : f = []
        · have e : missF rest t ([c]) (al.drop (pos + 1)) = r := by rw [← hf.out, HST.out, hfe, better_nil]
          have hse : s.toList.isEmpty = true := by rw [hs.out, toList_data, hfe]; rfl
          have HF := Lib.hid e; clear e hfe
          go_wp2_with (go_at_call 59; refine (HIX.out _).mono ?_; rintro e w3 ⟨rfl, rfl⟩)
          exact ⟨⟨pos + 1, [c], _, by omega, HYL.out, rfl, rfl, hitB, hbB, HF⟩, by rw [iterPos_of hitB, iterPos_of hit0.out]; omega⟩
        · have hse : s.toList.isEmpty = false := by
            rw [hs.out, toList_data]
            cases f with
            | nil => exact absurd rfl hfe
            | cons d f2 => rfl
          have hsh := fun W => shortest_any ([c]) f W (by have := HYL.out; unfold maxLen; omega) (by unfold maxLen; omega)
          rw [← hs.out, ← HYS.out] at hsh
          have HSH := Lib.hid hsh; clear hsh
          cases hlt : ltW ([c]) f with
          | true =>
            have e : missF rest t ([c]) (al.drop (pos + 1)) = r := by rw [← hf.out, HST.out, better_lt hlt]
            have hneg : cfW ([c]) f < 0 := by simpa [ltW] using hlt
            have HF := Lib.hid e; clear e hlt hfe
            generalize cfW ([c]) f = z at HSH hneg
            go_wp2_with (first
              | (go_at_call 59; refine (HIX.out _).mono ?_; rintro e w3 ⟨rfl, rfl⟩)
              | (go_at_call 44; refine (HSH.out _).mono ?_; rintro e w4 ⟨rfl, ob, rfl⟩))
            exact ⟨⟨pos + 1, [c], _, by omega, HYL.out, rfl, rfl, ((Below.heap_alloc _ _ I (Array.getElem?_eq_some_iff.1 hitB).1).trans hitB), hbB.alloc hbB.size _, HF⟩, by rw [iterPos_of ((Below.heap_alloc _ _ I (Array.getElem?_eq_some_iff.1 hitB).1).trans hitB), iterPos_of hit0.out]; omega⟩
          | false =>
            have e : missF rest t f (al.drop (pos + 1)) = r := by rw [← hf.out, HST.out, better_ge hfe hlt]
            have hneg : decide (cfW ([c]) f < 0) = false := by simpa [ltW] using hlt
            have HF := Lib.hid e; clear e hlt hfe
            generalize cfW ([c]) f = z at HSH hneg
            go_wp2_with (first
              | (go_at_call 59; refine (HIX.out _).mono ?_; rintro e w3 ⟨rfl, rfl⟩)
              | (go_at_call 44; refine (HSH.out _).mono ?_; rintro e w4 ⟨rfl, ob, rfl⟩))
            exact ⟨⟨pos + 1, f, s, by omega, hfl, rfl, hs, ((Below.heap_alloc _ _ I (Array.getElem?_eq_some_iff.1 hitB).1).trans hitB), hbB.alloc hbB.size _, HF⟩, by rw [iterPos_of ((Below.heap_alloc _ _ I (Array.getElem?_eq_some_iff.1 hitB).1).trans hitB), iterPos_of hit0.out]; omega⟩
      · have hmb : missBy c rest t = c :: t.getD at_ [] := by unfold missBy; rw [hidx]
        have hal := idx_lt hidx
        have hcl : wB.cell? ⟨g, o + (at_ + 1), none⟩ = some (.string ⟨(t.getD at_ []).toArray⟩) := (hbB.cell (p := ⟨g, o + (at_ + 1), none⟩) hg).trans (HC.out at_ hal)
        have hnl : at_ + 1 < n := by have := HN.out; omega
        have hIx := indexC_some rest c hcc at_ hidx
        rw [hmb] at HST
        have hyl := HLEN.out at_
        have HIX := Lib.hid hIx
        clear hmb hidx hIx
        generalize t.getD at_ [] = y at HST hcl hyl
        have HYL : Hid ((c :: y).length ≤ 2000) := by show (c :: y).length ≤ 2000; simp; omega
        have HYS : Hid ((⟨#[c]⟩ ++ ⟨y.toArray⟩ : ByteArray) = ⟨(c :: y).toArray⟩) := by show _ = _; rw [ByteArray.mk_append_mk]; simp
        by_cases hfe : f = []
        · have e : missF rest t (c :: y) (al.drop (pos + 1)) = r := by rw [← hf.out, HST.out, hfe, better_nil]
          have hse : s.toList.isEmpty = true := by rw [hs.out, toList_data, hfe]; rfl
          have HF := Lib.hid e; clear e hfe
          go_wp2_with (go_at_call 59; refine (HIX.out _).mono ?_; rintro e w3 ⟨rfl, rfl⟩)
          exact ⟨⟨pos + 1, c :: y, _, by omega, HYL.out, rfl, HYS, hitB, hbB, HF⟩, by rw [iterPos_of hitB, iterPos_of hit0.out]; omega⟩
        · have hse : s.toList.isEmpty = false := by
            rw [hs.out, toList_data]
            cases f with
            | nil => exact absurd rfl hfe
            | cons d f2 => rfl
          have hsh := fun W => shortest_any (c :: y) f W (by have := HYL.out; unfold maxLen; omega) (by unfold maxLen; omega)
          rw [← hs.out, ← HYS.out] at hsh
          have HSH := Lib.hid hsh; clear hsh
          cases hlt : ltW (c :: y) f with
          | true =>
            have e : missF rest t (c :: y) (al.drop (pos + 1)) = r := by rw [← hf.out, HST.out, better_lt hlt]
            have hneg : cfW (c :: y) f < 0 := by simpa [ltW] using hlt
            have HF := Lib.hid e; clear e hlt hfe
            generalize cfW (c :: y) f = z at HSH hneg
            go_wp2_with (first
              | (go_at_call 59; refine (HIX.out _).mono ?_; rintro e w3 ⟨rfl, rfl⟩)
              | (go_at_call 44; refine (HSH.out _).mono ?_; rintro e w4 ⟨rfl, ob, rfl⟩))
            exact ⟨⟨pos + 1, c :: y, _, by omega, HYL.out, rfl, HYS, ((Below.heap_alloc _ _ I (Array.getElem?_eq_some_iff.1 hitB).1).trans hitB), hbB.alloc hbB.size _, HF⟩, by rw [iterPos_of ((Below.heap_alloc _ _ I (Array.getElem?_eq_some_iff.1 hitB).1).trans hitB), iterPos_of hit0.out]; omega⟩
          | false =>
            have e : missF rest t f (al.drop (pos + 1)) = r := by rw [← hf.out, HST.out, better_ge hfe hlt]
            have hneg : decide (cfW (c :: y) f < 0) = false := by simpa [ltW] using hlt
            have HF := Lib.hid e; clear e hlt hfe
            generalize cfW (c :: y) f = z at HSH hneg
            go_wp2_with (first
              | (go_at_call 59; refine (HIX.out _).mono ?_; rintro e w3 ⟨rfl, rfl⟩)
              | (go_at_call 44; refine (HSH.out _).mono ?_; rintro e w4 ⟨rfl, ob, rfl⟩))
            exact ⟨⟨pos + 1, f, s, by omega, hfl, rfl, hs, ((Below.heap_alloc _ _ I (Array.getElem?_eq_some_iff.1 hitB).1).trans hitB), hbB.alloc hbB.size _, HF⟩, by rw [iterPos_of ((Below.heap_alloc _ _ I (Array.getElem?_eq_some_iff.1 hitB).1).trans hitB), iterPos_of hit0.out]; omega⟩
    · have hnx := next_l_end (P := Tryd.prog) wr I al pos hit hp
      have e : r = f := by rw [← hf.out, List.drop_eq_nil_of_le (by omega)]; rfl
      have HF := Lib.hid e; clear e
      go_wp2
      go_ret
      rw [HF.out, ← hs.out]
      exact ⟨rfl, hbr⟩
/-! ### Missing -/
abbrev strs (l : List (List UInt8)) : List Value := l.map encStr
theorem strs_made (n : Nat) : (madeCells (Value.string ByteArray.empty).cells (n * 1)).toList = strs (List.replicate n []) := by
  show (madeCells #[Value.string ByteArray.empty] (n * 1)).toList = _
  rw [Nat.mul_one, toList_madeCells_one, strs, List.map_replicate]; rfl
theorem missF_len (rest : List UInt8) (t : List (List UInt8)) (L : Nat) (ht : ∀ j, (t.getD j []).length ≤ L) : ∀ (l : List UInt8) (f : List UInt8), f.length ≤ L + 1 → (missF rest t f l).length ≤ L + 1
  | [], f, h => h
  | c :: l, f, h => by
    refine missF_len rest t L ht l _ ?_
    have hm : (missBy c rest t).length ≤ L + 1 := by
      unfold missBy
      cases idxL c rest with
      | none => show 1 ≤ L + 1; omega
      | some i => have := ht i; show (t.getD i []).length + 1 ≤ L + 1; omega
    show (better f (missBy c rest t)).length ≤ L + 1
    unfold better
    split
    · exact hm
    · split
      · exact hm
      · exact h
theorem missT_len (k : Nat) : ∀ (w : List UInt8) (j : Nat), ((missT k w).getD j []).length ≤ w.length + 1
  | [], j => by
    have h0 := missF_len [] [] 0 (by simp) (alphaL k) [] (by simp)
    match j with
    | 0 => exact h0
    | j + 1 => simp [missT]
  | a :: w, j => by
    match j with
    | 0 => exact missF_len (a :: w) (missT k w) (w.length + 1) (missT_len k w) (alphaL k) [] (by simp)
    | j + 1 =>
      have := missT_len k w j
      show ((missT k w).getD j []).length ≤ w.length + 1 + 1
      omega
theorem missT_length (k : Nat) : ∀ w : List UInt8, (missT k w).length = w.length + 1
  | [] => rfl
  | a :: w => by simp [missT, missT_length k w]
/-- what Missing's table holds behind place n -/
def tabM (k : Nat) (x : List UInt8) (n : Nat) : List (List UInt8) := if n ≤ x.length then missT k (x.drop n) else []
def rowM (k : Nat) (x : List UInt8) (n : Nat) : List (List UInt8) := List.replicate n [] ++ tabM k x n
theorem tabM_length (k : Nat) (x : List UInt8) (n : Nat) (h : n ≤ x.length + 1) : (tabM k x n).length = x.length + 1 - n := by
  unfold tabM
  split
  · rw [missT_length, List.length_drop]; omega
  · simp; omega
theorem tabM_step (k : Nat) (x : List UInt8) (m : Nat) (h : m ≤ x.length) : tabM k x m = firstMissL (x.drop m) (tabM k x (m + 1)) k :: tabM k x (m + 1) := by
  by_cases he : m = x.length
  · subst he
    unfold tabM
    rw [if_pos (Nat.le_refl _), if_neg (by omega), List.drop_length]; rfl
  · have hm : m < x.length := by omega
    unfold tabM
    rw [if_pos h, if_pos (by omega), List.drop_eq_getElem_cons hm]; rfl
theorem tabM_len (k : Nat) (x : List UInt8) (n : Nat) (hx : x.length ≤ 10) (j : Nat) : ((tabM k x n).getD j []).length ≤ 1000 := by
  unfold tabM
  split
  · have := missT_len k (x.drop n) j
    rw [List.length_drop] at this; omega
  · simp
theorem rowM_length (k : Nat) (x : List UInt8) (n : Nat) (h : n ≤ x.length + 1) : (rowM k x n).length = x.length + 1 := by
  unfold rowM; rw [List.length_append, tabM_length k x n h]; simp; omega
theorem rowM_at (k : Nat) (x : List UInt8) (m j : Nat) (hm : m ≤ x.length) (hj : j < x.length - m) : (rowM k x (m + 1))[m + (j + 1)]? = some ((tabM k x (m + 1)).getD j []) := by
  unfold rowM
  rw [List.getElem?_append_right (by rw [List.length_replicate]; omega)]
  have e : m + (j + 1) - (List.replicate (m + 1) ([] : List UInt8)).length = j := by rw [List.length_replicate]; omega
  rw [e, List.getD_eq_getElem?_getD, List.getElem?_eq_getElem (by rw [tabM_length _ _ _ (by omega)]; omega)]; rfl
theorem rowM_set (k : Nat) (x : List UInt8) (m : Nat) (hm : m ≤ x.length) : (rowM k x (m + 1)).set m (firstMissL (x.drop m) (tabM k x (m + 1)) k) = rowM k x m := by
  unfold rowM
  rw [tabM_step k x m hm, List.replicate_succ', List.append_assoc, List.set_append_right _ _ (by simp)]
  simp
theorem rowM_start (k : Nat) (x : List UInt8) : rowM k x (x.length + 1) = List.replicate (x.length + 1) [] := by
  unfold rowM tabM; rw [if_neg (by omega)]; simp

theorem slice_from (x : List UInt8) (m : Nat) (hm : m ≤ x.length) (W : World) : (Instr.slice 9 (.string ⟨x.toArray⟩) (some (.int .i64 (m : Int))) none none).run Tryd.prog W = .ok (.string ⟨(x.drop m).toArray⟩) W := by
  have hz : (⟨x.toArray⟩ : ByteArray).size = x.length := by simp [ByteArray.size]
  have h := run_slice_string_l (P := Tryd.prog) W 9 ⟨x.toArray⟩ Tryd.underlying9 .i64 (m : Int) (by omega) (by rw [hz]; omega)
  rw [h, hz, Int.toNat_natCast, ByteArray.extract_mk, List.take_of_length_le (by simp)]
theorem ownsStr {w : World} {base g c n : Nat} {l : List (List UInt8)} {j : Nat} (h : w.ownsRow base 9 1 (.slice (some ⟨g, 0, none⟩) n c) n (strs l)) (hj : j < n) (hl : l.length = n) : w.cell? ⟨g, j, none⟩ = some (.string ⟨(l.getD j []).toArray⟩) := by
  rw [h.cellAt j (by omega), List.getElem?_map, List.getElem?_eq_getElem (by omega), getD_lt _ _ _ (by omega)]; rfl

set_option maxRecDepth 100000 in
set_option maxHeartbeats 1000000 in
theorem missing_ok (x : List UInt8) (k : Nat) (w : World) (hz : chk x = 0) (h1 : 1 ≤ k) (h6 : k ≤ 6) (hin : allIn k x = true) :
    Calls Tryd.prog 28 #[.string ⟨x.toArray⟩, .int .i64 k] w fun e w' => e = .returned (.tuple #[.string ⟨(missL k x).toArray⟩, .int .i64 0]) ∧ Below w.heap.size w w' := by
  obtain ⟨hx10, hok⟩ := chk_zero hz
  have hL := letters_in x k w hz h1 h6
  rw [hin] at hL
  simp only [if_true] at hL
  obtain ⟨i0, hi, hz0, hz1, hz2'⟩ := info_parts Tryd.infoStr
  clear hz hok hin
  go_enter Tryd.func28, Tryd.ntmps28
  go_wp2_with (first
    | (go_at_call 24; refine hL.mono ?_; rintro e w1 ⟨rfl, hb1⟩)
    | (refine wpList_make_full _ rfl _ _ _ rfl w.heap.size 9 i0 (.string ByteArray.empty) 1 Tryd.underlying58 hi hz0 hz1 .i64 .i64 _ _ (x.length + 1) rfl rfl (by simp) (by simp) (by rw [hz2']; omega) (by unfold maxLen; omega) hb1.size ?_; intro w2 hown2 hg2; rw [strs_made] at hown2))
  rw [← rowM_start k x] at hown2
  have hb2 : Below w.heap.size w w2 := hb1.grown hg2 hb1.size (fun k e => by cases e)
  have hB := hb1.size
  generalize w1.heap.size = B at hown2 hB ⊢
  clear hg2 hb1
  go_loopw [8] (fun iv wr => ∃ (n : Nat) (i : Int), n ≤ x.length + 1 ∧ iv = .int .i64 i ∧ Hid (i = (n : Int) - 1) ∧ wr.ownsRow w.heap.size 9 1 (.slice (some ⟨B, 0, none⟩) (x.length + 1) (x.length + 1)) (x.length + 1) (strs (rowM k x n)) ∧ Below w.heap.size w wr)
    (fun iv _ => (intOf iv + 1).toNat)
  case atStart => exact ⟨x.length + 1, _, Nat.le_refl _, rfl, by show _ = _; omega, hown2, hb2⟩
  case round =>
    obtain ⟨n, i, hn, rfl, hi', hown, hbr⟩ := hrel
    by_cases h0 : 0 < n
    · obtain ⟨m, rfl⟩ : ∃ m, n = m + 1 := ⟨n - 1, by omega⟩
      obtain rfl : i = (m : Int) := by have := hi'.out; omega
      have hm : m ≤ x.length := by omega
      have hsl : ∀ W : World, (Instr.slice 9 (.string ⟨x.toArray⟩) (some (.int .i64 (m : Int))) none none).run Tryd.prog W = .ok (.string ⟨(x.drop m).toArray⟩) W := fun W => slice_from x m hm W
      have hcm := ownsStr hown (j := m) (by omega) (rowM_length k x (m + 1) (by omega))
      have hfm := hown.frozenAt m
      have hF := fun W (hW : ∀ j, j < (x.drop m).length → W.cell? ⟨B, m + (j + 1), none⟩ = some (.string ⟨((tabM k x (m + 1)).getD j []).toArray⟩)) (hg : B < W.heap.size) => firstMissing_any (x.drop m) (tabM k x (m + 1)) k B m (x.length + 1 - m) (x.length + 1 - m) W (by simp; omega) (by simp; omega) h1 h6 hg hW (fun j => tabM_len k x (m + 1) hx10 j)
      have hW0 : ∀ j, j < (x.drop m).length → wr.cell? ⟨B, m + (j + 1), none⟩ = some (.string ⟨((tabM k x (m + 1)).getD j []).toArray⟩) := fun j hj => by
        have h := hown.cellAt (m + (j + 1)) (by simp at hj; omega)
        rw [h, List.getElem?_map, rowM_at k x m j hm (by simp at hj; omega)]; rfl
      have hgB : B < wr.heap.size := (hown.lt B rfl).2
      have HF := Lib.hid hF; have HW := Lib.hid hW0; clear hF hW0
      go_wp2
      go_region_with (go_at_call 46; refine (HF.out wr.drew HW.out hgB).mono ?_; rintro e w3 ⟨rfl, hb3⟩; have hcm3 := (hb3.cell (p := ⟨B, m, none⟩) hgB).trans hcm; have hfm3 := (hb3.frozen (p := ⟨B, m, none⟩) hgB).trans hfm)
      have hown3 : w3.ownsRow w.heap.size 9 1 (.slice (some ⟨B, 0, none⟩) (x.length + 1) (x.length + 1)) (x.length + 1) (strs (rowM k x (m + 1))) := own_below (w := wr.drew) hown hb3
      have hown4 := (hown3.stored m (.string ⟨(firstMissL (x.drop m) (tabM k x (m + 1)) k).toArray⟩)).1
      have e4 : (strs (rowM k x (m + 1))).set m (.string ⟨(firstMissL (x.drop m) (tabM k x (m + 1)) k).toArray⟩) = strs (rowM k x m) := by rw [← rowM_set k x m hm, strs, strs, List.map_set]
      rw [e4] at hown4
      have hb4 := ((hbr.drew).trans (hb3.mono hbr.size)).setCell (p := ⟨B, m, none⟩) hB (.string ⟨(firstMissL (x.drop m) (tabM k x (m + 1)) k).toArray⟩)
      clear e4 hown3 hcm3 hfm3
      go_wp2
      exact ⟨⟨m, _, by omega, by go_num, by show _ = _; omega, hown4, hb4⟩, by simp [intOf]⟩
    · obtain rfl : n = 0 := by omega
      have hin : i < 0 := by have := hi'.out; omega
      have hc0 := ownsStr hown (j := 0) (by omega) (rowM_length k x 0 (by omega))
      have e0 : (rowM k x 0).getD 0 [] = missL k x := by unfold rowM tabM missL; rw [if_pos (by omega)]; rfl
      rw [e0] at hc0
      clear e0 hi'
      go_wp2
      go_ret2
      exact ⟨rfl, hbr⟩
end Go.Proofs.YtlbepjmiligpcaaDoor
