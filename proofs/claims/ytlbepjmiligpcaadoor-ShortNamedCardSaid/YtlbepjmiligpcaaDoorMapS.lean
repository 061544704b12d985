/-
  strings.Map at ASCII letters, over a closure of one boxed variable that is defined there and returns ASCII letters.
-/
import Derived.Test.YtlbepjmiligpcaaDoorShelfN
import Derived.Test.YtlbepjmiligpcaaDoorFront
import Derived.Lib.OthersKept
set_option linter.unusedSimpArgs false
set_option linter.unusedVariables false
namespace Go.Proofs.YtlbepjmiligpcaaDoor
open Go.RowKit Go.Lib Go.Proofs.Short Go.Shelf

namespace MapS
def ValC (v : Value) (w : World) (e : Ending) (w' : World) : Prop := e = .returned v ∧ Below w.heap.size w w'
theorem getD_lt {α : Type} (l : List α) (k : Nat) (d : α) (h : k < l.length) : l.getD k d = l[k] := by rw [List.getD_eq_getElem?_getD, List.getElem?_eq_getElem h]; rfl
theorem drop_cons {α : Type} (l : List α) (k : Nat) (d : α) (h : k < l.length) : l.drop k = l.getD k d :: l.drop (k + 1) := by rw [List.drop_eq_getElem_cons h, getD_lt _ _ _ h]
theorem take_succ {α : Type} (l : List α) (k : Nat) (d : α) (h : k < l.length) : l.take (k + 1) = l.take k ++ [l.getD k d] := by rw [List.take_succ_eq_append_getElem h, getD_lt _ _ _ h]
theorem size_l (cs : List UInt8) : (⟨cs.toArray⟩ : ByteArray).size = cs.length := by show cs.toArray.size = _; simp
theorem byte_at (cs : List UInt8) (k : Nat) (hk : k < cs.length) (hb : k < (⟨cs.toArray⟩ : ByteArray).size) : (⟨cs.toArray⟩ : ByteArray)[k] = cs.getD k 0 := by
  rw [getD_lt _ _ _ hk]
  show cs.toArray[k] = _
  rw [List.getElem_toArray]
theorem next_s {P : Program} (wr : World) (I : Nat) (s : ByteArray) (pos : Nat) (hit : wr.heap[I]? = some (.stringIter s pos)) (hp : pos < s.size) (h128 : (s[pos]'hp).toNat < 128) (ty : TypeId) :
    (Instr.next (.pointer (some ⟨I, 0, none⟩)) true ty).run P wr = .ok (.tuple #[.bool true, .int .i64 pos, .int .i32 (s[pos]'hp).toNat]) (wr.iterAt I s (pos + 1)) := run_next_ascii_at wr I s pos ty hit hp h128

theorem extraM : Builder.Extra Tryd.prog Tryd.laysMap_ren := {
  sizeBuilder := by kernel_rfl
  liesBuilder := by kernel_rfl
  t5 := Tryd.underlying5
  a5 := Tryd.isAgg5
  z5 := Tryd.sizeOf5
  v5 := Tryd.zeroValue5
  infoByte := by kernel_rfl
  cellsByte := by kernel_rfl
  sizeByte := by kernel_rfl
  neB5 := by decide }
/-- block b is a builder that holds these letters -/
abbrev IsB (w : World) (B b : Nat) (l : List UInt8) : Prop := Lib.IsBuilderF 43 5 B b (Lib.byteCells l) w
theorem runeCells_one (c : UInt8) (h : c.toNat < 128) : Lib.runeCells (c.toNat : Int) = Lib.byteCells [c] := by
  unfold Lib.runeCells
  rw [Lib.encodeRuneZ_one (by omega) (by omega)]
  rfl
theorem growC (b n : Nat) (w : World) (hbk : w.heap[b]? = some (.cells #[.pointer none, .slice none 0 0] 43 (0, 0))) (hbw : b ≤ w.heap.size) (hn : n ≤ 10000) :
    Calls Tryd.prog 15 #[.pointer (some ⟨b, 0, none⟩), .int .i64 n] w fun e w' => e = .returned (.tuple #[]) ∧ IsB w' b b [] ∧ Below b w w' ∧ ∃ p cap, w'.cell? ⟨b, 1, none⟩ = some (.slice p 0 cap) ∧ n ≤ cap :=
  (Any.Builder_Grow_fresh_cap { Tryd.laysMap with } extraM b b n w (Nat.le_refl _) hbk hbw (by omega)).mono fun e w' ⟨h1, ⟨h2, h3⟩, h4⟩ => ⟨h1, Lib.IsBuilderF.of (Or.inr h2), h3, h4⟩
theorem writeStringC (b : Nat) (l : List UInt8) (w : World) (h : IsB w b b []) (hl : l.length ≤ 1000) (hbw : b ≤ w.heap.size) (p : Option Addr) (cap0 : Nat) (hc : w.cell? ⟨b, 1, none⟩ = some (.slice p 0 cap0)) (h4 : 4 ≤ cap0) :
    Calls Tryd.prog 16 #[.pointer (some ⟨b, 0, none⟩), .string ⟨l.toArray⟩] w fun e w' => e = .returned (.tuple #[.int .i64 l.length, .nilIface]) ∧ IsB w' b b l ∧ Below b w w' := by
  refine (Any.Builder_WriteString_kc { Tryd.laysMap with } extraM b b [] ⟨l.toArray⟩ w h (by rw [size_l]; simp; omega) hbw).mono ?_
  rintro e w' ⟨rfl, ⟨h5, h6, _⟩, _⟩
  refine ⟨by rw [size_l], .inr ?_, h6⟩
  have e : [] ++ Lib.strCells ⟨l.toArray⟩ = Lib.byteCells l := by simp [Lib.strCells_eq]
  rw [e] at h5; exact h5
theorem writeRuneC (b : Nat) (l : List UInt8) (c : UInt8) (z : Int) (w : World) (hz : z = (c.toNat : Int)) (hc : c.toNat < 128) (h : IsB w b b l) (hl : l.length ≤ 1000) (hbw : b ≤ w.heap.size) :
    Calls Tryd.prog 17 #[.pointer (some ⟨b, 0, none⟩), .int .i32 z] w fun e w' => (∃ n : Nat, e = .returned (.tuple #[.int .i64 n, .nilIface])) ∧ IsB w' b b (l ++ [c]) ∧ Below b w w' ∧
      ∃ g cap, w'.cell? ⟨b, 1, none⟩ = some (.slice (some g) (l.length + 1) cap) ∧ 1 ≤ cap := by
  subst hz
  refine (Any.Builder_WriteRune_k { Tryd.laysMap with } extraM b b (Lib.byteCells l) (c.toNat : Int) (by omega) (by omega) w h (by rw [Lib.byteCells_length]; omega) hbw).mono ?_
  rintro e w' ⟨rfl, h5, h6, _⟩
  rw [runeCells_one c hc, ← Lib.byteCells_append] at h5
  refine ⟨⟨_, rfl⟩, .inr h5, h6, ?_⟩
  obtain ⟨_, v6, hv6, hown6, _⟩ := h5
  have hlen : (Lib.byteCells (l ++ [c])).length = l.length + 1 := by rw [Lib.byteCells_length, List.length_append]; rfl
  rcases hown6.2 with ⟨_, h0⟩ | ⟨g6, cap6, _, _, rfl, _, _, _, hnc, _⟩
  · rw [hlen] at h0; omega
  · rw [hlen] at hnc
    refine ⟨⟨g6, 0, none⟩, cap6, ?_, by omega⟩
    rw [Lib.cell_of_heap hv6, hlen]; rfl
theorem writeByteC (b : Nat) (l : List UInt8) (c : UInt8) (z : Int) (w : World) (hz : z = (c.toNat : Int)) (h : IsB w b b l) (hl : l.length ≤ 1000) (hbw : b ≤ w.heap.size) :
    Calls Tryd.prog 19 #[.pointer (some ⟨b, 0, none⟩), .int .u8 z] w fun e w' => e = .returned .nilIface ∧ IsB w' b b (l ++ [c]) ∧ Below b w w' ∧ Lib.OthersKept 5 (some b) w w' := by
  subst hz
  refine (Any.Builder_WriteByte_k { Tryd.laysMap with } extraM b b (Lib.byteCells l) (c.toNat : Int) w h (by rw [Lib.byteCells_length]; omega) hbw).mono ?_
  rintro e w' ⟨rfl, h1, h2, h3⟩
  refine ⟨rfl, .inr ?_, h2, h3⟩
  have e : Lib.byteCells (l ++ [c]) = Lib.byteCells l ++ [.int .u8 (c.toNat : Int)] := by simp [Lib.byteCells]
  rw [e]; exact h1
theorem stringC (b : Nat) (l : List UInt8) (w : World) (h : IsB w b b l) (hbw : b ≤ w.heap.size) :
    Calls Tryd.prog 20 #[.pointer (some ⟨b, 0, none⟩)] w fun e w' => e = .returned (.string ⟨l.toArray⟩) ∧ Below b w w' :=
  (Any.Builder_String_any_f { Tryd.laysMap with } extraM b b l w h hbw).mono fun _ _ h => ⟨h.1, h.2.2⟩
theorem capC (b : Nat) (p : Option Addr) (n cap : Nat) (w : World) (hc : w.cell? ⟨b, 1, none⟩ = some (.slice p n cap)) :
    Calls Tryd.prog 18 #[.pointer (some ⟨b, 0, none⟩)] w fun e w' => e = .returned (.int .i64 cap) ∧ w' = w :=
  Any.Builder_Cap_cell { Tryd.laysMap with } b p n cap w hc
theorem runeLenC (c : UInt8) (h : c.toNat < 128) (w : World) :
    Calls Tryd.prog 14 #[.int .i32 c.toNat] w fun e w' => e = .returned (.int .i64 1) ∧ w' = w := by
  have h1 := Any.utf8_RuneLen { Tryd.laysMap with } (c.toNat : Int) w
  have e : Lib.runeLen (c.toNat : Int) = 1 := by unfold Lib.runeLen; rw [if_neg (by omega), if_pos (by omega)]
  rw [e] at h1; exact h1
/-- the closure, at letters that it is defined at -/
def CloC (l : List UInt8) (f : UInt8 → UInt8) (p : Nat) (w : World) : Prop :=
  ∀ W c, c ∈ l → Below w.heap.size w W → Calls Tryd.prog 6 #[.int .i32 c.toNat, .pointer (some ⟨p, 0, none⟩)] W fun e w' => e = .returned (.int .i32 (f c).toNat) ∧ w' = W
set_option maxRecDepth 100000 in
set_option maxHeartbeats 4000000 in
theorem mapA_any (l : List UInt8) (f : UInt8 → UInt8) (p : Nat) (w : World) (hl : l.length ≤ 100) (h128 : ∀ c ∈ l, c.toNat < 128) (hf : ∀ c ∈ l, (f c).toNat < 128) (hclo : CloC l f p w) :
    Calls Tryd.prog 5 #[.func (.func 6) #[] #[.pointer (some ⟨p, 0, none⟩)], .string ⟨l.toArray⟩] w (ValC (.string ⟨(l.map f).toArray⟩) w) := by
  obtain ⟨n, hn⟩ : ∃ n, l.length = n := ⟨_, rfl⟩
  have hsz : (⟨l.toArray⟩ : ByteArray).size = n := by rw [size_l]; exact hn
  have hby : ∀ k (h : k < (⟨l.toArray⟩ : ByteArray).size), (⟨l.toArray⟩ : ByteArray)[k] = l.getD k 0 := fun k h => byte_at l k (by rw [hn]; rw [hsz] at h; exact h) h
  have hmem : ∀ k, k < n → l.getD k 0 ∈ l := fun k hk => by rw [getD_lt _ _ _ (by omega)]; exact List.getElem_mem _
  have hpre : ∀ k, k ≤ n → (⟨l.toArray⟩ : ByteArray).extract 0 k = ⟨(l.take k).toArray⟩ := fun k hk => by apply ByteArray.ext; simp
  have hsuf : ∀ k, (⟨l.toArray⟩ : ByteArray).extract k n = ⟨(l.drop k).toArray⟩ := fun k => by
    apply ByteArray.ext; apply Array.toList_inj.1
    rw [Lib.extract_data]
    exact List.take_of_length_le (by simp; omega)
  generalize hs : (⟨l.toArray⟩ : ByteArray) = s at hsz hby hpre hsuf
  have HBY := Lib.hid hby; have HMEM := Lib.hid hmem; have HPRE := Lib.hid hpre; have HSUF := Lib.hid hsuf; have H128 := Lib.hid h128; have HF := Lib.hid hf; have HCLO := Lib.hid hclo; have HN := Lib.hid hn; have HS := Lib.hid hs
  have hn100 : n ≤ 100 := by omega
  clear hby hmem hpre hsuf h128 hf hclo hn hs hl
  go_enter Tryd.func5, Tryd.ntmps5
  go_wp2_with (fail)
  have hb0 : Below w.heap.size w ((w.alloc (.cells #[.pointer none, .slice none 0 0] 43)).iter s 0) := ((Below.refl _ w).alloc (Nat.le_refl _) _).alloc (by simp) _
  have hfr0 : ((w.alloc (.cells #[.pointer none, .slice none 0 0] 43)).iter s 0).heap[w.heap.size]? = some (.cells #[.pointer none, .slice none 0 0] 43 (0, 0)) :=
    (Below.heap_alloc _ _ _ (by simp)).trans (heap_alloc_new w (.cells #[.pointer none, .slice none 0 0] 43))
  have hit0 : ((w.alloc (.cells #[.pointer none, .slice none 0 0] 43)).iter s 0).heap[w.heap.size + 1]? = some (.stringIter s 0) := by
    have := World.iter_heap (w.alloc (.cells #[.pointer none, .slice none 0 0] 43)) s 0
    simpa using this
  generalize ((w.alloc (.cells #[.pointer none, .slice none 0 0] 43)).iter s 0) = w0 at hb0 hfr0 hit0 ⊢
  go_loopw [1, 6, 7, 8] (fun v1 _ _ _ wr => ∃ pos : Nat, v1 = .string s ∧ pos ≤ n ∧ wr.heap[w.heap.size]? = some (.cells #[.pointer none, .slice none 0 0] 43 (0, 0)) ∧ wr.heap[w.heap.size + 1]? = some (.stringIter s pos) ∧ Below w.heap.size w wr ∧ Hid ((l.take pos).map f = l.take pos)) (fun _ _ _ _ wr => n - wr.iterPos (w.heap.size + 1))
  case atStart => exact ⟨0, rfl, Nat.zero_le _, hfr0, hit0, hb0, rfl⟩
  case round =>
    clear hb0 hfr0 hit0
    obtain ⟨pos, rfl, hpos, hfr, hit, hbr, htk⟩ := hrel
    have hit00 := Lib.hid hit
    by_cases hlt : pos < n
    · have hps : pos < s.size := by omega
      have hcm := HMEM.out pos hlt
      have hc128 := H128.out _ hcm
      have hbyp := HBY.out pos hps
      have hnx := fun ty => next_s (P := Tryd.prog) wr (w.heap.size + 1) s pos hit hps (by rw [hbyp]; exact hc128) ty
      have hbB := below_iterAt hbr (k := w.heap.size + 1) (by omega) s (pos + 1)
      have hitB := iterAt_heap wr (w.heap.size + 1) s pos (pos + 1) hit
      have hfrB : (wr.iterAt (w.heap.size + 1) s (pos + 1)).heap[w.heap.size]? = some (.cells #[.pointer none, .slice none 0 0] 43 (0, 0)) := (iterAt_other wr (w.heap.size + 1) w.heap.size s (pos + 1) (by omega)).trans hfr
      have hcl := fun W h => HCLO.out W _ hcm h
      have hfc := HF.out _ hcm
      have htk2 : Hid (l.take (pos + 1) = l.take pos ++ [l.getD pos 0]) := take_succ l pos 0 (by rw [HN.out]; exact hlt)
      have hdr : Hid (l.drop pos = l.getD pos 0 :: l.drop (pos + 1)) := drop_cons l pos 0 (by rw [HN.out]; exact hlt)
      rw [hbyp] at hnx
      clear hit hfr
      generalize wr.iterAt (w.heap.size + 1) s (pos + 1) = w4 at hnx hbB hitB hfrB
      generalize l.getD pos 0 = c at hnx hc128 hcl hfc htk2 hdr
      have hne3 : (c.toNat : Int) ≠ 65533 := by omega
      have hb3 : ((c.toNat : Int) != 65533) = true := by simpa using hne3
      have hb4 : ((c.toNat : Int) == 65533) = false := by simpa using hne3
      by_cases hfe : f c = c
      · have hbe : (((f c).toNat : Int) == (c.toNat : Int)) = true := by rw [hfe]; simp
        have HT : Hid ((l.take (pos + 1)).map f = l.take (pos + 1)) := by show _ = _; rw [htk2.out, List.map_append, htk.out]; simp [hfe]
        clear hfe
        go_wp2_with (fail)
        refine (hcl _ hbB).mono ?_; rintro e w5 ⟨rfl, hw5⟩
        rw [hw5]; clear hw5
        go_wp2_with (fail)
        exact ⟨⟨pos + 1, rfl, by omega, hfrB, hitB, hbB, HT⟩, by rw [iterPos_of hit00.out, iterPos_of hitB]; omega⟩
      · have hbe : (((f c).toNat : Int) == (c.toNat : Int)) = false := by
          simp only [beq_eq_false_iff_ne]; exact fun h => hfe (UInt8.toNat_inj.1 (by omega))
        have hst : Hid ((l.take pos ++ [f c]) ++ (l.drop (pos + 1)).map f = l.map f) := by
          show _ = _
          conv => rhs; rw [← List.take_append_drop pos l, List.map_append, htk.out, hdr.out]
          simp
        generalize f c = fc at hbe hcl hfc hst
        clear hfe
        go_wp2_with (fail)
        refine (hcl _ hbB).mono ?_; rintro e w5 ⟨rfl, hw5⟩
        rw [hw5]; clear hw5
        go_wp2_with (fail)
        refine (runeLenC c hc128 _).mono ?_; rintro e w5 ⟨rfl, hw5⟩
        rw [hw5]; clear hw5
        have hg := growC w.heap.size (n + 4) w4 hfrB hbB.size (by omega)
        rw [show ((n + 4 : Nat) : Int) = (n : Int) + 4 by omega] at hg
        clear hcl hnx hfrB hitB
        go_wp2_with (fail)
        refine hg.mono ?_; rintro e w5 ⟨rfl, hI5, hb5, pg, cap, hc5, hcap⟩
        have hB5 := hbB.trans hb5
        have hpre := HPRE.out pos hpos
        have hws := writeStringC w.heap.size (l.take pos) w5 hI5 (by rw [List.length_take, HN.out]; omega) hB5.size pg cap hc5 (by omega)
        have hltk : (l.take pos).length = pos := by rw [List.length_take, HN.out]; omega
        clear hg hI5 hc5 hcap hb5 hbB
        go_wp2_with (fail)
        refine hws.mono ?_; rintro e w6 ⟨rfl, hI6, hb6⟩
        have hB6 := hB5.trans hb6
        have hwr := writeRuneC w.heap.size (l.take pos) fc (fc.toNat : Int) w6 rfl hfc hI6 (by rw [hltk]; omega) hB6.size
        rw [hltk] at hwr
        clear hws hI6 hb6 hpre hB5
        go_wp2_with (fail)
        refine hwr.mono ?_; rintro e w7 ⟨⟨nn, rfl⟩, hI7, hb7, gg, cap7, hc7, hcap7⟩
        have hB7 := hB6.trans hb7
        have hca := capC w.heap.size (some gg) (pos + 1) cap7 w7 hc7
        have hcapb : ((cap7 : Int) == 0) = false := by simp; omega
        have hsuf := HSUF.out (pos + 1)
        obtain ⟨l2, hl2⟩ : ∃ l2, l.drop (pos + 1) = l2 := ⟨_, rfl⟩
        have hmem2 : ∀ x ∈ l2, x ∈ l := fun x hx => List.mem_of_mem_drop (by rw [hl2]; exact hx)
        have hlen2 : l2.length + (pos + 1) = n := by rw [← hl2, List.length_drop, HN.out]; omega
        rw [hl2] at hsuf hst
        obtain ⟨n2, hn2⟩ : ∃ n2, l2.length = n2 := ⟨_, rfl⟩
        have hsz2 : (⟨l2.toArray⟩ : ByteArray).size = n2 := by rw [size_l]; exact hn2
        have hby2 : ∀ k (h : k < (⟨l2.toArray⟩ : ByteArray).size), (⟨l2.toArray⟩ : ByteArray)[k] = l2.getD k 0 := fun k h => byte_at l2 k (by rw [hn2]; rw [hsz2] at h; exact h) h
        generalize (⟨l2.toArray⟩ : ByteArray) = s2 at hsuf hsz2 hby2
        have HBY2 := Lib.hid hby2; have HMEM2 := Lib.hid hmem2; have HN2 := Lib.hid hn2
        have hlen3 : Hid ((l.take pos ++ [fc]).length = pos + 1) := by show _ = _; rw [List.length_append, hltk]; rfl
        have hpn : n2 + (pos + 1) = n := by rw [← hn2]; exact hlen2
        clear hby2 hmem2 hl2 hlen2 hn2 hltk
        clear hwr hb7 hc7 hB6
        go_wp2_with (fail)
        refine hca.mono ?_; rintro e w8 ⟨rfl, hw8⟩
        rw [hw8]; clear hw8 hca
        have hI7' := Lib.hid hI7
        clear hI7
        generalize l.take pos ++ [fc] = acc0 at hI7' hst hlen3
        go_wp2_with (fail)
        have hit8 := World.iter_heap w7 s2 0
        have hI8 : IsB (w7.iter s2 0) w.heap.size w.heap.size acc0 := Lib.IsBuilderF.alloc hI7'.out _
        have hB8 : Below w.heap.size w (w7.iter s2 0) := hB7.alloc hB7.size _
        have hlt8 : w.heap.size < w7.heap.size := hI7'.out.elim (fun x => x.lt) (fun x => x.lt)
        generalize w7.iter s2 0 = w8 at hit8 hI8 hB8 ⊢
        generalize w7.heap.size = I at hit8 hlt8 ⊢
        have hst0 : Hid (acc0 ++ (l2.drop 0).map f = l.map f) := hst
        clear hst hI7' hB7
        go_loopw [11, 12] (fun _ _ wr => ∃ (k : Nat) (acc : List UInt8), k ≤ n2 ∧ wr.heap[I]? = some (.stringIter s2 k) ∧ IsB wr w.heap.size w.heap.size acc ∧ Below w.heap.size w wr ∧ Hid (acc ++ (l2.drop k).map f = l.map f) ∧ Hid (acc.length = pos + 1 + k) ∧ I < wr.heap.size) (fun _ _ wr => n2 - wr.iterPos I)
        case atStart => exact ⟨0, acc0, Nat.zero_le _, hit8, hI8, hB8, hst0, hlen3, (Array.getElem?_eq_some_iff.1 hit8).1⟩
        case round =>
          clear hit8 hI8 hB8 hst0 hlen3
          obtain ⟨k, acc, hk, hit, hI, hbr, hst, hal, hIw⟩ := hrel
          have hit00 := Lib.hid hit
          by_cases hlt2 : k < n2
          · have hps2 : k < s2.size := by omega
            have hbyk := HBY2.out k hps2
            have hcm2 := HMEM2.out (l2.getD k 0) (by rw [getD_lt _ _ _ (by rw [HN2.out]; exact hlt2)]; exact List.getElem_mem _)
            have hd128 := H128.out _ hcm2
            have hnx := fun ty => next_s (P := Tryd.prog) wr I s2 k hit hps2 (by rw [hbyk]; exact hd128) ty
            have hbB := below_iterAt hbr (k := I) (by omega) s2 (k + 1)
            have hitB := iterAt_heap wr I s2 k (k + 1) hit
            have hIB : IsB (wr.iterAt I s2 (k + 1)) w.heap.size w.heap.size acc := hI.iterAt hit (k + 1)
            have hcl := fun W h => HCLO.out W _ hcm2 h
            have hfd := HF.out _ hcm2
            have hst2 : Hid ((acc ++ [f (l2.getD k 0)]) ++ (l2.drop (k + 1)).map f = l.map f) := by
              show _ = _; rw [← hst.out, drop_cons l2 k 0 (by rw [HN2.out]; exact hlt2)]; simp
            have hal2 : Hid ((acc ++ [f (l2.getD k 0)]).length = pos + 1 + (k + 1)) := by show _ = _; rw [List.length_append, hal.out]; simp; omega
            have hsB : I < (wr.iterAt I s2 (k + 1)).heap.size := by rw [iterAt_size]; exact hIw
            rw [hbyk] at hnx
            clear hit hI
            generalize wr.iterAt I s2 (k + 1) = w4' at hnx hbB hitB hIB hsB
            generalize l2.getD k 0 = d at hnx hd128 hcl hfd hst2 hal2
            generalize f d = fd at hcl hfd hst2 hal2
            have hwb := fun W h h' => writeByteC w.heap.size acc fd (fd.toNat : Int) W rfl h (by rw [hal.out]; omega) h'
            have hg0 : (0 : Int) ≤ (fd.toNat : Int) := by omega
            have hg1 : (fd.toNat : Int) < 128 := by omega
            go_wp2_with (fail)
            refine (hcl _ hbB).mono ?_; rintro e w5 ⟨rfl, hw5⟩
            rw [hw5]; clear hw5
            go_wp2_with (fail)
            refine (hwb _ hIB (by omega)).mono ?_; rintro e w6 ⟨rfl, hI6, hb6, hk6⟩
            have hit6 := hk6.iter hitB (by omega)
            have hB6 := hbB.trans hb6
            clear hIB hitB hb6 hk6 hwb hcl hnx
            go_wp2_with (fail)
            exact ⟨⟨k + 1, _, by omega, hit6, hI6, hB6, hst2, hal2, (Array.getElem?_eq_some_iff.1 hit6).1⟩, by rw [iterPos_of hit00.out, iterPos_of hit6]; omega⟩
          · obtain rfl : k = n2 := by omega
            have hnx := fun ty => run_next_end_at (P := Tryd.prog) wr I s2 k ty hit (by omega)
            have hsc := stringC w.heap.size acc wr hI (by omega)
            have hre : Hid (acc = l.map f) := by
              have h := hst.out; rw [List.drop_eq_nil_of_le (by rw [HN2.out]; omega)] at h; show _ = _; simpa using h
            clear hit hst
            go_wp2_with (fail)
            refine hsc.mono ?_; rintro e w5 ⟨rfl, hb5⟩
            go_wp2_with (fail)
            go_ret
            exact ⟨by rw [hre.out]; rfl, hbr.trans hb5⟩
    · obtain rfl : pos = n := by omega
      have hnx := fun ty => run_next_end_at (P := Tryd.prog) wr (w.heap.size + 1) s pos ty hit (by omega)
      have hca := capC w.heap.size none 0 0 wr (by rw [Lib.cell_of_heap hfr]; rfl)
      have hre : Hid (l.map f = l) := by
        have h := htk.out; rw [List.take_of_length_le (by rw [HN.out]; omega)] at h; exact h
      clear hit hfr htk
      go_wp2_with (fail)
      refine hca.mono ?_; rintro e w5 ⟨rfl, hw5⟩
      rw [hw5]; clear hw5
      go_wp2_with (fail)
      go_ret
      exact ⟨by rw [hre.out, HS.out]; rfl, hbr⟩
end MapS
end Go.Proofs.YtlbepjmiligpcaaDoor
