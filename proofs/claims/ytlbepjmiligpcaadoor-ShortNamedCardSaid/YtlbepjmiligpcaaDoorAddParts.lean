/-
  The walks of package short's addParts and partsOf: partsOf hands back a new row that holds the parts in their order.
-/
import Derived.Test.YtlbepjmiligpcaaDoorPartsOf
import Derived.Laws.Concat
set_option linter.unusedSimpArgs false
set_option linter.unusedVariables false
namespace Go.Proofs.YtlbepjmiligpcaaDoor
open Go.RowKit Go.Proofs.Short Go.Lib Go.Maps Go.WideMaps Go.Shelf Go.Sort

theorem encode_byte (c : UInt8) (h : c.toNat < 128) : Utf8.encode (c.toNat : Int) = ⟨#[c]⟩ := by
  have hv : Utf8.valid (c.toNat : Int) = true := by unfold Utf8.valid; simp; omega
  unfold Utf8.encode
  simp only [hv, if_true, Int.toNat_natCast]
  rw [if_pos h]
  simp
theorem grown_below_row {w w' : World} (h : Below w.heap.size w w') (row : Option Nat) : w.grownBy w' row := ⟨h.os, h.tape, h.output, h.size, fun k hk _ => h.block k hk⟩
theorem copyC (bd bs nd ns : Nat) (Dd Ds : DataW Unit) (w : World) (hd : OwnM w bd nd Dd) (hs : OwnM w bs ns Ds) (hne : bd ≠ bs) (hroom : nd + ns ≤ 1000000) :
    Calls Tryd.prog 53 #[.map (some bd), .map (some bs)] w fun e w' => e = .returned (.tuple #[]) ∧ OwnM w' bd (nd + ns) (Lib.mergeD Dd Ds) ∧ w.grownBy w' (some bd) := by
  have hsz := hs.size_le
  refine (AnyX.maps_Copy Tryd.copyX Tryd.keyS (plainElem (H := Unit) Tryd.prog 4) bd bs nd ns Dd Ds w hd hs hne (by unfold maxLen; omega)).mono ?_
  rintro e w' ⟨he, h1, _, h3⟩
  exact ⟨he, h1.mono (by omega), h3⟩
theorem has_merge {w : World} {bd bs nd ns : Nat} {Dd Ds : DataW Unit} (hd : OwnM w bd nd Dd) (hs : OwnM w bs ns Ds) (k : Lit) : has (Lib.mergeD Dd Ds) k = (has Dd k || has Ds k) := by
  obtain ⟨es, rfl, _, hk⟩ := hs.entries Tryd.keyS
  exact has_foldPut k es Dd hd.isMap hk
theorem elem_true : plainElem (H := Unit) Tryd.prog 4 (.bool true) = some (.lit (.bool true), []) := plainElem_bool Tryd.underlying4 true
theorem key_str (k : List UInt8) (hk : k.length ≤ maxLen) : keyOf Tryd.prog 9 (.string ⟨k.toArray⟩) = some (.string k) := keyOf_string_mk (s := ⟨k.toArray⟩) Tryd.underlying9 (by simpa [ByteArray.size] using hk)

theorem key_snoc (y : List UInt8) (c : UInt8) (hy : y.length ≤ 10) : keyOf Tryd.prog 9 (.string (⟨y.toArray⟩ ++ ⟨#[c]⟩)) = some (.string (y ++ [c])) := by
  have e : (⟨y.toArray⟩ ++ ⟨#[c]⟩ : ByteArray) = ⟨(y ++ [c]).toArray⟩ := by rw [ByteArray.mk_append_mk]
  rw [e]
  exact key_str (y ++ [c]) (by simp; unfold maxLen; omega)
/-- what stands in the map behind the k-th part that was made longer -/
def Grow (x : List UInt8) (c : UInt8) (l : List (List UInt8)) : List UInt8 → Prop := fun s => s.Sublist x ∨ ∃ q ∈ l, s = q ++ [c]
theorem grow_step {D : DataW Unit} {x : List UInt8} {c : UInt8} {l : List (List UInt8)} {y : List UInt8} {d : DataW Unit} (h : Keys D (Grow x c l)) (hm : IsMap D) (hy : (y ++ [c]).length ≤ maxLen) : Keys (D.put (.string (y ++ [c])) d) (Grow x c (l ++ [y])) := by
  intro s
  rw [keys_put h hm hy s]
  unfold Grow
  constructor
  · rintro ((h1 | ⟨q, hq, rfl⟩) | rfl)
    · exact .inl h1
    · exact .inr ⟨q, List.mem_append_left _ hq, rfl⟩
    · exact .inr ⟨y, List.mem_append_right _ (List.mem_singleton.2 rfl), rfl⟩
  · rintro (h1 | ⟨q, hq, rfl⟩)
    · exact .inl (.inl h1)
    · rcases List.mem_append.1 hq with hq | hq
      · exact .inl (.inr ⟨q, hq, rfl⟩)
      · rw [List.mem_singleton.1 hq]; exact .inr rfl
theorem grow_end {D : DataW Unit} {x : List UInt8} {pos : Nat} {c : UInt8} {l : List (List UInt8)} (h : Keys D (Grow (x.take pos) c l)) (hl : ∀ q, q ∈ l ↔ q.Sublist (x.take pos)) (hc : x[pos]? = some c) : Keys D (fun s => s.Sublist (x.take (pos + 1))) := by
  obtain ⟨hp, rfl⟩ := List.getElem?_eq_some_iff.1 hc
  intro s
  rw [h s, List.take_succ_eq_append_getElem hp]
  show _ ↔ s.Sublist (x.take pos ++ [x[pos]])
  rw [sublist_snoc]
  unfold Grow
  constructor
  · rintro (h1 | ⟨q, hq, rfl⟩)
    · exact .inl h1
    · exact .inr ⟨q, rfl, (hl q).1 hq⟩
  · rintro (h1 | ⟨q, rfl, hq⟩)
    · exact .inl h1
    · exact .inr ⟨q, (hl q).2 hq, rfl⟩

set_option maxRecDepth 100000 in
set_option maxHeartbeats 1000000 in
theorem addParts_any (b n : Nat) (D : DataW Unit) (x : List UInt8) (w : World) (S : List UInt8 → Prop) (hown : OwnM w b n D) (hn : n ≤ 100000) (hk : Keys D S) (hx : x.length ≤ 10) (ho : x.all okc = true) :
    Calls Tryd.prog 41 #[.map (some b), .string ⟨x.toArray⟩] w fun e w' => e = .returned (.tuple #[]) ∧ ∃ D', OwnM w' b (n + 1024) D' ∧ Keys D' (fun k => S k ∨ k.Sublist x) ∧ w.grownBy w' (some b) := by
  have hmm := @run_makeMap Tryd.prog
  have hbl := hown.lt
  have HO := Lib.hid ho; have HK := Lib.hid hk; clear ho hk
  go_enter Tryd.func41, Tryd.ntmps41
  go_wp2_with (first
    | (refine wpList_insert_own _ rfl _ _ _ 78 rfl 9 4 Tryd.keyS Tryd.underlying78 (plainElem (H := Unit) Tryd.prog 4) w.heap.size 0 _ rfl (World.ownsMap_made _ _ _ _) (by decide) _ _ (.string []) rfl rfl (key_str [] (by decide)) _ [] elem_true ?_; intro w1 hown1 hgrow1))
  have hk0 : Keys (DataW.put (.map []) (.string []) (.lit (.bool true))) (fun s => s.Sublist (x.take 0)) := by
    intro s
    rw [keys_put keys_empty isMap_empty (by decide) s]
    simp
  have HK0 := Lib.hid hk0; clear hk0
  have hlt1 : w.heap.size < w1.heap.size := hown1.lt
  have hb0 : Below w.heap.size w w1 := ((Below.refl _ w).alloc (Nat.le_refl _) _).grown hgrow1 (by simp) (fun k e => by cases e; exact Nat.le_refl _)
  have hownA := hown1.alloc (.stringIter ⟨x.toArray⟩ 0)
  have hitA := World.iter_heap w1 ⟨x.toArray⟩ 0
  have hbA : Below w.heap.size w (w1.iter ⟨x.toArray⟩ 0) := hb0.alloc hb0.size _
  change OwnM (w1.iter ⟨x.toArray⟩ 0) _ _ _ at hownA
  clear hown1 hgrow1 hb0
  generalize w1.iter ⟨x.toArray⟩ 0 = wA at hownA hitA hbA ⊢
  generalize w1.heap.size = I at hitA hlt1 ⊢
  obtain ⟨B, hB⟩ : ∃ B, B = w.heap.size := ⟨_, rfl⟩
  rw [← hB] at hlt1 hownA ⊢
  have HB := Lib.hid hB; clear hB
  generalize DataW.put (.map []) (.string []) (.lit (.bool true)) = D0 at hownA HK0 ⊢
  go_loopw [6] (fun _ wr => ∃ (pos n1 : Nat) (D1 : DataW Unit), pos ≤ x.length ∧ n1 ≤ 2 ^ pos ∧ OwnM wr B n1 D1 ∧ Hid (Keys D1 (fun s => s.Sublist (x.take pos))) ∧ wr.heap[I]? = some (.stringIter ⟨x.toArray⟩ pos) ∧ Below w.heap.size w wr)
    (fun _ wr => x.length - wr.iterPos I)
  case atStart => exact ⟨0, 1, D0, Nat.zero_le _, Nat.le_refl _, hownA, HK0.out, hitA, hbA⟩
  case round =>
    obtain ⟨pos, n1, D1, hpos, hn1, hown1, hk1, hit, hbr⟩ := hrel
    have hit0 := Lib.hid hit
    have hpw : 2 ^ pos ≤ 1024 := Nat.le_trans (Nat.pow_le_pow_right (by omega) (show pos ≤ 10 by omega)) (by decide)
    by_cases hp : pos < x.length
    · obtain ⟨c, hc⟩ : ∃ c, x[pos]? = some c := ⟨_, List.getElem?_eq_getElem hp⟩
      have hcc := okc_lt (okc_get HO.out hc)
      have hnx := next_l (P := Tryd.prog) wr I x pos c hit hc hcc
      have henc := encode_byte c hcc
      have HC := Lib.hid hc; have HE := Lib.hid henc; clear hc henc
      have hownB : OwnM (wr.iterAt I ⟨x.toArray⟩ (pos + 1)) B n1 D1 := hown1.kept (grownBy_iterAt wr I _ _ (some I) rfl) (by simp; omega)
      have hitB := iterAt_heap wr I ⟨x.toArray⟩ pos (pos + 1) hit
      have hbB := below_iterAt hbr (k := I) (by rw [← HB.out]; omega) ⟨x.toArray⟩ (pos + 1)
      generalize hwB : wr.iterAt I ⟨x.toArray⟩ (pos + 1) = wB at hnx hownB hitB hbB
      clear hwB
      have hpn : n1 ≤ 1000000 := by omega
      go_wp2_with (first
        | (go_at_call 43; refine (keysC _ _).mono ?_; rintro e w3 ⟨rfl, rfl⟩)
        | (go_at_call 52; refine (collectC B n1 D1 wB hownB hpn).mono ?_; rintro e w2 ⟨v, ss, rfl, hperm, hrow, hnil, hb1⟩; obtain ⟨A, cS, rfl⟩ := ownsRow_shape hrow))
      have hIlt : I < wB.heap.size := (Array.getElem?_eq_some_iff.1 hitB).1
      have hb1' : Below (wB.alloc (.cells #[.map (some B)] 78)).heap.size (wB.alloc (.cells #[.map (some B)] 78)) w2 := by simpa using hb1
      have hownC : OwnM w2 B n1 D1 := (hownB.alloc (.cells #[.map (some B)] 78)).kept (grown_below hb1') (by simp)
      have hitC : w2.heap[I]? = some (.stringIter ⟨x.toArray⟩ (pos + 1)) := (hb1.block I (by omega)).trans ((Below.heap_alloc _ _ I hIlt).trans hitB)
      have hbC : Below w.heap.size w w2 := (hbB.alloc hbB.size _).trans (hb1.mono (by have := hbB.size; omega))
      obtain ⟨hnd, hmem⟩ := mem_strKeys hownB
      have hmem2 : ∀ q, q ∈ ss ↔ q.Sublist (x.take pos) := fun q => by rw [hperm.mem_iff, hmem q, hk1.out q]
      have hpos1 : 0 < ss.length := List.length_pos_of_mem ((hmem2 []).2 (List.nil_sublist _))
      have hsl : ss.length ≤ n1 := by
        have h1 := hownB.size_le
        obtain ⟨es, hD, _, _⟩ := hownB.entries Tryd.keyS
        have h2 : (strKeys D1).length = Maps.size D1 := by rw [hD]; simp [strKeys, Maps.size]
        have := hperm.length_eq; omega
      obtain ⟨g, o, rfl, hat⟩ := (rd_own hrow).at hpos1
      have hgB : wB.heap.size + 1 ≤ g := (hrow.lt g rfl).1
      have hg0 : Hid (Keys D1 (Grow (x.take pos) c (ss.take 0))) := fun s => by
        rw [hk1.out s]; unfold Grow; simp
      have HM := Lib.hid hmem2
      have hle : ∀ q ∈ ss, q.length ≤ 10 := fun q hq => by
        have h1 := ((hmem2 q).1 hq).length_le
        simp at h1; omega
      have HLE := Lib.hid hle
      clear hnil hrow hb1 hb1' hperm hmem hnd hmem2 hle hnx hownB hitB hbB
      go_loopw [22] (fun i wx => ∃ (k : Nat) (D2 : DataW Unit), k ≤ ss.length ∧ i = .int .i64 k ∧ OwnM wx B (n1 + k) D2 ∧ Hid (Keys D2 (Grow (x.take pos) c (ss.take k))) ∧ RdAt wx g o ss.length (ss.map encStr) ∧ wx.heap[I]? = some (.stringIter ⟨x.toArray⟩ (pos + 1)) ∧ Below w.heap.size w wx)
        (fun i _ => ss.length - (intOf i).toNat)
      case atStart => exact ⟨0, D1, Nat.zero_le _, rfl, hownC, hg0, hat, hitC, hbC⟩
      case round =>
        obtain ⟨k, D2, hk, rfl, hown2, hk2, hrd, hit2, hb2⟩ := hrel
        by_cases hlt : k < ss.length
        · have hcell := hrd.str hlt rfl
          have hyl : (ss.getD k []).length ≤ 10 := HLE.out _ (by rw [getD_lt _ _ _ hlt]; exact List.getElem_mem _)
          have htk : ss.take (k + 1) = ss.take k ++ [ss.getD k []] := by rw [List.take_succ_eq_append_getElem hlt, getD_lt _ _ _ hlt]
          have HTK := Lib.hid htk; clear htk
          generalize ss.getD k [] = y at hcell hyl HTK
          have hee := HE.out
          go_wp2_with (first
            | (at_mapUpdate; refine wpList_mapUpdate_own _ rfl _ _ _ 78 rfl 9 4 Tryd.keyS Tryd.underlying78 (plainElem (H := Unit) Tryd.prog 4) B (n1 + k) _ rfl hown2 (by unfold maxLen; omega) _ _ _ rfl rfl (key_snoc y c hyl) _ [] elem_true ?_; intro w5 hown5 hgrow5))
          have hk5 : Hid (Keys (D2.put (.string (y ++ [c])) (.lit (.bool true))) (Grow (x.take pos) c (ss.take (k + 1)))) := by
            rw [HTK.out]; exact grow_step hk2.out hown2.isMap (by simp; unfold maxLen; omega)
          have hit5 : w5.heap[I]? = some (.stringIter ⟨x.toArray⟩ (pos + 1)) := (hgrow5.block I (Array.getElem?_eq_some_iff.1 hit2).1 (by simp; omega)).trans hit2
          have hrd5 := hrd.kept hgrow5 (by simp; omega)
          have hb5 := hb2.grown hgrow5 hb2.size (fun j e => by cases e; rw [HB.out]; exact Nat.le_refl _)
          exact ⟨⟨k + 1, _, by omega, by go_num, hown5, hk5, hrd5, hit5, hb5⟩, by simp [intOf]; omega⟩
        · obtain rfl : k = ss.length := by omega
          rw [List.take_length] at hk2
          have hk3 := grow_end hk2.out HM.out HC.out
          have HK3 := Lib.hid hk3; clear hk3
          go_wp2
          exact ⟨⟨pos + 1, n1 + ss.length, D2, by omega, by rw [Nat.pow_succ]; omega, hown2, HK3.out, hit2, hb2⟩, by rw [iterPos_of hit2, iterPos_of hit0.out]; omega⟩
    · have hnx := next_l_end (P := Tryd.prog) wr I x pos hit hp
      obtain rfl : pos = x.length := by omega
      rw [List.take_length] at hk1
      have hbr2 := grown_below_row hbr (some b)
      have hownb : OwnM wr b n D := hown.kept (grown_below hbr) (by simp)
      have hne : b ≠ B := by rw [HB.out]; omega
      have hkm : Keys (Lib.mergeD D D1) (fun k => S k ∨ k.Sublist x) := fun k => by
        rw [has_merge hownb hown1, Bool.or_eq_true, HK.out k, hk1.out k]
      have HKM := Lib.hid hkm; clear hkm
      have hn2 : n + n1 ≤ 1000000 := by omega
      go_wp2_with (go_at_call 53; refine (copyC b B n n1 D D1 _ hownb hown1 hne hn2).mono ?_; rintro e w6 ⟨rfl, hown6, hgrow6⟩)
      go_end0
      exact ⟨rfl, _, hown6.mono (by omega), HKM.out, hbr2.trans hgrow6⟩


set_option maxRecDepth 100000 in
set_option maxHeartbeats 1000000 in
theorem partsOf_ne (A : Option Addr) (n c : Nat) (ws : List (List UInt8)) (w : World) (hrd0 : Rd w A n (ws.map encStr)) (hn : n ≤ 8) (hn0 : 0 < n) (hws : ∀ x ∈ ws, x.length ≤ 10 ∧ x.all okc = true) :
    Calls Tryd.prog 23 #[.slice A n c] w (PartsPost w ws) := by
  have hmm := @run_makeMap Tryd.prog
  obtain ⟨g, o, rfl, hat⟩ := hrd0.at hn0
  have hlen : ws.length = n := by simpa using hrd0.1
  have hne : ws ≠ [] := fun e => by rw [e] at hlen; simp at hlen; omega
  have HL := Lib.hid hlen; have HWS := Lib.hid hws
  clear hlen hws hrd0
  have hgl := hat.1
  have hk0 : Hid (Keys (.map []) (fun k => ∃ x ∈ ws.take 0, k.Sublist x)) := fun k => by rw [keys_empty k]; simp
  have hownA : OwnM (w.alloc (.map #[] 0)) w.heap.size 0 (.map []) := World.ownsMap_made _ _ _ _
  have hatA := hat.alloc (.map #[] 0)
  have hbA : Below w.heap.size w (w.alloc (.map #[] 0)) := (Below.refl _ w).alloc (Nat.le_refl _) _
  go_enter Tryd.func23, Tryd.ntmps23
  go_wp2_with (fail)
  generalize w.alloc (.map #[] 0) = wA at hownA hatA hbA ⊢
  obtain ⟨B, hB⟩ : ∃ B, B = w.heap.size := ⟨_, rfl⟩
  rw [← hB] at hownA ⊢
  have HB := Lib.hid hB; clear hB
  go_loopw [9] (fun i wr => ∃ (k m : Nat) (D : DataW Unit), k ≤ n ∧ m ≤ k * 1024 ∧ i = .int .i64 k ∧ OwnM wr B m D ∧ Hid (Keys D (fun s => ∃ x ∈ ws.take k, s.Sublist x)) ∧ RdAt wr g o n (ws.map encStr) ∧ Below w.heap.size w wr)
    (fun i _ => n - (intOf i).toNat)
  case atStart => exact ⟨0, 0, _, Nat.zero_le _, Nat.le_refl _, rfl, hownA, hk0, hatA, hbA⟩
  case round =>
    obtain ⟨k, m, D, hk, hm, rfl, hown, hkk, hrd, hb⟩ := hrel
    by_cases hlt : k < n
    · have hcell := hrd.str hlt HL.out.symm
      have hx : (ws.getD k []).length ≤ 10 ∧ (ws.getD k []).all okc = true := HWS.out _ (by rw [getD_lt _ _ _ (by have := HL.out; omega)]; exact List.getElem_mem _)
      have htk : ws.take (k + 1) = ws.take k ++ [ws.getD k []] := by rw [List.take_succ_eq_append_getElem (by have := HL.out; omega), getD_lt _ _ _ (by have := HL.out; omega)]
      have HTK := Lib.hid htk; have HX := Lib.hid hx; clear htk hx
      generalize ws.getD k [] = y at hcell HX HTK
      have hm2 : m ≤ 100000 := by omega
      go_wp2_with (go_at_call 41; refine (addParts_any B m D y _ _ hown hm2 hkk.out HX.out.1 HX.out.2).mono ?_; rintro e w2 ⟨rfl, D2, hown2, hk2, hg2⟩)
      have hk3 : Hid (Keys D2 (fun s => ∃ x ∈ ws.take (k + 1), s.Sublist x)) := fun s => by
        rw [hk2 s, HTK.out]
        constructor
        · rintro (⟨x, hx, hs⟩ | hs)
          · exact ⟨x, List.mem_append_left _ hx, hs⟩
          · exact ⟨y, List.mem_append_right _ (List.mem_singleton.2 rfl), hs⟩
        · rintro ⟨x, hx, hs⟩
          rcases List.mem_append.1 hx with hx | hx
          · exact .inl ⟨x, hx, hs⟩
          · rw [List.mem_singleton.1 hx] at hs; exact .inr hs
      have hrd2 := hrd.kept hg2 (by simp; have := HB.out; omega)
      have hb2 := hb.grown hg2 hb.size (fun j e => by cases e; rw [HB.out]; exact Nat.le_refl _)
      clear hk2
      exact ⟨⟨k + 1, m + 1024, D2, by omega, by omega, by go_num, hown2, hk3, hrd2, hb2⟩, by simp [intOf]; omega⟩
    · obtain rfl : k = n := by omega
      have hkk2 := hkk.out
      rw [List.take_of_length_le (by have := HL.out; omega)] at hkk2
      have HKK := Lib.hid hkk2; clear hkk2 hkk
      have hm2 : m ≤ 1000000 := by omega
      have h10 : ∀ x ∈ ws, x.length ≤ 10 := fun x hx => (HWS.out x hx).1
      have hS := fun W (h : OwnM W B m D) => sortedC B m D W ws h hm2 HKK.out hne h10
      have HS := Lib.hid hS; have HNE := Lib.hid hne; clear hS h10 hne
      go_wp2_with (first
        | (go_at_call 43; refine (keysC _ _).mono ?_; rintro e w3 ⟨rfl, rfl⟩)
        | (go_at_call 42; refine (HS.out _ hown).mono ?_; rintro e w4 ⟨A4, c4, rfl, hown4, hb4⟩))
      go_ret
      exact ⟨A4, c4, rfl, ⟨hown4.1, hown4.2.imp id fun ⟨g, cap, cur, hv, hg, r⟩ => ⟨g, cap, cur, hv, by have := hb.size; omega, r⟩⟩, (hb.alloc hb.size _).trans (hb4.mono (by have := hb.size; omega))⟩
theorem partsOf_said : PartsOfSaid := fun A n c ws w h h0 hn hx => partsOf_ne A n c ws w h hn h0 hx
end Go.Proofs.YtlbepjmiligpcaaDoor
