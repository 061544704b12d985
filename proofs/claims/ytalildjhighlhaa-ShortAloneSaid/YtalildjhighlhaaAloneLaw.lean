/-
  The walk of ShortAlone: it returns true at any words by numbers, and writes nothing that was there.
-/
import Derived.Test.YtalildjhighlhaaMostLaw
import Derived.Test.YtalildjhighlhaaFst
import Derived.Test.YtalildjhighlhaaShort
import Derived.Test.YtalildjhighlhaaDifferLaw
import Derived.Deep.MidRow
namespace Go.Proofs.Ytalildjhighlhaa
open Go.RowKit Go.Proofs.Short Go.Maps Go.WideMaps

/-- four words by numbers that came in -/
structure IsSlips (cs : Array Value) (ms : List Nat) (lss : List (List Nat)) : Prop where
  size : cs.size = 44
  each : ∀ i, i < 4 → IsSlip ⟨(cs.toList.drop (i * 11)).take 11⟩ (ms.getD i 0) (lss.getD i [])
def nthL (ms : List Nat) (lss : List (List Nat)) (i : Nat) : List UInt8 := wordL 3 ((lss.getD i []).take (ms.getD i 0 % (6 + 1)))
def wordsS (ms : List Nat) (lss : List (List Nat)) (n : Nat) : List (List UInt8) := (List.range n).map (nthL ms lss)
theorem nthL_len (ms : List Nat) (lss : List (List Nat)) (i : Nat) : (nthL ms lss i).length ≤ 6 := by
  unfold nthL wordL; rw [List.length_map, List.length_take]; have := Nat.mod_lt (ms.getD i 0) (show 0 < 6 + 1 by omega); omega
theorem slice_slips (b n : Nat) (hn : n ≤ 4) (W : World) : (Instr.sliceAt 69 (.pointer (some ⟨b, 0, none⟩)) none (some (.int .i64 (n : Int))) none).run Try.prog W = .ok (.slice (some ⟨b, 0, none⟩) n 4) W := by
  have hl : Try.prog.arrayLen 69 = 4 := by kernel_rfl
  have he : Try.prog.elem 69 = 52 := by kernel_rfl
  have h := run_sliceAt_array_h (P := Try.prog) W 69 ⟨b, 0, none⟩ (by kernel_rfl) .i64 (n : Int) (by omega) (by rw [hl]; omega)
  rw [h, hl, he]
  simp [slicedAt, Addr.add, Try.sizeOf52]
theorem below_setCells {B : Nat} {a : World} (b : Nat) (hb : B ≤ b) : ∀ (vs : List Value) (o : Nat) (w : World), Below B a w → Below B a (w.setCells b o vs)
  | [], _, _, h => h
  | v :: vs, o, w, h => below_setCells b hb vs (o + 1) _ (h.setCell (p := ⟨b, o, none⟩) hb v)
theorem slip_ints {cs : Array Value} {m : Nat} {ls : List Nat} (h : IsSlip cs m ls) : ∃ l0 l1 l2 l3 l4 l5 l6 l7 l8 l9 : Nat, cs = #[.int .u8 m, .int .u8 (l0 : Nat), .int .u8 (l1 : Nat), .int .u8 (l2 : Nat), .int .u8 (l3 : Nat), .int .u8 (l4 : Nat), .int .u8 (l5 : Nat), .int .u8 (l6 : Nat), .int .u8 (l7 : Nat), .int .u8 (l8 : Nat), .int .u8 (l9 : Nat)] := by
  obtain ⟨a0, a1, a2, a3, a4, a5, a6, a7, a8, a9, a10, rfl⟩ := slip_eleven h
  have h0 := h.many
  have e0 := h.letter 0 (by omega)
  have e1 := h.letter 1 (by omega)
  have e2 := h.letter 2 (by omega)
  have e3 := h.letter 3 (by omega)
  have e4 := h.letter 4 (by omega)
  have e5 := h.letter 5 (by omega)
  have e6 := h.letter 6 (by omega)
  have e7 := h.letter 7 (by omega)
  have e8 := h.letter 8 (by omega)
  have e9 := h.letter 9 (by omega)
  simp at h0 e0 e1 e2 e3 e4 e5 e6 e7 e8 e9
  exact ⟨_, _, _, _, _, _, _, _, _, _, by rw [h0, e0, e1, e2, e3, e4, e5, e6, e7, e8, e9]⟩

/-- no other word of the first j has the part -/
def alB (ws : List (List UInt8)) (k : Nat) (p : List UInt8) (j : Nat) : Bool := (List.range j).all fun i => i == k || !leftL (ws.getD i []) p
theorem alB_step (ws : List (List UInt8)) (k : Nat) (p : List UInt8) (j : Nat) : alB ws k p (j + 1) = (alB ws k p j && (j == k || !leftL (ws.getD j []) p)) := by
  unfold alB; rw [List.range_succ, List.all_append]; simp
theorem othersF_eq (k : Nat) (p : List UInt8) : ∀ (ws : List (List UInt8)) (i : Nat), othersF k p i ws = !((List.range ws.length).all fun j => (i + j) == k || !leftL (ws.getD j []) p)
  | [], i => rfl
  | w :: ws, i => by
    have ih := othersF_eq k p ws (i + 1)
    show ((i != k && leftL w p) || othersF k p (i + 1) ws) = _
    rw [ih, List.length_cons, List.range_succ_eq_map, List.all_cons, List.all_map]
    have e : (fun j => (i + 1 + j) == k || !leftL (ws.getD j []) p) = ((fun j => (i + j) == k || !leftL ((w :: ws).getD j []) p) ∘ Nat.succ) := by
      funext j
      show _ = ((i + (j + 1)) == k || !leftL (ws.getD j []) p)
      rw [show i + 1 + j = i + (j + 1) by omega]
    rw [e]
    show _ = !((i + 0 == k || !leftL w p) && _)
    rw [Nat.add_zero]
    have hne : (i != k) = !(i == k) := rfl
    rw [hne]
    cases (i == k) <;> cases leftL w p <;> simp
theorem alB_others (ws : List (List UInt8)) (k : Nat) (p : List UInt8) : alB ws k p ws.length = !othersL ws k p := by
  unfold othersL alB
  rw [othersF_eq]; simp
theorem alone_short {ws : List (List UInt8)} {k : Nat} {f : List UInt8 → Nat} {is : Bool} {l : List UInt8} (hf : f = fun p => (subs (ws.getD k [])).count p) (h : BestOf (fun p => 0 < f p) (fun p => !othersL ws k p) is l) :
    shortL ws k = if is then some l else none := by
  have hS : ∀ p, p ∈ partsL [ws.getD k []] ↔ 0 < f p := fun p => by
    rw [hf, mem_partsL]
    show _ ↔ 0 < (subs (ws.getD k [])).count p
    rw [List.count_pos_iff, mem_subs]; simp
  unfold shortL
  rcases h with ⟨rfl, rfl, h3⟩ | ⟨rfl, h2, h3, h4⟩
  · exact List.find?_eq_none.2 fun p hp => by
      have := h3 p ((hS p).1 hp)
      simpa using this
  · exact find_least (srt_partsL _) ((hS l).2 h3) h2 fun p hp hpp => h4 p ((hS p).1 hp) hpp
theorem chks_each {ws : List (List UInt8)} (h : ∀ x ∈ ws, x.length ≤ 6 ∧ x.all okc = true) : chks ws = 0 := by
  induction ws with
  | nil => rfl
  | cons x l ih =>
    have hx := h x (by simp)
    have hc : chk x = 0 := by unfold chk; rw [if_neg (by omega), if_pos hx.2]
    unfold chks; rw [if_pos hc]; exact ih fun y hy => h y (by simp [hy])
def AlIn (ws : List (List UInt8)) (f : List UInt8 → Nat) (k b R n : Nat) (D : DataW Unit) (W1 : World) (bv iv : Value) (wx : World) : Prop :=
  ∃ (left : Lit → Bool) (cnt : Nat) (l : List UInt8) (sl : ByteArray) (is : Bool), wx.ranges Try.prog 9 (plainElem Try.prog 3) b R n D left cnt ∧ bv = .string sl ∧ Hid (sl = ⟨l.toArray⟩) ∧ iv = .bool is ∧
    Hid (BestOf (fun p => 0 < f p ∧ left (.string p) = false) (fun p => !othersL ws k p) is l) ∧ Below R W1 wx ∧ R < wx.heap.size

set_option maxRecDepth 100000 in
set_option maxHeartbeats 4000000 in
theorem aloneLaw_any (cs : Array Value) (ms : List Nat) (lss : List (List Nat)) (many which : Nat) (w : World) (hS : IsSlips cs ms lss) (hmany : many < 256) (hwhich : which < 256) :
    Calls Try.prog 14 #[.agg cs, .int .u8 many, .int .u8 which] w fun e w' => e = .returned (.bool true) ∧ Below w.heap.size w w' := by
  obtain ⟨n, hn⟩ : ∃ n : Nat, (1 + (many : Int) % 4 = (n : Int)) ∧ 1 ≤ n ∧ n ≤ 4 := ⟨1 + many % 4, by simp, by omega, by omega⟩
  obtain ⟨hn, hn1, hn4⟩ := hn
  have hslS := fun b W => slice_slips b n hn4 W
  have hhp := heap_alloc_new w (.cells cs 69)
  have hcell : ∀ w', Below (w.alloc (.cells cs 69)).heap.size (w.alloc (.cells cs 69)) w' → ∀ i, i < 4 → w'.rangeAt w.heap.size (i * 11) ((cs.toList.drop (i * 11)).take 11) := fun w' hb i hi j v hv => by
    have h1 : w'.heap[w.heap.size]? = some (.cells cs 69 (0, 0)) := (hb.block _ (by simp)).trans hhp
    rw [cell_of_row w' _ _ _ _ _ h1]
    have hj : j < 11 := by have := (List.getElem?_eq_some_iff.1 hv).1; rw [List.length_take] at this; omega
    rw [List.getElem?_take, if_pos hj, List.getElem?_drop] at hv
    simpa using hv
  have hb0 : Below w.heap.size w (w.alloc (.cells cs 69)) := (Below.refl _ w).alloc (Nat.le_refl _) _
  have hs0 : (w.alloc (.cells cs 69)).heap.size = w.heap.size + 1 := by simp
  have hinf : (Try.prog.info? 52).map (·.size) = some 11 := by kernel_rfl
  have hzv := fun (W : World) => (by kernel_rfl : (zeroValue 3).run Try.prog W = .ok (.int .i64 0) W)
  have HZV := Lib.hid hzv; clear hzv
  have HC := Lib.hid hcell; have HS0 := Lib.hid hs0; have HINF := Lib.hid hinf; clear hcell hs0 hhp hinf
  go_enter Try.func14, Try.ntmps14
  go_wp2_with (fail)
  try rw [hn]
  clear hn
  generalize w.alloc (.cells cs 69) = W0 at hb0 HC HS0 ⊢
  go_loopw [7, 27] (fun v iv wr => ∃ (i : Nat) (A : Option Addr) (c0 : Nat), i ≤ n ∧ iv = .int .i64 i ∧ v = .slice A i c0 ∧ wr.ownsRow (w.heap.size + 1) 9 1 (.slice A i c0) i ((wordsS ms lss i).map encStr) ∧ Below (w.heap.size + 1) W0 wr) (fun _ iv _ => n - (intOf iv).toNat)
  case atStart => exact ⟨0, none, 0, Nat.zero_le _, rfl, rfl, ⟨rfl, .inl ⟨rfl, rfl⟩⟩, Below.refl _ _⟩
  case round =>
    obtain ⟨i, A, c0, hi, rfl, rfl, hrow, hb⟩ := hrel
    by_cases hlt : i < n
    · have hid : decide ((i : Int) < (n : Int)) = true := by simp; omega
      have hE := hS.each i (by omega)
      obtain ⟨m0, hm0⟩ : ∃ m0, Hid (m0 = ms.getD i 0) := ⟨_, Lib.hid rfl⟩
      rw [← hm0.out] at hE
      obtain ⟨l0, l1, l2, l3, l4, l5, l6, l7, l8, l9, hcs⟩ := slip_ints hE
      have hlist : (cs.toList.drop (i * 11)).take 11 = [.int .u8 (m0 : Nat), .int .u8 (l0 : Nat), .int .u8 (l1 : Nat), .int .u8 (l2 : Nat), .int .u8 (l3 : Nat), .int .u8 (l4 : Nat), .int .u8 (l5 : Nat), .int .u8 (l6 : Nat), .int .u8 (l7 : Nat), .int .u8 (l8 : Nat), .int .u8 (l9 : Nat)] := congrArg Array.toList hcs
      have hr := HC.out wr (by rw [HS0.out]; exact hb) i (by omega)
      have d0 : wr.cell? ⟨w.heap.size, i * 11, none⟩ = some (.int .u8 (m0 : Nat)) := hr 0 _ (by rw [hlist]; rfl)
      have d1 : wr.cell? ⟨w.heap.size, i * 11 + 1, none⟩ = some (.int .u8 (l0 : Nat)) := hr 1 _ (by rw [hlist]; rfl)
      have d2 : wr.cell? ⟨w.heap.size, i * 11 + 2, none⟩ = some (.int .u8 (l1 : Nat)) := hr 2 _ (by rw [hlist]; rfl)
      have d3 : wr.cell? ⟨w.heap.size, i * 11 + 3, none⟩ = some (.int .u8 (l2 : Nat)) := hr 3 _ (by rw [hlist]; rfl)
      have d4 : wr.cell? ⟨w.heap.size, i * 11 + 4, none⟩ = some (.int .u8 (l3 : Nat)) := hr 4 _ (by rw [hlist]; rfl)
      have d5 : wr.cell? ⟨w.heap.size, i * 11 + 5, none⟩ = some (.int .u8 (l4 : Nat)) := hr 5 _ (by rw [hlist]; rfl)
      have d6 : wr.cell? ⟨w.heap.size, i * 11 + 6, none⟩ = some (.int .u8 (l5 : Nat)) := hr 6 _ (by rw [hlist]; rfl)
      have d7 : wr.cell? ⟨w.heap.size, i * 11 + 7, none⟩ = some (.int .u8 (l6 : Nat)) := hr 7 _ (by rw [hlist]; rfl)
      have d8 : wr.cell? ⟨w.heap.size, i * 11 + 8, none⟩ = some (.int .u8 (l7 : Nat)) := hr 8 _ (by rw [hlist]; rfl)
      have d9 : wr.cell? ⟨w.heap.size, i * 11 + 9, none⟩ = some (.int .u8 (l8 : Nat)) := hr 9 _ (by rw [hlist]; rfl)
      have d10 : wr.cell? ⟨w.heap.size, i * 11 + 10, none⟩ = some (.int .u8 (l9 : Nat)) := hr 10 _ (by rw [hlist]; rfl)
      rw [hcs] at hE
      have hM : ∀ W, Calls Try.prog 49 #[.agg #[.int .u8 (m0 : Nat), .int .u8 (l0 : Nat), .int .u8 (l1 : Nat), .int .u8 (l2 : Nat), .int .u8 (l3 : Nat), .int .u8 (l4 : Nat), .int .u8 (l5 : Nat), .int .u8 (l6 : Nat), .int .u8 (l7 : Nat), .int .u8 (l8 : Nat), .int .u8 (l9 : Nat)], .int .i64 6, .int .i64 3] W fun e w' => e = .returned (.string ⟨(nthL ms lss i).toArray⟩) ∧ Below W.heap.size W w' := fun W => by
        have h := made_w _ _ _ 6 3 W hE (by omega) (by omega) (by omega)
        rw [hm0.out] at h ⊢; exact h
      have HM := Lib.hid hM
      have hwz : w.heap.size + 1 ≤ wr.heap.size := by have := hb.size; have := HS0.out; omega
      clear hE hcs hlist hr hM
      have hwl : decide (w.heap.size + 1 ≤ wr.heap.size) = true := by simpa using hwz
      obtain ⟨i0, hi0, hz0, hz1, hz2⟩ := info_parts Try.infoStr
      have HZZ := Lib.hid hwz
      clear hwl hwz hid
      have hid : decide ((i : Int) < (n : Int)) = true := by simp; omega
      go_wp2_with (fail)
      refine (HM.out _).mono ?_; rintro e w2 ⟨rfl, hb2⟩
      have hbA : Below (w.heap.size + 1) W0 w2 := (hb.alloc HZZ.out _).trans (hb2.mono (by simp; have := HZZ.out; omega))
      have hrow2 := own_below (hrow.alloc _) hb2
      have hlen2 := nthL_len ms lss i
      have hsz2 : w.heap.size + 1 ≤ w2.heap.size := by have := hb2.size; simp at this; have := HZZ.out; omega
      have hws : wordsS ms lss (i + 1) = wordsS ms lss i ++ [nthL ms lss i] := by unfold wordsS; rw [List.range_succ, List.map_append]; rfl
      have HWS := Lib.hid hws
      clear hb hrow hb2 d0 d1 d2 d3 d4 d5 d6 d7 d8 d9 d10 hws
      go_wp2_with (at_builtin; refine wpList_append_own_at _ rfl _ _ 36 rfl (w.heap.size + 1) 9 i0 (.string ByteArray.empty) 1 16 Try.underlying36 hi0 hz0 hz1 hz2 rfl (by decide) _ _ _ rfl (hrow2.alloc _) ⟨w2.heap.size, 0, none⟩ 1 1 [.string ⟨(nthL ms lss i).toArray⟩] rfl rfl ?c1 ?c2 ?c3 ?c4 ?c5 ?_)
      case c1 => exact cell_one_new _ _ _
      case c2 => exact fun u hu => by rw [List.mem_singleton.1 hu]; rfl
      case c3 => unfold maxLen; omega
      case c4 => omega
      case c5 => simp; omega
      intro v5 w5 hown5 hg5 _ _
      obtain ⟨A5, c5, rfl⟩ := ownsRow_shape hown5
      have hb5 := below_own (hrow2.alloc _) (hbA.alloc hsz2 _) (by simp; omega) hg5
      have e5 : (wordsS ms lss i).map encStr ++ [.string ⟨(nthL ms lss i).toArray⟩] = (wordsS ms lss (i + 1)).map encStr := by rw [HWS.out]; simp [encStr]
      rw [e5] at hown5
      clear hrow2 hbA hg5 e5
      go_wp2_with (fail)
      exact ⟨⟨i + 1, A5, c5, by omega, by go_num, rfl, hown5, hb5⟩, by simp [intOf]; omega⟩
    · obtain rfl : i = n := by omega
      have hid : decide ((i : Int) < (i : Int)) = false := by simp
      obtain ⟨k, hk⟩ : ∃ k : Nat, ((which : Int) % (i : Int) = (k : Int)) ∧ k < i := ⟨which % i, by simp, Nat.mod_lt _ hn1⟩
      obtain ⟨hk, hki⟩ := hk
      have hi0' : ((i : Int) == 0) = false := by rw [beq_eq_false_iff_ne]; omega
      obtain ⟨g, o, rfl, hat⟩ := (rd_own hrow).at hn1
      have hlenW : (wordsS ms lss i).length = i := by unfold wordsS; simp
      have hcell := hat.str hki hlenW.symm
      have hwsl : ∀ x ∈ wordsS ms lss i, x.length ≤ 6 ∧ x.all okc = true := fun x hx => by
        obtain ⟨j, _, rfl⟩ := List.mem_map.1 hx
        exact ⟨nthL_len ms lss j, wordL_okc (by omega) (by omega) _⟩
      have hbW : Below w.heap.size w wr := hb0.trans (hb.mono (Nat.le_succ _))
      have hrdW := rd_own hrow
      obtain ⟨ws, hws⟩ : ∃ ws, Hid (ws = wordsS ms lss i) := ⟨_, Lib.hid rfl⟩
      rw [← hws.out] at hcell hwsl hlenW hat hrdW
      have HLW := Lib.hid hlenW; have HWSL := Lib.hid hwsl
      have hy : (ws.getD k []).length ≤ 6 ∧ (ws.getD k []).all okc = true := hwsl _ (by rw [getD_lt _ _ _ (by omega)]; exact List.getElem_mem _)
      have HY := Lib.hid hy
      clear hlenW hwsl hy hb hrow hb0 hws hid
      have hid : decide ((i : Int) < (i : Int)) = false := by simp
      go_wp2_with (fail)
      refine (parts_m (ws.getD k []) _ (by have := HY.out.1; omega)).mono ?_; rintro e w1 ⟨b, nb, D, rfl, hbb, hown, hnb, hcnt, hb1⟩
      have hW1 := hbW.trans (hb1.mono hbW.size)
      have hat1 := hat.below hb1
      have hrd1 := hrdW.below hb1
      have HCNT := Lib.hid hcnt
      clear hcnt hbW hat hrdW hcell hb1 hbb
      try rw [hk]
      clear hk
      go_wp2_with (refine wpList_range_own _ rfl _ 56 rfl 9 3 Try.keyT Try.underlying56 _ b nb D rfl hown ?_; intro w0 hrg0 hg0 hs0)
      go_frame
      obtain ⟨f, hf⟩ : ∃ f : List UInt8 → Nat, Hid (f = fun p => (subs (ws.getD k [])).count p) := ⟨_, Lib.hid rfl⟩
      have hcf : Hid (Cnt D f) := by rw [hf.out]; exact HCNT.out
      have hbl := hown.lt
      have hgl := hat1.1
      have hb0 : Below w1.heap.size w1 w0 := ⟨hg0.os, hg0.tape, hg0.output, hg0.size, fun k hk => hg0.block k hk (by simp)⟩
      have hst0 : Hid (BestOf (fun p => 0 < f p ∧ has D (.string p) = false) (fun p => !othersL ws k p) false []) := .inl ⟨rfl, rfl, fun p hp => by
        have h2 := hp.2
        rw [(hcf.out p).1.2 hp.1] at h2; exact absurd h2 (by decide)⟩
      obtain ⟨R, hR⟩ : ∃ R, Hid (w1.heap.size = R) := ⟨_, Lib.hid rfl⟩
      have hgR : g < R := by rw [← hR.out]; exact hgl
      rw [hR.out] at hrg0 hs0 hb0 hbl ⊢
      clear hg0 hgl
      go_loopw [11, 12] (fun bv iv wx => AlIn ws f k b R nb D w1 bv iv wx) (fun _ _ wx => wx.rangeLeft b R)
      case atStart => exact ⟨_, _, [], _, false, hrg0, rfl, rfl, rfl, hst0, hb0, by omega⟩
      case round =>
        clear hrg0 hs0 hb0 hst0
        obtain ⟨left, cnt, l, sl, is, hrg, rfl, hsl, rfl, hbest, hbx, hRx⟩ := hrel
        have hmeas := Lib.hid hrg.left_eq
        go_wp2_with (refine wpList_next_si _ rfl _ rfl 9 3 Try.keyT Try.underlying9 Try.underlying3 b R nb D left cnt rfl hrg ?_ ?_)
        · intro hc0 hl0
          have hb2 : BestOf (fun p => 0 < f p) (fun p => !othersL ws k p) is l := best_congr hbest.out fun p => ⟨fun h => h.1, fun h => ⟨h, hl0 _⟩⟩
          have hsh := alone_short hf.out hb2
          have hnil : is = false → l = [] := fun h => by rcases hb2 with ⟨_, h2, _⟩ | ⟨h1, _⟩
                                                         · exact h2
                                                         · rw [h] at h1; exact absurd h1 (by decide)
          have hrdx := hrd1.below (by rw [hR.out]; exact hbx)
          have hch := chks_each HWSL.out
          have hlm : ∀ x ∈ ws, x.length ≤ maxLen := fun x hx => by have := (HWSL.out x hx).1; unfold maxLen; omega
          have hWx := hW1.trans (hbx.mono (by rw [← hR.out]; exact hW1.size))
          have HS1 := Lib.hid fun W (h : Rd W (some ⟨g, o, none⟩) i (ws.map encStr)) => short_ok partsOf_said (some ⟨g, o, none⟩) i c0 k ws W h (by omega) hch hki
          have HS2 := Lib.hid fun W (h : Rd W (some ⟨g, o, none⟩) i (ws.map encStr)) => short_none (some ⟨g, o, none⟩) i c0 (i : Int) ws W h (by omega) hlm hch (.inr (Int.le_refl _))
          rw [hsh] at HS1
          clear hl0 hrg hb2 hsh hch hlm hbest hmeas
          cases is with
          | false =>
            have e0 : optV (if false = true then some l else none) 12 = .tuple #[.string ⟨#[]⟩, .int .i64 12] := rfl
            rw [e0] at HS1
            go_wp2_with (fail)
            refine (HS1.out _ hrdx).mono ?_; rintro e w3 ⟨rfl, hb3⟩
            have hWx3 := hWx.trans (hb3.mono hWx.size)
            have hrdx3 := hrdx.below hb3
            clear hb3 hrdx
            go_wp2_with (fail)
            refine (HS2.out _ hrdx3).mono ?_; rintro e w4 ⟨rfl, hb4⟩
            have hWx4 := hWx3.trans (hb4.mono hWx3.size)
            clear hb4 hrdx3
            go_wp2_with (fail)
            refine (works_any _).mono ?_; rintro e w5 ⟨rfl, hb5⟩
            have hWx5 := hWx4.trans (hb5.mono hWx4.size)
            go_wp2_with (fail)
            go_ret
            exact ⟨rfl, hWx5⟩
          | true =>
            have e0 : optV (if true = true then some l else none) 12 = .tuple #[.string sl, .int .i64 0] := by rw [hsl.out]; rfl
            rw [e0] at HS1
            go_wp2_with (fail)
            refine (HS1.out _ hrdx).mono ?_; rintro e w3 ⟨rfl, hb3⟩
            have hWx3 := hWx.trans (hb3.mono hWx.size)
            have hrdx3 := hrdx.below hb3
            clear hb3 hrdx
            go_wp2_with (fail)
            refine (HS2.out _ hrdx3).mono ?_; rintro e w4 ⟨rfl, hb4⟩
            have hWx4 := hWx3.trans (hb4.mono hWx3.size)
            clear hb4 hrdx3
            go_wp2_with (fail)
            refine (works_any _).mono ?_; rintro e w5 ⟨rfl, hb5⟩
            have hWx5 := hWx4.trans (hb5.mono hWx4.size)
            go_wp2_with (fail)
            go_ret
            exact ⟨rfl, hWx5⟩
        · intro x c w2 cnt2 hxl hhx hlx hrg2 hlt2 hg2 hs2 hen
          have hbx2 : Below R w1 w2 := hbx.grown hg2 (by omega) (fun j e => by cases e; exact Nat.le_refl _)
          have hR2 : R < w2.heap.size := by omega
          have hSS : Hid (∀ p, (0 < f p ∧ (left (.string p) && !(Lit.string p).sameKey (.string x)) = false) → ((0 < f p ∧ left (.string p) = false) ∨ p = x)) := fun p h => by
            rcases (same_str (.string p) x p left).1 h.2 with h3 | h3
            · exact .inl ⟨h.1, h3⟩
            · exact .inr h3
          have hSS' : Hid (∀ p, (0 < f p ∧ left (.string p) = false) → (0 < f p ∧ (left (.string p) && !(Lit.string p).sameKey (.string x)) = false)) := fun p h => ⟨h.1, (same_str (.string p) x p left).2 (.inl h.2)⟩
          have hSx : Hid (0 < f x ∧ (left (.string x) && !(Lit.string x).sameKey (.string x)) = false) := ⟨(hcf.out x).1.1 hhx, (same_str (.string x) x x left).2 (.inr rfl)⟩
          have hxle : x.length ≤ 6 := by
            have h1 := (hcf.out x).1.1 hhx
            rw [hf.out] at h1
            have h2 : x.Sublist (ws.getD k []) := mem_subs.1 (List.count_pos_iff.1 h1)
            have := h2.length_le; have := HY.out.1; omega
          obtain ⟨sx, hsx⟩ : ∃ sx : ByteArray, Hid (sx = ⟨x.toArray⟩) := ⟨_, Lib.hid rfl⟩
          rw [← hsx.out] at hen ⊢
          have hal0 : alB ws k x 0 = true := rfl
          have HAL0 := Lib.hid hal0
          clear hrg hlx hhx hg2 hbx hs2 hal0
          go_wp2_with (fail)
          go_loopw [14, 54] (fun av jv wx => ∃ (j : Nat), j ≤ i ∧ jv = .int .i64 j ∧ av = .bool (alB ws k x j) ∧ wx.ranges Try.prog 9 (plainElem Try.prog 3) b R nb D (fun z => left z && !z.sameKey (.string x)) cnt2 ∧ Below R w1 wx ∧ R < wx.heap.size) (fun _ jv _ => i - (intOf jv).toNat)
          case atStart => exact ⟨0, Nat.zero_le _, rfl, by rw [HAL0.out], hrg2, hbx2, hR2⟩
          case round =>
            clear hrg2 hbx2 hR2 hen
            obtain ⟨j, hj, rfl, rfl, hrg2, hbx2, hR2⟩ := hrel
            have hmeas2 := Lib.hid hrg2.left_eq
            by_cases hjl : j < i
            · have hjd : decide ((j : Int) < (i : Int)) = true := by simp; omega
              have hatx : RdAt wr g o i (ws.map encStr) := hat1.below (by rw [hR.out]; exact hbx2)
              have hcell := hatx.str hjl HLW.out.symm
              have hyl := (HWSL.out (ws.getD j []) (by rw [getD_lt _ _ _ (by have := HLW.out; omega)]; exact List.getElem_mem _)).1
              have hst := alB_step ws k x j
              have HST := Lib.hid hst
              clear hst hatx
              obtain ⟨d2, hd2⟩ : ∃ d2, Hid (alB ws k x (j + 1) = d2) := ⟨_, Lib.hid rfl⟩
              rw [hd2.out] at HST
              generalize alB ws k x j = d1 at HST ⊢
              generalize ws.getD j [] = y at hcell hyl HST
              cases d1 with
              | false =>
                have e : d2 = false := by rw [HST.out]; rfl
                have HE := Lib.hid e; clear e
                go_wp2_with (fail)
                exact ⟨⟨j + 1, by omega, by go_num, by rw [hd2.out, HE.out], hrg2, hbx2, hR2⟩, by simp [intOf]; omega⟩
              | true =>
                by_cases hjk : j = k
                · have hb1 : ((j : Int) == (k : Int)) = true := by simp [hjk]
                  have e : d2 = true := by rw [HST.out, hjk]; simp
                  have HE := Lib.hid e; clear e hjk
                  go_wp2_with (fail)
                  exact ⟨⟨j + 1, by omega, by go_num, by rw [hd2.out, HE.out], hrg2, hbx2, hR2⟩, by simp [intOf]; omega⟩
                · have hb1 : ((j : Int) == (k : Int)) = false := by simp; omega
                  have e : d2 = !leftL y x := by
                    have : (j == k) = false := by simpa using hjk
                    rw [HST.out, this]; simp
                  have hcl := count_left y x
                  have hc0 : ((((subs y).count x : Nat) : Int) == 0) = d2 := by
                    rw [e, ← hcl]
                    generalize (subs y).count x = q
                    by_cases hq : q = 0
                    · subst hq; rfl
                    · have h1 : ((q : Int) == 0) = false := by rw [beq_eq_false_iff_ne]; omega
                      have h2 : decide (0 < q) = true := by simp; omega
                      rw [h1, h2]; rfl
                  have hkey : keyOf Try.prog 9 (.string sx) = some (.string x) := by rw [hsx.out]; exact keyT_str x (by unfold maxLen; omega)
                  have HC0 := Lib.hid hc0
                  clear e hjk hcl hc0
                  go_wp2_with (fail)
                  refine (parts_m y _ (by omega)).mono ?_; rintro e w3 ⟨b3, n3, D3, rfl, hb3b, hown3, hn3, hcnt3, hb3⟩
                  have hrg3 := hrg2.kept (grown_below' hb3 none) (by simp) (by simp)
                  have hbx3 := hbx2.trans (hb3.mono (by omega))
                  have hR3 : R < w3.heap.size := by have := hb3.size; omega
                  obtain ⟨z, hrun, hatz, hwz⟩ := hown3.lookup_int Try.keyT Try.underlying56 Try.underlying3 (HZV.out w3) hkey
                  obtain rfl : z = (((subs y).count x : Nat) : Int) := by have h := (hcnt3 x).2; rw [hatz] at h; simpa using h
                  have hc0 := HC0.out
                  clear hatz hwz hcnt3 hown3 hb3 hrg2 hbx2 hb3b hcell hkey
                  generalize (subs y).count x = cz at hrun hc0
                  go_wp2_with (fail)
                  exact ⟨⟨j + 1, by omega, by go_num, by rw [hd2.out], hrg3, hbx3, hR3⟩, by simp [intOf]; omega⟩
            · obtain rfl : j = i := by omega
              have hjd : decide ((j : Int) < (j : Int)) = false := by simp
              have hao := alB_others ws k x
              rw [HLW.out] at hao
              obtain ⟨d, hd⟩ : ∃ d, Hid ((!othersL ws k x) = d) := ⟨_, Lib.hid rfl⟩
              rw [hao, hd.out]
              have key : ∀ (is2 : Bool) (l2 : List UInt8) (sl2 : ByteArray), sl2 = ⟨l2.toArray⟩ → BestOf (fun p => 0 < f p ∧ (left (.string p) && !(Lit.string p).sameKey (.string x)) = false) (fun p => !othersL ws k p) is2 l2 →
                  AlIn ws f k b R nb D w1 (.string sl2) (.bool is2) wr ∧ wr.rangeLeft b R < cnt := fun is2 l2 sl2 h1 h2 =>
                ⟨⟨_, cnt2, l2, sl2, is2, hrg2, rfl, h1, rfl, h2, hbx2, hR2⟩, by rw [hmeas2.out]; exact hlt2⟩
              have hnot : d = false → AlIn ws f k b R nb D w1 (.string sl) (.bool is) wr ∧ wr.rangeLeft b R < cnt := fun h =>
                key is l sl hsl.out (best_more hbest.out hSS.out hSS'.out (.inl (hd.out.trans h)))
              have hkeep : is = true → ltW x l = false → AlIn ws f k b R nb D w1 (.string sl) (.bool is) wr ∧ wr.rangeLeft b R < cnt := fun h h2 =>
                key is l sl hsl.out (best_more hbest.out hSS.out hSS'.out (.inr ⟨h, h2⟩))
              have htake : d = true → (is = false ∨ ltW x l = true) → AlIn ws f k b R nb D w1 (.string sx) (.bool true) wr ∧ wr.rangeLeft b R < cnt := fun h h2 =>
                key true x sx hsx.out (best_take hbest.out hSS.out hSx.out (hd.out.trans h) h2)
              have hszx : sx.size = x.length := by rw [hsx.out]; simp [ByteArray.size]
              have hszl : sl.size = l.length := by rw [hsl.out]; simp [ByteArray.size]
              have hltx : ltW x l = (decide (sx.size < sl.size) || (decide (sx.size = sl.size) && Op.bytesLess sx.toList sl.toList)) := by
                rw [hszx, hszl, bytesLess_cb, hsx.out, hsl.out, Bool.eq_iff_iff, ltW_iff]
                simp [Lib.toList_data]
              have HNOT := Lib.hid hnot; have HKEEP := Lib.hid hkeep; have HTAKE := Lib.hid htake; have HLT := Lib.hid hltx
              clear key hnot hkeep htake hltx hszx hszl hao hbest hSS hSS' hSx hrg2 hbx2
              cases d with
              | false =>
                have HN := Lib.hid (HNOT.out rfl)
                go_wp2_with (fail)
                rw [hmeas.out]; exact HN.out
              | true =>
                cases is with
                | false =>
                  have HN := Lib.hid (HTAKE.out rfl (.inl rfl))
                  go_wp2_with (fail)
                  rw [hmeas.out]; exact HN.out
                | true =>
                  by_cases hs : sx.size < sl.size
                  · have HN := Lib.hid (HTAKE.out rfl (.inr (by rw [HLT.out]; simp [hs])))
                    have hs1 : decide (sx.size < sl.size) = true := by simpa using hs
                    clear hs
                    go_wp2_with (fail)
                    rw [hmeas.out]; exact HN.out
                  · have hs1 : decide (sx.size < sl.size) = false := by simpa using hs
                    by_cases he : sx.size = sl.size
                    · have he1 : ((sx.size : Int) == (sl.size : Int)) = true := by simp [he]
                      cases hblt : Op.bytesLess sx.toList sl.toList with
                      | true =>
                        have HN := Lib.hid (HTAKE.out rfl (.inr (by rw [HLT.out, hs1, hblt]; simp [he])))
                        clear hs he
                        go_wp2_with (fail)
                        rw [hmeas.out]; exact HN.out
                      | false =>
                        have HN := Lib.hid (HKEEP.out rfl (by rw [HLT.out, hs1, hblt]; simp))
                        clear hs he
                        go_wp2_with (fail)
                        rw [hmeas.out]; exact HN.out
                    · have he1 : ((sx.size : Int) == (sl.size : Int)) = false := by simp; omega
                      have HN := Lib.hid (HKEEP.out rfl (by rw [HLT.out, hs1]; simp [he]))
                      clear hs he
                      go_wp2_with (fail)
                      rw [hmeas.out]; exact HN.out
end Go.Proofs.Ytalildjhighlhaa
