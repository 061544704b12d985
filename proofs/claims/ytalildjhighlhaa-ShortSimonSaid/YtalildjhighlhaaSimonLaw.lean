/-
  The walk of ShortSimon: it returns true at any two words by numbers and any number of letters, and writes nothing that was there.
-/
import Derived.Test.YtalildjhighlhaaDifferLaw
import Derived.Test.YtalildjhighlhaaMathG
namespace Go.Proofs.Ytalildjhighlhaa
open Go.RowKit Go.Proofs.Short

theorem slip_ten {cs : Array Value} {m : Nat} {ls : List Nat} (h : IsSlip cs m ls) : ∃ a1 a2 a3 a4 a5 a6 a7 a8 a9 a10 : Value, cs = #[.int .u8 m, a1, a2, a3, a4, a5, a6, a7, a8, a9, a10] := by
  obtain ⟨a0, a1, a2, a3, a4, a5, a6, a7, a8, a9, a10, rfl⟩ := slip_eleven h
  have h0 := h.many
  simp at h0
  exact ⟨a1, a2, a3, a4, a5, a6, a7, a8, a9, a10, by rw [h0]⟩
theorem simon_len {x y l : List UInt8} {n : Nat} (hx : x.length = n) (hy : y.length = n) (h : apartL x y = some l) : l.length ≤ n / 2 + 1 := by
  have hne : x ≠ y := fun e => by rw [e, apart_eq] at h; exact absurd h (by simp)
  obtain ⟨p, hp, hd⟩ := simon (hx.trans hy.symm) hne
  rw [hx] at hp
  have hdp : dif x y p = true := by
    show (leftL x p != leftL y p) = true
    rcases hd with ⟨h1, h2⟩ | ⟨h1, h2⟩
    · rw [leftL_iff.2 h1]
      cases hc : leftL y p with
      | false => rfl
      | true => exact absurd (leftL_iff.1 hc) h2
    · rw [leftL_iff.2 h1]
      cases hc : leftL x p with
      | false => rfl
      | true => exact absurd (leftL_iff.1 hc) h2
  have hmem : p ∈ partsL [x, y] := by
    rw [mem_partsL]
    rcases hd with ⟨h1, _⟩ | ⟨h1, _⟩
    · exact ⟨x, by simp, h1⟩
    · exact ⟨y, by simp, h1⟩
  refine Nat.le_trans (Nat.le_of_not_lt fun hlt => ?_) hp
  have hnone := (apart_some h).2 p.length hlt
  have := List.find?_eq_none.1 hnone p (List.mem_filter.2 ⟨hmem, by simp⟩)
  exact this hdp

set_option maxRecDepth 100000 in
set_option maxHeartbeats 4000000 in
theorem simonLaw_any (cs1 : Array Value) (m1 : Nat) (ls1 : List Nat) (cs2 : Array Value) (m2 : Nat) (ls2 : List Nat) (k : Nat) (w : World) (hS1 : IsSlip cs1 m1 ls1) (hS2 : IsSlip cs2 m2 ls2) (hk : k < 256) :
    Calls Try.prog 7 #[.agg cs1, .agg cs2, .int .u8 k] w fun e w' => e = .returned (.bool true) ∧ Below w.heap.size w w' := by
  obtain ⟨a1, a2, a3, a4, a5, a6, a7, a8, a9, a10, hcs1⟩ := slip_ten hS1
  obtain ⟨b1, b2, b3, b4, b5, b6, b7, b8, b9, b10, hcs2⟩ := slip_ten hS2
  have hinf1 : (Try.prog.info? 52).map (·.size) = some cs1.size := by rw [hS1.size]; kernel_rfl
  have hinf2 : (Try.prog.info? 52).map (·.size) = some cs2.size := by rw [hS2.size]; kernel_rfl
  have hhp1 := heap_alloc2_old w (.cells cs1 52) (.cells cs2 52)
  have hhp2 := heap_alloc2_new w (.cells cs1 52) (.cells cs2 52)
  have hb0 : Below w.heap.size w ((w.alloc (.cells cs1 52)).alloc (.cells cs2 52)) := ((Below.refl _ w).alloc (Nat.le_refl _) _).alloc (by simp) _
  have hsz : ((w.alloc (.cells cs1 52)).alloc (.cells cs2 52)).heap.size = w.heap.size + 2 := by simp
  obtain ⟨L, hL⟩ : ∃ L : Nat, (1 + (k : Int) % 4 = (L : Int)) ∧ 1 ≤ L ∧ L ≤ 6 := ⟨1 + k % 4, by simp, by omega, by omega⟩
  obtain ⟨n, hn⟩ : ∃ n : Nat, ((m1 : Int) % 9 = (n : Int)) ∧ n ≤ 8 := ⟨m1 % 9, by simp, by omega⟩
  obtain ⟨hn, hn8⟩ := hn
  have hln1 := hS1.len
  have hln2 := hS2.len
  obtain ⟨hL, hL1, hL6⟩ := hL
  have hM1 : ∀ W, Calls Try.prog 46 #[.agg cs1, .int .i64 n, .int .i64 L] W fun e w' => e = .returned (.string ⟨(wordL L (ls1.take n)).toArray⟩) ∧ Below W.heap.size W w' := fun W => sized_w cs1 m1 ls1 n L W hS1 (by omega) hL1 hL6
  have hM2 : ∀ W, Calls Try.prog 46 #[.agg cs2, .int .i64 n, .int .i64 L] W fun e w' => e = .returned (.string ⟨(wordL L (ls2.take n)).toArray⟩) ∧ Below W.heap.size W w' := fun W => sized_w cs2 m2 ls2 n L W hS2 (by omega) hL1 hL6
  have HI1 := Lib.hid hinf1; have HI2 := Lib.hid hinf2; have HP1 := Lib.hid hhp1; have HP2 := Lib.hid hhp2; have HM1 := Lib.hid hM1; have HM2 := Lib.hid hM2; have HZ := Lib.hid hsz
  have hmany : ((w.alloc (.cells cs1 52)).alloc (.cells cs2 52)).cell? ⟨w.heap.size, 0, none⟩ = some (.int .u8 (m1 : Nat)) := by
    rw [cell_of_row _ _ 0 _ _ _ hhp1]; exact hS1.many
  have hmany2 := hS1.many
  have hm1 := hS1.m_lt
  have HLN1 := Lib.hid hln1; have HLN2 := Lib.hid hln2
  have HCS1 := Lib.hid hcs1; have HCS2 := Lib.hid hcs2
  clear hinf1 hinf2 hhp1 hhp2 hM1 hM2 hsz hln1 hln2 hcs1 hcs2
  go_enter Try.func7, Try.ntmps7
  go_wp2_with (fail)
  try rw [hL]
  try rw [hn]
  clear hL hn hmany hmany2
  generalize (w.alloc (.cells cs1 52)).alloc (.cells cs2 52) = W0 at hb0 HP1 HP2 HZ ⊢
  have hc1 : ∀ w', Below W0.heap.size W0 w' → ∀ j v, cs1[j]? = some v → w'.cell? ⟨w.heap.size, j, none⟩ = some v := fun w' hb j v h => by rw [cell_of_row w' _ j _ _ _ ((hb.block _ (by have := HZ.out; omega)).trans HP1.out)]; exact h
  have hc2 : ∀ w', Below W0.heap.size W0 w' → ∀ j v, cs2[j]? = some v → w'.cell? ⟨w.heap.size + 1, j, none⟩ = some v := fun w' hb j v h => by rw [cell_of_row w' _ j _ _ _ ((hb.block _ (by have := HZ.out; omega)).trans HP2.out)]; exact h
  clear HI1 HI2 HP1 HP2
  have hcs1 := HCS1.out; have hcs2 := HCS2.out
  clear HCS1 HCS2
  subst hcs1
  subst hcs2
  have p0 : ∀ w', Below W0.heap.size W0 w' → w'.cell? ⟨w.heap.size, 0, none⟩ = some (.int .u8 m1) := fun w' hb => hc1 w' hb 0 _ rfl
  have p1 : ∀ w', Below W0.heap.size W0 w' → w'.cell? ⟨w.heap.size, 1, none⟩ = some a1 := fun w' hb => hc1 w' hb 1 _ rfl
  have p2 : ∀ w', Below W0.heap.size W0 w' → w'.cell? ⟨w.heap.size, 2, none⟩ = some a2 := fun w' hb => hc1 w' hb 2 _ rfl
  have p3 : ∀ w', Below W0.heap.size W0 w' → w'.cell? ⟨w.heap.size, 3, none⟩ = some a3 := fun w' hb => hc1 w' hb 3 _ rfl
  have p4 : ∀ w', Below W0.heap.size W0 w' → w'.cell? ⟨w.heap.size, 4, none⟩ = some a4 := fun w' hb => hc1 w' hb 4 _ rfl
  have p5 : ∀ w', Below W0.heap.size W0 w' → w'.cell? ⟨w.heap.size, 5, none⟩ = some a5 := fun w' hb => hc1 w' hb 5 _ rfl
  have p6 : ∀ w', Below W0.heap.size W0 w' → w'.cell? ⟨w.heap.size, 6, none⟩ = some a6 := fun w' hb => hc1 w' hb 6 _ rfl
  have p7 : ∀ w', Below W0.heap.size W0 w' → w'.cell? ⟨w.heap.size, 7, none⟩ = some a7 := fun w' hb => hc1 w' hb 7 _ rfl
  have p8 : ∀ w', Below W0.heap.size W0 w' → w'.cell? ⟨w.heap.size, 8, none⟩ = some a8 := fun w' hb => hc1 w' hb 8 _ rfl
  have p9 : ∀ w', Below W0.heap.size W0 w' → w'.cell? ⟨w.heap.size, 9, none⟩ = some a9 := fun w' hb => hc1 w' hb 9 _ rfl
  have p10 : ∀ w', Below W0.heap.size W0 w' → w'.cell? ⟨w.heap.size, 10, none⟩ = some a10 := fun w' hb => hc1 w' hb 10 _ rfl
  have q0 : ∀ w', Below W0.heap.size W0 w' → w'.cell? ⟨w.heap.size + 1, 0, none⟩ = some (.int .u8 m2) := fun w' hb => hc2 w' hb 0 _ rfl
  have q1 : ∀ w', Below W0.heap.size W0 w' → w'.cell? ⟨w.heap.size + 1, 1, none⟩ = some b1 := fun w' hb => hc2 w' hb 1 _ rfl
  have q2 : ∀ w', Below W0.heap.size W0 w' → w'.cell? ⟨w.heap.size + 1, 2, none⟩ = some b2 := fun w' hb => hc2 w' hb 2 _ rfl
  have q3 : ∀ w', Below W0.heap.size W0 w' → w'.cell? ⟨w.heap.size + 1, 3, none⟩ = some b3 := fun w' hb => hc2 w' hb 3 _ rfl
  have q4 : ∀ w', Below W0.heap.size W0 w' → w'.cell? ⟨w.heap.size + 1, 4, none⟩ = some b4 := fun w' hb => hc2 w' hb 4 _ rfl
  have q5 : ∀ w', Below W0.heap.size W0 w' → w'.cell? ⟨w.heap.size + 1, 5, none⟩ = some b5 := fun w' hb => hc2 w' hb 5 _ rfl
  have q6 : ∀ w', Below W0.heap.size W0 w' → w'.cell? ⟨w.heap.size + 1, 6, none⟩ = some b6 := fun w' hb => hc2 w' hb 6 _ rfl
  have q7 : ∀ w', Below W0.heap.size W0 w' → w'.cell? ⟨w.heap.size + 1, 7, none⟩ = some b7 := fun w' hb => hc2 w' hb 7 _ rfl
  have q8 : ∀ w', Below W0.heap.size W0 w' → w'.cell? ⟨w.heap.size + 1, 8, none⟩ = some b8 := fun w' hb => hc2 w' hb 8 _ rfl
  have q9 : ∀ w', Below W0.heap.size W0 w' → w'.cell? ⟨w.heap.size + 1, 9, none⟩ = some b9 := fun w' hb => hc2 w' hb 9 _ rfl
  have q10 : ∀ w', Below W0.heap.size W0 w' → w'.cell? ⟨w.heap.size + 1, 10, none⟩ = some b10 := fun w' hb => hc2 w' hb 10 _ rfl
  clear hc1 hc2
  have hlt2 : w.heap.size + 1 < W0.heap.size := by have := HZ.out; omega
  have hlt1 : w.heap.size ≤ W0.heap.size := by omega
  obtain ⟨x, hx⟩ : ∃ x, Hid (x = wordL L (List.take n ls1)) := ⟨_, Lib.hid rfl⟩
  obtain ⟨y, hy⟩ : ∃ y, Hid (y = wordL L (List.take n ls2)) := ⟨_, Lib.hid rfl⟩
  rw [← hx.out] at HM1
  rw [← hy.out] at HM2
  have hrefl : Below W0.heap.size W0 W0.drew := (Below.refl _ _).drew
  go_region_held3 (fun w' => Below W0.heap.size W0 w')
    (first
      | assumption
      | exact Below.trans (b := W0.drew) (by assumption) (hbc.mono (Nat.le_refl _))
      | exact Below.trans (by assumption) (hbc.mono (Below.size (B := W0.heap.size) (w := W0) (by assumption)))
      | (trace_state; fail))
    ((go_at_call 46; (first | ((with_reducible refine (HM1.out _).mono ?_); rintro e w' ⟨rfl, hbc⟩) | ((with_reducible refine (HM2.out _).mono ?_); rintro e w' ⟨rfl, hbc⟩))))
  rename_i w0' hbc0 hHd
  have hbW : Below w.heap.size w w' := hb0.trans (hHd.mono hlt1)
  have hx8 : x.length = n := by
    rw [hx.out]; unfold wordL; rw [List.length_map, List.length_take, HLN1.out]; omega
  have hy8 : y.length = n := by
    rw [hy.out]; unfold wordL; rw [List.length_map, List.length_take, HLN2.out]; omega
  have hxo : x.all okc = true := by rw [hx.out]; exact wordL_okc hL1 hL6 _
  have hyo : y.all okc = true := by rw [hy.out]; exact wordL_okc hL1 hL6 _
  have hch := chks_pair (show x.length ≤ 10 by omega) (show y.length ≤ 10 by omega) hxo hyo
  have HA := Lib.hid fun W => apart_ok partsOf_said x y W hch
  have HK := Lib.hid fun (z : Int) W (h0 : 0 ≤ z) (h1 : z ≤ 10) => alike_ok partsOf_said x y z W hch h0 h1
  have HX8 := Lib.hid hx8; have HY8 := Lib.hid hy8
  clear hch hxo hyo hrefl hHd hbc hbc0 hb0 hS1 hS2 HM1 HM2 hx hy hx8 hy8 HLN1 HLN2 p0 p1 p2 p3 p4 p5 p6 p7 p8 p9 p10 q0 q1 q2 q3 q4 q5 q6 q7 q8 q9 q10
  generalize #[Value.int .u8 (m1 : Nat), a1, a2, a3, a4, a5, a6, a7, a8, a9, a10] = cs1
  generalize #[Value.int .u8 (m2 : Nat), b1, b2, b3, b4, b5, b6, b7, b8, b9, b10] = cs2
  go_wp2_with (fail)
  refine (parts_m x _ (by have := HX8.out; omega)).mono ?_; rintro e w2 ⟨ba, na, Da, rfl, hbal, hOa, hna, hCa, hb2⟩
  have hbW2 := hbW.trans (hb2.mono hbW.size)
  have HCa := Lib.hid hCa; clear hCa
  go_wp2_with (fail)
  refine (parts_m y _ (by have := HY8.out; omega)).mono ?_; rintro e w3 ⟨bb, nb, Db, rfl, hbbl, hOb, hnb, hCb, hb3⟩
  have hbW3 := hbW2.trans (hb3.mono hbW2.size)
  have hOa3 : OwnI w3 ba na Da := hOa.kept (grown_below' hb3 none) (by simp)
  have HCb := Lib.hid hCb; clear hCb hOa hb2 hb3
  go_wp2_with (fail)
  refine (first_m ba bb na nb Da Db _ _ _ hOa3 hOb HCa.out HCb.out).mono ?_; rintro e w4 ⟨is, l, rfl, hbest, hb4⟩
  have hbW4 := hbW3.trans (hb4.mono hbW3.size)
  obtain ⟨hap, hnil⟩ := first_apart hbest
  have HAK : Hid (∀ z : Int, alikeL x y z = match (if is = true then some l else none) with | none => true | some p => decide (z < p.length)) := fun z => by
    unfold alikeL; rw [hap]; cases is <;> rfl
  rw [hap] at HA
  clear hbest hb4 hOa3 hOb HCa HCb hbW hbW2 hbW3
  cases is with
  | false =>
    have hxy : x = y := apart_same hap
    subst hxy
    have e0 : optV (if false = true then some l else none) 13 = .tuple #[.string ⟨#[]⟩, .int .i64 13] := rfl
    rw [e0] at HA
    have HK10 := Lib.hid fun W => HK.out 10 W (by omega) (by omega)
    have ek : alikeL x x 10 = true := HAK.out 10
    rw [ek] at HK10
    clear hap hnil e0 ek HK HAK
    go_wp2_with (fail)
    refine (HA.out _).mono ?_; rintro e w5 ⟨rfl, hb5⟩
    have hbW5 := hbW4.trans (hb5.mono hbW4.size)
    go_wp2_with (fail)
    refine (HK10.out _).mono ?_; rintro e w6 ⟨rfl, hb6⟩
    have hbW6 := hbW5.trans (hb6.mono hbW5.size)
    clear hb5 hb6
    go_wp2_with (fail)
    refine (works_any _).mono ?_; rintro e w7 ⟨rfl, hb7⟩
    have hbW7 := hbW6.trans (hb7.mono hbW6.size)
    go_wp2_with (fail)
    go_ret
    exact ⟨rfl, hbW7⟩
  | true =>
    have hap' : apartL x y = some l := hap
    have e0 : optV (if true = true then some l else none) 13 = .tuple #[.string ⟨l.toArray⟩, .int .i64 0] := rfl
    rw [e0] at HA
    have hll := simon_len HX8.out HY8.out hap'
    have hxy : (x == y) = false := by
      rw [beq_eq_false_iff_ne]; intro e; rw [e, apart_eq] at hap'; exact absurd hap' (by simp)
    have hdl : leftL x l = !leftL y l := by
      have := List.find?_some hap'
      revert this; cases leftL x l <;> cases leftL y l <;> simp
    have HKK : Hid (∀ (z : Nat) W, z ≤ 10 → Calls Try.prog 42 #[.string ⟨x.toArray⟩, .string ⟨y.toArray⟩, .int .i64 (z : Int)] W fun e w' => e = .returned (.tuple #[.bool (decide (z < l.length)), .int .i64 0]) ∧ Below W.heap.size W w') := fun z W hz => by
      have h := HK.out (z : Int) W (by omega) (by omega)
      have ek : alikeL x y z = decide (z < l.length) := by rw [HAK.out z]; simp
      rw [ek] at h; exact h
    have hl1 : l.length ≤ 100 := by omega
    have HLx := Lib.hid fun W => left_b x l W (by have := HX8.out; unfold maxLen; omega) (by unfold maxLen; omega)
    have HLy := Lib.hid fun W => left_b y l W (by have := HY8.out; unfold maxLen; omega) (by unfold maxLen; omega)
    rw [hdl] at HLx
    have hg : decide (((n : Int) / 2 + 1) < (l.length : Int)) = false := by simp; omega
    generalize leftL y l = bl at HLx HLy
    clear hap hap' hnil e0 HK HAK hdl
    go_wp2_with (fail)
    refine (HA.out _).mono ?_; rintro e w5 ⟨rfl, hb5⟩
    have hbW5 := hbW4.trans (hb5.mono hbW4.size)
    go_wp2_with (fail)
    refine (HLx.out _).mono ?_; rintro e w6 ⟨rfl, hb6⟩
    have hbW6 := hbW5.trans (hb6.mono hbW5.size)
    go_wp2_with (fail)
    refine (HLy.out _).mono ?_; rintro e w7 ⟨rfl, hb7⟩
    have hbW7 := hbW6.trans (hb7.mono hbW6.size)
    have hbl : ((!bl) == bl) = false := by cases bl <;> rfl
    clear hb5 hb6 hb7 hbW4 hbW5 hbW6 HLx HLy HA
    go_wp2_with (fail)
    go_loopw [103] (fun i wr => ∃ (z : Nat), z ≤ 11 ∧ i = .int .i64 z ∧ Below w.heap.size w wr) (fun i _ => 11 - (intOf i).toNat)
    case atStart => exact ⟨0, by omega, rfl, hbW7⟩
    case round =>
      obtain ⟨z, hz, rfl, hbr⟩ := hrel
      by_cases hlt : z < 11
      · have hK := fun W => HKK.out z W (by omega)
        have HKz := Lib.hid hK; clear hK
        obtain ⟨d, hd⟩ : ∃ d, decide (z < l.length) = d := ⟨_, rfl⟩
        have HD := Lib.hid hd
        rw [hd] at HKz
        have hdd : (d != d) = false := by cases d <;> rfl
        go_wp2_with (fail)
        refine (HKz.out _).mono ?_; rintro e w8 ⟨rfl, hb8⟩
        have hbW8 := hbr.trans (hb8.mono hbr.size)
        clear hb8 hbr
        go_wp2_with (fail)
        exact ⟨⟨z + 1, by omega, by go_num, hbW8⟩, by simp [intOf]; omega⟩
      · obtain rfl : z = 11 := by omega
        go_wp2_with (fail)
        refine (works_any _).mono ?_; rintro e w9 ⟨rfl, hb9⟩
        have hbW9 := hbr.trans (hb9.mono hbr.size)
        go_wp2_with (fail)
        go_ret
        exact ⟨rfl, hbW9⟩
end Go.Proofs.Ytalildjhighlhaa
