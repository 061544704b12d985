/-
  The walk of ShortDiffer: it returns true at any two words by numbers and any number of letters, and writes nothing that was there.
-/
import Derived.Test.YtalildjhighlhaaFst
import Derived.Test.YtalildjhighlhaaMoreLaw
import Derived.Test.YtalildjhighlhaaMathE
import Derived.Deep.RegionHeld3
namespace Go.Proofs.Ytalildjhighlhaa
open Go.RowKit Go.Proofs.Short

theorem count_left (x p : List UInt8) : decide (0 < (subs x).count p) = leftL x p := by
  rw [Bool.eq_iff_iff, decide_eq_true_eq, List.count_pos_iff, mem_subs, leftL_iff]
theorem dif_count (x y : List UInt8) : difN (fun p => (subs x).count p) (fun p => (subs y).count p) = dif x y := by
  funext p
  show (decide (0 < (subs x).count p) != decide (0 < (subs y).count p)) = (leftL x p != leftL y p)
  rw [count_left, count_left]
/-- what first finds in the maps of all sets is what tells the two words apart -/
theorem first_apart {x y l : List UInt8} {is : Bool} (h : BestOf (fun p => 0 < (subs x).count p ∨ 0 < (subs y).count p) (difN (fun p => (subs x).count p) (fun p => (subs y).count p)) is l) :
    apartL x y = (if is then some l else none) ∧ (is = false → l = []) := by
  rw [dif_count] at h
  have hS : ∀ p, p ∈ partsL [x, y] ↔ (0 < (subs x).count p ∨ 0 < (subs y).count p) := fun p => by
    rw [mem_partsL, List.count_pos_iff, List.count_pos_iff, mem_subs, mem_subs]; simp
  rw [apartL_eq]
  rcases h with ⟨rfl, rfl, h3⟩ | ⟨rfl, h2, h3, h4⟩
  · exact ⟨List.find?_eq_none.2 fun p hp => by rw [h3 p ((hS p).1 hp)]; decide, fun _ => rfl⟩
  · exact ⟨find_least (srt_partsL _) ((hS l).2 h3) h2 fun p hp hpp => h4 p ((hS p).1 hp) hpp, fun e => by cases e⟩
theorem apart_swap (x y : List UInt8) : apartL y x = apartL x y := by
  rw [apartL_eq, apartL_eq]
  have e1 : partsL [y, x] = partsL [x, y] := srt_ext (srt_partsL _) (srt_partsL _) fun p => by
    rw [mem_partsL, mem_partsL]; simp [or_comm]
  have e2 : dif y x = dif x y := by
    funext p; show (leftL y p != leftL x p) = (leftL x p != leftL y p); cases leftL x p <;> cases leftL y p <;> rfl
  rw [e1, e2]
theorem wordL_okc {L : Nat} (h1 : 1 ≤ L) (h6 : L ≤ 6) (l : List Nat) : (wordL L l).all okc = true :=
  List.all_eq_true.2 fun c hc => by
    obtain ⟨n, _, rfl⟩ := List.mem_map.1 hc
    have h := lettL_toNat (n := n) h1 h6
    have := Nat.mod_lt n h1
    unfold okc; simp; omega
theorem chks_pair {x y : List UInt8} (hx : x.length ≤ 10) (hy : y.length ≤ 10) (hxo : x.all okc = true) (hyo : y.all okc = true) : chks [x, y] = 0 := by
  have h1 : chk x = 0 := by unfold chk; rw [if_neg (by omega), if_pos hxo]
  have h2 : chk y = 0 := by unfold chk; rw [if_neg (by omega), if_pos hyo]
  simp [chks, h1, h2]
/-- the eleven cells of a word by numbers -/
theorem slip_eleven {cs : Array Value} {m : Nat} {ls : List Nat} (h : IsSlip cs m ls) : ∃ a0 a1 a2 a3 a4 a5 a6 a7 a8 a9 a10 : Value, cs = #[a0, a1, a2, a3, a4, a5, a6, a7, a8, a9, a10] := by
  have hs := h.size
  obtain ⟨l⟩ := cs
  match l, hs with
  | [a0, a1, a2, a3, a4, a5, a6, a7, a8, a9, a10], _ => exact ⟨a0, a1, a2, a3, a4, a5, a6, a7, a8, a9, a10, rfl⟩

set_option maxRecDepth 100000 in
set_option maxHeartbeats 4000000 in
theorem differLaw_any (cs1 : Array Value) (m1 : Nat) (ls1 : List Nat) (cs2 : Array Value) (m2 : Nat) (ls2 : List Nat) (k : Nat) (w : World) (hS1 : IsSlip cs1 m1 ls1) (hS2 : IsSlip cs2 m2 ls2) (hk : k < 256) :
    Calls Try.prog 8 #[.agg cs1, .agg cs2, .int .u8 k] w fun e w' => e = .returned (.bool true) ∧ Below w.heap.size w w' := by
  have hinf1 : (Try.prog.info? 52).map (·.size) = some cs1.size := by rw [hS1.size]; kernel_rfl
  have hinf2 : (Try.prog.info? 52).map (·.size) = some cs2.size := by rw [hS2.size]; kernel_rfl
  have hhp1 := heap_alloc2_old w (.cells cs1 52) (.cells cs2 52)
  have hhp2 := heap_alloc2_new w (.cells cs1 52) (.cells cs2 52)
  have hb0 : Below w.heap.size w ((w.alloc (.cells cs1 52)).alloc (.cells cs2 52)) := ((Below.refl _ w).alloc (Nat.le_refl _) _).alloc (by simp) _
  have hsz : ((w.alloc (.cells cs1 52)).alloc (.cells cs2 52)).heap.size = w.heap.size + 2 := by simp
  obtain ⟨L, hL⟩ : ∃ L : Nat, (1 + (k : Int) % 6 = (L : Int)) ∧ 1 ≤ L ∧ L ≤ 6 := ⟨1 + k % 6, by simp, by omega, by omega⟩
  obtain ⟨hL, hL1, hL6⟩ := hL
  have hM1 : ∀ W, Calls Try.prog 49 #[.agg cs1, .int .i64 8, .int .i64 L] W fun e w' => e = .returned (.string ⟨(wordL L (ls1.take (m1 % (8 + 1)))).toArray⟩) ∧ Below W.heap.size W w' := fun W => made_w cs1 m1 ls1 8 L W hS1 (by omega) hL1 hL6
  have hM2 : ∀ W, Calls Try.prog 49 #[.agg cs2, .int .i64 8, .int .i64 L] W fun e w' => e = .returned (.string ⟨(wordL L (ls2.take (m2 % (8 + 1)))).toArray⟩) ∧ Below W.heap.size W w' := fun W => made_w cs2 m2 ls2 8 L W hS2 (by omega) hL1 hL6
  have HI1 := Lib.hid hinf1; have HI2 := Lib.hid hinf2; have HP1 := Lib.hid hhp1; have HP2 := Lib.hid hhp2; have HM1 := Lib.hid hM1; have HM2 := Lib.hid hM2; have HZ := Lib.hid hsz
  clear hinf1 hinf2 hhp1 hhp2 hM1 hM2 hsz
  go_enter Try.func8, Try.ntmps8
  go_wp2_with (fail)
  try rw [hL]
  clear hL
  generalize (w.alloc (.cells cs1 52)).alloc (.cells cs2 52) = W0 at hb0 HP1 HP2 HZ ⊢
  have hc1 : ∀ w', Below W0.heap.size W0 w' → ∀ j v, cs1[j]? = some v → w'.cell? ⟨w.heap.size, j, none⟩ = some v := fun w' hb j v h => by rw [cell_of_row w' _ j _ _ _ ((hb.block _ (by have := HZ.out; omega)).trans HP1.out)]; exact h
  have hc2 : ∀ w', Below W0.heap.size W0 w' → ∀ j v, cs2[j]? = some v → w'.cell? ⟨w.heap.size + 1, j, none⟩ = some v := fun w' hb j v h => by rw [cell_of_row w' _ j _ _ _ ((hb.block _ (by have := HZ.out; omega)).trans HP2.out)]; exact h
  clear HI1 HI2 HP1 HP2
  obtain ⟨a0, a1, a2, a3, a4, a5, a6, a7, a8, a9, a10, rfl⟩ := slip_eleven hS1
  obtain ⟨b0, b1, b2, b3, b4, b5, b6, b7, b8, b9, b10, rfl⟩ := slip_eleven hS2
  have p0 : ∀ w', Below W0.heap.size W0 w' → w'.cell? ⟨w.heap.size, 0, none⟩ = some a0 := fun w' hb => hc1 w' hb 0 _ rfl
  have p1 : ∀ w', Below W0.heap.size W0 w' → w'.cell? ⟨w.heap.size, 1, none⟩ = some a1 := fun w' hb => hc1 w' hb 1 _ rfl
  have p2 : ∀ w', Below W0.heap.size W0 w' → w'.cell? ⟨w.heap.size, 2, none⟩ = some a2 := fun w' hb => hc1 w' hb 2 _ rfl
  have p3 : ∀ w', Below W0.heap.size W0 w' → w'.cell? ⟨w.heap.size, 3, none⟩ = some a3 := fun w' hb => hc1 w' hb 3 _ rfl
  have p4 : ∀ w', Below W0.heap.size W0 w' → w'.cell? ⟨w.heap.size, 4, none⟩ = some a4 := fun w' hb => hc1 w' hb 4 _ rfl
  have p5 : ∀ w', Below W0.heap.size W0 w' → w'.cell? ⟨w.heap.size, 5, none⟩ = some a5 := fun w' hb => hc1 w' hb 5 _ rfl
  have p6 : ∀ w', Below W0.heap.size W0 w' → w'.cell? ⟨w.heap.size, 6, none⟩ = some a6 := fun w' hb => hc1 w' hb 6 _ rfl
  have p7 : ∀ w', Below W0.heap.size W0 w' → w'.cell? ⟨w.heap.size, 7, none⟩ = some a7 := fun w' hb => hc1 w' hb 7 _ rfl
  have p8 : ∀ w', Below W0.heap.size W0 w' → w'.cell? ⟨w.heap.size, 8, none⟩ = some a8 := fun w' hb => hc1 w' hb 8 _ rfl
  have p9 : ∀ w', Below W0.heap.size W0 w' → w'.cell? ⟨w.heap.size, 9, none⟩ = some a9 := fun w' hb => hc1 w' hb 9 _ rfl
  have p10 : ∀ w', Below W0.heap.size W0 w' → w'.cell? ⟨w.heap.size, 10, none⟩ = some a10 := fun w' hb => hc1 w' hb 10 _ rfl
  have q0 : ∀ w', Below W0.heap.size W0 w' → w'.cell? ⟨w.heap.size + 1, 0, none⟩ = some b0 := fun w' hb => hc2 w' hb 0 _ rfl
  have q1 : ∀ w', Below W0.heap.size W0 w' → w'.cell? ⟨w.heap.size + 1, 1, none⟩ = some b1 := fun w' hb => hc2 w' hb 1 _ rfl
  have q2 : ∀ w', Below W0.heap.size W0 w' → w'.cell? ⟨w.heap.size + 1, 2, none⟩ = some b2 := fun w' hb => hc2 w' hb 2 _ rfl
  have q3 : ∀ w', Below W0.heap.size W0 w' → w'.cell? ⟨w.heap.size + 1, 3, none⟩ = some b3 := fun w' hb => hc2 w' hb 3 _ rfl
  have q4 : ∀ w', Below W0.heap.size W0 w' → w'.cell? ⟨w.heap.size + 1, 4, none⟩ = some b4 := fun w' hb => hc2 w' hb 4 _ rfl
  have q5 : ∀ w', Below W0.heap.size W0 w' → w'.cell? ⟨w.heap.size + 1, 5, none⟩ = some b5 := fun w' hb => hc2 w' hb 5 _ rfl
  have q6 : ∀ w', Below W0.heap.size W0 w' → w'.cell? ⟨w.heap.size + 1, 6, none⟩ = some b6 := fun w' hb => hc2 w' hb 6 _ rfl
  have q7 : ∀ w', Below W0.heap.size W0 w' → w'.cell? ⟨w.heap.size + 1, 7, none⟩ = some b7 := fun w' hb => hc2 w' hb 7 _ rfl
  have q8 : ∀ w', Below W0.heap.size W0 w' → w'.cell? ⟨w.heap.size + 1, 8, none⟩ = some b8 := fun w' hb => hc2 w' hb 8 _ rfl
  have q9 : ∀ w', Below W0.heap.size W0 w' → w'.cell? ⟨w.heap.size + 1, 9, none⟩ = some b9 := fun w' hb => hc2 w' hb 9 _ rfl
  have q10 : ∀ w', Below W0.heap.size W0 w' → w'.cell? ⟨w.heap.size + 1, 10, none⟩ = some b10 := fun w' hb => hc2 w' hb 10 _ rfl
  clear hc1 hc2
  have hlt2 : w.heap.size + 1 < W0.heap.size := by have := HZ.out; omega
  have hlt1 : w.heap.size ≤ W0.heap.size := by omega
  obtain ⟨x, hx⟩ : ∃ x, Hid (x = wordL L (List.take (m1 % (8 + 1)) ls1)) := ⟨_, Lib.hid rfl⟩
  obtain ⟨y, hy⟩ : ∃ y, Hid (y = wordL L (List.take (m2 % (8 + 1)) ls2)) := ⟨_, Lib.hid rfl⟩
  rw [← hx.out] at HM1
  rw [← hy.out] at HM2
  have hrefl : Below W0.heap.size W0 W0.drew := (Below.refl _ _).drew
  go_region_held3 (fun w' => Below W0.heap.size W0 w')
    (first
      | assumption
      | exact Below.trans (b := W0.drew) (by assumption) (hbc.mono (Nat.le_refl _))
      | exact Below.trans (by assumption) (hbc.mono (Below.size (B := W0.heap.size) (w := W0) (by assumption)))
      | (trace_state; fail))
    ((go_at_call 49; (first | ((with_reducible refine (HM1.out _).mono ?_); rintro e w' ⟨rfl, hbc⟩) | ((with_reducible refine (HM2.out _).mono ?_); rintro e w' ⟨rfl, hbc⟩))))
  rename_i w0' hbc0 hHd
  have hbW : Below w.heap.size w w' := hb0.trans (hHd.mono hlt1)
  have hx8 : x.length ≤ 8 := by
    rw [hx.out]; unfold wordL; rw [List.length_map, List.length_take]; have := Nat.mod_lt m1 (show 0 < 8 + 1 by omega); omega
  have hy8 : y.length ≤ 8 := by
    rw [hy.out]; unfold wordL; rw [List.length_map, List.length_take]; have := Nat.mod_lt m2 (show 0 < 8 + 1 by omega); omega
  have hxo : x.all okc = true := by rw [hx.out]; exact wordL_okc hL1 hL6 _
  have hyo : y.all okc = true := by rw [hy.out]; exact wordL_okc hL1 hL6 _
  have hA : ∀ W, Calls Try.prog 40 #[.string ⟨x.toArray⟩, .string ⟨y.toArray⟩] W fun e w' => e = .returned (optV (apartL x y) 13) ∧ Below W.heap.size W w' := fun W => apart_ok partsOf_said x y W (chks_pair (by omega) (by omega) hxo hyo)
  have hB : ∀ W, Calls Try.prog 40 #[.string ⟨y.toArray⟩, .string ⟨x.toArray⟩] W fun e w' => e = .returned (optV (apartL x y) 13) ∧ Below W.heap.size W w' := fun W => by
    rw [← apart_swap]; exact apart_ok partsOf_said y x W (chks_pair (by omega) (by omega) hyo hxo)
  have HA := Lib.hid hA; have HB := Lib.hid hB
  clear hA hB hxo hyo hrefl hHd hbc hbc0 hb0 hS1 hS2 HM1 HM2 hx hy p0 p1 p2 p3 p4 p5 p6 p7 p8 p9 p10 q0 q1 q2 q3 q4 q5 q6 q7 q8 q9 q10
  generalize #[a0, a1, a2, a3, a4, a5, a6, a7, a8, a9, a10] = cs1
  generalize #[b0, b1, b2, b3, b4, b5, b6, b7, b8, b9, b10] = cs2
  go_wp2_with (fail)
  refine (parts_m x _ (by omega)).mono ?_; rintro e w2 ⟨ba, na, Da, rfl, hbal, hOa, hna, hCa, hb2⟩
  have hbW2 := hbW.trans (hb2.mono hbW.size)
  have HCa := Lib.hid hCa; clear hCa
  go_wp2_with (fail)
  refine (parts_m y _ (by omega)).mono ?_; rintro e w3 ⟨bb, nb, Db, rfl, hbbl, hOb, hnb, hCb, hb3⟩
  have hbW3 := hbW2.trans (hb3.mono hbW2.size)
  have hOa3 : OwnI w3 ba na Da := hOa.kept (grown_below' hb3 none) (by simp)
  have HCb := Lib.hid hCb; clear hCb hOa hb2 hb3
  go_wp2_with (fail)
  refine (first_m ba bb na nb Da Db _ _ _ hOa3 hOb HCa.out HCb.out).mono ?_; rintro e w4 ⟨is, l, rfl, hbest, hb4⟩
  have hbW4 := hbW3.trans (hb4.mono hbW3.size)
  obtain ⟨hap, hnil⟩ := first_apart hbest
  rw [hap] at HA HB
  clear hbest hb4 hOa3 hOb HCa HCb hbW hbW2 hbW3
  cases is with
  | false =>
    have hxy : x = y := apart_same hap
    subst hxy
    have e0 : optV (if false = true then some l else none) 13 = .tuple #[.string ⟨#[]⟩, .int .i64 13] := rfl
    rw [e0] at HA HB
    clear hap hnil e0
    go_wp2_with (fail)
    refine (HA.out _).mono ?_; rintro e w5 ⟨rfl, hb5⟩
    have hbW5 := hbW4.trans (hb5.mono hbW4.size)
    go_wp2_with (fail)
    refine (HB.out _).mono ?_; rintro e w6 ⟨rfl, hb6⟩
    have hbW6 := hbW5.trans (hb6.mono hbW5.size)
    clear hb5 hb6
    go_wp2_with (fail)
    refine (works_any _).mono ?_; rintro e w7 ⟨rfl, hb7⟩
    have hbW7 := hbW6.trans (hb7.mono hbW6.size)
    go_wp2_with (fail)
    go_ret
    exact ⟨rfl, hbW7⟩
  | true =>
    have e0 : optV (if true = true then some l else none) 13 = .tuple #[.string ⟨l.toArray⟩, .int .i64 0] := rfl
    rw [e0] at HA HB
    clear hap hnil e0
    go_wp2_with (fail)
    refine (HA.out _).mono ?_; rintro e w5 ⟨rfl, hb5⟩
    have hbW5 := hbW4.trans (hb5.mono hbW4.size)
    go_wp2_with (fail)
    refine (HB.out _).mono ?_; rintro e w6 ⟨rfl, hb6⟩
    have hbW6 := hbW5.trans (hb6.mono hbW5.size)
    clear hb5 hb6
    go_wp2_with (fail)
    refine (works_any _).mono ?_; rintro e w7 ⟨rfl, hb7⟩
    have hbW7 := hbW6.trans (hb7.mono hbW6.size)
    go_wp2_with (fail)
    go_ret
    exact ⟨rfl, hbW7⟩
end Go.Proofs.Ytalildjhighlhaa
