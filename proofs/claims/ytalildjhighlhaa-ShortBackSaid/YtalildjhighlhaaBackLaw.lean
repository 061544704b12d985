/-
  The walk of ShortBack: it returns true at any words by numbers and any set, and writes nothing that was there.
-/
import Derived.Test.YtalildjhighlhaaDifferLaw
import Derived.Test.YtalildjhighlhaaMostLaw
import Derived.Test.YtalildjhighlhaaMathL
import Derived.Test.YtalildjhighlhaaOpposite
import Derived.Test.YtalildjhighlhaaShelfG
namespace Go.Proofs.Ytalildjhighlhaa
open Go.RowKit Go.Proofs.Short Go.Maps Go.WideMaps

theorem index_at {x : List UInt8} {k : Nat} {c : UInt8} (h : x[k]? = some c) (W : World) : (Instr.index 9 (.string ⟨x.toArray⟩) (.int .i64 (k : Int))).run Try.prog W = .ok (.int .u8 ((c.toNat : Nat) : Int)) W := by
  obtain ⟨hk, rfl⟩ := List.getElem?_eq_some_iff.1 h
  have hsz : (⟨x.toArray⟩ : ByteArray).size = x.length := by simp [ByteArray.size]
  rw [run_index_string W 9 ⟨x.toArray⟩ .i64 (k : Int) Try.underlying9, dif_pos ⟨by omega, by rw [hsz]; omega⟩]
  rfl
theorem indexByte_memB : ∀ (l : List UInt8) (c : UInt8), decide (0 ≤ Lib.indexByte l c) = l.contains c
  | [], c => rfl
  | b :: l, c => by
    have ih := indexByte_memB l c
    have hge := Lib.indexByte_ge l c
    unfold Lib.indexByte
    by_cases h : b = c
    · subst h; simp
    · have hb : (b == c) = false := by simpa using h
      have hb2 : (c == b) = false := by simpa using fun e : c = b => h e.symm
      rw [List.contains_cons, hb2, Bool.false_or, ← ih]
      simp only [hb, Bool.false_eq_true, if_false]
      by_cases h1 : Lib.indexByte l c = -1
      · simp [h1]
      · simp [h1]; omega
theorem slice_midB (x : List UInt8) (f e : Nat) (hf : f ≤ e) (he : e ≤ x.length) (W : World) : (Instr.slice 9 (.string ⟨x.toArray⟩) (some (.int .i64 (f : Int))) (some (.int .i64 (e : Int))) none).run Try.prog W = .ok (.string ⟨((x.drop f).take (e - f)).toArray⟩) W := by
  have hz : (⟨x.toArray⟩ : ByteArray).size = x.length := by simp [ByteArray.size]
  have h := run_slice_string (P := Try.prog) (w := W) 9 ⟨x.toArray⟩ .i64 .i64 (f : Int) (e : Int) Try.underlying9 (by omega) (by omega) (by rw [hz]; omega)
  rw [h, Int.toNat_natCast, Int.toNat_natCast, ByteArray.extract_mk]

set_option maxRecDepth 100000 in
set_option maxHeartbeats 4000000 in
theorem backLaw_any (cs1 : Array Value) (m1 : Nat) (ls1 : List Nat) (st : Nat) (cs2 : Array Value) (m2 : Nat) (ls2 : List Nat) (w : World) (hS1 : IsSlip cs1 m1 ls1) (hst : st < 65536) (hS2 : IsSlip cs2 m2 ls2) :
    Calls Try.prog 12 #[.agg cs1, .int .u16 st, .agg cs2] w fun e w' => e = .returned (.bool true) ∧ Below w.heap.size w w' := by
  have hinf1 : (Try.prog.info? 52).map (·.size) = some cs1.size := by rw [hS1.size]; kernel_rfl
  have hhp1 := heap_alloc2_old w (.cells cs1 52) (.cells cs2 52)
  have hhp2 := heap_alloc2_new w (.cells cs1 52) (.cells cs2 52)
  have hb0 : Below w.heap.size w ((w.alloc (.cells cs1 52)).alloc (.cells cs2 52)) := ((Below.refl _ w).alloc (Nat.le_refl _) _).alloc (by simp) _
  have hsz : ((w.alloc (.cells cs1 52)).alloc (.cells cs2 52)).heap.size = w.heap.size + 2 := by simp
  have hM1 : ∀ W, Calls Try.prog 49 #[.agg cs1, .int .i64 10, .int .i64 3] W fun e w' => e = .returned (.string ⟨(wordL 3 (ls1.take (m1 % (10 + 1)))).toArray⟩) ∧ Below W.heap.size W w' := fun W => made_w cs1 m1 ls1 10 3 W hS1 (by omega) (by omega) (by omega)
  have hM2 : ∀ W, Calls Try.prog 49 #[.agg cs2, .int .i64 4, .int .i64 3] W fun e w' => e = .returned (.string ⟨(wordL 3 (ls2.take (m2 % (4 + 1)))).toArray⟩) ∧ Below W.heap.size W w' := fun W => made_w cs2 m2 ls2 4 3 W hS2 (by omega) (by omega) (by omega)
  have hxl : (wordL 3 (ls1.take (m1 % (10 + 1)))).length ≤ 10 := by
    unfold wordL; rw [List.length_map, List.length_take]; have := Nat.mod_lt m1 (show 0 < 10 + 1 by omega); omega
  have hyl : (wordL 3 (ls2.take (m2 % (4 + 1)))).length ≤ 10 := by
    unfold wordL; rw [List.length_map, List.length_take]; have := Nat.mod_lt m2 (show 0 < 4 + 1 by omega); omega
  have hxo : (wordL 3 (ls1.take (m1 % (10 + 1)))).all okc = true := wordL_okc (by omega) (by omega) _
  have hyo : (wordL 3 (ls2.take (m2 % (4 + 1)))).all okc = true := wordL_okc (by omega) (by omega) _
  have HI1 := Lib.hid hinf1; have HP1 := Lib.hid hhp1; have HP2 := Lib.hid hhp2; have HM1 := Lib.hid hM1; have HM2 := Lib.hid hM2; have HZ := Lib.hid hsz; have HXO := Lib.hid hxo; have HYO := Lib.hid hyo
  clear hinf1 hhp1 hhp2 hM1 hM2 hsz hxo hyo
  generalize wordL 3 (ls1.take (m1 % (10 + 1))) = x at hxl HM1 HXO
  generalize wordL 3 (ls2.take (m2 % (4 + 1))) = y at hyl HM2 HYO
  have hT : ∀ (z : Int) W, z = (st : Int) → Calls Try.prog 53 #[.string ⟨x.toArray⟩, .int .i64 z] W fun e w' => e = .returned (.string ⟨(takenL x st).toArray⟩) ∧ Below W.heap.size W w' := fun z W hz => by subst hz; exact taken_any x st W (by omega) (by omega)
  have hwr : IntKind.i64.wrap (st : Int) = (st : Int) := by rw [IntKind.wrap_i64]; omega
  have HWR := Lib.hid hwr; clear hwr
  have hts := taken_sub x st
  have hpl : (takenL x st).length ≤ 10 := Nat.le_trans hts.length_le hxl
  have hpo : (takenL x st).all okc = true := List.all_eq_true.2 fun c hc => List.all_eq_true.1 HXO.out c (hts.subset hc)
  have HT := Lib.hid hT; have HPO := Lib.hid hpo; clear hT hts hpo
  generalize takenL x st = p1 at hpl HT HPO
  have hzv := fun (W : World) => (by kernel_rfl : (zeroValue 3).run Try.prog W = .ok (.int .i64 0) W)
  have HZV := Lib.hid hzv; clear hzv
  go_enter Try.func12, Try.ntmps12
  go_wp2_with (refine wpList_load_row rfl 52 (.tmp 3) rfl w.heap.size rfl 52 cs1 (0, 0) _ HP1.out Try.underlying52 rfl HI1.out ?_)
  generalize (w.alloc (.cells cs1 52)).alloc (.cells cs2 52) = V0 at hb0 HP1 HP2 HZ ⊢
  refine (HM1.out _).mono ?_; rintro e W0 ⟨rfl, hbm⟩
  have hbW0 : Below w.heap.size w W0 := hb0.trans (hbm.mono (by have := HZ.out; omega))
  have hp2 : W0.heap[w.heap.size + 1]? = some (.cells cs2 52 (0, 0)) := (hbm.block _ (by have := HZ.out; omega)).trans HP2.out
  have hltW0 : w.heap.size + 1 < W0.heap.size := by have := hbm.size; have := HZ.out; omega
  have HP2' := Lib.hid hp2
  clear hbm hb0 HP1 HP2 HI1 hp2
  have hc2 : ∀ w', Below W0.heap.size W0 w' → ∀ j v, cs2[j]? = some v → w'.cell? ⟨w.heap.size + 1, j, none⟩ = some v := fun w' hb j v h => by rw [cell_of_row w' _ j _ _ _ ((hb.block _ hltW0).trans HP2'.out)]; exact h
  obtain ⟨b0, b1, b2, b3, b4, b5, b6, b7, b8, b9, b10, rfl⟩ := slip_eleven hS2
  have q0 : ∀ w', Below W0.heap.size W0 w' → w'.cell? ⟨w.heap.size + 1, 0, none⟩ = some b0 := fun w' hb => hc2 w' hb 0 _ rfl
  have q1 : ∀ w', Below W0.heap.size W0 w' → w'.cell? ⟨w.heap.size + 1, 1, none⟩ = some b1 := fun w' hb => hc2 w' hb 1 _ rfl
  have q2 : ∀ w', Below W0.heap.size W0 w' → w'.cell? ⟨w.heap.size + 1, 2, none⟩ = some b2 := fun w' hb => hc2 w' hb 2 _ rfl
  have q3 : ∀ w', Below W0.heap.size W0 w' → w'.cell? ⟨w.heap.size + 1, 3, none⟩ = some b3 := fun w' hb => hc2 w' hb 3 _ rfl
  have q4 : ∀ w', Below W0.heap.size W0 w' → w'.cell? ⟨w.heap.size + 1, 4, none⟩ = some b4 := fun w' hb => hc2 w' hb 4 _ rfl
  have q5 : ∀ w', Below W0.heap.size W0 w' → w'.cell? ⟨w.heap.size + 1, 5, none⟩ = some b5 := fun w' hb => hc2 w' hb 5 _ rfl
  have q6 : ∀ w', Below W0.heap.size W0 w' → w'.cell? ⟨w.heap.size + 1, 6, none⟩ = some b6 := fun w' hb => hc2 w' hb 6 _ rfl
  have q7 : ∀ w', Below W0.heap.size W0 w' → w'.cell? ⟨w.heap.size + 1, 7, none⟩ = some b7 := fun w' hb => hc2 w' hb 7 _ rfl
  have q8 : ∀ w', Below W0.heap.size W0 w' → w'.cell? ⟨w.heap.size + 1, 8, none⟩ = some b8 := fun w' hb => hc2 w' hb 8 _ rfl
  have q9 : ∀ w', Below W0.heap.size W0 w' → w'.cell? ⟨w.heap.size + 1, 9, none⟩ = some b9 := fun w' hb => hc2 w' hb 9 _ rfl
  have q10 : ∀ w', Below W0.heap.size W0 w' → w'.cell? ⟨w.heap.size + 1, 10, none⟩ = some b10 := fun w' hb => hc2 w' hb 10 _ rfl
  clear hc2 HP2'
  go_wp2_with (fail)
  have hrefl : Below W0.heap.size W0 W0.drew := (Below.refl _ _).drew
  go_region_held3 (fun w' => Below W0.heap.size W0 w')
    (first
      | assumption
      | exact Below.trans (b := W0.drew) (by assumption) (hbc.mono (Nat.le_refl _))
      | exact Below.trans (by assumption) (hbc.mono (Below.size (B := W0.heap.size) (w := W0) (by assumption)))
      | exact Below.alloc (by assumption) (Below.size (B := W0.heap.size) (w := W0) (by assumption)) _
      | (trace_state; fail))
    ((first
      | (go_at_call 53; ((with_reducible refine (HT.out _ _ HWR.out).mono ?_); rintro e w' ⟨rfl, hbc⟩))
      | (go_at_call 49; ((with_reducible refine (HM2.out _).mono ?_); rintro e w' ⟨rfl, hbc⟩))
      | (go_at_call 52; (refine (texts_any _ _ _ _).mono ?_; rintro e w' ⟨rfl, rfl⟩))))
  go_wp2_with (fail)
  rename_i wq hbq hHd
  have hbW : Below w.heap.size w (w'.alloc (.cells #[.string ⟨p1.toArray⟩, .string ⟨y.toArray⟩] 9)) := hbW0.trans (hHd.mono (by omega))
  have hrow : RdAt (w'.alloc (.cells #[.string ⟨p1.toArray⟩, .string ⟨y.toArray⟩] 9)) w'.heap.size 0 2 ([p1, y].map encStr) := ⟨by simp, fun j hj => by
    rw [Nat.zero_add, World.cell?_alloc_new]
    match j, hj with
    | 0, _ => rfl
    | 1, _ => rfl⟩
  clear hHd hbq hbc hrefl hbW0 hltW0 HM1 HM2 HT HWR q0 q1 q2 q3 q4 q5 q6 q7 q8 q9 q10
  generalize w'.alloc (.cells #[.string ⟨p1.toArray⟩, .string ⟨y.toArray⟩] 9) = Wz at hbW hrow ⊢
  generalize w'.heap.size = B at hrow ⊢
  obtain ⟨ps, hps⟩ : ∃ ps, Hid (ps = [p1, y]) := ⟨_, Lib.hid rfl⟩
  have hpl2 : ps.length = 2 := by rw [hps.out]; rfl
  have hpp : ∀ k, k < 2 → (ps.getD k []).length ≤ 10 ∧ (ps.getD k []).all okc = true := fun k hk => by
    rw [hps.out]
    match k, hk with
    | 0, _ => exact ⟨hpl, HPO.out⟩
    | 1, _ => exact ⟨hyl, HYO.out⟩
  rw [← hps.out] at hrow
  have HPL2 := Lib.hid hpl2; have HPP := Lib.hid hpp; clear hpl2 hpp
  go_loopw [34] (fun kv wr => ∃ (k : Nat), k ≤ 2 ∧ kv = .int .i64 k ∧ RdAt wr B 0 2 (ps.map encStr) ∧ Below w.heap.size w wr) (fun kv _ => 2 - (intOf kv).toNat)
  case atStart => exact ⟨0, by omega, rfl, hrow, hbW⟩
  case round =>
    clear hrow hbW
    obtain ⟨k, hk, rfl, hat, hb⟩ := hrel
    by_cases hlt : k < 2
    · have hkd : decide ((k : Int) < 2) = true := by simp; omega
      have hcell : wr.cell? ⟨B, k, none⟩ = some (.string ⟨(ps.getD k []).toArray⟩) := by
        have := hat.str hlt HPL2.out.symm
        rw [Nat.zero_add] at this; exact this
      have hp := HPP.out k hlt
      generalize ps.getD k [] = p at hcell hp
      obtain ⟨hpl1, hpo1⟩ := hp
      have hch := chks_pair hxl hpl1 HXO.out hpo1
      have hch2 : chks [x.reverse, p.reverse] = 0 := chks_pair (by simpa using hxl) (by simpa using hpl1) (by rw [List.all_reverse]; exact HXO.out) (by rw [List.all_reverse]; exact hpo1)
      have hH1 : ∀ W, Calls Try.prog 18 #[.string ⟨x.toArray⟩, .string ⟨p.toArray⟩] W fun e w' => e = .returned (.tuple #[.bool (leftL x p), .int .i64 0]) ∧ Below W.heap.size W w' := fun W => by
        have h := holds_any x p W (by unfold maxLen; omega) (by unfold maxLen; omega)
        unfold holdL at h; rw [if_pos hch, hch] at h; exact h
      have hH2 : ∀ W, Calls Try.prog 18 #[.string ⟨x.reverse.toArray⟩, .string ⟨p.reverse.toArray⟩] W fun e w' => e = .returned (.tuple #[.bool (leftL x p), .int .i64 0]) ∧ Below W.heap.size W w' := fun W => by
        have h := holds_any x.reverse p.reverse W (by rw [List.length_reverse]; unfold maxLen; omega) (by rw [List.length_reverse]; unfold maxLen; omega)
        unfold holdL at h; rw [if_pos hch2, hch2, left_rev] at h; exact h
      have hY1 := fun W => ways_any x p W hch
      have hY2 := fun W => ways_any x.reverse p.reverse W hch2
      rw [ways_back] at hY2
      have hO1 := fun W => opposite_any x W (by omega)
      have hO2 := fun W => opposite_any p W (by omega)
      have hcw : (subs x).count p = waysL x p := by rw [← waysR_count, waysL_eq]
      have hcl := count_left x p
      rw [hcw] at hcl
      have hwl : waysL x p ≤ 1024 := by
        rw [waysL_eq]; exact Nat.le_trans (waysR_le x p) (Nat.le_trans (Nat.pow_le_pow_right (by omega) hxl) (by decide))
      have hF := fun W => firstS_any x p W (by unfold maxLen; omega) (by unfold maxLen; omega)
      have hfl1 : fstL x p = (firstL 0 x p).getD [] := by unfold fstL; rw [if_pos hch]
      have hfe1 : fstE x p = match firstL 0 x p with | none => 12 | some _ => 0 := by unfold fstE; rw [if_pos hch]; cases firstL 0 x p <;> rfl
      have HFL := Lib.hid hfl1; have HFE := Lib.hid hfe1; clear hfl1 hfe1
      generalize fstL x p = fl at hF HFL
      generalize fstE x p = fe at hF HFE
      have hkey := keyT_str p (by unfold maxLen; omega)
      have hPm := fun W => parts_m x W hxl
      have hlk : ∀ (W : World) (b n : Nat) (D : DataW Unit), OwnI W b n D → Cnt D (fun q => (subs x).count q) → (Instr.lookup 56 (.map (some b)) (.string ⟨p.toArray⟩) false).run Try.prog W = .ok (.int .i64 (waysL x p : Nat)) W := fun W b n D hown hcnt => by
        obtain ⟨z, hrun, hatz, _⟩ := hown.lookup_int Try.keyT Try.underlying56 Try.underlying3 (HZV.out W) hkey
        obtain rfl : z = (((subs x).count p : Nat) : Int) := by have h := (hcnt p).2; rw [hatz] at h; simpa using h
        rw [← hcw]; exact hrun
      have HH1 := Lib.hid hH1; have HH2 := Lib.hid hH2; have HY1 := Lib.hid hY1; have HY2 := Lib.hid hY2; have HO1 := Lib.hid hO1; have HO2 := Lib.hid hO2; have HF := Lib.hid hF; have HPm := Lib.hid hPm; have HLK := Lib.hid hlk
      clear hch hch2 hH1 hH2 hY1 hY2 hO1 hO2 hcw hF hkey hPm hlk
      obtain ⟨c, hc⟩ : ∃ c, Hid (waysL x p = c) := ⟨_, Lib.hid rfl⟩
      obtain ⟨b, hbb⟩ : ∃ b, Hid (leftL x p = b) := ⟨_, Lib.hid rfl⟩
      rw [hc.out] at hcl hwl HY1 HY2 HLK
      rw [hbb.out] at hcl HH1 HH2
      go_wp2_with (fail)
      refine (HPm.out _).mono ?_; rintro e w1 ⟨b1, n1, D1, rfl, _, hown1, _, hcnt1, hb1⟩
      have hl1 := HLK.out _ _ _ _ hown1 hcnt1
      have hat1 := hat.below hb1
      have hW1 := hb.trans (hb1.mono hb.size)
      clear hown1 hcnt1 hat hb hb1 hcell
      go_wp2_with (fail)
      refine (HH1.out _).mono ?_; rintro e w2 ⟨rfl, hb2⟩
      have hat2 := hat1.below hb2
      have hW2 := hW1.trans (hb2.mono hW1.size)
      clear hb2 hat1 hW1 hl1
      go_wp2_with (fail)
      refine (HO1.out _).mono ?_; rintro e w3 ⟨rfl, hb3⟩
      have hat3 := hat2.below hb3
      have hW3 := hW2.trans (hb3.mono hW2.size)
      clear hb3 hat2 hW2
      go_wp2_with (fail)
      refine (HO2.out _).mono ?_; rintro e w4 ⟨rfl, hb4⟩
      have hat4 := hat3.below hb4
      have hW4 := hW3.trans (hb4.mono hW3.size)
      clear hb4 hat3 hW3
      go_wp2_with (fail)
      refine (HH2.out _).mono ?_; rintro e w5 ⟨rfl, hb5⟩
      have hat5 := hat4.below hb5
      have hW5 := hW4.trans (hb5.mono hW4.size)
      clear hb5 hat4 hW4
      go_wp2_with (fail)
      refine (HY1.out _).mono ?_; rintro e w6 ⟨rfl, hb6⟩
      have hat6 := hat5.below hb6
      have hW6 := hW5.trans (hb6.mono hW5.size)
      clear hb6 hat5 hW5
      go_wp2_with (fail)
      refine (HO1.out _).mono ?_; rintro e w7 ⟨rfl, hb7⟩
      have hat7 := hat6.below hb7
      have hW7 := hW6.trans (hb7.mono hW6.size)
      clear hb7 hat6 hW6
      go_wp2_with (fail)
      refine (HO2.out _).mono ?_; rintro e w8 ⟨rfl, hb8⟩
      have hat8 := hat7.below hb8
      have hW8 := hW7.trans (hb8.mono hW7.size)
      clear hb8 hat7 hW7
      go_wp2_with (fail)
      refine (HY2.out _).mono ?_; rintro e w9 ⟨rfl, hb9⟩
      have hat9 := hat8.below hb9
      have hW9 := hW8.trans (hb9.mono hW8.size)
      clear hb9 hat8 hW8
      go_wp2_with (fail)
      refine (HPm.out _).mono ?_; rintro e w10 ⟨b2, n2, D2, rfl, _, hown2, _, hcnt2, hb10⟩
      have hl2 := HLK.out _ _ _ _ hown2 hcnt2
      have hat10 := hat9.below hb10
      have hW10 := hW9.trans (hb10.mono hW9.size)
      clear hown2 hcnt2 hb10 hat9 hW9
      go_wp2_with (fail)
      refine (HF.out _).mono ?_; rintro e w11 ⟨hb11, A11, c11, rfl, hrd11⟩
      have hat11 := hat10.below hb11
      have hW11 := hW10.trans (hb11.mono hW10.size)
      clear hb11 hat10 hW10 hl2
      have hfl := first_left (w := x) (p := p) (i := 0)
      rw [hbb.out] at hfl
      cases b with
      | false =>
        have hfn : firstL 0 x p = none := by
          cases h : firstL 0 x p with
          | none => rfl
          | some l => rw [h] at hfl; exact absurd hfl (by simp)
        have e1 : fl = [] := by rw [HFL.out, hfn]; rfl
        have e2 : fe = 12 := by rw [HFE.out, hfn]
        subst e1
        subst e2
        clear hfn hfl
        go_wp2_with (fail)
        exact ⟨⟨k + 1, by omega, by go_num, hat11, hW11⟩, by simp [intOf]; omega⟩
      | true =>
        obtain ⟨l, hl⟩ : ∃ l, firstL 0 x p = some l := Option.isSome_iff_exists.1 hfl
        have e1 : fl = l := by rw [HFL.out, hl]; rfl
        have e2 : fe = 0 := by rw [HFE.out, hl]
        subst e1
        subst e2
        have hll := first_len hl
        have hlb : ((fl.length : Int) != (p.length : Int)) = false := by rw [hll]; simp
        have hl0 : Hid (firstL 0 (x.drop 0) (p.drop 0) = some (fl.drop 0)) := by show _ = _; simpa using hl
        have HLL := Lib.hid hll
        clear hfl hl hll
        go_wp2_with (fail)
        go_loopw [20, 134] (fun av iv wx => ∃ (i a : Nat), i ≤ fl.length ∧ iv = .int .i64 i ∧ av = .int .i64 a ∧ a ≤ x.length ∧ Hid (firstL a (x.drop a) (p.drop i) = some (fl.drop i)) ∧ RdAt wx B 0 2 (ps.map encStr) ∧ Rd wx A11 fl.length (ints fl) ∧ Below w.heap.size w wx) (fun _ iv _ => fl.length - (intOf iv).toNat)
        case atStart => exact ⟨0, 0, Nat.zero_le _, rfl, rfl, Nat.zero_le _, hl0, hat11, hrd11, hW11⟩
        case round =>
          clear hl0 hat11 hrd11 hW11
          obtain ⟨i, a, hi, rfl, rfl, ha, hF1, hat11, hrd11, hW11⟩ := hrel
          by_cases hil : i < fl.length
          · have hid : decide ((i : Int) < (fl.length : Int)) = true := by simp; omega
            have hip : i < p.length := by have := HLL.out; omega
            obtain ⟨cc, hcc⟩ : ∃ cc, Hid (cc = p[i]) := ⟨_, Lib.hid rfl⟩
            have hpd : p.drop i = cc :: p.drop (i + 1) := by rw [hcc.out]; exact List.drop_eq_getElem_cons hip
            have hfd : fl.drop i = fl.getD i 0 :: fl.drop (i + 1) := by rw [List.drop_eq_getElem_cons hil, getD_lt _ _ _ hil]
            obtain ⟨j, rest, h1, h2, h3, h4, h5⟩ := first_cons (hpd ▸ hF1.out)
            rw [hfd] at h1
            obtain ⟨e1, e2⟩ := List.cons.inj h1
            rw [List.length_drop] at h2
            rw [List.getElem?_drop] at h3
            obtain ⟨g, o, rfl, hatf⟩ := hrd11.at (by omega)
            have hcell : wr.cell? ⟨g, o + i, none⟩ = some (.int .i64 (fl.getD i 0 : Nat)) := by
              rw [hatf.2 i hil, getD_lt _ _ _ (by simpa using hil), List.getElem_map, getD_lt _ _ _ hil]
            rw [e1] at hcell
            have hF2 : Hid (firstL (a + j + 1) (x.drop (a + j + 1)) (p.drop (i + 1)) = some (fl.drop (i + 1))) := by
              show _ = _; rw [e2, ← h5, List.drop_drop, Nat.add_assoc]
            have hmiss : ((x.drop a).take j).contains cc = false := by
              cases hcq : ((x.drop a).take j).contains cc with
              | false => rfl
              | true =>
                obtain ⟨q, hq, he⟩ := List.getElem_of_mem (List.contains_iff_mem.1 hcq)
                have hqj : q < j := by rw [List.length_take] at hq; omega
                have := h4 q hqj
                rw [List.getElem_take] at he
                rw [List.getElem?_eq_getElem (by rw [List.length_take] at hq; omega), he] at this
                exact absurd rfl this
            have hix := index_at h3
            have hpx := index_at (x := p) (k := i) (c := cc) (by rw [hcc.out]; exact List.getElem?_eq_getElem hip)
            have hsl := slice_midB x a (a + j) (by omega) (by omega)
            have e3 : a + j - a = j := by omega
            rw [e3] at hsl
            have hI := fun W => Any.strings_IndexByte Try.lays137 ⟨((x.drop a).take j).toArray⟩ ((cc.toNat : Nat) : Int) W
            have hcb : (((cc.toNat : Nat) : Int).toNat.toUInt8) = cc := by rw [Int.toNat_natCast]; simp
            have hdl : (⟨((x.drop a).take j).toArray⟩ : ByteArray).data.toList = (x.drop a).take j := by simp
            rw [hcb, hdl] at hI
            change ∀ W, Calls _ 55 _ _ _ at hI
            have hmm := indexByte_memB ((x.drop a).take j) cc
            rw [hmiss] at hmm
            have HI := Lib.hid hI
            clear hpd hfd h1 h3 h4 h5 e1 e2 hmiss e3 hcb hdl hI hatf hF1
            generalize Lib.indexByte ((x.drop a).take j) cc = ix at HI hmm
            generalize hkk2 : a + j = kx at hcell hix hsl hF2
            have hka : a ≤ kx := by omega
            have hkx : kx < x.length := by omega
            have hd1 : decide (kx < a) = false := by simp; omega
            have hd2 : decide (x.length ≤ kx) = false := by simp; omega
            have hccb : ((cc.toNat : Int) != (cc.toNat : Int)) = false := by simp
            clear hkk2
            go_wp2_with (fail)
            go_quiet ((go_at_call 55; exact Calls.quiet_of_same (HI.out _)))
            go_wp2_with (fail)
            exact ⟨⟨i + 1, kx + 1, by omega, by go_num, by go_num, by omega, hF2, hat11, hrd11, hW11.trans ⟨rfl, rfl, rfl, Nat.le_refl _, fun _ _ => rfl⟩⟩, by simp [intOf]; omega⟩
          · obtain rfl : i = fl.length := by omega
            have hid : decide ((fl.length : Int) < (fl.length : Int)) = false := by simp
            go_wp2_with (fail)
            exact ⟨⟨k + 1, by omega, by go_num, hat11, hW11⟩, by simp [intOf]; omega⟩
    · obtain rfl : k = 2 := by omega
      go_wp2_with (fail)
      refine (works_any _).mono ?_; rintro e w9 ⟨rfl, hb9⟩
      have hW9 := hb.trans (hb9.mono hb.size)
      go_wp2_with (fail)
      go_ret
      exact ⟨rfl, hW9⟩
end Go.Proofs.Ytalildjhighlhaa
