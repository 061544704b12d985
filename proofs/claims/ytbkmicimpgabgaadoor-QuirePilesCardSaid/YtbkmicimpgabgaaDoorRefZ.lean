/-
  The reference's Folded: all folds are tried; the ones found are those that the pile tells.
-/
import Derived.Test.YtbkmicimpgabgaaDoorRefX
import Derived.Test.YtbkmicimpgabgaaDoorFolded
set_option linter.unusedSimpArgs false
set_option linter.unusedVariables false
namespace Go.Proofs.Quire
/-- what is wrong with numbers behind others -/
def twR (n : Int) : List Int → List Int → Int
  | _, [] => 0
  | pre, x :: xs => if x < 0 ∨ n ≤ x then 2 else if hasZ x pre then 6 else twR n (pre ++ [x]) xs
theorem hasZ_snoc (x y : Int) (l : List Int) : hasZ x (l ++ [y]) = (hasZ x l || decide (y = x)) := by
  rw [Bool.eq_iff_iff, Bool.or_eq_true, hasZ_mem, hasZ_mem, decide_eq_true_eq, List.mem_append, List.mem_singleton]
  constructor
  · rintro (h | h)
    · exact .inl h
    · exact .inr h.symm
  · rintro (h | h)
    · exact .inl h
    · exact .inr h.symm
theorem twE_twR (n : Int) : ∀ (xs pre : List Int) (seen : List Bool), (seen.length : Int) = n → (∀ y : Int, 0 ≤ y → y < n → seen.getD y.toNat false = hasZ y pre) → twE n seen xs = twR n pre xs
  | [], _, _, _, _ => rfl
  | x :: xs, pre, seen, hl, h => by
    rw [twE, twR]
    by_cases hx : x < 0 ∨ n ≤ x
    · rw [if_pos hx, if_pos hx]
    · rw [if_neg hx, if_neg hx, h x (by omega) (by omega)]
      cases hz : hasZ x pre with
      | true => simp
      | false =>
        simp only [Bool.false_eq_true, if_false]
        refine twE_twR n xs (pre ++ [x]) _ (by rw [List.length_set]; exact hl) (fun y h0 h1 => ?_)
        rw [hasZ_snoc]
        by_cases e : x = y
        · subst e
          rw [List.getD_eq_getElem?_getD, List.getElem?_set_self (by omega)]; simp
        · rw [List.getD_eq_getElem?_getD, List.getElem?_set_ne (by omega), ← List.getD_eq_getElem?_getD, h y h0 h1]; simp [e]
theorem twR_start (xs : List Int) : twE xs.length (List.replicate xs.length false) xs = twR xs.length [] xs :=
  twE_twR _ xs [] _ (by simp) (fun y h0 h1 => by
    rw [List.getD_eq_getElem?_getD, List.getElem?_replicate]; split <;> rfl)
theorem waysP_let (pl : List Nat) : ∀ f n, ∀ c ∈ waysP pl f n, c = 111 ∨ c = 117
  | 0, n, c, h => by simp [waysP] at h
  | f + 1, n, c, h => by
    unfold waysP at h
    split at h
    · rcases List.mem_cons.1 h with rfl | h
      · unfold wayOf; split
        · exact .inl rfl
        · exact .inr rfl
      · exact waysP_let pl f _ c h
    · simp at h
theorem find_piles (xs : List Int) (k : Nat) (hk : k ≤ 6) (hl : xs.length = 2 ^ k) (hz : pileE xs = 0)
    (hwb : ∀ f : List Bool, f.length ≤ 6 → waysOf (pileL f) = f.map wayOf) : findF (fun l => decide (pileL (foldsB l) = xs.map Int.toNat)) (allL k) = foldedP xs := by
  unfold foldedP
  rw [if_pos hz]
  generalize hys : xs.map Int.toNat = ys
  have hyl : ys.length = 2 ^ k := by rw [← hys, List.length_map]; exact hl
  have hu : ∀ l ∈ allL k, pileL (foldsB l) = ys → l = waysOf ys := fun l h e => by
    obtain ⟨h1, h2⟩ := allL_mem k l h
    have hb : (foldsB l).length = k := by unfold foldsB; rw [List.length_map]; exact h1
    have := hwb (foldsB l) (by omega)
    rw [e, foldsB_back l h2] at this
    exact this.symm
  by_cases h : pileL (foldsB (waysOf ys)) = ys
  · rw [if_pos h]
    have hlen : (waysOf ys).length = k := by
      have h1 := (pileL_facts (foldsB (waysOf ys))).1
      rw [h, hyl] at h1
      have h2 : (foldsB (waysOf ys)).length = (waysOf ys).length := by unfold foldsB; simp
      rw [h2] at h1
      exact (Nat.pow_right_inj (by decide)).1 h1.symm
    exact findF_in (by simpa using h) _ (mem_allL k _ hlen (waysP_let _ _ _)) (fun l hl e => hu l hl (by simpa using e))
  · rw [if_neg h]
    refine findF_out _ (fun l hl => ?_)
    have : ¬ pileL (foldsB l) = ys := fun e => by have := hu l hl e; rw [this] at e; exact h e
    simpa using this
end Go.Proofs.Quire
namespace Go.Proofs.YtbkmicimpgabgaaDoor
open Go.RowKit Go.Lib Go.Proofs.Quire

theorem cut_rowI (g o n c i : Nat) (hi : i ≤ c) (hc : 0 < c) (W : World) : (Instr.slice 23 (.slice (some ⟨g, o, none⟩) n c) none (some (.int .i64 (i : Int))) none).run Tryd.prog W = .ok (.slice (some ⟨g, o, none⟩) i c) W := by
  have h := run_slice_h (P := Tryd.prog) W 23 (some ⟨g, o, none⟩) n c (by kernel_rfl) .i64 (i : Int) (by omega) (by omega)
  have hs : (sizeOf (Tryd.prog.elem 23)).run Tryd.prog W = .ok 1 W := Tryd.sizeOf3 W
  rw [h, hs]
  simp [Result.andThen, sliced, Addr.add]
theorem rd_takeZ {w : World} {A : Option Addr} {n : Nat} {l : List Int} (h : Rd w A n (zs l)) (k : Nat) (hk : k ≤ n) : Rd w A k (zs (l.take k)) := by
  have hl : l.length = n := by have := h.1; simpa using this
  refine ⟨by rw [zs_length, List.length_take]; omega, fun h0 => ?_⟩
  obtain ⟨g, o, hA, hg, hx, hc⟩ := h.2 (by omega)
  refine ⟨g, o, hA, hg, hx, fun j hj => ?_⟩
  rw [hc j (by omega), zs_getD _ _ (by omega), zs_getD _ _ (by rw [List.length_take]; omega)]
  congr 2
  rw [List.getD_eq_getElem?_getD, List.getD_eq_getElem?_getD, List.getElem?_take, if_pos hj]
set_option maxRecDepth 100000 in
set_option maxHeartbeats 8000000 in
theorem rfolded2_any (A : Option Addr) (c : Nat) (xs : List Int) (w : World) (h : Rd w A xs.length (zs xs)) (hn : xs.length ≤ maxLen) (hcap : xs.length ≤ c)
    (hwb : ∀ f : List Bool, f.length ≤ 6 → waysOf (pileL f) = f.map wayOf) :
    Calls Tryd.prog 26 #[.slice A xs.length c] w (StrEPost (foldedP xs).1 (foldedP xs).2 w) := by
  unfold maxLen at hn
  obtain ⟨r, hr⟩ : ∃ r, Hid (foldedP xs = r) := ⟨_, rfl⟩
  rw [hr.out]
  obtain ⟨n, hnx⟩ : ∃ n, Hid (xs.length = n) := ⟨_, rfl⟩
  have hpe : Hid (pileE xs = if 64 < n then 3 else if onesN n = 1 then twR n [] xs else 5) := by show _ = _; rw [← hnx.out, ← twR_start]; rfl
  rw [hnx.out] at h hn hcap ⊢
  have hne : ∀ z, z ≠ 0 → pileE xs = z → Hid (r = ([], z)) := fun z h0 e => by show _ = _; rw [← hr.out]; unfold foldedP; rw [if_neg (by rw [e]; exact h0), e]
  by_cases h64 : 64 < n
  · have hR : Hid (r = ([], 3)) := hne 3 (by decide) (by rw [hpe.out, if_pos h64])
    clear hpe hr hne
    go_enter Tryd.func26, Tryd.ntmps26
    go_wp2_with (fail)
    go_ret2
    exact ⟨by rw [hR.out]; rfl, Below.refl _ _⟩
  · have h2 := fun W => rlog_any n W
    have hlo := log_ones n (by omega)
    by_cases ho : onesN n = 1
    · obtain ⟨k, hk, hpk, hlog⟩ := log_of (n := n) (by omega) ho
      have hpe2 : Hid (pileE xs = twR n ([] ++ xs.take 0) (xs.drop 0)) := by show _ = _; rw [hpe.out, if_neg h64, if_pos ho]; rfl
      rw [hlog] at h2
      have hkn : ¬ (k : Int) < 0 := by omega
      have h3 := fun W => rall_any k hk k W rfl
      have hf0 : pileE xs = 0 → Hid (findF (fun l => decide (pileL (foldsB l) = xs.map Int.toNat)) ((allL k).drop 0) = r) := fun hz => by show _ = _; rw [← hr.out]; exact find_piles xs k hk (by rw [hnx.out]; exact hpk) hz hwb
      have hst : Hid (∀ l, l ∈ allL k → ∀ W, Calls Tryd.prog 38 #[.string ⟨l.toArray⟩] W (RStripC (foldsB l) W)) := fun l h W => rstripC_any l W (by rw [(allL_mem k l h).1]; exact hk)
      have hpl : Hid (∀ l, l ∈ allL k → (pileL (foldsB l)).length = n) := fun l h => by
        rw [(pileL_facts _).1, show (foldsB l).length = k by unfold foldsB; rw [List.length_map]; exact (allL_mem k l h).1]; exact hpk.symm
      have h64L : (allL k).length ≤ 64 := by rw [allL_len]; exact Nat.le_trans (Nat.pow_le_pow_right (by omega) hk) (by decide)
      have hn0 : 0 < n := by rw [hpk]; exact Nat.two_pow_pos _
      have hn64 : n ≤ 64 := by omega
      generalize allL k = L at h3 hf0 hst hpl h64L
      unfold AllPost at h3
      obtain ⟨nL, hnL⟩ : ∃ nL, Hid (L.length = nL) := ⟨_, rfl⟩
      rw [hnL.out] at h3 h64L
      have hhas := fun (i : Nat) (hi : i ≤ n) (x : Int) => rhasZ_any A c i x (xs.take i) w (by rw [List.length_take, hnx.out]; omega) (rd_takeZ h i hi) (by omega)
      have HH := Lib.hid hhas; have HNE := Lib.hid hne; have HF0 := Lib.hid hf0
      obtain ⟨g, o, rfl, hg, _, hat⟩ := h.2 hn0
      have HAT := Lib.hid hat
      have hRD := Lib.hid h
      clear hhas hne hf0 hr hlog hpk hpe hlo ho hat h
      go_enter Tryd.func26, Tryd.ntmps26
      go_wp2_with (fail)
      refine (h2 _).mono ?_; rintro e w2 ⟨rfl, hw2⟩
      rw [hw2]
      clear hw2 w2
      go_wp2_with (fail)
      go_loopw [4] (fun v wr => ∃ (i : Nat), i ≤ n ∧ v = .int .i64 i ∧ Below w.heap.size w wr ∧ Hid (pileE xs = twR n ([] ++ xs.take i) (xs.drop i))) (fun v _ => n - (RowKit.intOf v).toNat)
      case atStart => exact ⟨0, Nat.zero_le _, rfl, Below.refl _ _, hpe2⟩
      case round =>
        clear hpe2
        obtain ⟨i, hi, rfl, hbw, hf⟩ := hrel
        by_cases hlt : i < n
        · have hil : i < xs.length := by rw [hnx.out]; exact hlt
          have hcx := HAT.out i hlt
          rw [zs_getD _ _ hil] at hcx
          have hcx2 := (hbw.cell (p := ⟨g, o + i, none⟩) hg).trans hcx
          have hcs : twR n ([] ++ xs.take i) (xs.drop i) = if xs.getD i 0 < 0 ∨ (n : Int) ≤ xs.getD i 0 then 2 else if hasZ (xs.getD i 0) (xs.take i) then 6 else twR n ([] ++ xs.take (i + 1)) (xs.drop (i + 1)) := by
            rw [drop_cons xs i 0 hil, twR, take_succ xs i 0 hil]; simp
          have hcs : Hid (pileE xs = if xs.getD i 0 < 0 ∨ (n : Int) ≤ xs.getD i 0 then 2 else if hasZ (xs.getD i 0) (xs.take i) then 6 else twR n ([] ++ xs.take (i + 1)) (xs.drop (i + 1))) := by show _ = _; rw [hf.out]; exact hcs
          have hh := HH.out i hi (xs.getD i 0)
          generalize xs.getD i 0 = x at hcx2 hcs hh
          by_cases hx : x < 0 ∨ (n : Int) ≤ x
          · have hR := HNE.out 2 (by decide) (by rw [hcs.out, if_pos hx])
            clear hcs hf hcx
            have hx3 : (x < 0 ∧ x < 0) ∨ (¬ x < 0 ∧ (n : Int) ≤ x) := by omega
            rcases hx3 with ⟨hx1, _⟩ | ⟨hx1, hx2⟩
            all_goals
              go_wp2_with (fail)
              go_ret2
              exact ⟨by rw [hR.out]; rfl, hbw⟩
          · have hx1 : ¬ x < 0 := by omega
            have hx2 : ¬ (n : Int) ≤ x := by omega
            have hic : (i : Int) ≤ (c : Int) := by omega
            have hic2 : i ≤ c := by omega
            have hhW : ∀ m, Calls Tryd.prog 52 #[.slice (some ⟨g, o, none⟩) i c, .int .i64 x] (wr.drewN m) fun e w' => e = .returned (.bool (hasZ x (xs.take i))) ∧ w' = wr.drewN m := fun m => by
              exact rhasZ_any _ c i x (xs.take i) _ (by rw [List.length_take, hnx.out]; omega) ((rd_takeZ (hRD.out.below hbw) i hi).drewN m) (by omega)
            have HHW := Lib.hid hhW
            have hsl : ∀ W, (Instr.slice 23 (.slice (some ⟨g, o, none⟩) n c) none (some (.int .i64 (i : Int))) none).run Tryd.prog W = .ok (.slice (some ⟨g, o, none⟩) i c) W := cut_rowI g o n c i hic2 (by omega)
            cases hz : hasZ x (xs.take i) with
            | true =>
              rw [hz] at HHW
              have hR := HNE.out 6 (by decide) (by rw [hcs.out, if_neg hx, if_pos hz])
              clear hcs hf hz hh hcx hhW
              go_wp2_with (fail)
              go_quiet (first | (go_at_call 52; exact Calls.quiet_of_same (HHW.out _)))
              go_wp2_with (fail)
              go_ret2
              exact ⟨by rw [hR.out]; rfl, below_drewN hbw _⟩
            | false =>
              rw [hz] at HHW
              have hf2 : Hid (pileE xs = twR n ([] ++ xs.take (i + 1)) (xs.drop (i + 1))) := by show _ = _; rw [hcs.out, if_neg hx, hz]; rfl
              clear hcs hf hz hh hcx hhW
              go_wp2_with (fail)
              go_quiet (first | (go_at_call 52; exact Calls.quiet_of_same (HHW.out _)))
              go_wp2_with (fail)
              exact ⟨⟨i + 1, by omega, by go_num, below_drewN hbw _, hf2⟩, by simp [RowKit.intOf]; omega⟩
        · obtain rfl : n = i := by omega
          have hz : pileE xs = 0 := by rw [hf.out, List.drop_eq_nil_of_le (by rw [hnx.out]; exact Nat.le_refl _)]; rfl
          have hf0 := HF0.out hz
          have hpe0 : Hid (∀ x ∈ xs, 0 ≤ x) := fun x hx => ((pileE_zero hz).2.2 x hx).1
          have hB0 := hbw
          have hRD2 := hRD.out.below hbw
          have HRX := Lib.hid hRD2
          clear hf hz HF0 HNE HH HAT hRD hRD2
          go_wp2_with (fail)
          refine (h2 _).mono ?_; rintro e w2 ⟨rfl, hw2⟩
          rw [hw2]
          clear hw2 w2 h2
          go_wp2_with (fail)
          refine (h3 _).mono ?_; rintro e w3 ⟨A3, c3, rfl, hrd, hb3⟩
          have hB := hB0.trans (hb3.mono hB0.size)
          have HRD := Lib.hid hrd
          have HRX3 := Lib.hid (HRX.out.below hb3)
          clear h3 hB0 hb3 hrd HRX
          go_wp2_with (fail)
          go_loopw [6, 7, 8, 9] (fun v _ _ _ wr => ∃ (i : Nat), i ≤ nL ∧ v = .int .i64 i ∧ Below w3.heap.size w3 wr ∧ Hid (findF (fun l => decide (pileL (foldsB l) = xs.map Int.toNat)) (L.drop i) = r)) (fun v _ _ _ _ => nL - (RowKit.intOf v).toNat)
          case atStart => exact ⟨0, Nat.zero_le _, rfl, Below.refl _ _, hf0⟩
          case round =>
            clear hf0
            obtain ⟨i, hi, rfl, hbr, hf⟩ := hrel
            by_cases hlt : i < nL
            · have hil : i < L.length := by rw [hnL.out]; exact hlt
              obtain ⟨gL, oL, rfl, hgL, _, hatL⟩ := HRD.out.2 (by omega)
              have hc0 := hatL i hlt
              rw [strsV_getD _ _ hil] at hc0
              have hcell := (hbr.cell (p := ⟨gL, oL + i, none⟩) hgL).trans hc0
              have hm2 := hst.out (L.getD i []) (by rw [getD_lt _ _ _ hil]; exact List.getElem_mem _)
              have hpn := hpl.out (L.getD i []) (by rw [getD_lt _ _ _ hil]; exact List.getElem_mem _)
              have hdr : Hid (r = if pileL (foldsB (L.getD i [])) = xs.map Int.toNat then (L.getD i [], 0) else findF (fun l => decide (pileL (foldsB l) = xs.map Int.toNat)) (L.drop (i + 1))) := by
                show _ = _; rw [← hf.out, drop_cons L i [] hil, findF]; simp
              generalize L.getD i [] = y at hc0 hcell hm2 hpn hdr
              unfold RStripC at hm2
              generalize pileL (foldsB y) = pl at hm2 hpn hdr
              rw [hpn] at hm2
              generalize trnC (foldsB y) = tn at hm2
              generalize (⟨(creS (foldsB y)).toArray⟩ : ByteArray) = sc at hm2
              obtain ⟨sy, hsy⟩ : ∃ sy : ByteArray, Hid (⟨y.toArray⟩ = sy) := ⟨_, rfl⟩
              rw [hsy.out] at hm2 hcell hc0
              have HC0 : Hid (∀ W, Below w3.heap.size w3 W → W.cell? ⟨gL, oL + i, none⟩ = some (.string sy)) := fun W h => (h.cell (p := ⟨gL, oL + i, none⟩) hgL).trans hc0
              have hsz3 := hbr.size
              have hsm := fun A A' c c' W (h : Rd W A n (ints pl)) (h' : Rd W A' n (zs xs)) => rsame_any A A' c c' n n (pl.map fun x : Nat => (x : Int)) xs W (by rw [List.length_map]; exact hpn) hnx.out (by rw [zs_ints]; exact h) h' (by omega) (by omega)
              have hiff : decide ((pl.map fun x : Nat => (x : Int)) = xs) = decide (pl = xs.map Int.toNat) := by
                rw [Bool.eq_iff_iff, decide_eq_true_eq, decide_eq_true_eq]
                constructor
                · intro e; rw [← e, List.map_map]; symm
                  conv => rhs; rw [← List.map_id pl]
                  exact List.map_congr_left fun a _ => by simp
                · intro e; rw [e]; exact map_toNat hpe0.out
              rw [hiff] at hsm
              have HSM := Lib.hid hsm
              clear hatL hf hc0 hsm hiff
              go_wp2_with (fail)
              refine (hm2 _).mono ?_; rintro e w4 ⟨A5, c5, A6, c6, T, rfl, hr5, _, _, hb4⟩
              have hb5 := hbr.trans (hb4.mono hsz3)
              have hsm2 := HSM.out A5 (some ⟨g, o, none⟩) c5 c w4 hr5 (HRX3.out.below hb5)
              have hsz5 := hb5.size
              clear hcell hb4 hbr hr5 HSM hm2
              by_cases he : pl = xs.map Int.toNat
              · have hR : Hid (r = (y, 0)) := by show _ = _; rw [hdr.out, if_pos he]
                rw [show decide (pl = xs.map Int.toNat) = true by simpa using he] at hsm2
                clear he hdr
                go_wp2_with (fail)
                refine hsm2.mono ?_; rintro e w5 ⟨rfl, hb6⟩
                have hb7 := hb5.trans (hb6.mono hsz5)
                have hcell7 := HC0.out _ hb7
                clear hb5 hb6 hsm2
                go_wp2_with (fail)
                go_ret2
                exact ⟨by rw [hR.out, ← hsy.out]; rfl, hB.trans (hb7.mono hB.size)⟩
              · have hf2 : Hid (findF (fun l => decide (pileL (foldsB l) = xs.map Int.toNat)) (L.drop (i + 1)) = r) := by show _ = _; rw [hdr.out, if_neg he]
                rw [show decide (pl = xs.map Int.toNat) = false by simpa using he] at hsm2
                clear he hdr
                go_wp2_with (fail)
                refine hsm2.mono ?_; rintro e w5 ⟨rfl, hb6⟩
                have hb7 := hb5.trans (hb6.mono hsz5)
                clear hb5 hb6 hsm2
                go_wp2_with (fail)
                exact ⟨⟨i + 1, by omega, by go_num, hb7, hf2⟩, by simp [RowKit.intOf]; omega⟩
            · have hR : Hid (r = ([], 12)) := by show _ = _; rw [← hf.out, List.drop_eq_nil_of_le (by rw [hnL.out]; omega)]; rfl
              have hbE := hB.trans (hbr.mono hB.size)
              go_wp2_with (fail)
              go_ret2
              exact ⟨by rw [hR.out]; rfl, hbE⟩
    · have hR : Hid (r = ([], 5)) := hne 5 (by decide) (by rw [hpe.out, if_neg h64, if_neg ho])
      have hlg : logR n < 0 := by
        rw [show (onesN n == 1) = false by simpa using ho] at hlo; simpa using hlo
      generalize logR n = lg at h2 hlg
      clear hpe hr hne hlo ho
      go_enter Tryd.func26, Tryd.ntmps26
      go_wp2_with (fail)
      refine (h2 _).mono ?_; rintro e w2 ⟨rfl, hw2⟩
      rw [hw2]
      clear hw2 w2
      go_wp2_with (fail)
      go_ret2
      exact ⟨by rw [hR.out]; rfl, Below.refl _ _⟩
end Go.Proofs.YtbkmicimpgabgaaDoor
