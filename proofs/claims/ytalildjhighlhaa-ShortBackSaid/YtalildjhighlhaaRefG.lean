/-
  The walk of the reference's Missing: it returns the first of the shortest words that are no parts.
-/
import Derived.Test.YtalildjhighlhaaRefF
namespace Go.Proofs.Ytalildjhighlhaa
open Go.RowKit Go.Proofs.Short Go.Lib

theorem missL_pos {k : Nat} (h1 : 1 ≤ k) (x : List UInt8) : 1 ≤ (missL k x).length := by
  obtain ⟨⟨c, _, e⟩, _⟩ := missL_min h1 x
  rw [e]
  have := List.length_pos_iff.2 (nxL_ne k c x)
  omega
theorem missL_le (k : Nat) (x : List UInt8) : (missL k x).length ≤ x.length + 1 := missT_len k x 0

set_option maxRecDepth 100000 in
set_option maxHeartbeats 2000000 in
theorem rmissing_ok (x : List UInt8) (k : Nat) (w : World) (hz : chk x = 0) (h1 : 1 ≤ k) (h6 : k ≤ 6) (hin : allIn k x = true) :
    Calls Try.prog 39 #[.string ⟨x.toArray⟩, .int .i64 k] w fun e w' => e = .returned (.tuple #[.string ⟨(missL k x).toArray⟩, .int .i64 0]) ∧ Below w.heap.size w w' := by
  have hx := (chk_zero hz).1
  have hL := fun W => rlettered_in x k W hz h1 h6
  rw [hin] at hL
  simp only [if_true] at hL
  have hM1 := missL_pos h1 x
  have hM2 := missL_le k x
  have hsh := fun s (hs : s < (missL k x).length) => words_short h1 x hs
  have hfd := words_find h1 x
  generalize missL k x = ms at hM1 hM2 hsh hfd ⊢
  have HL := Lib.hid hL; have HSH := Lib.hid hsh; have HFD := Lib.hid hfd
  clear hL hz hin hsh hfd
  have hxm : x.length ≤ maxLen := by unfold maxLen; omega
  go_enter Try.func39, Try.ntmps39
  go_wp2_with (go_at_call 66; refine (HL.out _).mono ?_; rintro e w1 ⟨rfl, rfl⟩)
  go_loopw [7] (fun i wr => ∃ (s : Nat), 1 ≤ s ∧ s ≤ ms.length ∧ i = .int .i64 s ∧ Below w1.heap.size w1 wr) (fun i _ => 20 - (intOf i).toNat)
  case atStart => exact ⟨1, Nat.le_refl _, hM1, rfl, Below.refl _ _⟩
  case round =>
    obtain ⟨s, hs1, hsM, rfl, hb⟩ := hrel
    go_wp2_with (go_at_call 69; refine (words_any k h6 s _ _ (by omega) rfl).mono ?_; rintro e w2 ⟨A1, c1, rfl, hown2, hb2⟩)
    have hrd := rdN_own hown2 none (fun k e => by cases e)
    have hbw := hb.trans (hb2.mono hb.size)
    have hwl : ∀ y ∈ wordsL k s, y.length ≤ 11 := fun y hy => by rw [((mem_wordsL k s y).1 hy).1]; omega
    obtain ⟨R, hR⟩ : ∃ R, Hid (((wordsL k s).drop 0).find? (fun p => !leftL x p) = R) := ⟨_, rfl⟩
    have hRM : (s < ms.length ∧ R = none) ∨ R = some ms := by
      by_cases h : s < ms.length
      · left
        refine ⟨h, ?_⟩
        rw [← hR.out]
        exact List.find?_eq_none.2 fun p hp => by rw [HSH.out s h p hp]; decide
      · right
        have e : s = ms.length := by omega
        rw [← hR.out, e]; exact HFD.out
    have hwsm := words_small (k := k) (n := s) h6 (by omega)
    generalize wordsL k s = l1 at hown2 hrd hwl hR hwsm ⊢
    have HWL := Lib.hid hwl; have HRM := Lib.hid hRM
    clear hown2 hb hb2 hwl hRM
    go_loopw [9] (fun i wr => ∃ (q : Nat), q ≤ l1.length ∧ i = .int .i64 q ∧ RdN wr none A1 l1.length (l1.map encStr) ∧ Hid ((l1.drop q).find? (fun p => !leftL x p) = R) ∧ Below w1.heap.size w1 wr) (fun i _ => l1.length - (intOf i).toNat)
    case atStart => exact ⟨0, Nat.zero_le _, rfl, hrd, hR, hbw⟩
    case round =>
      clear hrd hR hbw
      obtain ⟨q, hq, rfl, hrd, hR, hb⟩ := hrel
      by_cases h3 : q < l1.length
      · obtain ⟨y, hy⟩ : ∃ y, l1[q]? = some y := ⟨_, List.getElem?_eq_getElem h3⟩
        have hyl : y.length ≤ 11 := HWL.out y (List.mem_of_getElem? hy)
        have hym : y.length ≤ maxLen := by unfold maxLen; omega
        obtain ⟨g1, rfl, hne1, hat1⟩ := hrd (by omega)
        have hgc : (l1.map encStr).getD q (.bool false) = .string ⟨y.toArray⟩ := by rw [List.getD_eq_getElem?_getD, List.getElem?_map, hy]; rfl
        have hcell : wr.cell? ⟨g1, q, none⟩ = some (.string ⟨y.toArray⟩) := by
          have := hat1.2 q h3; rw [Nat.zero_add, hgc] at this; exact this
        have hgl := hat1.1
        have hst := find_drop (P := fun p => !leftL x p) ([] : List UInt8) h3
        rw [List.getD_eq_getElem?_getD, hy] at hst
        simp only [Option.getD_some] at hst
        cases hll : leftL x y with
        | true =>
          have e2 : (l1.drop (q + 1)).find? (fun p => !leftL x p) = R := by
            rw [hR.out, hll] at hst; simpa using hst.symm
          have hlc := fun W => rleft_l x y W hxm hym
          rw [hll] at hlc
          have HLC := Lib.hid hlc; have HE := Lib.hid e2
          clear hst hy hgc hll hlc e2 hne1 hat1
          go_wp2_with (go_at_call 28; refine (HLC.out _).mono ?_; rintro e w3 ⟨rfl, hb3⟩)
          exact ⟨⟨q + 1, by omega, by go_num, hrd.kept (grown_below hb3) (.inl rfl) (.inl rfl), HE, hb.trans (hb3.mono hb.size)⟩, by simp [intOf]; omega⟩
        | false =>
          have e2 : R = some y := by rw [hR.out, hll] at hst; simpa using hst
          have e3 : y = ms := by
            rcases HRM.out with ⟨_, h⟩ | h
            · rw [h] at e2; cases e2
            · rw [h] at e2; injection e2 with e2; exact e2.symm
          have hlc := fun W => rleft_l x y W hxm hym
          rw [hll] at hlc
          have HLC := Lib.hid hlc; have HE := Lib.hid e3
          clear hst hy hgc hll hlc e2 e3 hne1 hat1
          go_wp2_with (go_at_call 28; refine (HLC.out _).mono ?_; rintro e w3 ⟨rfl, hb3⟩; have hcell3 := (hb3.cell (p := ⟨g1, q, none⟩) hgl).trans hcell)
          go_ret2
          rw [HE.out]
          exact ⟨rfl, hb.trans (hb3.mono hb.size)⟩
      · have e2 : R = none := by rw [← hR.out, List.drop_eq_nil_of_le (by omega)]; rfl
        have e3 : s < ms.length := by
          rcases HRM.out with ⟨h, _⟩ | h
          · exact h
          · rw [h] at e2; cases e2
        clear hR HRM e2
        go_wp2
        exact ⟨⟨s + 1, by omega, by omega, by go_num, hb⟩, by simp [intOf]; omega⟩
end Go.Proofs.Ytalildjhighlhaa
