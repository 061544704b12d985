/-
  The walk of the reference's Short: it returns what the plain Lean function says.
-/
import Derived.Test.YtalildjhighlhaaRefH
import Derived.Test.YtalildjhighlhaaMathN
namespace Go.Proofs.Ytalildjhighlhaa
open Go.RowKit Go.Proofs.Short Go.Lib

set_option maxHeartbeats 400000 in
theorem rshort_many (A : Option Addr) (n c : Nat) (k : Int) (w : World) (hn : 8 < n) (hm : n ≤ maxLen) :
    Calls Try.prog 45 #[.slice A n c, .int .i64 k] w fun e w' => e = .returned (.tuple #[.string ⟨#[]⟩, .int .i64 3]) ∧ Below w.heap.size w w' := by
  unfold maxLen at hm
  go_enter Try.func45, Try.ntmps45
  go_wp2
  go_ret2
  exact ⟨rfl, Below.refl _ _⟩
set_option maxHeartbeats 1000000 in
theorem rshort_chk (A : Option Addr) (n c : Nat) (k : Int) (ws : List (List UInt8)) (w : World) (hrd : Rd w A n (ws.map encStr)) (hn : n ≤ 8) (hl : ∀ x ∈ ws, x.length ≤ maxLen) (hz : chks ws ≠ 0) :
    Calls Try.prog 45 #[.slice A n c, .int .i64 k] w fun e w' => e = .returned (.tuple #[.string ⟨#[]⟩, .int .i64 (chks ws)]) ∧ Below w.heap.size w w' := by
  have hlen : ws.length = n := by simpa using hrd.1
  obtain ⟨r, hr⟩ : ∃ r, Hid (chks ws = r) := ⟨_, rfl⟩
  rw [hr.out] at hz ⊢
  have HL := Lib.hid hlen; have HX := Lib.hid hl; have HZ := Lib.hid hz; clear hlen hl hz
  go_enter Try.func45, Try.ntmps45
  go_wp2_with (fail)
  go_loopw [6] (fun iv wr => ∃ (i : Nat), i ≤ n ∧ iv = .int .i64 i ∧ wr = w ∧ Hid (chks (ws.drop i) = r)) (fun iv _ => n - (intOf iv).toNat)
  case atStart => exact ⟨0, Nat.zero_le _, rfl, rfl, hr⟩
  case round =>
    obtain ⟨i, hi, rfl, rfl, hf⟩ := hrel
    by_cases hlt : i < n
    · obtain ⟨g, o, rfl, hat⟩ := hrd.at (by omega)
      have hcell := hat.str hlt HL.out.symm
      have hst := Lib.hid (chks_drop (ws := ws) (i := i) (by have := HL.out; omega))
      have hle : (ws.getD i []).length ≤ maxLen := HX.out _ (by rw [getD_lt _ _ _ (by have := HL.out; omega)]; exact List.getElem_mem _)
      generalize ws.getD i [] = y at hcell hle hst
      by_cases hy : chk y = 0
      · have hc := fun W => rcheck_l y W hle
        rw [hy] at hc
        have hn2 : Hid (chks (ws.drop (i + 1)) = r) := by show _ = _; rw [← hf.out, hst.out, if_pos hy]
        clear hy
        go_wp2_with (go_at_call 26; refine (hc _).mono ?_; rintro e w1 ⟨rfl, rfl⟩)
        exact ⟨⟨i + 1, by omega, by go_num, trivial, hn2⟩, by simp [intOf]; omega⟩
      · have hb : (chk y != 0) = true := by simp [hy]
        have hn2 : Hid (chk y = r) := by show _ = _; rw [← hf.out, hst.out, if_neg hy]
        clear hy
        go_wp2_with (go_at_call 26; refine (rcheck_l y _ hle).mono ?_; rintro e w1 ⟨rfl, rfl⟩)
        go_ret2
        rw [hn2.out]
        exact ⟨rfl, Below.refl _ _⟩
    · exfalso
      have := hf.out
      rw [List.drop_eq_nil_of_le (by have := HL.out; omega)] at this
      exact HZ.out (this.symm.trans rfl)
set_option maxHeartbeats 1000000 in
theorem rshort_none (A : Option Addr) (n c : Nat) (k : Int) (ws : List (List UInt8)) (w : World) (hrd : Rd w A n (ws.map encStr)) (hn : n ≤ 8) (hz : chks ws = 0) (hk : k < 0 ∨ (n : Int) ≤ k) :
    Calls Try.prog 45 #[.slice A n c, .int .i64 k] w fun e w' => e = .returned (.tuple #[.string ⟨#[]⟩, .int .i64 2]) ∧ Below w.heap.size w w' := by
  have hlen : ws.length = n := by simpa using hrd.1
  have hi := fun W => in_false k 0 ((n : Int) - 1) W (by omega)
  have HL := Lib.hid hlen; have HX := Lib.hid (chks_zero_mem hz); clear hlen hz hk
  go_enter Try.func45, Try.ntmps45
  go_wp2_with (fail)
  go_loopw [6] (fun iv wr => ∃ (i : Nat), i ≤ n ∧ iv = .int .i64 i ∧ wr = w) (fun iv _ => n - (intOf iv).toNat)
  case atStart => exact ⟨0, Nat.zero_le _, rfl, rfl⟩
  case round =>
    obtain ⟨i, hii, rfl, rfl⟩ := hrel
    by_cases hlt : i < n
    · obtain ⟨g, o, rfl, hat⟩ := hrd.at (by omega)
      have hcell := hat.str hlt HL.out.symm
      have hy : chk (ws.getD i []) = 0 := HX.out _ (by rw [getD_lt _ _ _ (by have := HL.out; omega)]; exact List.getElem_mem _)
      generalize ws.getD i [] = y at hcell hy
      have hc := fun W => rcheck_l y W (by have := chk_zero hy; unfold maxLen; omega)
      rw [hy] at hc
      clear hy
      go_wp2_with (go_at_call 26; refine (hc _).mono ?_; rintro e w1 ⟨rfl, rfl⟩)
      exact ⟨⟨i + 1, by omega, by go_num, trivial⟩, by simp [intOf]; omega⟩
    · obtain rfl : i = n := by omega
      go_wp2_with (go_at_call 62; refine (hi _).mono ?_; rintro e w2 ⟨rfl, rfl⟩)
      go_ret2
      exact ⟨rfl, Below.refl _ _⟩

set_option maxRecDepth 100000 in
set_option maxHeartbeats 2000000 in
theorem rshort_ok (A : Option Addr) (n c k : Nat) (ws : List (List UInt8)) (w : World) (hrd : Rd w A n (ws.map encStr)) (hn : n ≤ 8) (hz : chks ws = 0) (hk : k < n) :
    Calls Try.prog 45 #[.slice A n c, .int .i64 k] w fun e w' => e = .returned (optV (shortL ws k) 12) ∧ Below w.heap.size w w' := by
  have hall := chks_all hz
  have hlen : ws.length = n := by simpa using hrd.1
  obtain ⟨g0, o0, rfl, hat0⟩ := hrd.at (show 0 < n by omega)
  have hx : (ws.getD k []).length ≤ 10 ∧ (ws.getD k []).all okc = true := hall _ (by rw [getD_lt _ _ _ (by omega)]; exact List.getElem_mem _)
  have hi := fun W => in_true (k : Int) 0 ((n : Int) - 1) W (by omega) (by omega)
  obtain ⟨r, hr⟩ : ∃ r, Hid (shortL ws k = r) := ⟨_, rfl⟩
  rw [hr.out]
  obtain ⟨P, HP⟩ : ∃ P : List UInt8 → Bool, Hid (P = fun p => !othersL ws k p) := ⟨_, rfl⟩
  have hfr : Hid ((partsL [ws.getD k []]).find? P = r) := by rw [HP.out]; exact hr.out
  obtain ⟨y, hy⟩ : ∃ y, Hid (ws.getD k [] = y) := ⟨_, rfl⟩
  rw [hy.out] at hfr hx
  have HL := Lib.hid hlen; have HX := Lib.hid (chks_zero_mem hz); have HAT := Lib.hid hat0; have HOK := Lib.hid hx.2; have hyl := hx.1
  have HALL := Lib.hid hall
  clear hlen hz hrd hx hat0 hall hr
  go_enter Try.func45, Try.ntmps45
  go_wp2_with (fail)
  go_loopw [6] (fun iv wr => ∃ (i : Nat), i ≤ n ∧ iv = .int .i64 i ∧ wr = w) (fun iv _ => n - (intOf iv).toNat)
  case atStart => exact ⟨0, Nat.zero_le _, rfl, rfl⟩
  case round =>
    obtain ⟨i, hii, rfl, rfl⟩ := hrel
    by_cases hlt : i < n
    · have hcell := HAT.out.str hlt HL.out.symm
      have hy : chk (ws.getD i []) = 0 := HX.out _ (by rw [getD_lt _ _ _ (by have := HL.out; omega)]; exact List.getElem_mem _)
      generalize ws.getD i [] = y at hcell hy
      have hc := fun W => rcheck_l y W (by have := chk_zero hy; unfold maxLen; omega)
      rw [hy] at hc
      clear hy
      go_wp2_with (go_at_call 26; refine (hc _).mono ?_; rintro e w1 ⟨rfl, rfl⟩)
      exact ⟨⟨i + 1, by omega, by go_num, trivial⟩, by simp [intOf]; omega⟩
    · obtain rfl : n = i := by omega
      go_wp2_with (go_at_call 62; refine (hi _).mono ?_; rintro e w2 ⟨rfl, rfl⟩)
      clear hi hlt
      go_loopw [8] (fun sv wr => ∃ (s : Nat), s ≤ y.length + 1 ∧ sv = .int .i64 s ∧ Hid (∀ m, m < s → (szL m y).find? P = none) ∧ Below w2.heap.size w2 wr) (fun sv _ => y.length + 1 - (intOf sv).toNat)
      case atStart => exact ⟨0, by omega, rfl, fun m hm => by omega, Below.refl _ _⟩
      case round =>
        obtain ⟨s, hs, rfl, hno, hbr⟩ := hrel
        have hatr := HAT.out.below hbr
        have hcell := hatr.str hk HL.out.symm
        rw [hy.out] at hcell
        by_cases hsl : s ≤ y.length
        · have hle := szL_le s y HOK.out hyl
          have hmem : ∀ p ∈ szL s y, p.length = s := fun p hp => ((mem_szL s y HOK.out p).1 hp).1
          obtain ⟨f, hf⟩ : ∃ f, Hid ((szL s y).find? P = f) := ⟨_, rfl⟩
          have hnext : Hid (f = none → ∀ m, m < s + 1 → (szL m y).find? P = none) := fun h0 m hm => by
            by_cases h : m < s
            · exact hno.out m h
            · obtain rfl : m = s := by omega
              exact hf.out.trans h0
          have hfound : Hid (∀ q, f = some q → r = some q) := fun q h0 => by rw [← hfr.out]; exact size_some HOK.out hno.out (hf.out.trans h0)
          go_wp2_with (go_at_call 63; refine (sized_any s y _ _ (by omega) rfl hyl HOK.out).mono ?_; rintro e w3 ⟨A, c2, rfl, hown, hb3⟩)
          have hbA := hbr.trans (hb3.mono hbr.size)
          have hrd3 := rd_own hown
          have hf0 : Hid (((szL s y).drop 0).find? P = f) := hf.out
          generalize szL s y = L at hrd3 hle hmem hf0 ⊢
          have HMEM := Lib.hid hmem
          clear hmem hf hown hb3 hbr hcell hatr hno
          go_loopw [10] (fun iv wr => ∃ (i : Nat), i ≤ L.length ∧ iv = .int .i64 i ∧ Hid ((L.drop i).find? P = f) ∧ Rd wr A L.length (L.map encStr) ∧ Below w2.heap.size w2 wr) (fun iv _ => L.length - (intOf iv).toNat)
          case atStart => exact ⟨0, by omega, rfl, hf0, hrd3, hbA⟩
          case round =>
            clear hf0 hrd3 hbA
            obtain ⟨i, hi, rfl, hff, hrd, hb0⟩ := hrel
            by_cases hlt2 : i < L.length
            · obtain ⟨g, o, rfl, hat⟩ := hrd.at (by omega)
              have hcellp := hat.str hlt2 rfl
              have hpl : (L.getD i []).length = s := HMEM.out _ (by rw [getD_lt _ _ _ hlt2]; exact List.getElem_mem _)
              have HST := Lib.hid (find_drop (P := P) (l := L) [] hlt2)
              generalize L.getD i [] = p at hcellp hpl HST
              have hatw := HAT.out.below hb0
              have hPp : P p = !othersL ws k p := by rw [HP.out]
              have HPP := Lib.hid hPp; clear hPp
              go_wp2_with (fail)
              go_loopw [11, 12] (fun av jv wx => ∃ (j : Nat) (t : Bool), j ≤ n ∧ av = .bool t ∧ jv = .int .i64 j ∧ RdAt wx g0 o0 n (ws.map encStr) ∧ RdAt wx g o L.length (L.map encStr) ∧ Below w2.heap.size w2 wx ∧ Hid (wx.cell? ⟨g, o + i, none⟩ = some (.string ⟨p.toArray⟩)) ∧ Hid ((t && !othersF k p j (ws.drop j)) = P p)) (fun _ jv _ => n - (intOf jv).toNat)
              case atStart => exact ⟨0, true, by omega, rfl, rfl, hatw, hat, hb0, hcellp, by show _ = _; rw [HPP.out]; rfl⟩
              case round =>
                clear hatw hat hb0 hrd hcellp
                obtain ⟨j, t, hj, rfl, rfl, hatw, hat, hbd, hcp, hot⟩ := hrel
                have hcellp := hcp.out
                by_cases hlt3 : j < n
                · have hst := Lib.hid (others_step (ws := ws) (k := k) (p := p) (i := j) (by have := HL.out; omega))
                  have hcellw := hatw.str hlt3 HL.out.symm
                  have hwl : (ws.getD j []).length ≤ 10 := (HALL.out _ (by rw [getD_lt _ _ _ (by have := HL.out; omega)]; exact List.getElem_mem _)).1
                  generalize ws.getD j [] = x at hcellw hwl hst
                  have hla := fun W => rleft_any ⟨x.toArray⟩ ⟨p.toArray⟩ W (by simp [ByteArray.size]; unfold maxLen; omega) (by simp [ByteArray.size]; unfold maxLen; omega)
                  have HLA := Lib.hid hla; clear hla
                  cases t with
                  | false =>
                    have hn2 : Hid ((false && !othersF k p (j + 1) (ws.drop (j + 1))) = P p) := by show _ = _; rw [← hot.out]; simp
                    go_wp2_with (fail)
                    go_quiet (fail)
                    go_wp2_with (fail)
                    exact ⟨⟨j + 1, false, by omega, rfl, by go_num, hatw, hat, below_drewN hbd _, hcp, hn2⟩, by simp [intOf]; omega⟩
                  | true =>
                    by_cases hjk : j = k
                    · have hb : ((j : Int) == (k : Int)) = true := by simp [hjk]
                      have hn2 : Hid ((true && !othersF k p (j + 1) (ws.drop (j + 1))) = P p) := by show _ = _; rw [← hot.out, hst.out, hjk]; simp
                      clear hjk
                      go_wp2_with (fail)
                      go_quiet (fail)
                      go_wp2_with (fail)
                      exact ⟨⟨j + 1, true, by omega, rfl, by go_num, hatw, hat, below_drewN hbd _, hcp, hn2⟩, by simp [intOf]; omega⟩
                    · have hb : ((j : Int) == (k : Int)) = false := by simp; omega
                      have hnb : (j != k) = true := by simpa using hjk
                      have hn2 : Hid ((!leftL x p && !othersF k p (j + 1) (ws.drop (j + 1))) = P p) := by show _ = _; rw [← hot.out, hst.out, hnb]; simp
                      clear hjk hnb
                      go_wp2_with (fail)
                      go_quiet ((go_at_call 28; with_reducible exact Calls.quiet_of (HLA.out _)))
                      go_wp2_with (fail)
                      exact ⟨⟨j + 1, _, by omega, rfl, by go_num, hatw, hat, below_drewN hbd _, hcp, hn2⟩, by simp [intOf]; omega⟩
                · obtain rfl : n = j := by omega
                  have he : othersF k p n (ws.drop n) = false := by rw [List.drop_eq_nil_of_le (by have := HL.out; omega)]; rfl
                  have hPt : P p = t := by rw [← hot.out, he]; simp
                  clear he
                  cases t with
                  | true =>
                    have hr : r = some p := hfound.out p (by rw [← hff.out, HST.out, if_pos hPt])
                    have HR := Lib.hid hr; clear hr hPt
                    go_wp2_with (fail)
                    go_ret2
                    rw [HR.out]
                    exact ⟨rfl, hbd⟩
                  | false =>
                    have hn2 : Hid ((L.drop (i + 1)).find? P = f) := by show _ = _; rw [← hff.out, HST.out, if_neg (by rw [hPt]; decide)]
                    clear hPt
                    go_wp2_with (fail)
                    exact ⟨⟨i + 1, by omega, by go_num, hn2, ⟨by simp, fun h => ⟨g, o, rfl, hat.1, hat.2⟩⟩, hbd⟩, by simp [intOf]; omega⟩
            · obtain rfl : i = L.length := by omega
              have h0 : f = none := by rw [← hff.out, List.drop_eq_nil_of_le (Nat.le_refl _)]; rfl
              have hn2 := Lib.hid (hnext.out h0)
              clear h0
              go_wp2_with (fail)
              exact ⟨⟨s + 1, by omega, by go_num, hn2.out, hb0⟩, by simp [intOf]; omega⟩
        · obtain rfl : s = y.length + 1 := by omega
          have hr : r = none := by rw [← hfr.out]; exact size_none HOK.out hno.out
          have HR := Lib.hid hr; clear hr
          go_wp2_with (fail)
          go_ret2
          rw [HR.out]
          exact ⟨rfl, hbr⟩
end Go.Proofs.Ytalildjhighlhaa
