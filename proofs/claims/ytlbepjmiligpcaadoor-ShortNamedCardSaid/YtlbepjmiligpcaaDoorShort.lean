/-
  The walks of package short's leftOfOthers and Short: each returns what the plain Lean function says.
-/
import Derived.Test.YtlbepjmiligpcaaDoorApart
set_option linter.unusedSimpArgs false
set_option linter.unusedVariables false
namespace Go.Proofs.YtlbepjmiligpcaaDoor
open Go.RowKit Go.Proofs.Short Go.Lib

theorem others_step {ws : List (List UInt8)} {k i : Nat} {p : List UInt8} (hi : i < ws.length) : othersF k p i (ws.drop i) = ((i != k && leftL (ws.getD i []) p) || othersF k p (i + 1) (ws.drop (i + 1))) := by
  rw [List.drop_eq_getElem_cons hi, getD_lt _ _ _ hi]; rfl

set_option maxHeartbeats 400000 in
theorem others_any (A : Option Addr) (n c k : Nat) (ws : List (List UInt8)) (p : List UInt8) (w : World) (hrd : Rd w A n (ws.map encStr)) (hn : n ≤ maxLen) (hl : ∀ x ∈ ws, x.length ≤ maxLen) (hp : p.length ≤ maxLen) :
    Calls Tryd.prog 47 #[.slice A n c, .int .i64 k, .string ⟨p.toArray⟩] w fun e w' => e = .returned (.bool (othersL ws k p)) ∧ ∃ q, w' = w.drewN q := by
  unfold maxLen at hn
  have hlen : ws.length = n := by simpa using hrd.1
  have HL := Lib.hid hlen; have HX := Lib.hid hl; clear hlen hl
  obtain ⟨r, hr⟩ : ∃ r, Hid (othersL ws k p = r) := ⟨_, rfl⟩
  rw [hr.out]
  go_enter Tryd.func47, Tryd.ntmps47
  go_wp2
  go_loopw [11] (fun iv wr => ∃ (i q : Nat), i ≤ n ∧ iv = .int .i64 i ∧ wr = w.drewN q ∧ Hid (othersF k p i (ws.drop i) = r)) (fun iv _ => n - (intOf iv).toNat)
  case atStart => exact ⟨0, 0, Nat.zero_le _, rfl, rfl, hr⟩
  case round =>
    obtain ⟨i, q, hi, rfl, rfl, hf⟩ := hrel
    by_cases hlt : i < n
    · obtain ⟨g, o, rfl, hat⟩ := hrd.at (by omega)
      have hcell := hat.str hlt HL.out.symm
      have hst := others_step (ws := ws) (k := k) (p := p) (i := i) (by have := HL.out; omega)
      have hle : (ws.getD i []).length ≤ maxLen := HX.out _ (by rw [getD_lt _ _ _ (by have := HL.out; omega)]; exact List.getElem_mem _)
      have HST := Lib.hid hst; clear hst
      generalize ws.getD i [] = y at hcell hle HST
      by_cases hik : i = k
      · have hb : ((i : Int) != (k : Int)) = false := by simp [hik]
        have e : othersF k p (i + 1) (ws.drop (i + 1)) = r := by rw [← hf.out, HST.out, hik]; simp
        have HE := Lib.hid e; clear e hik
        go_wp2
        exact ⟨⟨i + 1, q, by omega, by go_num, rfl, HE⟩, by simp [intOf]; omega⟩
      · have hb : ((i : Int) != (k : Int)) = true := by simp; omega
        have hnb : (i != k) = true := by simpa using hik
        have HNB := Lib.hid hnb; clear hnb hik
        cases hly : leftL y p with
        | true =>
          have e : r = true := by rw [← hf.out, HST.out, HNB.out, hly]; rfl
          have HE := Lib.hid e; clear e
          have hc := fun W => left_l y p W hle hp
          rw [hly] at hc
          clear hly
          go_wp2_with (go_at_call 36; refine (hc _).mono ?_; rintro e w3 ⟨rfl, q2, rfl⟩)
          go_ret
          rw [HE.out]
          exact ⟨rfl, _, rfl⟩
        | false =>
          have e : othersF k p (i + 1) (ws.drop (i + 1)) = r := by rw [← hf.out, HST.out, hly]; simp
          have HE := Lib.hid e; clear e
          have hc := fun W => left_l y p W hle hp
          rw [hly] at hc
          clear hly
          go_wp2_with (go_at_call 36; refine (hc _).mono ?_; rintro e w3 ⟨rfl, q2, rfl⟩)
          exact ⟨⟨i + 1, q + q2, by omega, by go_num, rfl, HE⟩, by simp [intOf]; omega⟩
    · have e : r = false := by rw [← hf.out, List.drop_eq_nil_of_le (by have := HL.out; omega)]; rfl
      have HE := Lib.hid e; clear e
      go_wp2
      go_ret
      rw [HE.out]
      exact ⟨rfl, _, rfl⟩

/-! ### Short -/
set_option maxHeartbeats 400000 in
theorem short_many (A : Option Addr) (n c : Nat) (k : Int) (w : World) (hn : 8 < n) (hm : n ≤ maxLen) :
    Calls Tryd.prog 31 #[.slice A n c, .int .i64 k] w fun e w' => e = .returned (.tuple #[.string ⟨#[]⟩, .int .i64 3]) ∧ Below w.heap.size w w' := by
  unfold maxLen at hm
  go_enter Tryd.func31, Tryd.ntmps31
  go_wp2
  go_ret2
  exact ⟨rfl, Below.refl _ _⟩
set_option maxHeartbeats 400000 in
theorem short_chk (A : Option Addr) (n c : Nat) (k : Int) (ws : List (List UInt8)) (w : World) (hrd : Rd w A n (ws.map encStr)) (hn : n ≤ 8) (hl : ∀ x ∈ ws, x.length ≤ maxLen) (hz : chks ws ≠ 0) :
    Calls Tryd.prog 31 #[.slice A n c, .int .i64 k] w fun e w' => e = .returned (.tuple #[.string ⟨#[]⟩, .int .i64 (chks ws)]) ∧ Below w.heap.size w w' := by
  have hz2 : (chks ws != 0) = true := by simp [hz]
  have hC := checkAll_any A n c ws w hrd (by unfold maxLen; omega) hl
  clear hz hrd hl
  go_enter Tryd.func31, Tryd.ntmps31
  go_wp2_with (go_at_call 21; refine hC.mono ?_; rintro e w1 ⟨rfl, hb1⟩)
  go_ret2
  exact ⟨rfl, hb1⟩
set_option maxHeartbeats 400000 in
theorem short_none (A : Option Addr) (n c : Nat) (k : Int) (ws : List (List UInt8)) (w : World) (hrd : Rd w A n (ws.map encStr)) (hn : n ≤ 8) (hl : ∀ x ∈ ws, x.length ≤ maxLen) (hz : chks ws = 0) (hk : k < 0 ∨ (n : Int) ≤ k) :
    Calls Tryd.prog 31 #[.slice A n c, .int .i64 k] w fun e w' => e = .returned (.tuple #[.string ⟨#[]⟩, .int .i64 2]) ∧ Below w.heap.size w w' := by
  have hz2 : (chks ws != 0) = false := by simp [hz]
  have hC := checkAll_any A n c ws w hrd (by unfold maxLen; omega) hl
  clear hz hrd hl
  rcases hk with h | h
  all_goals
    go_enter Tryd.func31, Tryd.ntmps31
    go_wp2_with (go_at_call 21; refine hC.mono ?_; rintro e w1 ⟨rfl, hb1⟩)
    all_goals (go_ret2; exact ⟨rfl, hb1⟩)

theorem chks_all : ∀ {ws : List (List UInt8)}, chks ws = 0 → ∀ x ∈ ws, x.length ≤ 10 ∧ x.all okc = true
  | [], _, x, hx => absurd hx (by simp)
  | y :: l, h, x, hx => by
    unfold chks at h
    by_cases hy : chk y = 0
    · rw [if_pos hy] at h
      rcases List.mem_cons.1 hx with rfl | hx
      · exact chk_zero hy
      · exact chks_all h x hx
    · rw [if_neg hy] at h; exact absurd h hy

set_option maxRecDepth 100000 in
set_option maxHeartbeats 1000000 in
theorem short_ok (hP : PartsOfSaid) (A : Option Addr) (n c k : Nat) (ws : List (List UInt8)) (w : World) (hrd : Rd w A n (ws.map encStr)) (hn : n ≤ 8) (hz : chks ws = 0) (hk : k < n) :
    Calls Tryd.prog 31 #[.slice A n c, .int .i64 k] w fun e w' => e = .returned (optV (shortL ws k) 12) ∧ Below w.heap.size w w' := by
  have hall := chks_all hz
  have hlm : ∀ x ∈ ws, x.length ≤ maxLen := fun x hx => by have := (hall x hx).1; unfold maxLen; omega
  have hz2 : (chks ws != 0) = false := by simp [hz]
  have hC := checkAll_any A n c ws w hrd (by unfold maxLen; omega) hlm
  have hlen : ws.length = n := by simpa using hrd.1
  obtain ⟨g0, o0, rfl, hat0⟩ := hrd.at (show 0 < n by omega)
  have hg0 := hat0.1
  have hx : (ws.getD k []).length ≤ 10 ∧ (ws.getD k []).all okc = true := hall _ (by rw [getD_lt _ _ _ (by omega)]; exact List.getElem_mem _)
  have hcell0 := hat0.str hk hlen.symm
  obtain ⟨r, hr⟩ : ∃ r, Hid (shortL ws k = r) := ⟨_, rfl⟩
  rw [hr.out]
  obtain ⟨P, HP⟩ : ∃ P : List UInt8 → Bool, Hid (P = fun p => !othersL ws k p) := ⟨_, rfl⟩
  have hfr : Hid ((partsL [ws.getD k []]).find? P = r) := by rw [HP.out]; exact hr.out
  have hO := fun (p : List UInt8) (hp : p.length ≤ maxLen) W (h : Rd W (some ⟨g0, o0, none⟩) n (ws.map encStr)) => others_any (some ⟨g0, o0, none⟩) n c k ws p W h (by unfold maxLen; omega) hlm hp
  have HRD := Lib.hid hrd; have HX := Lib.hid hx; have HO := Lib.hid hO; have HC0 := Lib.hid hcell0
  clear hr hall hlm hz hlen hrd hx hO hat0 hcell0
  generalize hy : ws.getD k [] = y at HX HC0 hfr
  clear hy
  have hpl : (partsL [y]).length ≤ 1024 := by simpa using partsL_length [y] (by simpa using HX.out.1)
  have hpp := partsL_pos [y] (by simp)
  have hple := parts_le (ws := [y]) (by simpa using HX.out.1)
  have HPLE := Lib.hid hple; clear hple
  go_enter Tryd.func31, Tryd.ntmps31
  go_wp2_with (first
      | (go_at_call 21; refine hC.mono ?_; rintro e w1 ⟨rfl, hb1⟩; have hcell1 := (hb1.cell (p := ⟨g0, o0 + k, none⟩) hg0).trans HC0.out)
      | (go_at_call 23; refine (parts_one_at hP y HX.out _ _ _ rfl).mono ?_; rintro e w2 ⟨A, c2, rfl, hown, hb2⟩))
  obtain ⟨g, o, rfl, hat⟩ := (rd_own hown).at hpp
  have hbA : Below w.heap.size w w2 := hb1.trans (hb2.mono hb1.size)
  have hple := HPLE.out; clear HPLE
  generalize partsL [y] = ps at hown hat hple hpl hpp hfr ⊢
  have HPLE := Lib.hid hple; clear hple
  clear hown hb2 hcell1
  go_loopw [32] (fun i wr => ∃ (j : Nat), j ≤ ps.length ∧ i = .int .i64 j ∧ RdAt wr g o ps.length (ps.map encStr) ∧ Hid ((ps.drop j).find? P = r) ∧ Below w.heap.size w wr)
    (fun i _ => ps.length - (intOf i).toNat)
  case atStart => exact ⟨0, Nat.zero_le _, rfl, hat, hfr, hbA⟩
  case round =>
    obtain ⟨j, hj, rfl, hrdp, hf, hbr⟩ := hrel
    by_cases hlt : j < ps.length
    · have hcell := hrdp.str hlt rfl
      have hst := find_drop (P := P) (l := ps) [] hlt
      have hle : (ps.getD j []).length ≤ maxLen := by
        have := HPLE.out (ps.getD j []) (by rw [getD_lt _ _ _ hlt]; exact List.getElem_mem _)
        unfold maxLen; omega
      have HST := Lib.hid hst; clear hst
      generalize ps.getD j [] = q at hcell hle HST
      have hPq : P q = !othersL ws k q := by rw [HP.out]
      have HPQ := Lib.hid hPq; clear hPq
      have hc := HO.out q hle wr (HRD.out.below hbr)
      cases ho : othersL ws k q with
      | false =>
        have hr : r = some q := by rw [← hf.out, HST.out, HPQ.out, ho]; rfl
        have HR := Lib.hid hr; clear hr
        rw [ho] at hc
        clear ho
        go_wp2_with (go_at_call 47; refine hc.mono ?_; rintro e w3 ⟨rfl, m, rfl⟩)
        go_ret2
        rw [HR.out]
        exact ⟨rfl, below_drewN hbr _⟩
      | true =>
        have hr : (ps.drop (j + 1)).find? P = r := by rw [← hf.out, HST.out, HPQ.out, ho]; rfl
        have HR := Lib.hid hr; clear hr
        rw [ho] at hc
        clear ho
        go_wp2_with (go_at_call 47; refine hc.mono ?_; rintro e w3 ⟨rfl, m, rfl⟩)
        exact ⟨⟨j + 1, by omega, by go_num, hrdp, HR, below_drewN hbr _⟩, by simp [intOf]; omega⟩
    · have hr : r = none := by rw [← hf.out, List.drop_eq_nil_of_le (by omega)]; rfl
      have HR := Lib.hid hr; clear hr
      go_wp2
      go_ret2
      rw [HR.out]
      exact ⟨rfl, hbr⟩
end Go.Proofs.YtlbepjmiligpcaaDoor
