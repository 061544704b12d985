/-
  The statements' helpers list, same and alike.
-/
import Derived.Test.YtbkmicimpgabgaaDoorLane
import Derived.Deep.RegionLaw
import Derived.Deep.AppendLies
set_option linter.unusedSimpArgs false
set_option linter.unusedVariables false
namespace Go.Proofs.YtbkmicimpgabgaaDoor
open Go.RowKit Go.Lib Go.Proofs.Quire

theorem list_any (A : Option Addr) (n c : Nat) (w : World) : Calls Tryd.prog 31 #[.slice A n c] w fun e w' => e = .returned (.slice A n c) ∧ w' = w := by
  go_enter Tryd.func31, Tryd.ntmps31
  go_wp2
  go_ret
  exact ⟨rfl, rfl⟩
theorem eq_drop {α : Type} [DecidableEq α] {l l' : List α} {k : Nat} (hl : l.length = l'.length) (d : α) (hk : k < l.length) : decide (l.drop k = l'.drop k) = (decide (l.getD k d = l'.getD k d) && decide (l.drop (k + 1) = l'.drop (k + 1))) := by
  rw [drop_cons l k d hk, drop_cons l' k d (by omega), Bool.eq_iff_iff]
  simp only [decide_eq_true_eq, Bool.and_eq_true, List.cons.injEq]
set_option maxRecDepth 100000 in
set_option maxHeartbeats 1000000 in
theorem same_any (A A' : Option Addr) (c c' : Nat) (l l' : List Nat) (w : World) (h : Rd w A l.length (ints l)) (h' : Rd w A' l'.length (ints l')) (hn : l.length ≤ maxLen) (hn' : l'.length ≤ maxLen) :
    Calls Tryd.prog 12 #[.slice A l.length c, .slice A' l'.length c'] w fun e w' => e = .returned (.bool (decide (l = l'))) ∧ ∃ q, w' = w.drewN q := by
  unfold maxLen at hn hn'
  obtain ⟨r, hr⟩ : ∃ r, Hid (decide (l = l') = r) := ⟨_, rfl⟩
  rw [hr.out]
  obtain ⟨n, hl⟩ : ∃ n, Hid (l.length = n) := ⟨_, rfl⟩
  obtain ⟨n', hl'⟩ : ∃ n', Hid (l'.length = n') := ⟨_, rfl⟩
  rw [hl.out] at h hn ⊢
  rw [hl'.out] at h' hn' ⊢
  by_cases hne : n = n'
  · subst hne
    have hb : ((n : Int) != (n : Int)) = false := by simp
    have hr0 : Hid (decide (l.drop 0 = l'.drop 0) = r) := hr.out
    go_enter Tryd.func12, Tryd.ntmps12
    go_wp2_with (fail)
    go_loopw [5] (fun i wr => ∃ (k q : Nat), k ≤ n ∧ i = .int .i64 k ∧ wr = w.drewN q ∧ Hid (decide (l.drop k = l'.drop k) = r)) (fun i _ => n - (RowKit.intOf i).toNat)
    case atStart => exact ⟨0, 0, Nat.zero_le _, rfl, rfl, hr0⟩
    case round =>
      obtain ⟨k, q, hk, rfl, rfl, hf⟩ := hrel
      by_cases hlt : k < n
      · obtain ⟨g, o, rfl, _, _, hat⟩ := h.2 (by omega)
        obtain ⟨g', o', rfl, _, _, hat'⟩ := h'.2 (by omega)
        have hkl : k < l.length := by rw [hl.out]; exact hlt
        have hkl' : k < l'.length := by rw [hl'.out]; exact hlt
        have hc := hat k hlt
        have hc' := hat' k hlt
        rw [ints_getD _ _ hkl] at hc
        rw [ints_getD _ _ hkl'] at hc'
        have hst := eq_drop (l := l) (l' := l') (k := k) (by rw [hl.out, hl'.out]) 0 hkl
        have HST := Lib.hid hst; clear hst hat hat'
        generalize l.getD k 0 = x at hc HST
        generalize l'.getD k 0 = y at hc' HST
        by_cases hxy : x = y
        · have hb2 : ((x : Int) != (y : Int)) = false := by simp [hxy]
          have e : decide (l.drop (k + 1) = l'.drop (k + 1)) = r := by rw [← hf.out, HST.out, hxy]; simp
          have HE := Lib.hid e; clear e hxy
          go_wp2_with (fail)
          go_quiet (fail)
          go_wp2_with (fail)
          exact ⟨⟨k + 1, q + nq, by omega, by go_num, rfl, HE⟩, by simp [RowKit.intOf]; omega⟩
        · have hb2 : ((x : Int) != (y : Int)) = true := by simp; omega
          have e : r = false := by rw [← hf.out, HST.out]; simp [hxy]
          have HE := Lib.hid e; clear e hxy
          go_wp2_with (fail)
          go_quiet (fail)
          go_wp2_with (fail)
          go_ret
          rw [HE.out]
          exact ⟨rfl, q + nq, by rw [World.drewN_drewN]⟩
      · have e : r = true := by rw [← hf.out, List.drop_eq_nil_of_le (by rw [hl.out]; omega), List.drop_eq_nil_of_le (by rw [hl'.out]; omega)]; simp
        have HE := Lib.hid e; clear e
        go_wp2_with (fail)
        go_ret
        rw [HE.out]
        exact ⟨rfl, _, rfl⟩
  · have hb : ((n : Int) != (n' : Int)) = true := by simp; omega
    have e : r = false := by rw [← hr.out]; exact decide_eq_false (fun e => hne (by rw [← hl.out, ← hl'.out, e]))
    have HE := Lib.hid e; clear e hne
    go_enter Tryd.func12, Tryd.ntmps12
    go_wp2_with (fail)
    go_ret
    rw [HE.out]
    exact ⟨rfl, 0, rfl⟩
set_option maxRecDepth 100000 in
set_option maxHeartbeats 1000000 in
theorem alike_any (A A' : Option Addr) (c c' : Nat) (l l' : List (Int × Int)) (w : World) (h : RdP w A l.length l) (h' : RdP w A' l'.length l') (hn : l.length ≤ 1000) (hn' : l'.length ≤ 1000) :
    Calls Tryd.prog 34 #[.slice A l.length c, .slice A' l'.length c'] w fun e w' => e = .returned (.bool (decide (l = l'))) ∧ ∃ q, w' = w.drewN q := by
  obtain ⟨r, hr⟩ : ∃ r, Hid (decide (l = l') = r) := ⟨_, rfl⟩
  rw [hr.out]
  obtain ⟨n, hl⟩ : ∃ n, Hid (l.length = n) := ⟨_, rfl⟩
  obtain ⟨n', hl'⟩ : ∃ n', Hid (l'.length = n') := ⟨_, rfl⟩
  rw [hl.out] at h hn ⊢
  rw [hl'.out] at h' hn' ⊢
  by_cases hne : n = n'
  · subst hne
    have hb : ((n : Int) != (n : Int)) = false := by simp
    have hr0 : Hid (decide (l.drop 0 = l'.drop 0) = r) := hr.out
    go_enter Tryd.func34, Tryd.ntmps34
    go_wp2_with (fail)
    go_loopw [5] (fun i wr => ∃ (k q : Nat), k ≤ n ∧ i = .int .i64 k ∧ wr = w.drewN q ∧ Hid (decide (l.drop k = l'.drop k) = r)) (fun i _ => n - (RowKit.intOf i).toNat)
    case atStart => exact ⟨0, 0, Nat.zero_le _, rfl, rfl, hr0⟩
    case round =>
      obtain ⟨k, q, hk, rfl, rfl, hf⟩ := hrel
      by_cases hlt : k < n
      · obtain ⟨g, o, rfl, _, hat⟩ := h.2 (by omega)
        obtain ⟨g', o', rfl, _, hat'⟩ := h'.2 (by omega)
        have hkl : k < l.length := by rw [hl.out]; exact hlt
        obtain ⟨c1, c2⟩ := hat k hlt
        obtain ⟨c3, c4⟩ := hat' k hlt
        have hst := eq_drop (l := l) (l' := l') (k := k) (by rw [hl.out, hl'.out]) (0, 0) hkl
        have HST : Hid (decide (l.drop k = l'.drop k) = (decide (ptAt l k = ptAt l' k) && decide (l.drop (k + 1) = l'.drop (k + 1)))) := hst
        clear hst hat hat'
        generalize ptAt l k = x at c1 c2 HST
        generalize ptAt l' k = y at c3 c4 HST
        obtain ⟨x1, x2⟩ := x
        obtain ⟨y1, y2⟩ := y
        simp only at c1 c2 c3 c4
        have heq := eq_pair x1 x2 y1 y2
        by_cases hxy : x1 = y1 ∧ x2 = y2
        · have hb2 : (x1 == y1 && x2 == y2) = true := by simp [hxy]
          have e : decide (l.drop (k + 1) = l'.drop (k + 1)) = r := by rw [← hf.out, HST.out, hxy.1, hxy.2]; simp
          have HE := Lib.hid e; clear e hxy
          go_wp2_with (fail)
          go_quiet (fail)
          go_wp2_with (fail)
          exact ⟨⟨k + 1, q + nq, by omega, by go_num, rfl, HE⟩, by simp [RowKit.intOf]; omega⟩
        · have hb2 : (x1 == y1 && x2 == y2) = false := by simpa using hxy
          have e : r = false := by rw [← hf.out, HST.out]; simp; intro h1 h2; exact absurd ⟨h1, h2⟩ hxy
          have HE := Lib.hid e; clear e hxy
          go_wp2_with (fail)
          go_quiet (fail)
          go_wp2_with (fail)
          go_ret
          rw [HE.out]
          exact ⟨rfl, q + nq, by rw [World.drewN_drewN]⟩
      · have e : r = true := by rw [← hf.out, List.drop_eq_nil_of_le (by rw [hl.out]; omega), List.drop_eq_nil_of_le (by rw [hl'.out]; omega)]; simp
        have HE := Lib.hid e; clear e
        go_wp2_with (fail)
        go_ret
        rw [HE.out]
        exact ⟨rfl, _, rfl⟩
  · have hb : ((n : Int) != (n' : Int)) = true := by simp; omega
    have e : r = false := by rw [← hr.out]; exact decide_eq_false (fun e => hne (by rw [← hl.out, ← hl'.out, e]))
    have HE := Lib.hid e; clear e hne
    go_enter Tryd.func34, Tryd.ntmps34
    go_wp2_with (fail)
    go_ret
    rw [HE.out]
    exact ⟨rfl, 0, rfl⟩
def PtsPost (P : List (Int × Int)) (w : World) (e : Ending) (w' : World) : Prop := ∃ A c, e = .returned (.slice A P.length c) ∧ RdP w' A P.length P ∧ Below w.heap.size w w'
set_option maxRecDepth 100000 in
set_option maxHeartbeats 4000000 in
theorem points_any (A : Option Addr) (c : Nat) (P : List (Int × Int)) (w : World) (h : Rd w A (2 * P.length) (pvals P)) (hn : P.length ≤ 100) :
    Calls Tryd.prog 35 #[.slice A ((2 * P.length : Nat)) c] w (PtsPost P w) := by
  obtain ⟨i0, hi, hz0, hz1, hz2⟩ := info_parts Tryd.infoP
  obtain ⟨n, hl⟩ : ∃ n, Hid (P.length = n) := ⟨_, rfl⟩
  rw [hl.out] at h hn ⊢
  have H := Lib.hid h; clear h
  go_enter Tryd.func35, Tryd.ntmps35
  go_wp2_with (fail)
  go_loopw [3, 4] (fun v i wr => ∃ (k : Nat) (A1 : Option Addr) (c1 : Nat), k ≤ n ∧ v = .slice A1 k c1 ∧ i = .int .i64 ((2 * k : Nat) : Int) ∧ wr.ownsRow w.heap.size 62 2 (.slice A1 k c1) k (pvals (P.take k)) ∧ Below w.heap.size w wr) (fun _ i _ => 2 * n - (RowKit.intOf i).toNat)
  case atStart => exact ⟨0, none, 0, Nat.zero_le _, rfl, rfl, ⟨rfl, .inl ⟨rfl, rfl⟩⟩, Below.refl _ _⟩
  case round =>
    obtain ⟨k, A1, c1, hk, rfl, rfl, hown, hbr⟩ := hrel
    by_cases hlt : k < n
    · obtain ⟨g, o, rfl, hg, _, hc⟩ := H.out.2 (by omega)
      have hkp : k < P.length := by rw [hl.out]; exact hlt
      obtain ⟨p1, p2⟩ := pvals_get P k hkp
      have d1 := (hbr.cell (p := ⟨g, o + k * 2, none⟩) hg).trans (hc (k * 2) (by omega))
      have d2 := (hbr.cell (p := ⟨g, o + (k * 2 + 1), none⟩) hg).trans (hc (k * 2 + 1) (by omega))
      rw [List.getD_eq_getElem?_getD, p1, Option.getD_some] at d1
      rw [List.getD_eq_getElem?_getD, p2, Option.getD_some] at d2
      rw [show k * 2 = 2 * k by omega] at d1 d2
      have htk : Hid (pvals (P.take (k + 1)) = pvals (P.take k) ++ [.int .i64 (ptAt P k).1, .int .i64 (ptAt P k).2]) := by
        show _ = _; rw [take_succ P k (0, 0) hkp, pvals_snoc]; rfl
      generalize ptAt P k = pt at d1 d2 htk
      obtain ⟨x, y⟩ := pt
      simp only at d1 d2
      have e0 : ((2 * k : Nat) : Int) = 2 * (k : Int) := by omega
      have e1 : IntKind.i64.wrap (2 * (k : Int) + 1) = 2 * (k : Int) + 1 := by rw [IntKind.wrap_i64]; omega
      have e2 : (2 * (k : Int) + 1).toNat = 2 * k + 1 := by omega
      have e3 : (2 * (k : Int)).toNat = 2 * k := by omega
      have e4 : (0 : Int) ≤ 2 * (k : Int) := by omega
      have e5 : (0 : Int) ≤ 2 * (k : Int) + 1 := by omega
      have e6 : 2 * (k : Int) + 1 < 2 * (n : Int) := by omega
      have e7 : 2 * (k : Int) < 2 * (n : Int) := by omega
      have hk1 : k + 1 ≤ maxLen := by unfold maxLen; omega
      have hk2 : (k + 1) * 16 ≤ 140737488355328 := by omega
      have hsz := hbr.size
      clear hc p1 p2
      go_wp2_with (fail)
      go_region_law (refine step_append_lies _ rfl (.tmp 12) (.tmp 23) 47 rfl w.heap.size 62 i0 (.agg #[.int .i64 0, .int .i64 0]) 2 16 Tryd.underlying47 hi hz0 hz1 hz2 rfl (by decide) (.slice A1 k c1) k (pvals (P.take k)) rfl ?n0 ⟨wr.heap.size, 0, none⟩ 1 1 [.int .i64 x, .int .i64 y] rfl rfl ?n1 ?n2 (by decide) hk1 hk2 ?n3 (wr.heap.size + 1) ?n4 (fun g5 c5 w5 hown5 hg5 hloc hlt5 => ?_); (case n0 => exact hown.alloc _); (case n1 => (intro j u hj; match j, hj with | 0, hj => (simp at hj; subst hj; try (first | rfl | simp [Addr.add])) | 1, hj => (simp at hj; subst hj; try (first | rfl | simp [Addr.add])))); (case n2 => (intro u hu; simp at hu; rcases hu with rfl | rfl <;> rfl)); (case n3 => (first | omega | (simp; done) | (simp; omega))); (case n4 => (first | rfl | simp)))
      all_goals
        have hgx : (wr.alloc (.cells #[.int .i64 x, .int .i64 y] 62)).grownBy w5 (.slice A1 k c1 : Value).ownBlock := ⟨hg5.os, hg5.tape, hg5.output, hg5.size, hg5.block⟩
        have hown6 : w5.ownsRow w.heap.size 62 2 (.slice (some ⟨g5, 0, none⟩) (k + 1) c5) (k + 1) (pvals (P.take (k + 1))) := by
          rw [htk.out]; exact hown5
        have hb5 : Below w.heap.size w w5 := (hbr.alloc hsz (.cells #[.int .i64 x, .int .i64 y] 62)).grown hgx (by simp; omega) (fun k' e => (hown.lt k' e).1)
        clear hg5 hgx hloc hown hown5 hbr hlt5 htk
        go_wp2
        exact ⟨⟨k + 1, some ⟨g5, 0, none⟩, c5, by omega, rfl, by go_num, hown6, hb5⟩, by simp [RowKit.intOf]; omega⟩
    · obtain rfl : n = k := by omega
      have e1 : P.take n = P := by rw [← hl.out, List.take_length]
      rw [e1] at hown
      have hrd := own_rdP hown hl.out
      have HR := Lib.hid hrd
      have e2 : ¬ (2 * (n : Int) + 1 < 2 * (n : Int)) := by omega
      clear e1 hown hrd
      go_wp2_with (fail)
      go_ret
      exact ⟨A1, c1, by rw [hl.out]; rfl, by rw [hl.out]; exact HR.out, hbr⟩
end Go.Proofs.YtbkmicimpgabgaaDoor
