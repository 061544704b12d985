/-
  The reference's all, log, shaped, clash, Why, Proves and Folds.
-/
import Derived.Test.YtbkmicimpgabgaaDoorRefF
import Derived.Test.YtbkmicimpgabgaaDoorFoldHa
import Derived.Deep.RegionLaw
import Derived.Deep.AppendLies
import Derived.Test.YtbkmicimpgabgaaDoorRefW
import Derived.Test.YtbkmicimpgabgaaDoorProves
import Derived.Test.YtbkmicimpgabgaaDoorRefS
import Derived.Test.YtbkmicimpgabgaaDoorClashM
set_option linter.unusedSimpArgs false
set_option linter.unusedVariables false
namespace Go.Proofs.Quire
def allL : Nat → List (List UInt8)
  | 0 => [[]]
  | k + 1 => (allL k).flatMap fun l => [l ++ [111], l ++ [117]]
theorem allL_mem : ∀ k l, l ∈ allL k → l.length = k ∧ ∀ c ∈ l, c = 111 ∨ c = 117
  | 0, l, h => by simp [allL] at h; subst h; simp
  | k + 1, l, h => by
    rw [allL, List.mem_flatMap] at h
    obtain ⟨y, hy, h⟩ := h
    obtain ⟨h1, h2⟩ := allL_mem k y hy
    simp at h
    rcases h with rfl | rfl
    · refine ⟨by simp [h1], fun c hc => ?_⟩
      rcases List.mem_append.1 hc with hc | hc
      · exact h2 c hc
      · rw [List.mem_singleton.1 hc]; exact .inl rfl
    · refine ⟨by simp [h1], fun c hc => ?_⟩
      rcases List.mem_append.1 hc with hc | hc
      · exact h2 c hc
      · rw [List.mem_singleton.1 hc]; exact .inr rfl
theorem mem_allL : ∀ k l, l.length = k → (∀ c ∈ l, c = 111 ∨ c = 117) → l ∈ allL k
  | 0, l, h, _ => by rw [List.length_eq_zero_iff.1 h]; simp [allL]
  | k + 1, l, h, hc => by
    obtain ⟨y, b, rfl⟩ : ∃ y b, l = y ++ [b] := by
      have hne : l ≠ [] := fun e => by rw [e] at h; simp at h
      exact ⟨l.dropLast, l.getLast hne, (List.dropLast_concat_getLast hne).symm⟩
    rw [allL, List.mem_flatMap]
    refine ⟨y, mem_allL k y (by simp at h; exact h) (fun c h => hc c (List.mem_append_left _ h)), ?_⟩
    rcases hc b (by simp) with rfl | rfl <;> simp
theorem allL_len : ∀ k, (allL k).length = 2 ^ k
  | 0 => rfl
  | k + 1 => by
    rw [allL, List.length_flatMap, Nat.pow_succ, ← allL_len k]
    generalize allL k = L
    induction L with
    | nil => rfl
    | cons a L ih => simp at ih ⊢; omega
end Go.Proofs.Quire
namespace Go.Proofs.YtbkmicimpgabgaaDoor
open Go.RowKit Go.Lib Go.Proofs.Quire

/-- strings as values -/
def strsV (L : List (List UInt8)) : List Value := L.map fun l => Value.string ⟨l.toArray⟩
@[simp] theorem strsV_length (L : List (List UInt8)) : (strsV L).length = L.length := by simp [strsV]
theorem strsV_getD (L : List (List UInt8)) (k : Nat) (h : k < L.length) (d : Value) : (strsV L).getD k d = .string ⟨(L.getD k []).toArray⟩ := by
  rw [getD_lt _ _ _ (by simpa using h), getD_lt _ _ _ h]; simp [strsV]
theorem Tryd.infoS : (Tryd.prog.info? 9).map (fun i => (i.zero, i.size, i.bytes)) = some (some (.string ByteArray.empty), 1, 16) := by kernel_rfl
def AllPost (L : List (List UInt8)) (w : World) (e : Ending) (w' : World) : Prop := ∃ A c, e = .returned (.slice A L.length c) ∧ Rd w' A L.length (strsV L) ∧ Below w.heap.size w w'
theorem rall_zero (w : World) : Calls Tryd.prog 46 #[.int .i64 0] w (AllPost (allL 0) w) := by
  have hrd : Rd (w.alloc (.cells #[.string ⟨#[]⟩] 9)) (some ⟨w.heap.size, 0, none⟩) 1 [.string ⟨#[]⟩] := (Arr.new w [.string ⟨#[]⟩] 9).rd (X := []) (by simp)
  have hb : Below w.heap.size w (w.alloc (.cells #[.string ⟨#[]⟩] 9)) := (Below.refl _ w).alloc (Nat.le_refl _) _
  have HRD := Lib.hid hrd; have HB := Lib.hid hb
  clear hrd hb
  go_enter Tryd.func46, Tryd.ntmps46
  go_wp2_with (fail)
  go_ret
  exact ⟨some ⟨w.heap.size, 0, none⟩, 1, rfl, HRD.out, HB.out⟩
set_option maxRecDepth 100000 in
set_option maxHeartbeats 4000000 in
theorem rall_succ (k : Nat) (w : World) (hk : k ≤ 5) (ih : ∀ (z : Int) (W : World), z = (k : Int) → Calls Tryd.prog 46 #[.int .i64 z] W (AllPost (allL k) W)) :
    Calls Tryd.prog 46 #[.int .i64 ((k : Int) + 1)] w (AllPost (allL (k + 1)) w) := by
  obtain ⟨i0, hi, hz0, hz1, hz2⟩ := info_parts Tryd.infoS
  obtain ⟨r, hr⟩ : ∃ r, Hid (allL (k + 1) = r) := ⟨_, rfl⟩
  rw [hr.out]
  have hst : Hid ([] ++ ((allL k).drop 0).flatMap (fun l => [l ++ [111], l ++ [117]]) = r) := by show _ = _; rw [← hr.out]; rfl
  have hlk : Hid (∀ l ∈ allL k, l.length = k) := fun l h => (allL_mem k l h).1
  have hln := allL_len k
  have h32 : (allL k).length ≤ 32 := by rw [hln]; exact Nat.le_trans (Nat.pow_le_pow_right (by omega) hk) (by decide)
  have hrl : Hid (r.length = 2 * (allL k).length) := by show _ = _; rw [← hr.out, allL_len, hln, Nat.pow_succ]; omega
  have hb0 : ((k : Int) + 1 == 0) = false := by simp; omega
  have HI := Lib.hid ih
  generalize allL k = l1 at hst hlk h32 hrl HI
  obtain ⟨n, hn⟩ : ∃ n, Hid (l1.length = n) := ⟨_, rfl⟩
  rw [hn.out] at h32 hrl
  unfold AllPost at HI
  rw [hn.out] at HI
  clear hr ih hln
  go_enter Tryd.func46, Tryd.ntmps46
  go_wp2_with (go_at_call 46; refine (HI.out _ _ (by omega)).mono ?_; rintro e w1 ⟨A1, c1, rfl, hrd1, hb1⟩)
  go_loopw [3, 5] (fun v3 v5 wr => ∃ (i m : Nat) (A : Option Addr) (c : Nat) (acc : List (List UInt8)), i ≤ n ∧ v5 = .int .i64 i ∧ v3 = .slice A m c ∧ Hid (acc.length = m) ∧ Hid (m = 2 * i) ∧
      wr.ownsRow w1.heap.size 9 1 (.slice A m c) m (strsV acc) ∧ Below w1.heap.size w1 wr ∧ Hid (acc ++ (l1.drop i).flatMap (fun l => [l ++ [111], l ++ [117]]) = r)) (fun _ v _ => n - (RowKit.intOf v).toNat)
  case atStart => exact ⟨0, 0, none, 0, [], Nat.zero_le _, rfl, rfl, rfl, rfl, ⟨rfl, .inl ⟨rfl, rfl⟩⟩, Below.refl _ _, hst⟩
  case round =>
    clear hst
    obtain ⟨i, m, A, c, acc, hi2, rfl, rfl, hacc, hm, hown, hbr, hf⟩ := hrel
    by_cases hlt : i < n
    · have hil : i < l1.length := by rw [hn.out]; exact hlt
      obtain ⟨g1, o1, rfl, hg1, _, hat⟩ := hrd1.2 (by omega)
      have hcell := (hbr.cell (p := ⟨g1, o1 + i, none⟩) hg1).trans (hat i hlt)
      rw [strsV_getD _ _ hil] at hcell
      have hyl : (l1.getD i []).length = k := hlk.out _ (by rw [getD_lt _ _ _ hil]; exact List.getElem_mem _)
      have hst2 : Hid ((acc ++ [l1.getD i [] ++ [111], l1.getD i [] ++ [117]]) ++ (l1.drop (i + 1)).flatMap (fun l => [l ++ [111], l ++ [117]]) = r) := by
        show _ = _; rw [← hf.out, drop_cons l1 i [] hil, List.flatMap_cons, List.append_assoc]
      generalize l1.getD i [] = y at hcell hyl hst2
      obtain ⟨ys, hys⟩ : ∃ ys : ByteArray, ys = ⟨y.toArray⟩ := ⟨_, rfl⟩
      have hsv : Hid (strsV acc ++ [.string (ys ++ ⟨#[111]⟩), .string (ys ++ ⟨#[117]⟩)] = strsV (acc ++ [y ++ [111], y ++ [117]])) := by
        show _ = _; rw [hys, ByteArray.mk_append_mk, ByteArray.mk_append_mk]; simp [strsV]
      have hysz : ys.size = k := by rw [hys]; show y.toArray.size = _; simp [hyl]
      rw [← hys] at hcell
      have hadd : ¬ 9223372036854775807 < ys.size + 1 := by omega
      have hadd2 : ¬ 9223372036854775807 < k + 1 := by omega
      have hm2 : m + 2 ≤ maxLen := by have := hm.out; unfold maxLen; omega
      have hby : (m + 2) * 16 ≤ 140737488355328 := by have := hm.out; omega
      have HM2 : Hid (m + 2 = 2 * (i + 1)) := by show _ = _; have := hm.out; omega
      have hsz := hbr.size
      have HACC : Hid ((acc ++ [y ++ [111], y ++ [117]]).length = m + 2) := by show _ = _; rw [List.length_append, hacc.out]; rfl
      obtain ⟨xq, hxq⟩ : ∃ xq, Hid (strsV acc = xq) := ⟨_, rfl⟩
      rw [hxq.out] at hown hsv
      generalize acc ++ [y ++ [111], y ++ [117]] = acc2 at hst2 hsv HACC
      clear hat hf hys hyl hacc hxq
      go_wp2_with (fail)
      go_region_law (refine step_append_lies _ rfl (.tmp 18) (.tmp 29) 66 rfl w1.heap.size 9 i0 (.string ByteArray.empty) 1 16 Tryd.underlying66 hi hz0 hz1 hz2 rfl (by decide) (.slice A m c) m xq rfl ?n0 ⟨wr.heap.size, 0, none⟩ 2 2 [.string (ys ++ ⟨#[111]⟩), .string (ys ++ ⟨#[117]⟩)] rfl rfl ?n1 ?n2 (by decide) hm2 hby ?n3 (wr.heap.size + 1) ?n4 (fun g5 c5 w5 hown5 hg5 hloc hlt5 => ?_); (case n0 => exact hown.alloc _); (case n1 => (intro j u hj; match j, hj with | 0, hj => (simp at hj; subst hj; try (first | rfl | simp [Addr.add])) | 1, hj => (simp at hj; subst hj; try (first | rfl | simp [Addr.add])))); (case n2 => (intro u hu; simp at hu; rcases hu with rfl | rfl <;> rfl)); (case n3 => (first | omega | (simp; done) | (simp; omega))); (case n4 => (first | rfl | simp)))
      all_goals
        have hgx : (wr.alloc (.cells #[.string (ys ++ ⟨#[111]⟩), .string (ys ++ ⟨#[117]⟩)] 9)).grownBy w5 (.slice A m c : Value).ownBlock := ⟨hg5.os, hg5.tape, hg5.output, hg5.size, hg5.block⟩
        have hb5 : Below w1.heap.size w1 w5 := (hbr.alloc hsz (.cells #[.string (ys ++ ⟨#[111]⟩), .string (ys ++ ⟨#[117]⟩)] 9)).grown hgx (by simp; omega) (fun k' e => (hown.lt k' e).1)
        rw [hsv.out] at hown5
        clear hg5 hgx hloc hown hbr hlt5 hcell
        go_wp2_with (fail)
        exact ⟨⟨i + 1, m + 2, some ⟨g5, 0, none⟩, c5, acc2, by omega, by go_num, rfl, HACC, HM2, hown5, hb5, hst2⟩, by simp [RowKit.intOf]; omega⟩
    · obtain rfl : n = i := by omega
      have hR : Hid (acc = r) := by show _ = _; rw [← hf.out, List.drop_eq_nil_of_le (by rw [hn.out]; exact Nat.le_refl _)]; simp
      rw [hR.out] at hown
      have hrm : r.length = m := by rw [← hR.out]; exact hacc.out
      have hrd : Rd wr A m (strsV r) := own_rd hown (X := []) (by simp)
      have HRD := Lib.hid hrd; have HRM := Lib.hid hrm
      have hbE := hb1.trans (hbr.mono hb1.size)
      clear hown hf hR hrd hrm
      go_wp2_with (fail)
      go_ret
      exact ⟨A, c, by rw [HRM.out]; rfl, by rw [HRM.out]; exact HRD.out, hbE⟩
theorem rall_any : ∀ (k : Nat), k ≤ 6 → ∀ (z : Int) (W : World), z = (k : Int) → Calls Tryd.prog 46 #[.int .i64 z] W (AllPost (allL k) W)
  | 0, _, z, W, hz => by subst hz; exact rall_zero W
  | k + 1, hk, z, W, hz => by
    have e : z = (k : Int) + 1 := by omega
    subst e
    exact rall_succ k W (by omega) (rall_any k (by omega))
end Go.Proofs.YtbkmicimpgabgaaDoor
namespace Go.Proofs.Quire
/-- which power of two a number is, or -1 -/
def logF : Nat → Nat → Nat → Int
  | 0, _, _ => -1
  | f + 1, k, n => if 2 ^ k = n then k else logF f (k + 1) n
def logR (n : Nat) : Int := logF 7 0 n
theorem log_ones : ∀ n, n < 65 → decide (logR n < 0) = !(onesN n == 1) := by decide +kernel
theorem log_pow : ∀ k : Nat, k < 7 → logR (2 ^ k) = (k : Int) := by decide +kernel
theorem log_of {n : Nat} (h : n < 65) (h1 : onesN n = 1) : ∃ k : Nat, k ≤ 6 ∧ n = 2 ^ k ∧ logR n = (k : Int) := by
  have : ∀ n, n < 65 → onesN n = 1 → ((List.range 7).any fun k => n == 2 ^ k) = true := by decide +kernel
  obtain ⟨k, hk, e⟩ := List.any_eq_true.1 (this n h h1)
  have hk := List.mem_range.1 hk
  have e : n = 2 ^ k := by simpa using e
  exact ⟨k, by omega, e, by rw [e]; exact log_pow k hk⟩
/-- two numbers that are halved while both are even -/
def clC (p q : Nat) (b : Bool) : Bool := if tzN p = tzN q then b != decide ((oddN q - oddN p) % 4 = 0) else false
theorem tz_half : ∀ p, p < 65 → 0 < p → p % 2 = 0 → tzN p = tzN (p / 2) + 1 ∧ oddN p = oddN (p / 2) := by decide +kernel
theorem tz_odd : ∀ p, p < 65 → p % 2 = 1 → tzN p = 0 ∧ oddN p = p := by decide +kernel
theorem clC_half {p q : Nat} (hp : p < 65) (hq : q < 65) (h1 : 0 < p) (h2 : 0 < q) (e1 : p % 2 = 0) (e2 : q % 2 = 0) (b : Bool) : clC (p / 2) (q / 2) b = clC p q b := by
  obtain ⟨a1, a2⟩ := tz_half p hp h1 e1
  obtain ⟨b1, b2⟩ := tz_half q hq h2 e2
  unfold clC
  rw [a1, a2, b1, b2]
  by_cases h : tzN (p / 2) = tzN (q / 2)
  · rw [if_pos h, if_pos (by omega)]
  · rw [if_neg h, if_neg (by omega)]
theorem clC_odd {p q : Nat} (hp : p < 65) (hq : q < 65) (e1 : p % 2 = 1) (e2 : q % 2 = 1) (b : Bool) : clC p q b = (b != decide ((q - p) % 4 = 0)) := by
  obtain ⟨a1, a2⟩ := tz_odd p hp e1
  obtain ⟨b1, b2⟩ := tz_odd q hq e2
  unfold clC
  rw [a1, a2, b1, b2, if_pos rfl]
theorem clC_one {p q : Nat} (hp : p < 65) (hq : q < 65) (h1 : 0 < p) (h2 : 0 < q) (h : (p % 2 = 1 ∧ q % 2 = 0) ∨ (p % 2 = 0 ∧ q % 2 = 1)) (b : Bool) : clC p q b = false := by
  unfold clC
  rcases h with ⟨e1, e2⟩ | ⟨e1, e2⟩
  · rw [(tz_odd p hp e1).1, (tz_half q hq h2 e2).1, if_neg (by omega)]
  · rw [(tz_odd q hq e2).1, (tz_half p hp h1 e1).1, if_neg (by omega)]
end Go.Proofs.Quire
namespace Go.Proofs.YtbkmicimpgabgaaDoor
open Go.RowKit Go.Lib Go.Proofs.Quire

set_option maxRecDepth 100000 in
set_option maxHeartbeats 1000000 in
theorem rlog_any (n : Nat) (w : World) :
    Calls Tryd.prog 47 #[.int .i64 n] w fun e w' => e = .returned (.int .i64 (logR n)) ∧ w' = w := by
  obtain ⟨r, hr⟩ : ∃ r, Hid (logR n = r) := ⟨_, rfl⟩
  rw [hr.out]
  have hst : Hid (logF (7 - 0) 0 n = r) := hr
  have hp : Hid (∀ k : Nat, k ≤ 6 → ∀ W, Calls Tryd.prog 58 #[.int .i64 k] W fun e w' => e = .returned (.int .i64 (2 ^ k : Nat)) ∧ w' = W) := fun k hk W => rpower_any k hk W
  go_enter Tryd.func47, Tryd.ntmps47
  go_wp2_with (fail)
  go_loopw [3] (fun v wr => ∃ (k : Nat), k ≤ 7 ∧ v = .int .i64 k ∧ wr = w ∧ Hid (logF (7 - k) k n = r)) (fun v _ => 7 - (RowKit.intOf v).toNat)
  case atStart => exact ⟨0, by omega, rfl, rfl, hst⟩
  case round =>
    obtain ⟨k, hk, rfl, hwr, hf⟩ := hrel
    by_cases hlt : k ≤ 6
    · have hst2 : Hid (r = if 2 ^ k = n then (k : Int) else logF (7 - (k + 1)) (k + 1) n) := by
        show _ = _; rw [← hf.out, show 7 - k = (7 - (k + 1)) + 1 by omega]; rfl
      have hpk := hp.out k hlt
      generalize 2 ^ k = m at hst2 hpk
      by_cases he : m = n
      · have hb : ((m : Int) == (n : Int)) = true := by rw [he]; simp
        have hR : Hid (r = (k : Int)) := by show _ = _; rw [hst2.out, if_pos he]
        clear he hf hst2
        go_wp2_with (fail)
        refine (hpk _).mono ?_; rintro e w2 ⟨rfl, hw2⟩
        rw [hw2]
        clear hw2 w2
        go_wp2_with (fail)
        go_ret
        exact ⟨ret_int hR.out.symm, rfl⟩
      · have hb : ((m : Int) == (n : Int)) = false := by simp; omega
        have hf2 : Hid (logF (7 - (k + 1)) (k + 1) n = r) := by show _ = _; rw [hst2.out, if_neg he]
        clear he hf hst2
        go_wp2_with (fail)
        refine (hpk _).mono ?_; rintro e w2 ⟨rfl, hw2⟩
        rw [hw2]
        clear hw2 w2
        go_wp2_with (fail)
        exact ⟨⟨k + 1, by omega, by go_num, trivial, hf2⟩, by simp [RowKit.intOf]; omega⟩
    · have hR : Hid (r = -1) := by show _ = _; rw [← hf.out, show 7 - k = 0 by omega]; rfl
      go_wp2_with (fail)
      go_ret
      exact ⟨ret_int hR.out.symm, rfl⟩
set_option maxRecDepth 100000 in
set_option maxHeartbeats 1000000 in
theorem rshaped_any (cs : List UInt8) (w : World) (hs : cs.length ≤ maxLen) :
    Calls Tryd.prog 45 #[.string ⟨cs.toArray⟩] w fun e w' => e = .returned (.int .i64 (stripE cs)) ∧ Below w.heap.size w w' := by
  have h1 := fun W => rletters_any ⟨cs.toArray⟩ 63 118 104 W (by rw [size_l]; exact hs) (by decide)
  simp only [List.toList_toArray, show ((63 : Nat) : Int) = 63 from rfl, show ((118 : UInt8).toNat : Int) = 118 from rfl, show ((104 : UInt8).toNat : Int) = 104 from rfl] at h1
  obtain ⟨r, hr⟩ : ∃ r, Hid (stripE cs = r) := ⟨_, rfl⟩
  rw [hr.out]
  have hsz := size_l cs
  by_cases hz : chkL 63 118 104 cs = 0
  · have hle := (chkL_zero hz).1
    have h2 := fun W => rlog_any (cs.length + 1) W
    have hlo := log_ones (cs.length + 1) (by omega)
    have hr1 : Hid (r = if onesN (cs.length + 1) = 1 then 0 else 5) := by show _ = _; rw [← hr.out]; unfold stripE; rw [if_pos hz]
    rw [hz] at h1
    rw [show ((cs.length + 1 : Nat) : Int) = (cs.length : Int) + 1 by omega] at h2
    generalize logR (cs.length + 1) = lg at h2 hlo
    obtain ⟨n, hn⟩ : ∃ n, cs.length = n := ⟨_, rfl⟩
    rw [hn] at h2 hsz hle hlo hr1
    generalize (⟨cs.toArray⟩ : ByteArray) = s at h1 hsz ⊢
    by_cases ho : onesN (n + 1) = 1
    · have HR : Hid (r = 0) := by show _ = _; rw [hr1.out, if_pos ho]
      have hlg : ¬ lg < 0 := by
        rw [ho] at hlo; simpa using hlo
      clear hz ho hr hr1 hlo hn
      go_enter Tryd.func45, Tryd.ntmps45
      go_wp2_with (fail)
      refine (h1 _).mono ?_; rintro e w1 ⟨rfl, hw1⟩
      rw [hw1]
      clear hw1 w1
      go_wp2_with (fail)
      refine (h2 _).mono ?_; rintro e w2 ⟨rfl, hw2⟩
      rw [hw2]
      clear hw2 w2
      go_wp2_with (fail)
      go_ret
      exact ⟨ret_int HR.out.symm, Below.refl _ _⟩
    · have HR : Hid (r = 5) := by show _ = _; rw [hr1.out, if_neg ho]
      have hlg : lg < 0 := by
        rw [show (onesN (n + 1) == 1) = false by simpa using ho] at hlo; simpa using hlo
      clear hz ho hr hr1 hlo hn
      go_enter Tryd.func45, Tryd.ntmps45
      go_wp2_with (fail)
      refine (h1 _).mono ?_; rintro e w1 ⟨rfl, hw1⟩
      rw [hw1]
      clear hw1 w1
      go_wp2_with (fail)
      refine (h2 _).mono ?_; rintro e w2 ⟨rfl, hw2⟩
      rw [hw2]
      clear hw2 w2
      go_wp2_with (fail)
      go_ret
      exact ⟨ret_int HR.out.symm, Below.refl _ _⟩
  · have HR : Hid (r = chkL 63 118 104 cs) := by show _ = _; rw [← hr.out]; unfold stripE; rw [if_neg hz]
    have hz2 : (chkL 63 118 104 cs == 0) = false := by simpa using hz
    generalize chkL 63 118 104 cs = z at h1 HR hz2
    clear hz hr
    go_enter Tryd.func45, Tryd.ntmps45
    go_wp2_with (fail)
    refine (h1 _).mono ?_; rintro e w1 ⟨rfl, hw1⟩
    rw [hw1]
    clear hw1 w1
    go_wp2_with (fail)
    go_ret
    exact ⟨ret_int HR.out.symm, Below.refl _ _⟩
set_option maxRecDepth 100000 in
set_option maxHeartbeats 2000000 in
theorem rclash_any (cs : List UInt8) (i j : Nat) (w : World) (hij : i < j) (hj : j < cs.length) (hl : cs.length ≤ 63) :
    Calls Tryd.prog 49 #[.string ⟨cs.toArray⟩, .int .i64 i, .int .i64 j] w fun e w' => e = .returned (.bool (clashB cs i j)) ∧ ∃ q, w' = w.drewN q := by
  have hib : i < (⟨cs.toArray⟩ : ByteArray).size := by show i < cs.toArray.size; simp; omega
  have hjb : j < (⟨cs.toArray⟩ : ByteArray).size := by show j < cs.toArray.size; simp; omega
  have hbe : (((⟨cs.toArray⟩ : ByteArray)[i].toNat : Int) == ((⟨cs.toArray⟩ : ByteArray)[j].toNat : Int)) = (cs.getD i 0 == cs.getD j 0) := by
    rw [getD_lt _ _ _ (by omega), getD_lt _ _ _ hj]
    show ((cs.toArray[i].toNat : Int) == (cs.toArray[j].toNat : Int)) = _
    rw [List.getElem_toArray, List.getElem_toArray, Bool.eq_iff_iff]; simp only [beq_iff_eq]
    exact ⟨fun h => UInt8.toNat_inj.1 (by omega), fun h => by rw [h]⟩
  obtain ⟨r, hr⟩ : ∃ r, Hid (clashB cs i j = r) := ⟨_, rfl⟩
  rw [hr.out]
  have hr1 : Hid (clC (i + 1) (j + 1) (cs.getD i 0 == cs.getD j 0) = r) := by show _ = _; rw [← hr.out]; rfl
  generalize (cs.getD i 0 == cs.getD j 0) = b at hbe hr1
  have hi64 : i < 64 := by omega
  have hj64 : j < 64 := by omega
  generalize (⟨cs.toArray⟩ : ByteArray) = s at hib hjb hbe ⊢
  clear hr hj hl
  go_enter Tryd.func49, Tryd.ntmps49
  go_wp2_with (fail)
  go_loopw [7, 8] (fun v7 v8 wr => ∃ (p q : Nat), 0 < p ∧ p < q ∧ q < 65 ∧ v7 = .int .i64 p ∧ v8 = .int .i64 q ∧ wr = w ∧ Hid (clC p q b = r)) (fun v _ _ => (RowKit.intOf v).toNat)
  case atStart => exact ⟨i + 1, j + 1, by omega, by omega, by omega, by go_num, by go_num, rfl, hr1⟩
  case round =>
    clear hr1
    obtain ⟨p, q, hp, hpq, hq, rfl, rfl, hwr, hf⟩ := hrel
    have tp : (p : Int).tmod 2 = (p : Int) % 2 := by rw [Int.tmod_eq_emod_of_nonneg (by omega)]
    have tq : (q : Int).tmod 2 = (q : Int) % 2 := by rw [Int.tmod_eq_emod_of_nonneg (by omega)]
    have rp : ((p : Int) % 2 == 0) = decide (p % 2 = 0) := by rw [Bool.eq_iff_iff]; simp only [beq_iff_eq, decide_eq_true_eq]; omega
    have rq : ((q : Int) % 2 == 0) = decide (q % 2 = 0) := by rw [Bool.eq_iff_iff]; simp only [beq_iff_eq, decide_eq_true_eq]; omega
    by_cases e1 : p % 2 = 0
    · rw [show decide (p % 2 = 0) = true by simpa using e1] at rp
      by_cases e2 : q % 2 = 0
      · rw [show decide (q % 2 = 0) = true by simpa using e2] at rq
        have hf2 : Hid (clC (p / 2) (q / 2) b = r) := by show _ = _; rw [clC_half (by omega) hq hp (by omega) e1 e2]; exact hf.out
        obtain ⟨p2, hp2⟩ : ∃ p2, p / 2 = p2 := ⟨_, rfl⟩
        obtain ⟨q2, hq2⟩ : ∃ q2, q / 2 = q2 := ⟨_, rfl⟩
        rw [hp2, hq2] at hf2
        have d1 : (p : Int) / 2 = (p2 : Int) := by omega
        have d2 : (q : Int) / 2 = (q2 : Int) := by omega
        have hpp : 0 < p2 ∧ p2 < q2 ∧ q2 < 65 ∧ p2 < p := by omega
        obtain ⟨f1, f2, f3, f4⟩ := hpp
        clear hf hp2 hq2 e1 e2
        go_wp2_with (fail)
        exact ⟨⟨p2, q2, f1, f2, f3, by go_num, by go_num, trivial, hf2⟩, by simp [RowKit.intOf]; omega⟩
      · rw [show decide (q % 2 = 0) = false by simpa using e2] at rq
        have hR : Hid (r = false) := by show _ = _; rw [← hf.out]; exact clC_one (by omega) hq hp (by omega) (.inr ⟨e1, by omega⟩) b
        clear hf e1 e2
        go_wp2_with (fail)
        go_ret
        exact ⟨ret_bool hR.out.symm, 0, rfl⟩
    · rw [show decide (p % 2 = 0) = false by simpa using e1] at rp
      by_cases e2 : q % 2 = 0
      · rw [show decide (q % 2 = 0) = true by simpa using e2] at rq
        have hR : Hid (r = false) := by show _ = _; rw [← hf.out]; exact clC_one (by omega) hq hp (by omega) (.inl ⟨by omega, e2⟩) b
        clear hf e1 e2
        go_wp2_with (fail)
        go_ret
        exact ⟨ret_bool hR.out.symm, 0, rfl⟩
      · rw [show decide (q % 2 = 0) = false by simpa using e2] at rq
        have hst : Hid (r = (b != decide ((q - p) % 4 = 0))) := by show _ = _; rw [← hf.out]; exact clC_odd (by omega) hq (by omega) (by omega) b
        have hw1 : IntKind.i64.wrap ((q : Int) - p) = (q : Int) - p := by rw [IntKind.wrap_i64]; omega
        have hm : ((q : Int) - p).tmod 4 = ((q : Int) - p) % 4 := by rw [Int.tmod_eq_emod_of_nonneg (by omega)]
        have hd : ((((q : Int) - p) % 4) == 0) = decide ((q - p) % 4 = 0) := by
          rw [Bool.eq_iff_iff]; simp only [beq_iff_eq, decide_eq_true_eq]; omega
        generalize decide ((q - p) % 4 = 0) = d at hd hst
        clear hf e1 e2
        go_wp2_with (fail)
        go_quiet (fail)
        go_wp2_with (fail)
        go_ret
        exact ⟨ret_bool hst.out.symm, nq, rfl⟩
set_option maxRecDepth 100000 in
set_option maxHeartbeats 2000000 in
theorem rwhy_any (cs : List UInt8) (w : World) (hs : cs.length ≤ maxLen) :
    Calls Tryd.prog 22 #[.string ⟨cs.toArray⟩] w fun e w' => e = .returned (whyR cs) ∧ Below w.heap.size w w' := by
  have h1 := fun W => rshaped_any cs W hs
  by_cases hz : stripE cs = 0
  · have hle := (chkL_zero (stripE_zero hz).1).1
    obtain ⟨r, hr⟩ : ∃ r, Hid (firstP (clashB cs) cs.length (cs.length - 0) 0 = r) := ⟨_, rfl⟩
    have HV : Hid (whyR cs = pairR r) := by show _ = _; unfold whyR; rw [if_pos hz, ← hr.out]; rfl
    rw [HV.out]
    rw [hz] at h1
    clear hz HV
    go_enter Tryd.func22, Tryd.ntmps22
    go_wp2_with (fail)
    refine (h1 _).mono ?_; rintro e w1 ⟨rfl, hb1⟩
    go_wp2_with (fail)
    go_loopw [6, 7] (fun v _ wr => ∃ i : Nat, i ≤ cs.length ∧ v = .int .i64 i ∧ Below w.heap.size w wr ∧ Hid (firstP (clashB cs) cs.length (cs.length - i) i = r)) (fun v _ _ => cs.length - (RowKit.intOf v).toNat)
    case atStart => exact ⟨0, Nat.zero_le _, rfl, hb1, hr⟩
    case round =>
      clear hb1
      obtain ⟨i, hi, rfl, hbr, hf⟩ := hrel
      by_cases hlt : i < cs.length
      · have hin : Hid (InnerAt (clashB cs) cs.length i (i + 1) r) := by show _ = _; rw [← hf.out, firstP_step hlt]
        go_wp2_with (fail)
        go_loopw [7] (fun v wr => ∃ j : Nat, i < j ∧ j ≤ cs.length ∧ v = .int .i64 j ∧ Below w.heap.size w wr ∧ Hid (InnerAt (clashB cs) cs.length i j r)) (fun v _ => cs.length - (RowKit.intOf v).toNat)
        case atStart => exact ⟨i + 1, by omega, by omega, by go_num, hbr, hin⟩
        case round =>
          clear hbr
          obtain ⟨j, hij, hj, rfl, hbr, hf2⟩ := hrel
          by_cases hlj : j < cs.length
          · have hc := fun W => rclash_any cs i j W hij hlj hle
            have hst := firstJ_step (f := clashB cs) (i := i) hlj
            cases hcb : clashB cs i j with
            | true =>
              rw [hcb] at hc hst
              have HR : Hid (r = some (i, j)) := by show _ = _; rw [← hf2.out, hst]; rfl
              clear hst hcb
              go_wp2_with (fail)
              refine (hc _).mono ?_; rintro e w2 ⟨rfl, q, rfl⟩
              go_wp2_with (fail)
              go_ret3
              exact ⟨by rw [HR.out]; rfl, below_drewN hbr _⟩
            | false =>
              rw [hcb] at hc hst
              have HI : Hid (InnerAt (clashB cs) cs.length i (j + 1) r) := by
                show _ = _; rw [← hf2.out, hst]; simp only [Bool.false_eq_true, if_false]
              clear hst hcb
              go_wp2_with (fail)
              refine (hc _).mono ?_; rintro e w2 ⟨rfl, q, rfl⟩
              go_wp2_with (fail)
              exact ⟨⟨j + 1, by omega, by omega, by go_num, below_drewN hbr _, HI⟩, by simp [RowKit.intOf]; omega⟩
          · have HF : Hid (firstP (clashB cs) cs.length (cs.length - (i + 1)) (i + 1) = r) := by
              show _ = _; rw [← hf2.out, show cs.length - j = 0 by omega]; rfl
            go_wp2_with (fail)
            exact ⟨⟨i + 1, by omega, by go_num, hbr, HF⟩, by simp [RowKit.intOf]; omega⟩
      · have HR : Hid (r = none) := by show _ = _; rw [← hf.out, show cs.length - i = 0 by omega]; rfl
        go_wp2_with (fail)
        go_ret3
        exact ⟨by rw [HR.out]; rfl, hbr⟩
  · have HR : Hid (whyR cs = .tuple #[.int .i64 0, .int .i64 0, .int .i64 (stripE cs)]) := by show _ = _; unfold whyR; rw [if_neg hz]
    have hz2 : (stripE cs != 0) = true := by simpa using hz
    rw [HR.out]
    generalize stripE cs = z at h1 hz2
    clear hz HR
    go_enter Tryd.func22, Tryd.ntmps22
    go_wp2_with (fail)
    refine (h1 _).mono ?_; rintro e w1 ⟨rfl, hb1⟩
    go_wp2_with (fail)
    go_ret3
    exact ⟨rfl, hb1⟩
set_option maxRecDepth 100000 in
set_option maxHeartbeats 2000000 in
theorem rproves_any (cs : List UInt8) (x y : Int) (w : World) (hs : cs.length ≤ maxLen) (hx : IntKind.i64.wrap x = x) (hy : IntKind.i64.wrap y = y) :
    Calls Tryd.prog 24 #[.string ⟨cs.toArray⟩, .int .i64 x, .int .i64 y] w fun e w' => e = .returned (.int .i64 (provE cs x y)) ∧ Below w.heap.size w w' := by
  have h1 := fun W => rshaped_any cs W hs
  obtain ⟨r, hr⟩ : ∃ r, Hid (provE cs x y = r) := ⟨_, rfl⟩
  rw [hr.out]
  by_cases hz : stripE cs = 0
  · have hle := (chkL_zero (stripE_zero hz).1).1
    have hr1 : Hid (r = if x < 0 ∨ y < 0 ∨ (cs.length : Int) ≤ x ∨ (cs.length : Int) ≤ y then 2 else if y ≤ x then 7 else if clashB cs x.toNat y.toNat then 0 else 14) := by show _ = _; rw [← hr.out]; unfold provE; rw [if_pos hz]
    rw [hz] at h1
    clear hz hr
    have HX := Lib.hid hx; have HY := Lib.hid hy
    clear hx hy
    by_cases hin : x < 0 ∨ y < 0 ∨ (cs.length : Int) ≤ x ∨ (cs.length : Int) ≤ y
    · have HR : Hid (r = 2) := by show _ = _; rw [hr1.out, if_pos hin]
      have hT3 : (x < 0 ∧ x < 0 ∧ x < 0) ∨ (0 ≤ x ∧ (cs.length : Int) ≤ x ∧ 0 ≤ x) ∨ (0 ≤ x ∧ ¬ (cs.length : Int) ≤ x ∧ y < 0) ∨ (0 ≤ x ∧ ¬ (cs.length : Int) ≤ x ∧ 0 ≤ y ∧ (cs.length : Int) ≤ y) := by omega
      clear hin hr1
      rcases hT3 with ⟨h2, _, _⟩ | ⟨h2, h3, _⟩ | ⟨h2, h3, h4⟩ | ⟨h2, h3, h4, h5⟩
      all_goals
        go_enter Tryd.func24, Tryd.ntmps24
        go_wp2_with (fail)
        refine (h1 _).mono ?_; rintro e w1 ⟨rfl, hb1⟩
        go_wp2_with (fail)
        all_goals (go_ret; exact ⟨ret_int HR.out.symm, hb1⟩)
    · have hx0 : 0 ≤ x := by omega
      have hy0 : 0 ≤ y := by omega
      have hxl : ¬ (cs.length : Int) ≤ x := by omega
      have hyl : ¬ (cs.length : Int) ≤ y := by omega
      by_cases hyx : y ≤ x
      · have HR : Hid (r = 7) := by show _ = _; rw [hr1.out, if_neg hin, if_pos hyx]
        clear hin hr1
        by_cases h2 : y < x
        all_goals
          go_enter Tryd.func24, Tryd.ntmps24
          go_wp2_with (fail)
          refine (h1 _).mono ?_; rintro e w1 ⟨rfl, hb1⟩
          go_wp2_with (fail)
          all_goals (go_ret; exact ⟨ret_int HR.out.symm, hb1⟩)
      · have h2 : ¬ y < x := by omega
        obtain ⟨i, rfl⟩ : ∃ i : Nat, x = i := ⟨x.toNat, by omega⟩
        obtain ⟨j, rfl⟩ : ∃ j : Nat, y = j := ⟨y.toNat, by omega⟩
        have hc := fun W => rclash_any cs i j W (by omega) (by omega) hle
        have hr2 : Hid (r = if clashB cs i j then 0 else 14) := by show _ = _; rw [hr1.out, if_neg hin, if_neg hyx]; rfl
        clear hin hr1
        cases hcb : clashB cs i j with
        | true =>
          rw [hcb] at hc hr2
          clear hcb
          go_enter Tryd.func24, Tryd.ntmps24
          go_wp2_with (fail)
          refine (h1 _).mono ?_; rintro e w1 ⟨rfl, hb1⟩
          go_wp2_with (fail)
          refine (hc _).mono ?_; rintro e w2 ⟨rfl, q, rfl⟩
          go_wp2_with (fail)
          all_goals (go_ret; exact ⟨ret_int hr2.out.symm, below_drewN hb1 _⟩)
        | false =>
          rw [hcb] at hc hr2
          clear hcb
          go_enter Tryd.func24, Tryd.ntmps24
          go_wp2_with (fail)
          refine (h1 _).mono ?_; rintro e w1 ⟨rfl, hb1⟩
          go_wp2_with (fail)
          refine (hc _).mono ?_; rintro e w2 ⟨rfl, q, rfl⟩
          go_wp2_with (fail)
          all_goals (go_ret; exact ⟨ret_int (by rw [hr2.out]; rfl), below_drewN hb1 _⟩)
  · have HR : Hid (r = stripE cs) := by show _ = _; rw [← hr.out]; unfold provE; rw [if_neg hz]
    have hz2 : (stripE cs != 0) = true := by simpa using hz
    generalize stripE cs = z at h1 hz2 HR
    clear hz hr hx hy
    go_enter Tryd.func24, Tryd.ntmps24
    go_wp2_with (fail)
    refine (h1 _).mono ?_; rintro e w1 ⟨rfl, hb1⟩
    go_wp2_with (fail)
    go_ret
    exact ⟨ret_int HR.out.symm, hb1⟩
end Go.Proofs.YtbkmicimpgabgaaDoor
namespace Go.Proofs.Quire
/-- the first of some folds that P holds of, or ErrLost -/
def findF (P : List UInt8 → Bool) : List (List UInt8) → List UInt8 × Int
  | [] => ([], 12)
  | l :: L => if P l then (l, 0) else findF P L
theorem findF_in {P : List UInt8 → Bool} {q : List UInt8} (hq : P q = true) : ∀ L, q ∈ L → (∀ l ∈ L, P l = true → l = q) → findF P L = (q, 0)
  | [], h, _ => by simp at h
  | l :: L, h, hu => by
    rw [findF]
    by_cases e : P l = true
    · rw [if_pos e, hu l (List.mem_cons_self ..) e]
    · rw [if_neg e]
      refine findF_in hq L ?_ (fun x hx => hu x (List.mem_cons_of_mem _ hx))
      rcases List.mem_cons.1 h with rfl | h
      · exact absurd hq e
      · exact h
theorem findF_out {P : List UInt8 → Bool} : ∀ L : List (List UInt8), (∀ l ∈ L, P l = false) → findF P L = ([], 12)
  | [], _ => rfl
  | l :: L, h => by
    rw [findF, h l (List.mem_cons_self ..)]
    exact findF_out L (fun x hx => h x (List.mem_cons_of_mem _ hx))
theorem foldsB_back (l : List UInt8) (h : ∀ c ∈ l, c = 111 ∨ c = 117) : (foldsB l).map wayOf = l := by
  unfold foldsB
  rw [List.map_map]
  conv => rhs; rw [← List.map_id l]
  refine List.map_congr_left fun c hc => ?_
  rcases h c hc with rfl | rfl <;> rfl
theorem waysL_let (cs : List UInt8) : ∀ f n, ∀ c ∈ waysL cs f n, c = 111 ∨ c = 117
  | 0, n, c, h => by simp [waysL] at h
  | f + 1, n, c, h => by
    unfold waysL at h
    split at h
    · rcases List.mem_cons.1 h with rfl | h
      · unfold wayOf; split
        · exact .inl rfl
        · exact .inr rfl
      · exact waysL_let cs f _ c h
    · simp at h
theorem find_folds (cs : List UInt8) (k : Nat) (hk : k ≤ 6) (hl : cs.length + 1 = 2 ^ k) (hz : stripE cs = 0) : findF (fun l => decide (creS (foldsB l) = cs)) (allL k) = foldsP cs := by
  unfold foldsP
  rw [if_pos hz, hl]
  have hq : waysL cs 7 (2 ^ k) ∈ allL k := mem_allL k _ (waysL_len0 cs 7 k (by omega)) (waysL_let cs 7 _)
  have hu : ∀ l ∈ allL k, creS (foldsB l) = cs → l = waysL cs 7 (2 ^ k) := fun l h e => by
    obtain ⟨h1, h2⟩ := allL_mem k l h
    have hb : (foldsB l).length = k := by unfold foldsB; rw [List.length_map]; exact h1
    have := ways_cre (foldsB l) (by omega)
    rw [hb, e, foldsB_back l h2] at this
    exact this.symm
  by_cases h : creS (foldsB (waysL cs 7 (2 ^ k))) = cs
  · rw [if_pos h]
    exact findF_in (by simpa using h) _ hq (fun l hl e => hu l hl (by simpa using e))
  · rw [if_neg h]
    refine findF_out _ (fun l hl => ?_)
    have : ¬ creS (foldsB l) = cs := fun e => by have := hu l hl e; rw [this] at e; exact h e
    simpa using this
end Go.Proofs.Quire
namespace Go.Proofs.YtbkmicimpgabgaaDoor
open Go.RowKit Go.Lib Go.Proofs.Quire

set_option maxRecDepth 100000 in
set_option maxHeartbeats 4000000 in
theorem rfolds_any (cs : List UInt8) (w : World) (hs : cs.length ≤ maxLen) :
    Calls Tryd.prog 20 #[.string ⟨cs.toArray⟩] w (StrEPost (foldsP cs).1 (foldsP cs).2 w) := by
  have h1 := fun W => rshaped_any cs W hs
  obtain ⟨r, hr⟩ : ∃ r, Hid (foldsP cs = r) := ⟨_, rfl⟩
  rw [hr.out]
  by_cases hz : stripE cs = 0
  · have hle := (chkL_zero (stripE_zero hz).1).1
    obtain ⟨k, hk, hpk, hlog⟩ := log_of (n := cs.length + 1) (by omega) (stripE_zero hz).2
    have h2 := fun W => rlog_any (cs.length + 1) W
    rw [hlog, show ((cs.length + 1 : Nat) : Int) = (cs.length : Int) + 1 by omega] at h2
    have h3 := fun W => rall_any k hk k W rfl
    have hf0 : Hid (findF (fun l => decide (creS (foldsB l) = cs)) ((allL k).drop 0) = r) := by show _ = _; rw [← hr.out]; exact find_folds cs k hk hpk hz
    have hlk : Hid (∀ l ∈ allL k, l.length = k) := fun l h => (allL_mem k l h).1
    have hst : Hid (∀ l, l ∈ allL k → ∀ W, Calls Tryd.prog 38 #[.string ⟨l.toArray⟩] W (RStripC (foldsB l) W)) := fun l h W => rstripC_any l W (by rw [(allL_mem k l h).1]; exact hk)
    have h64 : (allL k).length ≤ 64 := by rw [allL_len]; exact Nat.le_trans (Nat.pow_le_pow_right (by omega) hk) (by decide)
    rw [hz] at h1
    have hsz := size_l cs
    have hsl : Hid ((⟨cs.toArray⟩ : ByteArray).toList = cs) := by show _ = _; rw [toList_data]
    generalize (⟨cs.toArray⟩ : ByteArray) = s at h1 hsz hsl ⊢
    obtain ⟨m, hm⟩ : ∃ m, cs.length = m := ⟨_, rfl⟩
    rw [hm] at h2 hsz hle
    generalize allL k = L at h3 hf0 hlk hst h64
    unfold AllPost at h3
    obtain ⟨n, hn⟩ : ∃ n, Hid (L.length = n) := ⟨_, rfl⟩
    rw [hn.out] at h3 h64
    clear hz hr hpk hlog hm
    go_enter Tryd.func20, Tryd.ntmps20
    go_wp2_with (fail)
    refine (h1 _).mono ?_; rintro e w1 ⟨rfl, hb1⟩
    clear h1
    go_wp2_with (fail)
    refine (h2 _).mono ?_; rintro e w2 ⟨rfl, hw2⟩
    rw [hw2]
    clear h2 hw2 w2
    go_wp2_with (fail)
    refine (h3 _).mono ?_; rintro e w3 ⟨A, c, rfl, hrd, hb3⟩
    have hB := hb1.trans (hb3.mono hb1.size)
    have HRD := Lib.hid hrd
    clear h3 hb1 hb3 hrd
    go_wp2_with (fail)
    go_loopw [6, 7, 8, 9] (fun v _ _ _ wr => ∃ (i : Nat), i ≤ n ∧ v = .int .i64 i ∧ Below w3.heap.size w3 wr ∧ Hid (findF (fun l => decide (creS (foldsB l) = cs)) (L.drop i) = r)) (fun v _ _ _ _ => n - (RowKit.intOf v).toNat)
    case atStart => exact ⟨0, Nat.zero_le _, rfl, Below.refl _ _, hf0⟩
    case round =>
      clear hf0
      obtain ⟨i, hi, rfl, hbr, hf⟩ := hrel
      by_cases hlt : i < n
      · have hil : i < L.length := by rw [hn.out]; exact hlt
        obtain ⟨g, o, rfl, hg, _, hat⟩ := HRD.out.2 (by omega)
        have hc0 := hat i hlt
        rw [strsV_getD _ _ hil] at hc0
        have hcell := (hbr.cell (p := ⟨g, o + i, none⟩) hg).trans hc0
        have hm2 := hst.out (L.getD i []) (by rw [getD_lt _ _ _ hil]; exact List.getElem_mem _)
        have hdr : Hid (r = if creS (foldsB (L.getD i [])) = cs then (L.getD i [], 0) else findF (fun l => decide (creS (foldsB l) = cs)) (L.drop (i + 1))) := by
          show _ = _; rw [← hf.out, drop_cons L i [] hil, findF]; simp
        generalize L.getD i [] = y at hc0 hcell hm2 hdr
        unfold RStripC at hm2
        obtain ⟨C, hC⟩ : ∃ C, Hid (creS (foldsB y) = C) := ⟨_, rfl⟩
        rw [hC.out] at hm2 hdr
        generalize pileL (foldsB y) = pl at hm2
        generalize trnC (foldsB y) = tn at hm2
        have hsz3 := hbr.size
        by_cases he : C = cs
        · have hbq : ((⟨C.toArray⟩ : ByteArray).toList == s.toList) = true := by rw [toList_data, hsl.out, he]; simp
          have hR : Hid (r = (y, 0)) := by show _ = _; rw [hdr.out, if_pos he]
          generalize (⟨C.toArray⟩ : ByteArray) = sc at hm2 hbq
          obtain ⟨sy, hsy⟩ : ∃ sy : ByteArray, Hid (⟨y.toArray⟩ = sy) := ⟨_, rfl⟩
          rw [hsy.out] at hm2 hcell hc0
          have HC0 : Hid (∀ W, Below w3.heap.size w3 W → W.cell? ⟨g, o + i, none⟩ = some (.string sy)) := fun W h => (h.cell (p := ⟨g, o + i, none⟩) hg).trans hc0
          clear he hf hdr hat hc0 hC
          go_wp2_with (fail)
          refine (hm2 _).mono ?_; rintro e w4 ⟨A5, c5, A6, c6, T, rfl, _, _, _, hb4⟩
          have hb5 := hbr.trans (hb4.mono hsz3)
          have hcell5 := HC0.out _ hb5
          clear hcell hb4 hbr
          go_wp2_with (fail)
          go_ret2
          exact ⟨by rw [hR.out, ← hsy.out]; rfl, hB.trans (hb5.mono hB.size)⟩
        · have hbq : ((⟨C.toArray⟩ : ByteArray).toList == s.toList) = false := by rw [toList_data, hsl.out]; simpa using he
          have hf2 : Hid (findF (fun l => decide (creS (foldsB l) = cs)) (L.drop (i + 1)) = r) := by show _ = _; rw [hdr.out, if_neg he]
          generalize (⟨C.toArray⟩ : ByteArray) = sc at hm2 hbq
          generalize (⟨y.toArray⟩ : ByteArray) = sy at hm2 hcell
          clear he hf hdr hat hc0 hC
          go_wp2_with (fail)
          refine (hm2 _).mono ?_; rintro e w4 ⟨A5, c5, A6, c6, T, rfl, _, _, _, hb4⟩
          have hb5 := hbr.trans (hb4.mono hsz3)
          clear hcell hb4 hbr
          go_wp2_with (fail)
          exact ⟨⟨i + 1, by omega, by go_num, hb5, hf2⟩, by simp [RowKit.intOf]; omega⟩
      · have hR : Hid (r = ([], 12)) := by show _ = _; rw [← hf.out, List.drop_eq_nil_of_le (by rw [hn.out]; omega)]; rfl
        have hbE := hB.trans (hbr.mono hB.size)
        go_wp2_with (fail)
        go_ret2
        exact ⟨by rw [hR.out]; rfl, hbE⟩
  · have hR : Hid (r = ([], stripE cs)) := by show _ = _; rw [← hr.out]; unfold foldsP; rw [if_neg hz]
    have hz2 : (stripE cs != 0) = true := by simpa using hz
    rw [hR.out]
    generalize stripE cs = z at h1 hz2 ⊢
    clear hz hr hR
    go_enter Tryd.func20, Tryd.ntmps20
    go_wp2_with (fail)
    refine (h1 _).mono ?_; rintro e w1 ⟨rfl, hb1⟩
    go_wp2_with (fail)
    go_ret2
    exact ⟨rfl, hb1⟩
end Go.Proofs.YtbkmicimpgabgaaDoor
