/-
  The walks of the reference's count, Count, Parts and Most, and of package short's Parts and Most at any arguments: each returns what the plain Lean function says.
-/
import Derived.Test.YtalildjhighlhaaSized
import Derived.Test.YtalildjhighlhaaApart
import Derived.Test.YtalildjhighlhaaRefB
namespace Go.Proofs.Ytalildjhighlhaa
open Go.RowKit Go.Proofs.Short Go.Lib

theorem in_any (z lo hi : Int) (w : World) : Calls Try.prog 62 #[.int .i64 z, .int .i64 lo, .int .i64 hi] w fun e w' => e = .returned (.bool (decide (lo ≤ z) && decide (z ≤ hi))) ∧ w' = w := by
  by_cases h1 : lo ≤ z
  · by_cases h2 : z ≤ hi
    all_goals
      go_enter Try.func62, Try.ntmps62
      go_wp2
      go_ret
      exact ⟨ret_bool (by simp [h1, h2]), rfl⟩
  · go_enter Try.func62, Try.ntmps62
    go_wp2
    go_ret
    exact ⟨ret_bool (by rw [decide_eq_false (by omega : ¬ lo ≤ z)]; rfl), rfl⟩

theorem in_true (z lo hi : Int) (w : World) (h1 : lo ≤ z) (h2 : z ≤ hi) : Calls Try.prog 62 #[.int .i64 z, .int .i64 lo, .int .i64 hi] w fun e w' => e = .returned (.bool true) ∧ w' = w :=
  (in_any z lo hi w).mono fun _ _ ⟨he, hw⟩ => ⟨by rw [he, decide_eq_true h1, decide_eq_true h2]; rfl, hw⟩
theorem in_false (z lo hi : Int) (w : World) (h : z < lo ∨ hi < z) : Calls Try.prog 62 #[.int .i64 z, .int .i64 lo, .int .i64 hi] w fun e w' => e = .returned (.bool false) ∧ w' = w :=
  (in_any z lo hi w).mono fun _ _ ⟨he, hw⟩ => ⟨by
    rw [he]
    rcases h with h | h
    · rw [decide_eq_false (by omega : ¬ lo ≤ z)]; rfl
    · rw [decide_eq_false (by omega : ¬ z ≤ hi), Bool.and_false], hw⟩
set_option maxRecDepth 100000 in
set_option maxHeartbeats 1000000 in
theorem rcount_any (x : List UInt8) (w : World) (hx : x.length ≤ 10) (hok : x.all okc = true) :
    Calls Try.prog 61 #[.string ⟨x.toArray⟩] w fun e w' => e = .returned (.int .i64 ((partsL [x]).length : Nat)) ∧ Below w.heap.size w w' := by
  obtain ⟨r, hr⟩ : ∃ r, Hid (r = partsL [x]) := ⟨_, rfl⟩
  have hrl : r.length ≤ 1024 := by rw [hr.out]; have := partsL_length [x] (by simpa using hx); simpa using this
  have hcum : ∀ k, cumL r k ≤ 1024 := fun k => Nat.le_trans (List.length_filter_le _ _) hrl
  have hall : cumL r (x.length + 1) = r.length := cumL_all fun p hp => by
    rw [hr.out] at hp
    obtain ⟨y, hy, hs⟩ := mem_partsL.1 hp
    have := hs.length_le
    simp at hy; subst hy; omega
  have hsz : ∀ k, (szL k x).length = (r.filter fun p => p.length == k).length := fun k => by rw [szL_sized k x hok, hr.out]
  rw [← hr.out]
  have HCUM := Lib.hid hcum; have HALL := Lib.hid hall; have HSZ := Lib.hid hsz; have HOK := Lib.hid hok
  clear hcum hall hsz hok
  go_enter Try.func61, Try.ntmps61
  go_wp2
  go_loopw [3, 4] (fun v i wr => ∃ (k m : Nat), k ≤ x.length + 1 ∧ i = .int .i64 k ∧ v = .int .i64 m ∧ Hid (m = cumL r k) ∧ m ≤ 1024 ∧ Below w.heap.size w wr) (fun _ i _ => x.length + 1 - (intOf i).toNat)
  case atStart => exact ⟨0, 0, by omega, rfl, rfl, (cumL_zero r).symm, by omega, Below.refl _ w⟩
  case round =>
    obtain ⟨k, m, hk, rfl, rfl, hm, hm1, hb⟩ := hrel
    by_cases h1 : k ≤ x.length
    · have hst := cumL_succ k r
      rw [← HSZ.out k, ← hm.out] at hst
      have hc1 := HCUM.out (k + 1)
      rw [hst] at hc1
      have HST := Lib.hid hst; clear hst
      go_wp2_with (go_at_call 63; refine (sized_any k x _ _ (by omega) rfl hx HOK.out).mono ?_; rintro e w1 ⟨A, c, rfl, _, hb1⟩)
      exact ⟨⟨k + 1, m + (szL k x).length, by omega, by go_num, by go_num, HST.out.symm, hc1, hb.trans (hb1.mono hb.size)⟩, by simp [intOf]; omega⟩
    · obtain rfl : k = x.length + 1 := by omega
      have hmm := hm.out
      rw [HALL.out] at hmm
      subst hmm
      go_wp2
      go_ret
      exact ⟨rfl, hb⟩

set_option maxHeartbeats 400000 in
theorem rCount_any (x : List UInt8) (w : World) (hx : x.length ≤ maxLen) :
    Calls Try.prog 30 #[.string ⟨x.toArray⟩] w fun e w' => e = .returned (.tuple #[.int .i64 (cntL x), .int .i64 (chk x)]) ∧ Below w.heap.size w w' := by
  by_cases hz : chk x = 0
  · have hh : cntL x = ((partsL [x]).length : Nat) := by unfold cntL; rw [if_pos hz]
    have hz2 : (chk x != 0) = false := by simp [hz]
    have h10 := chk_zero hz
    have HH := Lib.hid hh; have HZ := Lib.hid hz; have H10 := Lib.hid h10; clear hh hz h10
    go_enter Try.func30, Try.ntmps30
    go_wp2_with (fail)
    refine (rcheck_l x _ hx).mono ?_; rintro e w1 ⟨rfl, rfl⟩
    go_wp2_with (fail)
    refine (rcount_any x _ H10.out.1 H10.out.2).mono ?_; rintro e w2 ⟨rfl, hb2⟩
    go_wp2_with (fail)
    go_ret2
    rw [HH.out, HZ.out]
    exact ⟨rfl, hb2⟩
  · have hh : cntL x = 0 := by unfold cntL; rw [if_neg hz]
    have hz2 : (chk x != 0) = true := by simp [hz]
    have HH := Lib.hid hh; clear hh hz
    go_enter Try.func30, Try.ntmps30
    go_wp2_with (fail)
    refine (rcheck_l x _ hx).mono ?_; rintro e w1 ⟨rfl, rfl⟩
    go_wp2_with (fail)
    go_ret2
    rw [HH.out]
    exact ⟨rfl, Below.refl _ _⟩

/-- a row of words that can be read, and an error -/
def StrErr (w : World) (l : List (List UInt8)) (err : Int) (e : Ending) (w' : World) : Prop :=
  Below w.heap.size w w' ∧ ∃ A c, e = .returned (.tuple #[.slice A l.length c, .int .i64 err]) ∧ Rd w' A l.length (l.map encStr)
def prtL (x : List UInt8) (z : Int) : List (List UInt8) := if chk x = 0 ∧ 0 ≤ z ∧ z ≤ x.length then sizedL x z.toNat else []
def prtE (x : List UInt8) (z : Int) : Int := if chk x = 0 then (if 0 ≤ z ∧ z ≤ x.length then 0 else 1) else chk x
theorem prt_len (x : List UInt8) (z : Int) : (prtL x z).length ≤ 1024 := by
  unfold prtL
  split
  · rename_i h
    exact Nat.le_trans (List.length_filter_le _ _) (by have := partsL_length [x] (by simpa using (chk_zero h.1).1); simpa using this)
  · simp
theorem partsS_any (hP : PartsOfSaid) (x : List UInt8) (z : Int) (w : World) (hx : x.length ≤ maxLen) :
    Calls Try.prog 31 #[.string ⟨x.toArray⟩, .int .i64 z] w (StrErr w (prtL x z) (prtE x z)) := by
  by_cases hz : chk x = 0
  · by_cases hr : 0 ≤ z ∧ z ≤ x.length
    · have e : z = (z.toNat : Int) := by omega
      have h := parts_ok hP x z.toNat w hz (by omega)
      rw [← e] at h
      refine h.mono ?_
      rintro e w' ⟨hb, v, rfl, hown⟩
      obtain ⟨A, c, rfl⟩ := ownsRow_shape hown
      unfold prtL prtE
      rw [if_pos ⟨hz, hr⟩, if_pos hz, if_pos hr]
      exact ⟨hb, A, c, rfl, rd_own hown⟩
    · refine (parts_range x z w hz (by omega)).mono ?_
      rintro e w' ⟨rfl, hb⟩
      unfold prtL prtE
      rw [if_neg (fun h => hr h.2), if_pos hz, if_neg hr]
      exact ⟨hb, none, 0, rfl, rd_nil _ _⟩
  · refine (parts_chk x z w hx hz).mono ?_
    rintro e w' ⟨rfl, hb⟩
    unfold prtL prtE
    rw [if_neg (fun h => hz h.1), if_neg hz]
    exact ⟨hb, none, 0, rfl, rd_nil _ _⟩
set_option maxHeartbeats 400000 in
theorem rparts_any (x : List UInt8) (z : Int) (w : World) (hx : x.length ≤ maxLen) :
    Calls Try.prog 32 #[.string ⟨x.toArray⟩, .int .i64 z] w (StrErr w (prtL x z) (prtE x z)) := by
  by_cases hz : chk x = 0
  · have hz1 : (chk x == 0) = true := by simp [hz]
    have hz2 : (chk x != 0) = false := by simp [hz]
    by_cases hr : 0 ≤ z ∧ z ≤ x.length
    · have h1 : prtL x z = szL z.toNat x := by unfold prtL; rw [if_pos ⟨hz, hr⟩, szL_sized _ _ (chk_zero hz).2]; rfl
      have h2 : prtE x z = 0 := by unfold prtE; rw [if_pos hz, if_pos hr]
      have hi : (decide (0 ≤ z) && decide (z ≤ (x.length : Int))) = true := by simp [hr]
      have h10 := chk_zero hz
      have hzn : z = (z.toNat : Int) := by omega
      have hzs : z.toNat ≤ 100 := by have := h10.1; omega
      rw [h1, h2]
      have H10 := Lib.hid h10; have HZ := Lib.hid hz; have HN := Lib.hid hzn; have HS := Lib.hid hzs; clear h1 h2 h10 hz hr hzn hzs
      go_enter Try.func32, Try.ntmps32
      go_wp2_with (fail)
      refine (rcheck_l x _ hx).mono ?_; rintro e w1 ⟨rfl, rfl⟩
      go_wp2_with (fail)
      refine (in_any _ _ _ _).mono ?_; rintro e w1 ⟨rfl, rfl⟩
      go_wp2_with (fail)
      refine (sized_any z.toNat x _ _ HS.out HN.out H10.out.1 H10.out.2).mono ?_; rintro e w2 ⟨A, c, rfl, hown, hb2⟩
      go_wp2_with (fail)
      go_ret2
      rw [HZ.out]
      exact ⟨hb2, A, c, rfl, rd_own hown⟩
    · have h1 : prtL x z = [] := by unfold prtL; rw [if_neg (fun h => hr h.2)]
      have h2 : prtE x z = 1 := by unfold prtE; rw [if_pos hz, if_neg hr]
      have hi : (decide (0 ≤ z) && decide (z ≤ (x.length : Int))) = false := by simp; omega
      rw [h1, h2]
      clear h1 h2 hz hr
      go_enter Try.func32, Try.ntmps32
      go_wp2_with (fail)
      refine (rcheck_l x _ hx).mono ?_; rintro e w1 ⟨rfl, rfl⟩
      go_wp2_with (fail)
      refine (in_any _ _ _ _).mono ?_; rintro e w1 ⟨rfl, rfl⟩
      go_wp2_with (fail)
      go_ret2
      exact ⟨Below.refl _ _, none, 0, rfl, rd_nil _ _⟩
  · have h1 : prtL x z = [] := by unfold prtL; rw [if_neg (fun h => hz h.1)]
    have h2 : prtE x z = chk x := by unfold prtE; rw [if_neg hz]
    have hz1 : (chk x == 0) = false := by simp [hz]
    have hz2 : (chk x != 0) = true := by simp [hz]
    rw [h1, h2]
    clear h1 h2 hz
    go_enter Try.func32, Try.ntmps32
    go_wp2_with (fail)
    refine (rcheck_l x _ hx).mono ?_; rintro e w1 ⟨rfl, rfl⟩
    go_wp2_with (fail)
    go_ret2
    exact ⟨Below.refl _ _, none, 0, rfl, rd_nil _ _⟩

theorem around_at {k i : Nat} (h1 : 1 ≤ k) (h6 : k ≤ 6) (hi : i < 10) : ∃ c : UInt8, (Lib.repeatL (alphaL k) 10)[i]? = some c ∧ c.toNat = 97 + i % k := by
  have : ∀ k < 7, ∀ i < 10, 1 ≤ k → (Lib.repeatL (alphaL k) 10)[i]? = some (UInt8.ofNat (97 + i % k)) := by decide
  refine ⟨_, this k (by omega) i hi h1, ?_⟩
  have := Nat.mod_lt i h1
  simp; omega
theorem around_step {k i : Nat} {c : UInt8} (h : (Lib.repeatL (alphaL k) 10)[i]? = some c) : around k (i + 1) = around k i ++ [c] := by
  unfold around; rw [List.take_add_one, h]; rfl
set_option maxRecDepth 100000 in
set_option maxHeartbeats 1000000 in
theorem rmost_ok (k n : Nat) (w : World) (h1 : 1 ≤ k) (h6 : k ≤ 6) (hn : n ≤ 10) :
    Calls Try.prog 34 #[.int .i64 k, .int .i64 n] w fun e w' => e = .returned (.tuple #[.int .i64 ((partsL [around k n]).length : Nat), .int .i64 0]) ∧ Below w.heap.size w w' := by
  have hk0 : ((k : Int) == 0) = false := by rw [beq_eq_false_iff_ne]; omega
  go_enter Try.func34, Try.ntmps34
  go_wp2_with (fail)
  refine (in_true _ _ _ _ (by omega) (by omega)).mono ?_; rintro e w1 ⟨rfl, rfl⟩
  go_wp2_with (fail)
  refine (in_true _ _ _ _ (by omega) (by omega)).mono ?_; rintro e w1 ⟨rfl, rfl⟩
  go_wp2_with (fail)
  go_loopw [6, 7] (fun v i wr => ∃ (q : Nat) (s : ByteArray), q ≤ n ∧ i = .int .i64 q ∧ v = .string s ∧ Hid (s = ⟨(around k q).toArray⟩) ∧ s.size ≤ 100 ∧ Below w1.heap.size w1 wr) (fun _ i _ => n - (intOf i).toNat)
  case atStart => exact ⟨0, _, Nat.zero_le _, rfl, rfl, by show _ = _; simp [around], by decide, Below.refl _ _⟩
  case round =>
    obtain ⟨q, s, hq, rfl, rfl, hs, hss, hb⟩ := hrel
    by_cases h2 : q < n
    · obtain ⟨c, hc, hcn⟩ := around_at h1 h6 (by omega : q < 10)
      have hst := around_step hc
      have hz : wrap64 (97 + (q : Int) % (k : Int)) % 256 = (c.toNat : Int) := by
        rw [hcn, ← Int.natCast_emod]
        have := Nat.mod_lt q h1
        generalize q % k = m at this ⊢
        unfold wrap64; omega
      obtain ⟨lt, hlt⟩ : ∃ lt : ByteArray, Hid (lt = ⟨#[c]⟩) := ⟨_, rfl⟩
      have hcv := conv_one c _ hz wr
      rw [← hlt.out] at hcv
      have hltz : lt.size = 1 := by rw [hlt.out]; rfl
      have hltn : ¬ 9223372036854775807 < s.size + lt.size := by omega
      have HS2 : Hid (s ++ lt = ⟨(around k (q + 1)).toArray⟩) := by
        show _ = _
        rw [hst, hs.out, hlt.out, ByteArray.mk_append_mk]; try simp
      have hsn : (s ++ lt).size ≤ 100 := by
        rw [HS2.out]; simp [ByteArray.size, around]; try omega
      clear hst hc hcn hz
      go_wp2_with (fail)
      exact ⟨⟨q + 1, _, by omega, by go_num, rfl, HS2, hsn, hb.alloc hb.size _⟩, by simp [intOf]; omega⟩
    · obtain rfl : q = n := by omega
      have hc := chk_zero (around_ok (k := k) hn)
      have hC := fun W => rcount_any (around k q) W hc.1 hc.2
      rw [← hs.out] at hC
      have HC := Lib.hid hC; clear hc hC
      go_wp2_with (go_at_call 61; refine (HC.out _).mono ?_; rintro e w2 ⟨rfl, hb2⟩)
      go_ret2
      exact ⟨rfl, hb.trans (hb2.mono hb.size)⟩
set_option maxHeartbeats 400000 in
theorem rmost_range (k n : Int) (w : World) (h : k < 1 ∨ 6 < k ∨ n < 0 ∨ 10 < n) :
    Calls Try.prog 34 #[.int .i64 k, .int .i64 n] w fun e w' => e = .returned (.tuple #[.int .i64 0, .int .i64 1]) ∧ Below w.heap.size w w' := by
  by_cases h1 : k < 1 ∨ 6 < k
  · go_enter Try.func34, Try.ntmps34
    go_wp2_with (fail)
    refine (in_false _ _ _ _ h1).mono ?_; rintro e w1 ⟨rfl, rfl⟩
    go_wp2_with (fail)
    go_ret2
    exact ⟨rfl, Below.refl _ _⟩
  · have h2 : n < 0 ∨ 10 < n := by omega
    have h3 : 1 ≤ k := by omega
    have h4 : k ≤ 6 := by omega
    clear h h1
    go_enter Try.func34, Try.ntmps34
    go_wp2_with (fail)
    refine (in_true _ _ _ _ h3 h4).mono ?_; rintro e w1 ⟨rfl, rfl⟩
    go_wp2_with (fail)
    refine (in_false _ _ _ _ h2).mono ?_; rintro e w1 ⟨rfl, rfl⟩
    go_wp2_with (fail)
    go_ret2
    exact ⟨rfl, Below.refl _ _⟩
def mostN (k n : Int) : Int := if 1 ≤ k ∧ k ≤ 6 ∧ 0 ≤ n ∧ n ≤ 10 then ((partsL [around k.toNat n.toNat]).length : Nat) else 0
def mostE (k n : Int) : Int := if 1 ≤ k ∧ k ≤ 6 ∧ 0 ≤ n ∧ n ≤ 10 then 0 else 1
theorem mostS_any (hP : PartsOfSaid) (k n : Int) (w : World) :
    Calls Try.prog 33 #[.int .i64 k, .int .i64 n] w fun e w' => e = .returned (.tuple #[.int .i64 (mostN k n), .int .i64 (mostE k n)]) ∧ Below w.heap.size w w' := by
  by_cases h : 1 ≤ k ∧ k ≤ 6 ∧ 0 ≤ n ∧ n ≤ 10
  · unfold mostN mostE
    rw [if_pos h, if_pos h]
    obtain ⟨h1, h2, h3, h4⟩ := h
    have e := most_ok hP k.toNat n.toNat w (by omega) (by omega) (by omega)
    rw [Int.toNat_of_nonneg (by omega), Int.toNat_of_nonneg h3] at e
    exact e
  · unfold mostN mostE
    rw [if_neg h, if_neg h]
    exact most_range k n w (by omega)
theorem rmost_any (k n : Int) (w : World) :
    Calls Try.prog 34 #[.int .i64 k, .int .i64 n] w fun e w' => e = .returned (.tuple #[.int .i64 (mostN k n), .int .i64 (mostE k n)]) ∧ Below w.heap.size w w' := by
  by_cases h : 1 ≤ k ∧ k ≤ 6 ∧ 0 ≤ n ∧ n ≤ 10
  · unfold mostN mostE
    rw [if_pos h, if_pos h]
    obtain ⟨h1, h2, h3, h4⟩ := h
    have e := rmost_ok k.toNat n.toNat w (by omega) (by omega) (by omega)
    rw [Int.toNat_of_nonneg (by omega), Int.toNat_of_nonneg h3] at e
    exact e
  · unfold mostN mostE
    rw [if_neg h, if_neg h]
    exact rmost_range k n w (by omega)
end Go.Proofs.Ytalildjhighlhaa
