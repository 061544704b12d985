/-
  The walk of the reference's words: it returns a new row of all words of one size, in ascending order.
-/
import Derived.Test.YtalildjhighlhaaRefD
import Derived.Deep.RegionLaw
import Derived.Deep.AppendLies
namespace Go.Proofs.Ytalildjhighlhaa
open Go.RowKit Go.Proofs.Short Go.Lib

theorem wordsL_len (k : Nat) (hk : k ≤ 6) : ∀ n, (wordsL k n).length ≤ 6 ^ n
  | 0 => by simp [wordsL]
  | n + 1 => by
    have ih := wordsL_len k hk n
    have key : ∀ l : List UInt8, (l.flatMap fun c => (wordsL k n).map (c :: ·)).length = l.length * (wordsL k n).length := fun l => by
      induction l with
      | nil => simp
      | cons a l ih2 => rw [List.flatMap_cons, List.length_append, ih2, List.length_map, List.length_cons, Nat.add_mul]; omega
    unfold wordsL
    rw [key, alphaL_len hk, Nat.pow_succ, Nat.mul_comm]
    exact Nat.mul_le_mul ih hk
theorem words_small {k n : Nat} (hk : k ≤ 6) (hn : n ≤ 11) : (wordsL k n).length ≤ 400000000 :=
  Nat.le_trans (wordsL_len k hk n) (Nat.le_trans (Nat.pow_le_pow_right (by omega) hn) (by decide))
theorem alpha_k {k j : Nat} (hk : k ≤ 6) (hj : j < k) : ∃ c, (alphaL k)[j]? = some c ∧ c.toNat = 97 + j := by
  obtain ⟨c, h, hc⟩ := alpha_at (k := j) (by omega)
  refine ⟨c, ?_, hc⟩
  unfold alphaL at h ⊢
  rw [List.getElem?_take] at h ⊢
  rw [if_pos hj]
  rw [if_pos (by omega)] at h
  exact h
theorem words_zero (k : Int) (w : World) :
    Calls Try.prog 69 #[.int .i64 k, .int .i64 0] w (SzPost w [[]]) := by
  go_enter Try.func69, Try.ntmps69
  go_wp2
  go_ret
  exact ⟨_, _, rfl, own_one w _ _ _ (Nat.le_refl _), (Below.refl _ w).alloc (Nat.le_refl _) _⟩

theorem conv_drew (c : UInt8) (z : Int) (hz : z = (c.toNat : Int)) (W : World) : (convert 79 9 (.slice (some ⟨W.heap.size, 0, none⟩) 1 1)).run Try.prog (W.alloc (.cells #[.int .u8 z] 5)).drew = .ok (.string ⟨#[c]⟩) (W.alloc (.cells #[.int .u8 z] 5)).drew := by
  subst hz
  have h := run_convert_bytes_arg (P := Try.prog) (W.alloc (.cells #[.int .u8 (c.toNat : Int)] 5)).drew 79 5 Try.underlying79 Try.underlying5 W.heap.size 0 1 1 [(c.toNat : Int)] rfl (fun i hi => by
    match i, hi with
    | 0, _ =>
      have h : (W.alloc (.cells #[.int .u8 (c.toNat : Int)] 5)).cell? ⟨W.heap.size, 0, none⟩ = some (.int .u8 (c.toNat : Int)) := by simp
      exact h) 9 Try.underlying9
  rw [h]
  simp [strOfNums]
set_option maxRecDepth 100000 in
set_option maxHeartbeats 2000000 in
theorem words_succ (k n : Nat) (w : World) (hk : k ≤ 6) (hn : n ≤ 10)
    (ih : ∀ (z : Int) (W : World), z = (n : Int) → Calls Try.prog 69 #[.int .i64 k, .int .i64 z] W (SzPost W (wordsL k n))) :
    Calls Try.prog 69 #[.int .i64 k, .int .i64 ((n : Int) + 1)] w (SzPost w (wordsL k (n + 1))) := by
  have hle := words_small hk (by omega : n + 1 ≤ 11)
  have hle1 := words_small hk (by omega : n ≤ 11)
  have hn0 : ((n : Int) + 1 == 0) = false := by rw [beq_eq_false_iff_ne]; omega
  have hal := alphaL_len hk
  have hwl : ∀ y ∈ wordsL k n, y.length = n := fun y hy => ((mem_wordsL k n y).1 hy).1
  obtain ⟨r, hr⟩ : ∃ r, Hid (((alphaL k).drop 0).flatMap (fun c => (wordsL k n).map (c :: ·)) = r) := ⟨_, rfl⟩
  have hrr : wordsL k (n + 1) = r := hr.out
  rw [hrr] at hle ⊢
  obtain ⟨i0, hi, hz0, hz1, hz2'⟩ := info_parts Try.infoStr
  have HI := Lib.hid ih; have HAL := Lib.hid hal; clear ih hrr hal
  generalize wordsL k n = l1 at hle1 hwl HI hr
  have HWL := Lib.hid hwl; clear hwl
  go_enter Try.func69, Try.ntmps69
  go_wp2_with (go_at_call 69; refine (HI.out _ _ (by omega)).mono ?_; rintro e w1 ⟨A1, c1, rfl, hown1, hb1⟩)
  have hrd1 := rdN_own hown1 none (fun k e => by cases e)
  clear hown1
  go_loopw [5, 7] (fun v i wr => ∃ (j m : Nat) (A : Option Addr) (c0 : Nat) (L : List (List UInt8)), j ≤ k ∧ i = .int .i64 j ∧ v = .slice A m c0 ∧ Hid (m = L.length) ∧ m ≤ 400000000 ∧
      wr.ownsRow w.heap.size 9 1 (.slice A m c0) m (L.map encStr) ∧ RdN wr (.slice A m c0 : Value).ownBlock A1 l1.length (l1.map encStr) ∧ Hid (L ++ ((alphaL k).drop j).flatMap (fun c => l1.map (c :: ·)) = r) ∧ Below w.heap.size w wr)
    (fun _ i _ => k - (intOf i).toNat)
  case atStart => exact ⟨0, 0, none, 0, [], by omega, rfl, rfl, rfl, by omega, ⟨rfl, .inl ⟨rfl, rfl⟩⟩, hrd1, hr, hb1⟩
  case round =>
    obtain ⟨j, m, A, c0, L, hj, rfl, rfl, hm, hm1, hown, hrd, hl, hb⟩ := hrel
    clear hrd1 hb1
    by_cases h1 : j < k
    · obtain ⟨c, hc, hcn⟩ := alpha_k hk h1
      have hlen : L.length + l1.length ≤ 400000000 := by
        have := congrArg List.length hl.out
        rw [drop_get hc, List.flatMap_cons] at this
        simp only [List.length_append, List.length_map] at this
        omega
      have HC := Lib.hid hc; have HCN := Lib.hid hcn; clear hc hcn
      have hmL := hm.out
      go_wp2
      go_loopw [5, 8] (fun v i wr => ∃ (q m : Nat) (A : Option Addr) (c0 : Nat), q ≤ l1.length ∧ i = .int .i64 q ∧ v = .slice A m c0 ∧ Hid (m = L.length + q) ∧ m ≤ 400000000 ∧
          wr.ownsRow w.heap.size 9 1 (.slice A m c0) m ((L ++ (l1.take q).map (c :: ·)).map encStr) ∧ RdN wr (.slice A m c0 : Value).ownBlock A1 l1.length (l1.map encStr) ∧ Below w.heap.size w wr)
        (fun _ i _ => l1.length - (intOf i).toNat)
      case atStart => exact ⟨0, m, A, c0, Nat.zero_le _, rfl, rfl, hm, hm1, by simpa using hown, hrd, hb⟩
      case round =>
        have HL := hl
        clear hown hrd hb hm hm1 hmL hl
        obtain ⟨q, m, A, c0, hq, rfl, rfl, hm, hm1, hown, hrd, hb⟩ := hrel
        have hsz := hb.size
        obtain ⟨xq, hxq⟩ : ∃ xq, Hid (xq = (L ++ (l1.take q).map (c :: ·)).map encStr) := ⟨_, rfl⟩
        rw [← hxq.out] at hown
        by_cases h3 : q < l1.length
        · obtain ⟨y, hy⟩ : ∃ y, l1[q]? = some y := ⟨_, List.getElem?_eq_getElem h3⟩
          have hyl : y.length ≤ 100 := by rw [HWL.out y (List.mem_of_getElem? hy)]; omega
          obtain ⟨g1, rfl, hne1, hat1⟩ := hrd (by omega)
          have hgc : (l1.map encStr).getD q (.bool false) = .string ⟨y.toArray⟩ := by rw [List.getD_eq_getElem?_getD, List.getElem?_map, hy]; rfl
          have hcell : wr.cell? ⟨g1, q, none⟩ = some (.string ⟨y.toArray⟩) := by
            have := hat1.2 q h3; rw [Nat.zero_add, hgc] at this; exact this
          have hm2 : m + 1 ≤ 400000000 := by have := hm.out; omega
          obtain ⟨lt, hlt⟩ : ∃ lt : ByteArray, Hid (lt = ⟨#[c]⟩) := ⟨_, rfl⟩
          have hltz : lt.size = 1 := by rw [hlt.out]; rfl
          have hltn : ¬ 9223372036854775807 < 1 + y.length := by omega
          have HTK : Hid (xq ++ [.string (lt ++ ⟨y.toArray⟩)] = (L ++ (l1.take (q + 1)).map (c :: ·)).map encStr) := by
            show _ = _
            rw [hxq.out, List.take_add_one, hy, hlt.out, ByteArray.mk_append_mk]; simp [encStr]
          have hcell2 : ∀ o, (wr.alloc o).cell? ⟨g1, q, none⟩ = some (.string ⟨y.toArray⟩) := fun o => by
            have := (hat1.alloc o).2 q h3; rw [Nat.zero_add, hgc] at this; exact this
          clear hy hne1 hgc
          have hwd : wr.drew.heap.size = wr.heap.size := rfl
          have hownD : wr.drew.ownsRow w.heap.size 9 1 (.slice A m c0) m xq := hown
          have hZ : IntKind.u8.wrap (IntKind.i64.wrap (97 + (j : Int))) = (c.toNat : Int) := by
            have h6 : ∀ j < 6, IntKind.u8.wrap (IntKind.i64.wrap (97 + ((j : Nat) : Int))) = ((97 + j : Nat) : Int) := by decide
            rw [h6 j (by omega), HCN.out]
          have hcv1 := conv_one c _ hZ wr
          have hcv2 := conv_drew c _ hZ wr
          rw [← hlt.out] at hcv1 hcv2
          clear hZ
          have hcellD : wr.drew.cell? ⟨g1, q, none⟩ = some (.string ⟨y.toArray⟩) := hcell
          have hcellE := hcell2
          go_wp2
          have hmx : m + 1 ≤ maxLen := by unfold maxLen; omega
          have hby : (m + 1) * 16 ≤ 140737488355328 := by omega
          go_region_law (refine step_append_lies _ rfl (.tmp 27) (.tmp 38) 36 rfl w.heap.size 9 i0 (.string ByteArray.empty) 1 16 Try.underlying36 hi hz0 hz1 hz2' rfl (by decide) (.slice A m c0) m xq rfl ?n0 ⟨wr.heap.size + 1, 0, none⟩ 1 1 [.string (lt ++ ⟨y.toArray⟩)] rfl rfl ?n1 ?n2 (by decide) hmx hby ?n3 (wr.heap.size + 2) ?n4 (fun g5 c5 w5 hown5 hg5 hloc hlt5 => ?_); (case n0 => exact (hownD.alloc _).alloc _); (case n1 => (intro j u hj; match j, hj with | 0, hj => (simp at hj; subst hj; try (first | rfl | simp [Addr.add])))); (case n2 => (intro u hu; rw [List.mem_singleton.1 hu]; try rfl)); (case n3 => (first | omega | (simp; done) | (simp; omega))); (case n4 => (first | rfl | simp)))
          all_goals
            have hgx : ((wr.alloc (.cells #[.int .u8 (IntKind.u8.wrap (IntKind.i64.wrap (97 + (j : Int))))] 5)).alloc (.cells #[.string (lt ++ ⟨y.toArray⟩)] 9)).grownBy w5 (.slice A m c0 : Value).ownBlock := ⟨hg5.os, hg5.tape, hg5.output, hg5.size, hg5.block⟩
            have hr5 : (.slice (some ⟨g5, 0, none⟩) (m + 1) c5 : Value).ownBlock = (.slice A m c0 : Value).ownBlock ∨ ∃ k', (.slice (some ⟨g5, 0, none⟩) (m + 1) c5 : Value).ownBlock = some k' ∧ ((wr.alloc (.cells #[.int .u8 (IntKind.u8.wrap (IntKind.i64.wrap (97 + (j : Int))))] 5)).alloc (.cells #[.string (lt ++ ⟨y.toArray⟩)] 9)).heap.size ≤ k' :=
              hloc.imp (fun h => h.symm) (fun h => ⟨g5, rfl, by simp; omega⟩)
            have hrd5 := ((hrd.kept (World.grownBy_alloc wr (.cells #[.int .u8 (IntKind.u8.wrap (IntKind.i64.wrap (97 + (j : Int))))] 5) none) (.inl rfl) (.inl rfl)).kept (World.grownBy_alloc _ (.cells #[.string (lt ++ ⟨y.toArray⟩)] 9) none) (.inl rfl) (.inl rfl)).kept hgx (.inr rfl) hr5
            have hb5 : Below w.heap.size w w5 := ((hb.alloc hsz (.cells #[.int .u8 (IntKind.u8.wrap (IntKind.i64.wrap (97 + (j : Int))))] 5)).alloc (by simp; omega) (.cells #[.string (lt ++ ⟨y.toArray⟩)] 9)).grown hgx (by simp; omega) (fun k' e => (hown.lt k' e).1)
            rw [HTK.out] at hown5
            clear hg5 hgx hloc hown hrd hb hcell hcell2 hcellD hcellE hr5 hownD hcv1 hcv2 hat1
            go_wp2
            exact ⟨⟨q + 1, m + 1, some ⟨g5, 0, none⟩, c5, by omega, by go_num, rfl, by have := hm.out; show _ = _; omega, hm2, hown5, hrd5, hb5⟩, by simp [intOf]; omega⟩
        · obtain rfl : q = l1.length := by omega
          rw [hxq.out, List.take_length] at hown
          have hmm := hm.out
          go_wp2
          exact ⟨⟨j + 1, m, A, c0, _, by omega, by go_num, rfl, by show _ = _; simp; omega, hm1, hown, hrd, by show _ = _; rw [List.append_assoc, ← HL.out, drop_get HC.out, List.flatMap_cons], hb⟩, by simp [intOf]; omega⟩
    · obtain rfl : j = k := by omega
      have e : L = r := by
        have := hl.out
        rw [List.drop_eq_nil_of_le (by rw [HAL.out]; omega)] at this
        simpa using this
      have hmm := hm.out
      subst e; subst hmm
      go_wp2
      go_ret
      exact ⟨A, c0, rfl, hown, hb⟩
theorem words_any (k : Nat) (hk : k ≤ 6) : ∀ (n : Nat) (z : Int) (W : World), n ≤ 11 → z = (n : Int) →
    Calls Try.prog 69 #[.int .i64 k, .int .i64 z] W (SzPost W (wordsL k n))
  | 0, z, W, _, hz => by subst hz; exact words_zero k W
  | n + 1, z, W, hn, hz => by
    have e : z = (n : Int) + 1 := by omega
    subst e
    exact words_succ k n W hk (by omega) fun z' W' hz' => words_any k hk n z' W' (by omega) hz'
end Go.Proofs.Ytalildjhighlhaa
