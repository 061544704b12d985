/-
  The walk of ShortMost: it returns true at any word by numbers and any number of letters, and writes nothing that was there.
-/
import Derived.Test.YtalildjhighlhaaCounts
import Derived.Test.YtalildjhighlhaaMoreLaw
import Derived.Test.YtalildjhighlhaaMathI
import Derived.Test.YtalildjhighlhaaRefC
namespace Go.Proofs.Ytalildjhighlhaa
open Go.RowKit Go.Proofs.Short Go.Maps Go.WideMaps

theorem mem_strKeysI {w : World} {b n : Nat} {D : DataW Unit} (hown : OwnI w b n D) : (strKeys D).Nodup ∧ ∀ x, x ∈ strKeys D ↔ has D (.string x) = true := by
  obtain ⟨es, hD, hpw, _⟩ := hown.entries Try.keyT
  obtain ⟨es', hD', hko⟩ := hown.keysOf
  obtain rfl : es = es' := by rw [hD] at hD'; simpa using hD'
  subst hD
  have hk : ∀ p ∈ es, ∃ x, p.1 = .string x := fun p hp => by obtain ⟨v, hv⟩ := hko p hp; obtain ⟨x, _, hx, _⟩ := Maps.keyOf_str Try.underlying9 hv; exact ⟨x, hx⟩
  constructor
  · show (es.map fun p => strOf p.1).Nodup
    refine List.pairwise_map.2 (hpw.imp_of_mem fun {p q} hp' hq' hne e => hne ?_)
    obtain ⟨a, ha⟩ := hk p hp'
    obtain ⟨b, hb⟩ := hk q hq'
    rw [ha, hb] at e ⊢
    exact congrArg _ e
  · intro x
    rw [has_eq, List.any_eq_true]
    show x ∈ es.map (fun p => strOf p.1) ↔ _
    rw [List.mem_map]
    constructor
    · rintro ⟨p, hp', rfl⟩
      obtain ⟨a, ha⟩ := hk p hp'
      exact ⟨p, hp', by rw [ha]; simp [Lit.sameKey, strOf]⟩
    · rintro ⟨p, hp', hs⟩
      obtain ⟨a, ha⟩ := hk p hp'
      rw [ha] at hs
      exact ⟨p, hp', by rw [ha]; simpa [Lit.sameKey, strOf] using hs⟩
theorem size_cnt {w : World} {b n : Nat} {D : DataW Unit} {x : List UInt8} (hown : OwnI w b n D) (hc : Cnt D (fun p => (subs x).count p)) : Maps.size D = totL x := by
  obtain ⟨hnd, hmem⟩ := mem_strKeysI hown
  have hp : (strKeys D).Perm (partsL [x]) := (List.perm_ext_iff_of_nodup hnd (srt_nodup (srt_partsL _))).2 fun p => by
    rw [hmem p, (hc p).1, List.count_pos_iff, mem_subs, mem_partsL]; simp
  have h2 : (strKeys D).length = Maps.size D := by
    obtain ⟨es, hD, _, _⟩ := hown.entries Try.keyT
    rw [hD]; simp [strKeys, Maps.size]
  rw [← h2, hp.length_eq]; rfl
theorem around_in {k n : Nat} : ∀ c ∈ around k n, c ∈ alphaL k := fun c hc => by
  have h2 : c ∈ Lib.repeatL (alphaL k) 10 := List.mem_of_mem_take hc
  have h3 : ∀ m, c ∈ Lib.repeatL (alphaL k) m → c ∈ alphaL k := by
    intro m
    induction m with
    | zero => intro h; exact absurd h (by simp [Lib.repeatL])
    | succ m ih =>
      intro h
      rcases List.mem_append.1 h with h | h
      · exact h
      · exact ih h
  exact h3 _ h2
theorem around_good : ∀ k < 7, ∀ n < 11, 1 ≤ k → goodB k [] (around k n) = true := by decide +kernel
theorem around_len {k n : Nat} (h1 : 1 ≤ k) (h6 : k ≤ 6) (hn : n ≤ 10) : (around k n).length = n := by
  have : ∀ k < 7, ∀ n < 11, 1 ≤ k → (around k n).length = n := by decide +kernel
  exact this k (by omega) n (by omega) h1
theorem ext_six {k n : Nat} {c : UInt8} (h1 : 1 ≤ k) (h6 : k ≤ 6) (hc : c.toNat = 97 + n % k) : (⟨#[97, 98, 99, 100, 101, 102]⟩ : ByteArray).extract (n % k) (n % k + 1) = ⟨#[c]⟩ := by
  have h3 := Nat.mod_lt n h1
  rw [ByteArray.extract_mk]
  have e : c = UInt8.ofNat (97 + n % k) := UInt8.toNat_inj.1 (by simp; omega)
  rw [e]
  generalize n % k = j at h3 ⊢
  match j, (by omega : j < 6) with
  | 0, _ => rfl
  | 1, _ => rfl
  | 2, _ => rfl
  | 3, _ => rfl
  | 4, _ => rfl
  | 5, _ => rfl
theorem wordL_alpha {L : Nat} (h1 : 1 ≤ L) (h6 : L ≤ 6) (l : List Nat) : ∀ c ∈ wordL L l, c ∈ alphaL L := fun c hc => by
  obtain ⟨n, _, rfl⟩ := List.mem_map.1 hc
  have h3 := Nat.mod_lt n h1
  have e : lettL L n = UInt8.ofNat (97 + n % L) := rfl
  rw [e]
  generalize n % L = k at h3 ⊢
  have : ∀ L < 7, ∀ k < L, UInt8.ofNat (97 + k) ∈ alphaL L := by decide
  exact this L (by omega) k h3

set_option maxRecDepth 100000 in
set_option maxHeartbeats 4000000 in
theorem mostLaw_any (cs : Array Value) (m : Nat) (ls : List Nat) (kk : Nat) (w : World) (hS : IsSlip cs m ls) (hkk : kk < 256) :
    Calls Try.prog 11 #[.agg cs, .int .u8 kk] w fun e w' => e = .returned (.bool true) ∧ Below w.heap.size w w' := by
  obtain ⟨k, hk⟩ : ∃ k : Nat, (1 + (kk : Int) % 6 = (k : Int)) ∧ 1 ≤ k ∧ k ≤ 6 := ⟨1 + kk % 6, by simp, by omega, by omega⟩
  obtain ⟨hk, h1, h6⟩ := hk
  have hM : ∀ W, Calls Try.prog 49 #[.agg cs, .int .i64 10, .int .i64 k] W fun e w' => e = .returned (.string ⟨(wordL k (ls.take (m % (10 + 1)))).toArray⟩) ∧ Below W.heap.size W w' := fun W => made_w cs m ls 10 k W hS (by omega) h1 h6
  have hinf : (Try.prog.info? 52).map (·.size) = some cs.size := by rw [hS.size]; kernel_rfl
  have hhp := heap_alloc_new w (.cells cs 52)
  have HINF := Lib.hid hinf; have HHP := Lib.hid hhp; clear hinf hhp
  have hlen : (wordL k (ls.take (m % (10 + 1)))).length ≤ 10 := by
    unfold wordL; rw [List.length_map, List.length_take]; have := Nat.mod_lt m (show 0 < 10 + 1 by omega); omega
  have hin := wordL_alpha h1 h6 (ls.take (m % (10 + 1)))
  have HM := Lib.hid hM; have HIN := Lib.hid hin; clear hM hin
  generalize wordL k (ls.take (m % (10 + 1))) = x at hlen HM HIN
  have hk0 : ((k : Int) == 0) = false := by rw [beq_eq_false_iff_ne]; omega
  go_enter Try.func11, Try.ntmps11
  go_wp2_with (refine wpList_load_row rfl 52 (.tmp 2) rfl w.heap.size rfl 52 cs (0, 0) _ HHP.out Try.underlying52 rfl HINF.out ?_)
  refine (HM.out _).mono ?_; rintro e w1 ⟨rfl, hb1⟩
  have hW1 : Below w.heap.size w w1 := ((Below.refl _ w).alloc (Nat.le_refl _) (.cells cs 52)).trans (hb1.mono (by simp))
  clear hb1 hk
  go_wp2_with (fail)
  go_loopw [7, 24] (fun v i wr => ∃ (q : Nat) (s : ByteArray), q ≤ x.length ∧ i = .int .i64 q ∧ v = .string s ∧ Hid (s = ⟨(around k q).toArray⟩) ∧ s.size ≤ 100 ∧ Below w.heap.size w wr) (fun _ i _ => x.length - (intOf i).toNat)
  case atStart => exact ⟨0, _, Nat.zero_le _, rfl, rfl, by show _ = _; simp [around], by decide, hW1⟩
  case round =>
    obtain ⟨q, s, hq, rfl, rfl, hs, hss, hb⟩ := hrel
    by_cases h2 : q < x.length
    · obtain ⟨c, hc, hcn⟩ := around_at h1 h6 (by omega : q < 10)
      have hst := around_step hc
      have hex := ext_six (n := q) h1 h6 hcn
      obtain ⟨lt, hlt⟩ : ∃ lt : ByteArray, Hid (lt = ⟨#[c]⟩) := ⟨_, rfl⟩
      rw [← hlt.out] at hex
      have hmod := Nat.mod_lt q h1
      have hltz : lt.size = 1 := by rw [hlt.out]; rfl
      have hltn : ¬ 9223372036854775807 < s.size + lt.size := by omega
      have HS2 : Hid (s ++ lt = ⟨(around k (q + 1)).toArray⟩) := by
        show _ = _
        rw [hst, hs.out, hlt.out, ByteArray.mk_append_mk]; try simp
      have hsn : (s ++ lt).size ≤ 100 := by
        rw [HS2.out]; simp [ByteArray.size, around]; try omega
      have hqk : decide ((q : Int) < (x.length : Int)) = true := by simp; omega
      clear hst hc hcn
      go_wp2
      go_quiet (fail)
      go_wp2
      exact ⟨⟨q + 1, _, by omega, by go_num, rfl, HS2, hsn, hb.trans ⟨rfl, rfl, rfl, Nat.le_refl _, fun _ _ => rfl⟩⟩, by simp [intOf]; omega⟩
    · obtain rfl : q = x.length := by omega
      have hal := around_len h1 h6 hlen
      have hag := around_good k (by omega) x.length (by omega) h1
      have hmp : totL x ≤ totL (around k x.length) := most_parts h6 HIN.out around_in (by rw [hal]) hag
      have htl : totL (around k x.length) ≤ 1024 := by have := partsL_length [around k x.length] (by simpa using (by omega : (around k x.length).length ≤ 10)); simpa [totL] using this
      have hC1 := Lib.hid fun W => count_alpha HIN.out hlen W
      have hC2 := Lib.hid fun W => count_alpha (around_in (k := k) (n := x.length)) (by omega) W
      have hMo := Lib.hid fun W => most_ok partsOf_said k x.length W h1 h6 hlen
      have hP := Lib.hid fun W => parts_m (around k x.length) W (by omega)
      have hSC := Lib.hid fun (w : World) (b n : Nat) (D : DataW Unit) (hown : OwnI w b n D) (hc : Cnt D (fun p => (subs (around k x.length)).count p)) => size_cnt hown hc
      rw [← hs.out] at hC2 hP
      have e1 : (partsL [x]).length = totL x := rfl
      have e2 : (partsL [around k x.length]).length = totL (around k x.length) := rfl
      rw [e1] at hC1
      rw [e2] at hC2 hMo
      generalize totL x = c1 at hC1 hmp
      generalize totL (around k x.length) = c2 at hC2 hMo hmp htl hSC
      clear hal hag e1 e2 hs hss
      have hxd : decide ((x.length : Int) < (x.length : Int)) = false := by simp
      go_wp2_with (fail)
      refine (hC1.out _).mono ?_; rintro e w2 ⟨rfl, hb2⟩
      have hW2 := hb.trans (hb2.mono hb.size); clear hb2 hb
      go_wp2_with (fail)
      refine (hC2.out _).mono ?_; rintro e w3 ⟨rfl, hb3⟩
      have hW3 := hW2.trans (hb3.mono hW2.size); clear hb3 hW2
      go_wp2_with (fail)
      refine (hMo.out _).mono ?_; rintro e w4 ⟨rfl, hb4⟩
      have hW4 := hW3.trans (hb4.mono hW3.size); clear hb4 hW3
      go_wp2_with (fail)
      refine (hP.out _).mono ?_; rintro e w5 ⟨b, n, D, rfl, hbb, hown, hn, hcnt, hb5⟩
      have hW5 := hW4.trans (hb5.mono hW4.size); clear hb5 hW4
      have hsz := hSC.out _ _ _ _ hown hcnt
      have HSZ := Lib.hid hsz
      clear hsz hcnt
      have hln := hown.len Try.underlying56 3
      rw [HSZ.out] at hln
      go_wp2_with (fail)
      refine (works_any _).mono ?_; rintro e w6 ⟨rfl, hb6⟩
      have hW6 := hW5.trans (hb6.mono hW5.size); clear hb6 hW5
      go_wp2_with (fail)
      go_ret
      exact ⟨rfl, hW6⟩
end Go.Proofs.Ytalildjhighlhaa
