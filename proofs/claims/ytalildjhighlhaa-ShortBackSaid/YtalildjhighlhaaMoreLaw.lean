/-
  The walk of ShortMore: it returns true at any word by numbers, letter, place and sets, and writes nothing that was there.
-/
import Derived.Test.YtalildjhighlhaaSlip
import Derived.Test.YtalildjhighlhaaArchesLaw
import Derived.Test.YtalildjhighlhaaMathF
import Derived.Laws.Rows
namespace Go.Proofs.Ytalildjhighlhaa
open Go.RowKit Go.Proofs.Short

def moreL (x : List UInt8) (t : Nat) (c : UInt8) : List UInt8 := x.take t ++ [c] ++ x.drop t
theorem more_sub (x : List UInt8) (t : Nat) (c : UInt8) : x.Sublist (moreL x t c) := by
  have e : x = x.take t ++ x.drop t := (List.take_append_drop t x).symm
  conv => lhs; rw [e]
  unfold moreL
  rw [List.append_assoc]
  exact (List.Sublist.refl _).append (List.sublist_append_right _ _)
theorem more_len (x : List UInt8) (t : Nat) (c : UInt8) : (moreL x t c).length = x.length + 1 := by
  unfold moreL; simp; omega
theorem ext_abc (n : Nat) : (⟨#[97, 98, 99]⟩ : ByteArray).extract (n % 3) (n % 3 + 1) = ⟨#[lettL 3 n]⟩ := by
  have h3 := Nat.mod_lt n (show 0 < 3 by omega)
  have e : lettL 3 n = UInt8.ofNat (97 + n % 3) := rfl
  rw [e, ByteArray.extract_mk]
  generalize n % 3 = k at h3 ⊢
  match k, h3 with
  | 0, _ => rfl
  | 1, _ => rfl
  | 2, _ => rfl
theorem cat_more (x : List UInt8) (t n : Nat) : (⟨(x.take t).toArray⟩ : ByteArray) ++ (⟨#[97, 98, 99]⟩ : ByteArray).extract (n % 3) (n % 3 + 1) ++ ⟨(x.drop t).toArray⟩ = ⟨(moreL x t (lettL 3 n)).toArray⟩ := by
  rw [ext_abc, ByteArray.mk_append_mk, ByteArray.mk_append_mk]; simp [moreL]
theorem lett_alpha {n : Nat} : lettL 3 n ∈ alphaL 3 := by
  have h3 := Nat.mod_lt n (show 0 < 3 by omega)
  have e : lettL 3 n = UInt8.ofNat (97 + n % 3) := rfl
  rw [e]
  generalize n % 3 = k at h3 ⊢
  match k, h3 with
  | 0, _ => decide
  | 1, _ => decide
  | 2, _ => decide
theorem left_true {x p : List UInt8} (h : p.Sublist x) (hx : x.length ≤ 100) (W : World) : Calls Try.prog 27 #[.string ⟨x.toArray⟩, .string ⟨p.toArray⟩] W fun e w' => e = .returned (.bool true) ∧ Below W.heap.size W w' := by
  have hl := leftL_iff.2 h
  have h1 := h.length_le
  have := left_b x p W (by unfold maxLen; omega) (by unfold maxLen; omega)
  rw [hl] at this; exact this
theorem alpha_okc {k : Nat} {c : UInt8} (h : c ∈ alphaL k) : okc c = true := by
  have h4 : c ∈ [97, 98, 99, 100, 101, 102] := List.mem_of_mem_take h
  simp at h4
  rcases h4 with rfl | rfl | rfl | rfl | rfl | rfl <;> decide
theorem chk_alpha {k : Nat} {x : List UInt8} (h : ∀ c ∈ x, c ∈ alphaL k) (hl : x.length ≤ 10) : chk x = 0 := by
  unfold chk
  rw [if_neg (by omega), if_pos (List.all_eq_true.2 fun c hc => alpha_okc (h c hc))]
theorem letE_alpha {k : Nat} {x : List UInt8} (h : ∀ c ∈ x, c ∈ alphaL k) (hl : x.length ≤ 10) (h1 : 1 ≤ k) (h6 : k ≤ 6) : letE x (k : Int) = 0 := by
  unfold letE
  rw [if_pos (chk_alpha h hl), if_neg (by omega), if_pos]
  refine List.all_eq_true.2 fun c hc => ?_
  rw [Int.toNat_natCast, List.contains_iff_mem]; exact h c hc
theorem count_alpha {k : Nat} {x : List UInt8} (h : ∀ c ∈ x, c ∈ alphaL k) (hl : x.length ≤ 10) (W : World) :
    Calls Try.prog 29 #[.string ⟨x.toArray⟩] W fun e w' => e = .returned (.tuple #[.int .i64 ((partsL [x]).length : Nat), .int .i64 0]) ∧ Below W.heap.size W w' := by
  have e := count_any partsOf_said x W (by unfold maxLen; omega)
  have hz := chk_alpha h hl
  unfold cntL at e
  rw [if_pos hz, hz] at e
  exact e
theorem arches_alpha {k : Nat} {x : List UInt8} (h : ∀ c ∈ x, c ∈ alphaL k) (hl : x.length ≤ 10) (h1 : 1 ≤ k) (h6 : k ≤ 6) (W : World) :
    Calls Try.prog 36 #[.string ⟨x.toArray⟩, .int .i64 k] W (RowErr W (archesL k 0 [] x) 0) := by
  have e := archesS_any x (k : Int) W (by unfold maxLen; omega)
  have hz := letE_alpha h hl h1 h6
  unfold arcL at e
  rw [if_pos hz, hz, Int.toNat_natCast] at e
  exact e

set_option maxRecDepth 100000 in
set_option maxHeartbeats 4000000 in
theorem moreLaw_any (cs : Array Value) (m : Nat) (ls : List Nat) (l pl st ot : Nat) (w : World) (hS : IsSlip cs m ls) (hl : l < 256) (hpl : pl < 256) (hst : st < 65536) (hot : ot < 65536) :
    Calls Try.prog 13 #[.agg cs, .int .u8 l, .int .u8 pl, .int .u16 st, .int .u16 ot] w fun e w' => e = .returned (.bool true) ∧ Below w.heap.size w w' := by
  have hM := fun W => made_w cs m ls 9 3 W hS (by omega) (by omega) (by omega)
  have hinf : (Try.prog.info? 52).map (·.size) = some cs.size := by rw [hS.size]; kernel_rfl
  have hhp := heap_alloc_new w (.cells cs 52)
  have HINF := Lib.hid hinf; have HHP := Lib.hid hhp; clear hinf hhp
  have hlen : (wordL 3 (ls.take (m % 10))).length ≤ 9 := by
    unfold wordL; rw [List.length_map, List.length_take]; have := Nat.mod_lt m (show 0 < 10 by omega); omega
  have hin : ∀ c ∈ wordL 3 (ls.take (m % 10)), c ∈ alphaL 3 := fun c hc => by
    obtain ⟨n, _, rfl⟩ := List.mem_map.1 hc
    have h3 := Nat.mod_lt n (show 0 < 3 by omega)
    have e : lettL 3 n = UInt8.ofNat (97 + n % 3) := rfl
    rw [e]
    generalize n % 3 = k at h3 ⊢
    match k, h3 with
    | 0, _ => decide
    | 1, _ => decide
    | 2, _ => decide
  have HM := Lib.hid hM; have HIN := Lib.hid hin; clear hM hin
  generalize wordL 3 (ls.take (m % 10)) = x at hlen HM HIN
  obtain ⟨t, ht⟩ : ∃ t : Nat, ((pl : Int) % ((x.length : Int) + 1)) = (t : Int) ∧ t ≤ x.length := ⟨pl % (x.length + 1), by simp, by have := Nat.mod_lt pl (show 0 < x.length + 1 by omega); omega⟩
  obtain ⟨ht, htl⟩ := ht
  go_enter Try.func13, Try.ntmps13
  go_wp2_with (refine wpList_load_row rfl 52 (.tmp 5) rfl w.heap.size rfl 52 cs (0, 0) _ HHP.out Try.underlying52 rfl HINF.out ?_)
  refine (HM.out _).mono ?_; rintro e w1 ⟨rfl, hb1⟩
  go_wp2_with (fail)
  rw [ht]
  clear ht
  have hcat := cat_more x t l
  have hz1 : (⟨(x.take t).toArray⟩ : ByteArray).size ≤ 10 := by simp [ByteArray.size]; omega
  have hz2 : (⟨(x.drop t).toArray⟩ : ByteArray).size ≤ 10 := by simp [ByteArray.size]; omega
  have hs1 := slice_to x t htl
  have hs2 := slice_from x t htl
  have HCAT := Lib.hid hcat; clear hcat
  go_quiet (fail)
  rw [HCAT.out]
  clear hs1 hs2 hz1 hz2
  have hyl := more_len x t (lettL 3 l)
  have hxy := more_sub x t (lettL 3 l)
  have hyin : ∀ c ∈ moreL x t (lettL 3 l), c ∈ alphaL 3 := fun c hc => by
    unfold moreL at hc
    rcases List.mem_append.1 hc with hc | hc
    · rcases List.mem_append.1 hc with hc | hc
      · exact HIN.out c (List.mem_of_mem_take hc)
      · rw [List.mem_singleton.1 hc]; exact lett_alpha
    · exact HIN.out c (List.mem_of_mem_drop hc)
  have HYL := Lib.hid hyl; have HXY := Lib.hid hxy; have HYI := Lib.hid hyin; clear hyl hxy hyin
  generalize moreL x t (lettL 3 l) = y at HYL HXY HYI ⊢
  have hb2 : Below w.heap.size w (w1.drewN nq) := (((Below.refl _ w).alloc (Nat.le_refl _) (.cells cs 52)).trans (hb1.mono (by simp))).trans ⟨rfl, rfl, rfl, Nat.le_refl _, fun _ _ => rfl⟩
  clear hb1 HCAT
  generalize w1.drewN nq = w2 at hb2 ⊢
  go_wp2_with (fail)
  refine (taken_any x st _ (by omega) (by omega)).mono ?_; rintro e w3 ⟨rfl, hb3⟩
  have hb3' := hb2.trans (hb3.mono hb2.size); clear hb2 hb3
  have hpx := taken_sub x st
  have HPX := Lib.hid hpx; clear hpx
  generalize takenL x st = p at HPX ⊢
  have hpl2 : p.length ≤ 9 := Nat.le_trans HPX.out.length_le hlen
  go_wp2_with (fail)
  refine (taken_any p ot _ (by omega) (by omega)).mono ?_; rintro e w4 ⟨rfl, hb4⟩
  have hb4' := hb3'.trans (hb4.mono hb3'.size); clear hb3' hb4
  have hqp := taken_sub p ot
  have HQP := Lib.hid hqp; clear hqp
  generalize takenL p ot = q at HQP ⊢
  have HL1 := Lib.hid fun W => left_true HPX.out (by omega) W
  have HL2 := Lib.hid fun W => left_true (HPX.out.trans HXY.out) (by have := HYL.out; omega) W
  have HL3 := Lib.hid fun W => left_true HQP.out (by omega) W
  have HL4 := Lib.hid fun W => left_true (HQP.out.trans HPX.out) (by omega) W
  have HL5 := Lib.hid fun W => left_true HXY.out (by have := HYL.out; omega) W
  go_wp2_with (fail)
  refine (HL1.out _).mono ?_; rintro e w5 ⟨rfl, hb5⟩
  have hb5' := hb4'.trans (hb5.mono hb4'.size); clear hb4' hb5
  go_wp2_with (fail)
  refine (HL2.out _).mono ?_; rintro e w6 ⟨rfl, hb6⟩
  have hb6' := hb5'.trans (hb6.mono hb5'.size); clear hb5' hb6
  go_wp2_with (fail)
  refine (HL3.out _).mono ?_; rintro e w7 ⟨rfl, hb7⟩
  have hb7' := hb6'.trans (hb7.mono hb6'.size); clear hb6' hb7
  go_wp2_with (fail)
  refine (HL4.out _).mono ?_; rintro e w8 ⟨rfl, hb8⟩
  have hb8' := hb7'.trans (hb8.mono hb7'.size); clear hb7' hb8
  go_wp2_with (fail)
  refine (HL5.out _).mono ?_; rintro e w9 ⟨rfl, hb9⟩
  have hb9' := hb8'.trans (hb9.mono hb8'.size); clear hb8' hb9
  have HC1 := Lib.hid fun W => count_alpha HIN.out (by omega) W
  have HC2 := Lib.hid fun W => count_alpha HYI.out (by have := HYL.out; omega) W
  have HA1 := Lib.hid fun W => arches_alpha HIN.out (by omega) (show 1 ≤ 3 by omega) (by omega) W
  have HA2 := Lib.hid fun W => arches_alpha HYI.out (by have := HYL.out; omega) (show 1 ≤ 3 by omega) (by omega) W
  have hcl := parts_more HXY.out (by have := HYL.out; omega)
  have hal := arches_more (show 1 ≤ 3 by omega) (by omega) HXY.out HYI.out
  have hc2 : (partsL [y]).length ≤ 1024 := by have := partsL_length [y] (by simp; have := HYL.out; omega); simpa using this
  have ha2 : (archesL 3 0 [] y).length ≤ 1024 := Nat.le_trans (archesL_le 3 y 0 []) (by have := HYL.out; omega)
  generalize (partsL [x]).length = c1 at HC1 hcl
  generalize (partsL [y]).length = c2 at HC2 hcl hc2
  generalize archesL 3 0 [] x = a1 at HA1 hal
  generalize archesL 3 0 [] y = a2 at HA2 hal ha2
  go_wp2_with (fail)
  refine (HC1.out _).mono ?_; rintro e w10 ⟨rfl, hb10⟩
  have hb10' := hb9'.trans (hb10.mono hb9'.size); clear hb9' hb10
  go_wp2_with (fail)
  refine (HC2.out _).mono ?_; rintro e w11 ⟨rfl, hb11⟩
  have hb11' := hb10'.trans (hb11.mono hb10'.size); clear hb10' hb11
  go_wp2_with (fail)
  refine (HA1.out _).mono ?_; rintro e w12 ⟨hb12, A1, k1, rfl, _⟩
  have hb12' := hb11'.trans (hb12.mono hb11'.size); clear hb11' hb12
  go_wp2_with (fail)
  refine (HA2.out _).mono ?_; rintro e w13 ⟨hb13, A2, k2, rfl, _⟩
  have hb13' := hb12'.trans (hb13.mono hb12'.size); clear hb12' hb13
  go_wp2_with (fail)
  refine (works_any _).mono ?_; rintro e w14 ⟨rfl, hb14⟩
  have hb14' := hb13'.trans (hb14.mono hb13'.size); clear hb13' hb14
  go_wp2_with (fail)
  go_ret
  exact ⟨rfl, hb14'⟩
end Go.Proofs.Ytalildjhighlhaa
