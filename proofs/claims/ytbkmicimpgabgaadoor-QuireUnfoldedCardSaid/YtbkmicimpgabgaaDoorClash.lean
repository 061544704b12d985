/-
  Package quire's clash, checkStrip, Why and Proves.
-/
import Derived.Test.YtbkmicimpgabgaaDoorBits
set_option linter.unusedSimpArgs false
set_option linter.unusedVariables false
namespace Go.Proofs.YtbkmicimpgabgaaDoor
open Go.RowKit Go.Lib Go.Proofs.Quire

set_option maxRecDepth 100000 in
set_option maxHeartbeats 1000000 in
theorem clash_any (cs : List UInt8) (i j : Nat) (w : World) (hT : Tab w) (hij : i < j) (hj : j < cs.length) (hl : cs.length ≤ 63) :
    Calls Tryd.prog 48 #[.string ⟨cs.toArray⟩, .int .i64 i, .int .i64 j] w fun e w' => e = .returned (.bool (clashB cs i j)) ∧ ∃ q, w' = w.drewN q := by
  obtain ⟨r, hr⟩ : ∃ r, Hid (clashB cs i j = r) := ⟨_, rfl⟩
  rw [hr.out]
  have h1 := fun W h => split_any (i + 1) W h (by omega) (by omega)
  have h2 := fun W h => split_any (j + 1) W h (by omega) (by omega)
  have e1 : ((i + 1 : Nat) : Int) = (i : Int) + 1 := by omega
  have e2 : ((j + 1 : Nat) : Int) = (j : Int) + 1 := by omega
  rw [e1] at h1; rw [e2] at h2
  have hib : i < (⟨cs.toArray⟩ : ByteArray).size := by show i < cs.toArray.size; simp; omega
  have hjb : j < (⟨cs.toArray⟩ : ByteArray).size := by show j < cs.toArray.size; simp; omega
  have hbe : (((⟨cs.toArray⟩ : ByteArray)[i].toNat : Int) == ((⟨cs.toArray⟩ : ByteArray)[j].toNat : Int)) = (cs.getD i 0 == cs.getD j 0) := by
    rw [getD_lt _ _ _ (by omega), getD_lt _ _ _ hj]
    show ((cs.toArray[i].toNat : Int) == (cs.toArray[j].toNat : Int)) = _
    rw [List.getElem_toArray, List.getElem_toArray, Bool.eq_iff_iff]; simp only [beq_iff_eq]
    exact ⟨fun h => UInt8.toNat_inj.1 (by omega), fun h => by rw [h]⟩
  generalize (⟨cs.toArray⟩ : ByteArray) = s at hib hjb hbe ⊢
  by_cases ht : tzN (i + 1) = tzN (j + 1)
  · have hle := odd_le (Nat.add_le_add_right (Nat.le_of_lt hij) 1) ht
    have hb64 : oddN (j + 1) ≤ 64 := by unfold oddN; exact Nat.le_trans (Nat.div_le_self _ _) (by omega)
    have hst : Hid (r = ((cs.getD i 0 == cs.getD j 0) != decide ((oddN (j + 1) - oddN (i + 1)) % 4 = 0))) := by
      show _ = _; rw [← hr.out]; unfold clashB; rw [if_pos ht]
    have o1 : ((i : Int) + 1) / 2 ^ tzN (i + 1) = (oddN (i + 1) : Int) := by unfold oddN; rw [← e1]; push_cast; rfl
    have o2 : ((j : Int) + 1) / 2 ^ tzN (j + 1) = (oddN (j + 1) : Int) := by unfold oddN; rw [← e2]; push_cast; rfl
    rw [o1] at h1; rw [o2] at h2
    rw [← ht] at h2
    generalize tzN (i + 1) = k at h1 h2
    generalize oddN (i + 1) = p at h1 hle hst
    generalize oddN (j + 1) = q at h2 hle hst hb64
    generalize (cs.getD i 0 == cs.getD j 0) = b at hbe hst
    clear o1 o2 ht e1 e2 hr
    have hw1 : IntKind.i64.wrap ((q : Int) - p) = (q : Int) - p := by rw [IntKind.wrap_i64]; omega
    have hm : ((q : Int) - p).tmod 4 = (((q - p) % 4 : Nat) : Int) := by rw [Int.tmod_eq_emod_of_nonneg (by omega)]; omega
    have hw2 : IntKind.i64.wrap ((((q - p) % 4 : Nat) : Int)) = (((q - p) % 4 : Nat) : Int) := by rw [IntKind.wrap_i64]; omega
    have HW1 := Lib.hid hw1; have HM := Lib.hid hm
    have hd : ((((q : Int) - p) % 4) == 0) = decide ((q - p) % 4 = 0) := by
      rw [Bool.eq_iff_iff]; simp only [beq_iff_eq, decide_eq_true_eq]; omega
    generalize decide ((q - p) % 4 = 0) = d at hd hst
    clear hw2 hm
    cases b <;> cases d
    all_goals
      go_enter Tryd.func48, Tryd.ntmps48
      go_wp2_with (fail)
      refine (h1 _ hT).mono ?_; rintro e w1 ⟨rfl, rfl⟩
      go_wp2_with (fail)
      refine (h2 _ hT).mono ?_; rintro e w1 ⟨rfl, rfl⟩
      go_wp2_with (fail)
      go_quiet (fail)
      go_wp2
      go_ret
      exact ⟨ret_bool (by rw [hst.out]; rfl), _, rfl⟩
  · have hne : ((tzN (i + 1) : Int) != (tzN (j + 1) : Int)) = true := by simp; omega
    have hst : Hid (r = false) := by show _ = _; rw [← hr.out]; unfold clashB; rw [if_neg ht]
    generalize tzN (i + 1) = k at h1 hne
    generalize tzN (j + 1) = k' at h2 hne
    clear ht e1 e2
    go_enter Tryd.func48, Tryd.ntmps48
    go_wp2_with (fail)
    refine (h1 _ hT).mono ?_; rintro e w1 ⟨rfl, rfl⟩
    go_wp2_with (fail)
    refine (h2 _ hT).mono ?_; rintro e w1 ⟨rfl, rfl⟩
    go_wp2_with (fail)
    go_ret
    exact ⟨ret_bool (by rw [hst.out]), 0, rfl⟩
theorem size_l (cs : List UInt8) : (⟨cs.toArray⟩ : ByteArray).size = cs.length := by show cs.toArray.size = _; simp
set_option maxRecDepth 100000 in
set_option maxHeartbeats 1000000 in
theorem checkStrip_any (cs : List UInt8) (w : World) (hs : cs.length ≤ maxLen) :
    Calls Tryd.prog 43 #[.string ⟨cs.toArray⟩] w fun e w' => e = .returned (.int .i64 (stripE cs)) ∧ Below w.heap.size w w' := by
  have h1 := fun W => checkCreases_any ⟨cs.toArray⟩ W (by rw [size_l]; exact hs)
  simp only [List.toList_toArray] at h1
  obtain ⟨r, hr⟩ : ∃ r, Hid (stripE cs = r) := ⟨_, rfl⟩
  rw [hr.out]
  by_cases hz : chkL 63 118 104 cs = 0
  · have hle := (chkL_zero hz).1
    have h2 := fun W => isPower_any (cs.length + 1) W (by omega)
    have e1 : ((cs.length + 1 : Nat) : Int) = (cs.length : Int) + 1 := by omega
    rw [e1] at h2
    rw [hz] at h1
    by_cases ho : onesN (cs.length + 1) = 1
    · have HR : Hid (r = 0) := by show _ = _; rw [← hr.out]; unfold stripE; rw [if_pos hz, if_pos ho]
      rw [ho] at h2
      clear hz ho hr e1
      go_enter Tryd.func43, Tryd.ntmps43
      go_wp2_with (fail)
      refine (h1 _).mono ?_; rintro e w1 ⟨rfl, hb1⟩
      go_wp2_with (fail)
      refine (h2 _).mono ?_; rintro e w2 ⟨rfl, rfl⟩
      go_wp2_with (fail)
      go_ret
      exact ⟨ret_int HR.out.symm, hb1⟩
    · have HR : Hid (r = 5) := by show _ = _; rw [← hr.out]; unfold stripE; rw [if_pos hz, if_neg ho]
      rw [show (onesN (cs.length + 1) == 1) = false by simpa using ho] at h2
      clear hz ho hr e1
      go_enter Tryd.func43, Tryd.ntmps43
      go_wp2_with (fail)
      refine (h1 _).mono ?_; rintro e w1 ⟨rfl, hb1⟩
      go_wp2_with (fail)
      refine (h2 _).mono ?_; rintro e w2 ⟨rfl, rfl⟩
      go_wp2_with (fail)
      go_ret
      exact ⟨ret_int HR.out.symm, hb1⟩
  · have HR : Hid (r = chkL 63 118 104 cs) := by show _ = _; rw [← hr.out]; unfold stripE; rw [if_neg hz]
    have hz2 : (chkL 63 118 104 cs != 0) = true := by simpa using hz
    generalize chkL 63 118 104 cs = z at h1 HR hz2
    clear hz hr
    go_enter Tryd.func43, Tryd.ntmps43
    go_wp2_with (fail)
    refine (h1 _).mono ?_; rintro e w1 ⟨rfl, hb1⟩
    go_wp2_with (fail)
    go_ret
    exact ⟨ret_int HR.out.symm, hb1⟩
/-- the answer of a search for two of them -/
def pairR : Option (Nat × Nat) → Value
  | some (i, j) => .tuple #[.int .i64 i, .int .i64 j, .int .i64 0]
  | none => .tuple #[.int .i64 0, .int .i64 0, .int .i64 13]
def whyR (cs : List UInt8) : Value := if stripE cs = 0 then pairR (firstP (clashB cs) cs.length cs.length 0) else .tuple #[.int .i64 0, .int .i64 0, .int .i64 (stripE cs)]
theorem firstP_step {f : Nat → Nat → Bool} {n i : Nat} (h : i < n) : firstP f n (n - i) i = match firstJ f i (n - (i + 1)) (i + 1) with | some j => some (i, j) | none => firstP f n (n - (i + 1)) (i + 1) := by
  rw [show n - i = (n - (i + 1)) + 1 by omega]; rfl
theorem firstJ_step {f : Nat → Nat → Bool} {n i j : Nat} (h : j < n) : firstJ f i (n - j) j = if f i j then some j else firstJ f i (n - (j + 1)) (j + 1) := by
  rw [show n - j = (n - (j + 1)) + 1 by omega]; rfl
def InnerAt (f : Nat → Nat → Bool) (n i j : Nat) (r : Option (Nat × Nat)) : Prop := (match firstJ f i (n - j) j with | some j => some (i, j) | none => firstP f n (n - (i + 1)) (i + 1)) = r
set_option maxRecDepth 100000 in
set_option maxHeartbeats 2000000 in
theorem why_any (cs : List UInt8) (w : World) (hT : Tab w) (hs : cs.length ≤ maxLen) :
    Calls Tryd.prog 21 #[.string ⟨cs.toArray⟩] w fun e w' => e = .returned (whyR cs) ∧ Below w.heap.size w w' := by
  have h1 := fun W => checkStrip_any cs W hs
  by_cases hz : stripE cs = 0
  · have hle := (chkL_zero (stripE_zero hz).1).1
    obtain ⟨r, hr⟩ : ∃ r, Hid (firstP (clashB cs) cs.length (cs.length - 0) 0 = r) := ⟨_, rfl⟩
    have HV : Hid (whyR cs = pairR r) := by show _ = _; unfold whyR; rw [if_pos hz, ← hr.out]; rfl
    rw [HV.out]
    rw [hz] at h1
    clear hz HV
    go_enter Tryd.func21, Tryd.ntmps21
    go_wp2_with (fail)
    refine (h1 _).mono ?_; rintro e w1 ⟨rfl, hb1⟩
    go_wp2_with (fail)
    go_loopw [15] (fun v wr => ∃ i : Nat, i ≤ cs.length ∧ v = .int .i64 i ∧ Below w.heap.size w wr ∧ Hid (firstP (clashB cs) cs.length (cs.length - i) i = r)) (fun v _ => cs.length - (intOf v).toNat)
    case atStart => exact ⟨0, Nat.zero_le _, rfl, hb1, hr⟩
    case round =>
      clear hb1
      obtain ⟨i, hi, rfl, hbr, hf⟩ := hrel
      by_cases hlt : i < cs.length
      · have hin : Hid (InnerAt (clashB cs) cs.length i (i + 1) r) := by show _ = _; rw [← hf.out, firstP_step hlt]
        go_wp2_with (fail)
        go_loopw [7] (fun v wr => ∃ j : Nat, i < j ∧ j ≤ cs.length ∧ v = .int .i64 j ∧ Below w.heap.size w wr ∧ Hid (InnerAt (clashB cs) cs.length i j r)) (fun v _ => cs.length - (intOf v).toNat)
        case atStart => exact ⟨i + 1, by omega, by omega, by go_num, hbr, hin⟩
        case round =>
          clear hbr
          obtain ⟨j, hij, hj, rfl, hbr, hf2⟩ := hrel
          by_cases hlj : j < cs.length
          · have hc := fun W h => clash_any cs i j W h hij hlj hle
            have hst := firstJ_step (f := clashB cs) (i := i) hlj
            have hT2 := hT.below hbr
            cases hcb : clashB cs i j with
            | true =>
              rw [hcb] at hc hst
              have HR : Hid (r = some (i, j)) := by show _ = _; rw [← hf2.out, hst]; rfl
              clear hst hcb
              go_wp2_with (fail)
              refine (hc _ hT2).mono ?_; rintro e w2 ⟨rfl, q, rfl⟩
              go_wp2_with (fail)
              go_ret3
              exact ⟨by rw [HR.out]; rfl, below_drewN hbr _⟩
            | false =>
              rw [hcb] at hc hst
              have HI : Hid (InnerAt (clashB cs) cs.length i (j + 1) r) := by
                show _ = _; rw [← hf2.out, hst]; simp only [Bool.false_eq_true, if_false]
              clear hst hcb
              go_wp2_with (fail)
              refine (hc _ hT2).mono ?_; rintro e w2 ⟨rfl, q, rfl⟩
              go_wp2_with (fail)
              exact ⟨⟨j + 1, by omega, by omega, by go_num, below_drewN hbr _, HI⟩, by simp [intOf]; omega⟩
          · have HF : Hid (firstP (clashB cs) cs.length (cs.length - (i + 1)) (i + 1) = r) := by
              show _ = _; rw [← hf2.out, show cs.length - j = 0 by omega]; rfl
            go_wp2_with (fail)
            exact ⟨⟨i + 1, by omega, by go_num, hbr, HF⟩, by simp [intOf]; omega⟩
      · have HR : Hid (r = none) := by show _ = _; rw [← hf.out, show cs.length - i = 0 by omega]; rfl
        go_wp2_with (fail)
        go_ret3
        exact ⟨by rw [HR.out]; rfl, hbr⟩
  · have HR : Hid (whyR cs = .tuple #[.int .i64 0, .int .i64 0, .int .i64 (stripE cs)]) := by show _ = _; unfold whyR; rw [if_neg hz]
    have hz2 : (stripE cs != 0) = true := by simpa using hz
    rw [HR.out]
    generalize stripE cs = z at h1 hz2
    clear hz HR
    go_enter Tryd.func21, Tryd.ntmps21
    go_wp2_with (fail)
    refine (h1 _).mono ?_; rintro e w1 ⟨rfl, hb1⟩
    go_wp2_with (fail)
    go_ret3
    exact ⟨rfl, hb1⟩
end Go.Proofs.YtbkmicimpgabgaaDoor
