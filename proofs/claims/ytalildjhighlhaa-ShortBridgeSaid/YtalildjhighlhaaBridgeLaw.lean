/-
  The walk of ShortBridge: it returns true at any word by numbers and any number of letters, and writes nothing that was there.
-/
import Derived.Test.YtalildjhighlhaaMostLaw
import Derived.Test.YtalildjhighlhaaMathK
import Derived.Test.YtalildjhighlhaaShelfG
namespace Go.Proofs.Ytalildjhighlhaa
open Go.RowKit Go.Proofs.Short

theorem indexByte_mem : ∀ (l : List UInt8) (c : UInt8), decide (0 ≤ Lib.indexByte l c) = l.contains c
  | [], c => rfl
  | b :: l, c => by
    have ih := indexByte_mem l c
    have hge := Lib.indexByte_ge l c
    unfold Lib.indexByte
    by_cases h : b = c
    · subst h; simp
    · have hb : (b == c) = false := by simpa using h
      have hb2 : (c == b) = false := by simpa using fun e : c = b => h e.symm
      rw [List.contains_cons, hb2, Bool.false_or, ← ih]
      simp only [hb, Bool.false_eq_true, if_false]
      by_cases h1 : Lib.indexByte l c = -1
      · simp [h1]
      · simp [h1]; omega
def diffT (v : List UInt8) (j : Nat) : Nat := (((alphaL 6).take j).filter fun c => v.contains c).length
theorem diffT_step (v : List UInt8) {j : Nat} (hj : j < 6) : diffT v (j + 1) = diffT v j + if v.contains (UInt8.ofNat (97 + j)) then 1 else 0 := by
  have e : (alphaL 6).take (j + 1) = (alphaL 6).take j ++ [UInt8.ofNat (97 + j)] := by
    have : ∀ j < 6, (alphaL 6).take (j + 1) = (alphaL 6).take j ++ [UInt8.ofNat (97 + j)] := by decide
    exact this j hj
  unfold diffT
  rw [e, List.filter_append, List.length_append]
  congr 1
  by_cases h : v.contains (UInt8.ofNat (97 + j)) = true
  · rw [if_pos h]; simp only [List.filter_cons, h, if_true, List.filter_nil]; rfl
  · rw [if_neg h]; simp only [List.filter_cons, h, List.filter_nil]; rfl
theorem diffT_le (v : List UInt8) (j : Nat) : diffT v j ≤ 6 := by
  unfold diffT
  refine Nat.le_trans (List.length_filter_le _ _) ?_
  rw [List.length_take]; exact Nat.min_le_right _ _
set_option maxHeartbeats 400000 in
theorem different_any (v : List UInt8) (w : World) : Calls Try.prog 50 #[.string ⟨v.toArray⟩] w fun e w' => e = .returned (.int .i64 (diffN v : Nat)) ∧ w' = w := by
  go_enter Try.func50, Try.ntmps50
  go_wp2
  go_loopw [3, 4] (fun n c wr => ∃ j : Nat, j ≤ 6 ∧ c = .int .u8 ((97 + j : Nat) : Int) ∧ n = .int .i64 (diffT v j : Nat) ∧ wr = w) (fun _ c _ => 103 - (intOf c).toNat)
  case atStart => exact ⟨0, by omega, rfl, rfl, rfl⟩
  case round =>
    obtain ⟨j, hj, rfl, rfl, rfl⟩ := hrel
    have hle := diffT_le v j
    by_cases hlt : j < 6
    · have hst := diffT_step v hlt
      have hI := Any.strings_IndexByte Try.lays137 ⟨v.toArray⟩ ((97 + j : Nat) : Int) wr
      have hcc : (((97 + j : Nat) : Int).toNat.toUInt8) = UInt8.ofNat (97 + j) := by rw [Int.toNat_natCast]
      have hl : (⟨v.toArray⟩ : ByteArray).data.toList = v := by simp
      rw [hcc, hl] at hI
      change Calls _ 55 _ _ _ at hI
      have hmem := indexByte_mem v (UInt8.ofNat (97 + j))
      have HI := Lib.hid hI; have HST := Lib.hid hst; clear hI hcc hst hl
      have hjn : 97 + (j + 1) = (97 + j) + 1 := by omega
      have HJN := Lib.hid hjn; clear hjn
      generalize Lib.indexByte v (UInt8.ofNat (97 + j)) = ix at HI hmem
      generalize v.contains (UInt8.ofNat (97 + j)) = inb at hmem HST
      generalize diffT v j = d at HST hle
      have hcl : 97 + j ≤ 102 := by omega
      have hfin : ∀ d2 : Nat, d2 = diffT v (j + 1) → (∃ j2 : Nat, j2 ≤ 6 ∧ Value.int .u8 ((97 + j : Nat) + 1 : Int) = .int .u8 ((97 + j2 : Nat) : Int) ∧ Value.int .i64 (d2 : Int) = .int .i64 (diffT v j2 : Nat)) := fun d2 h => ⟨j + 1, by omega, by rw [HJN.out]; rfl, by rw [h]⟩
      have HFIN := Lib.hid hfin; clear hfin
      generalize 97 + j = c at HI hcl HFIN
      have hcl2 : decide ((c : Int) ≤ 102) = true := by simp; omega
      cases inb with
      | true =>
        have hs : d + 1 = diffT v (j + 1) := by rw [HST.out]; rfl
        obtain ⟨j2, h1, h2, h3⟩ := HFIN.out _ hs
        have H2 := Lib.hid h2; have H3 := Lib.hid h3; clear h2 h3 hs
        go_wp2_with (fail)
        refine HI.out.mono ?_; rintro e w1 ⟨rfl, rfl⟩
        go_wp2_with (fail)
        exact ⟨⟨j2, h1, H2.out, by rw [← H3.out]; go_num, trivial⟩, by simp [intOf]; omega⟩
      | false =>
        have hs : d = diffT v (j + 1) := by rw [HST.out]; rfl
        obtain ⟨j2, h1, h2, h3⟩ := HFIN.out _ hs
        have H2 := Lib.hid h2; have H3 := Lib.hid h3; clear h2 h3 hs
        go_wp2_with (fail)
        refine HI.out.mono ?_; rintro e w1 ⟨rfl, rfl⟩
        go_wp2_with (fail)
        exact ⟨⟨j2, h1, H2.out, H3.out, trivial⟩, by simp [intOf]; omega⟩
    · obtain rfl : j = 6 := by omega
      have e : diffT v 6 = diffN v := rfl
      rw [e]
      have hd : decide ((((97 + 6 : Nat) : Int)) ≤ 102) = false := by decide
      go_wp2_with (fail)
      go_ret
      exact ⟨rfl, rfl⟩

/-- a piece of a string between two places -/
theorem slice_mid (x : List UInt8) (f e : Nat) (z : Int) (hz : z = (e : Int)) (hf : f ≤ e) (he : e ≤ x.length) (W : World) : (Instr.slice 9 (.string ⟨x.toArray⟩) (some (.int .i64 (f : Int))) (some (.int .i64 z)) none).run Try.prog W = .ok (.string ⟨((x.drop f).take (e - f)).toArray⟩) W := by
  subst hz
  have hz : (⟨x.toArray⟩ : ByteArray).size = x.length := by simp [ByteArray.size]
  have h := run_slice_string (P := Try.prog) (w := W) 9 ⟨x.toArray⟩ .i64 .i64 (f : Int) (e : Int) Try.underlying9 (by omega) (by omega) (by rw [hz]; omega)
  rw [h, Int.toNat_natCast, Int.toNat_natCast, ByteArray.extract_mk]
theorem missing_alpha {k : Nat} {x : List UInt8} (h : ∀ c ∈ x, c ∈ alphaL k) (hl : x.length ≤ 10) (h1 : 1 ≤ k) (h6 : k ≤ 6) (W : World) :
    Calls Try.prog 38 #[.string ⟨x.toArray⟩, .int .i64 k] W fun e w' => e = .returned (.tuple #[.string ⟨(missL k x).toArray⟩, .int .i64 0]) ∧ Below W.heap.size W w' := by
  have e := missingS_any x (k : Int) W (by unfold maxLen; omega)
  have hz := letE_alpha h hl h1 h6
  unfold mssL at e
  rw [if_pos hz, hz, Int.toNat_natCast] at e
  exact e
theorem pow_le {k z : Nat} (hk : k ≤ 4) (hz : z ≤ 11) : k ^ z ≤ 4194304 :=
  Nat.le_trans (Nat.pow_le_pow_left hk z) (Nat.le_trans (Nat.pow_le_pow_right (by omega) hz) (by decide))

set_option maxRecDepth 100000 in
set_option maxHeartbeats 4000000 in
theorem bridgeLaw_any (cs : Array Value) (m : Nat) (ls : List Nat) (kk : Nat) (w : World) (hS : IsSlip cs m ls) (hkk : kk < 256) :
    Calls Try.prog 9 #[.agg cs, .int .u8 kk] w fun e w' => e = .returned (.bool true) ∧ Below w.heap.size w w' := by
  obtain ⟨k, hk⟩ : ∃ k : Nat, (1 + (kk : Int) % 4 = (k : Int)) ∧ 1 ≤ k ∧ k ≤ 4 := ⟨1 + kk % 4, by simp, by omega, by omega⟩
  obtain ⟨hk, h1, h4⟩ := hk
  have h6 : k ≤ 6 := by omega
  have hM : ∀ W, Calls Try.prog 49 #[.agg cs, .int .i64 10, .int .i64 k] W fun e w' => e = .returned (.string ⟨(wordL k (ls.take (m % (10 + 1)))).toArray⟩) ∧ Below W.heap.size W w' := fun W => made_w cs m ls 10 k W hS (by omega) h1 h6
  have hinf : (Try.prog.info? 52).map (·.size) = some cs.size := by rw [hS.size]; kernel_rfl
  have hhp := heap_alloc_new w (.cells cs 52)
  have HINF := Lib.hid hinf; have HHP := Lib.hid hhp; clear hinf hhp
  have hlen : (wordL k (ls.take (m % (10 + 1)))).length ≤ 10 := by
    unfold wordL; rw [List.length_map, List.length_take]; have := Nat.mod_lt m (show 0 < 10 + 1 by omega); omega
  have hin := wordL_alpha h1 h6 (ls.take (m % (10 + 1)))
  have HM := Lib.hid hM; have HIN := Lib.hid hin; clear hM hin
  generalize wordL k (ls.take (m % (10 + 1))) = x at hlen HM HIN
  have hk0 : ((k : Int) == 0) = false := by rw [beq_eq_false_iff_ne]; omega
  have HA := Lib.hid fun W => arches_alpha HIN.out hlen h1 h6 W
  have HMi := Lib.hid fun W => missing_alpha HIN.out hlen h1 h6 W
  have hml := miss_arches h1 h6 x HIN.out
  have hel : (archesL k 0 [] x).length ≤ 10 := Nat.le_trans (archesL_le k x 0 []) hlen
  obtain ⟨qm, hqm⟩ := miss_number h1 h6 x
  have HQ := Lib.hid hqm
  have HB4 := Lib.hid fun (n r : Nat) (hn : n < (missL k x).length) (hr : r < k ^ n) => miss_before h1 h6 x hn hr
  have HSTEP := Lib.hid fun (f : Nat) (hf : f ≤ x.length) => arch_parts h1 (x.drop f) f [] [] (fun c hc => HIN.out c (List.mem_of_mem_drop hc)) List.nodup_nil (by simp) (by simp) (by simp; omega)
  have hE0 : archesL k 0 [] x = archesL k 0 [] (x.drop 0) := by simp
  obtain ⟨E, hE⟩ : ∃ E, Hid (E = archesL k 0 [] x) := ⟨_, Lib.hid rfl⟩
  have hE1 : Hid (archesL k 0 [] (x.drop 0) = E.drop 0) := by show _ = _; rw [hE.out]; simp
  rw [← hE.out] at HA hml hel
  have HML := Lib.hid hml
  clear hml hE0 hE hqm
  generalize hmm : missL k x = mm at HMi HML HQ HB4
  clear hmm
  go_enter Try.func9, Try.ntmps9
  go_wp2_with (refine wpList_load_row rfl 52 (.tmp 2) rfl w.heap.size rfl 52 cs (0, 0) _ HHP.out Try.underlying52 rfl HINF.out ?_)
  refine (HM.out _).mono ?_; rintro e w1 ⟨rfl, hb1⟩
  have hW1 : Below w.heap.size w w1 := ((Below.refl _ w).alloc (Nat.le_refl _) (.cells cs 52)).trans (hb1.mono (by simp))
  clear hb1 hk
  go_wp2_with (fail)
  refine (HA.out _).mono ?_; rintro e w2 ⟨hb2, A2, c2, rfl, hrd2⟩
  have hW2 := hW1.trans (hb2.mono hW1.size); clear hW1 hb2
  go_wp2_with (fail)
  refine (HMi.out _).mono ?_; rintro e w3 ⟨rfl, hb3⟩
  have hW3 := hW2.trans (hb3.mono hW2.size)
  have hrd3 := hrd2.below hb3
  clear hW2 hb3 hrd2
  have hml := HML.out
  have hmd : ((mm.length : Int) != (E.length : Int) + 1) = false := by rw [hml]; simp
  have hmlz : (⟨mm.toArray⟩ : ByteArray).size = mm.length := by simp [ByteArray.size]
  have hE10 : decide ((10 : Int) < (E.length : Int)) = false := by simp; omega
  clear hml
  go_wp2_with (fail)
  clear hmd hE10
  go_loopw [11, 61] (fun fv iv wr => ∃ (t f : Nat), t ≤ E.length ∧ iv = .int .i64 t ∧ fv = .int .i64 f ∧ f ≤ x.length ∧ Hid (archesL k f [] (x.drop f) = E.drop t) ∧ Rd wr A2 E.length (ints E) ∧ Below w.heap.size w wr) (fun _ iv _ => E.length - (intOf iv).toNat)
  case atStart => exact ⟨0, 0, Nat.zero_le _, rfl, rfl, Nat.zero_le _, hE1, hrd3, hW3⟩
  case round =>
    clear hE1 hrd3 hW3
    obtain ⟨t, f, ht, rfl, rfl, hf, hE1, hrd, hb⟩ := hrel
    by_cases hlt : t < E.length
    · obtain ⟨g, o, rfl, hat⟩ := hrd.at (by omega)
      have hcell : wr.cell? ⟨g, o + t, none⟩ = some (.int .i64 (E.getD t 0 : Nat)) := by
        rw [hat.2 t hlt, getD_lt _ _ _ (by simpa using hlt), List.getElem_map, getD_lt _ _ _ hlt]
      have hdr : E.drop t = E.getD t 0 :: E.drop (t + 1) := by rw [List.drop_eq_getElem_cons hlt, getD_lt _ _ _ hlt]
      obtain ⟨j, he, hj, hd1, hd2, hrest⟩ := (HSTEP.out f hf).2 (E.getD t 0) (E.drop (t + 1)) (by rw [hE1.out, hdr])
      rw [List.nil_append] at hd1 hd2
      rw [List.length_drop] at hj
      have hE2 : Hid (archesL k (E.getD t 0) [] (x.drop (E.getD t 0)) = E.drop (t + 1)) := by
        show _ = _
        rw [hrest, List.drop_drop, he, Nat.add_assoc]
      clear hdr hrest hE1 hat
      generalize E.getD t 0 = e at hcell he hE2
      have hs1 := slice_mid x f e (e : Int) rfl (by omega) (by omega)
      have hs2 := slice_mid x f (f + j) ((e : Int) - 1) (by omega) (by omega) (by omega)
      have e1 : e - f = j + 1 := by omega
      have e2 : f + j - f = j := by omega
      rw [e1] at hs1
      rw [e2] at hs2
      have HD1 := Lib.hid hd1
      have hd2n : diffN ((x.drop f).take j) ≠ k := by omega
      have HE := Lib.hid he
      clear e1 e2 he hd1 hd2
      have HV1 := Lib.hid fun W => different_any ((x.drop f).take (j + 1)) W
      have HV2 := Lib.hid fun W => different_any ((x.drop f).take j) W
      rw [HD1.out] at HV1
      generalize diffN ((x.drop f).take j) = d2 at HV2 hd2n
      have hd2b : ((d2 : Int) == (k : Int)) = false := by rw [beq_eq_false_iff_ne]; omega
      have hkb : ((k : Int) != (k : Int)) = false := by simp
      have hfe : decide (e ≤ f) = false := by simp; have := HE.out; omega
      have hex : decide (x.length < e) = false := by simp; have := HE.out; omega
      have he1 : e ≤ x.length := by have := HE.out; omega
      have he0 : f < e := by have := HE.out; omega
      have htd : decide ((t : Int) < (E.length : Int)) = true := by simp; omega
      clear hd2n
      go_wp2_with (fail)
      refine (HV1.out _).mono ?_; rintro e9 w4 ⟨rfl, rfl⟩
      go_wp2_with (fail)
      refine (HV2.out _).mono ?_; rintro e9 w5 ⟨rfl, rfl⟩
      go_wp2_with (fail)
      exact ⟨⟨t + 1, e, by omega, by go_num, rfl, he1, hE2, hrd, hb⟩, by simp [intOf]; omega⟩
    · obtain rfl : t = E.length := by omega
      have hd := (HSTEP.out f hf).1 (by rw [hE1.out]; simp)
      rw [List.nil_append] at hd
      have HV := Lib.hid fun W => different_any (x.drop f) W
      have hs := slice_from x f hf
      have hdk : ((diffN (x.drop f) : Int) == (k : Int)) = false := by rw [beq_eq_false_iff_ne]; omega
      generalize diffN (x.drop f) = d at HV hdk
      have htd : decide ((E.length : Int) < (E.length : Int)) = false := by simp
      clear hd
      go_wp2_with (fail)
      refine (HV.out _).mono ?_; rintro e9 w4 ⟨rfl, rfl⟩
      go_wp2_with (fail)
      clear hs htd hdk hrd
      have hE11 : E.length ≤ 10 := hel
      have hnat : Hid (mm.length = E.length + 1) := HML.out
      obtain ⟨sm, hsm⟩ : ∃ sm : ByteArray, Hid (sm = ⟨mm.toArray⟩) := ⟨_, Lib.hid rfl⟩
      rw [← hsm.out]
      go_loopw [15] (fun sv wr => ∃ (z : Nat), 1 ≤ z ∧ z ≤ E.length + 1 ∧ sv = .int .i64 z ∧ Below w.heap.size w wr) (fun sv _ => E.length + 2 - (intOf sv).toNat)
      case atStart => exact ⟨1, by omega, by omega, rfl, hb⟩
      case round =>
        clear hb
        obtain ⟨z, hz1, hz, rfl, hb⟩ := hrel
        have hzd : decide ((z : Int) ≤ (E.length : Int) + 1) = true := by simp; omega
        have hpz := pow_le h4 (show z ≤ 11 by omega)
        go_wp2_with (fail)
        go_loopw [16, 108] (fun mv iv wr => ∃ (i : Nat), i ≤ z ∧ iv = .int .i64 i ∧ mv = .int .i64 (k ^ i : Nat) ∧ Below w.heap.size w wr) (fun _ iv _ => z - (intOf iv).toNat)
        case atStart => exact ⟨0, Nat.zero_le _, rfl, rfl, hb⟩
        case round =>
          clear hb
          obtain ⟨i, hi, rfl, rfl, hb⟩ := hrel
          by_cases hil : i < z
          · have hp1 : ((k ^ i : Nat) : Int) * (k : Int) = ((k ^ (i + 1) : Nat) : Int) := by rw [Nat.pow_succ]; simp
            have hp2 := pow_le h4 (show i + 1 ≤ 11 by omega)
            have hid : decide ((i : Int) < (z : Int)) = true := by simp; omega
            generalize k ^ i = p at hp1
            generalize hpp : k ^ (i + 1) = p2 at hp1 hp2
            have HPP := Lib.hid hpp; clear hpp
            go_wp2_with (fail)
            exact ⟨⟨i + 1, by omega, by go_num, by rw [HPP.out], hb⟩, by simp [intOf]; omega⟩
          · obtain rfl : i = z := by omega
            have hid : decide ((i : Int) < (i : Int)) = false := by simp
            obtain ⟨Q, hQ⟩ : ∃ Q, Hid (Q = k ^ i) := ⟨_, Lib.hid rfl⟩
            rw [← hQ.out] at hpz ⊢
            go_wp2_with (fail)
            clear hid
            go_loopw [115] (fun rv wr => ∃ (r : Nat), r ≤ Q ∧ (i = E.length + 1 → r ≤ qm) ∧ rv = .int .i64 r ∧ Below w.heap.size w wr) (fun rv _ => Q - (intOf rv).toNat)
            case atStart => exact ⟨0, Nat.zero_le _, fun _ => Nat.zero_le _, rfl, hb⟩
            case round =>
              clear hb
              obtain ⟨r, hr, hrq, rfl, hb⟩ := hrel
              have HRQ := Lib.hid hrq; clear hrq
              by_cases hrl : r < Q
              · have hrd : decide ((r : Int) < (Q : Int)) = true := by simp; omega
                go_wp2_with (fail)
                go_loopw [18, 19, 20] (fun wv xv lv wr => ∃ (lf xc : Nat) (wc : List UInt8) (s : ByteArray), lf ≤ i ∧ lv = .int .i64 lf ∧ xv = .int .i64 xc ∧ wv = .string s ∧ Hid (s = ⟨wc.toArray⟩) ∧ s.size + lf ≤ 11 ∧ xc ≤ Q ∧ Hid (digL k lf xc ++ wc = digL k i r) ∧ Below w.heap.size w wr) (fun _ _ lv _ => (intOf lv).toNat)
                case atStart => exact ⟨i, r, [], _, Nat.le_refl _, rfl, rfl, rfl, rfl, by show 0 + i ≤ 11; omega, by omega, by show _ = _; simp, hb⟩
                case round =>
                  clear hb
                  obtain ⟨lf, xc, wc, s, hlf, rfl, rfl, rfl, hs, hss, hxc, hdg, hb⟩ := hrel
                  cases lf with
                  | succ lf =>
                    have hcn : (UInt8.ofNat (97 + xc % k)).toNat = 97 + xc % k := by have := Nat.mod_lt xc h1; simp; omega
                    have hex := ext_six (n := xc) h1 h6 hcn
                    have hdg2 : digL k lf (xc / k) ++ (UInt8.ofNat (97 + xc % k) :: wc) = digL k i r := by
                      rw [← hdg.out]; show _ = (digL k lf (xc / k) ++ [UInt8.ofNat (97 + xc % k)]) ++ wc; simp
                    have HDG := Lib.hid hdg2; clear hdg2 hcn hdg
                    generalize UInt8.ofNat (97 + xc % k) = c at hex HDG
                    obtain ⟨lt, hlt⟩ : ∃ lt : ByteArray, Hid (lt = ⟨#[c]⟩) := ⟨_, rfl⟩
                    rw [← hlt.out] at hex
                    have hltz : lt.size = 1 := by rw [hlt.out]; rfl
                    have hltn : ¬ 9223372036854775807 < lt.size + s.size := by omega
                    have hsz : (lt ++ s).size = s.size + 1 := by rw [ByteArray.size_append, hltz]; omega
                    have hcat : Hid (lt ++ s = ⟨(c :: wc).toArray⟩) := by show _ = _; rw [hlt.out, hs.out, ByteArray.mk_append_mk]; simp
                    have HSZ := Lib.hid hsz; clear hsz
                    have hmod := Nat.mod_lt xc h1
                    have hdv : xc / k ≤ xc := Nat.div_le_self _ _
                    have hpos : decide ((0 : Int) < ((lf + 1 : Nat) : Int)) = true := by simp
                    obtain ⟨xd, hxd⟩ : ∃ xd : Nat, Hid (xd = xc / k) := ⟨_, Lib.hid rfl⟩
                    have hwd : wrap64 ((xc : Int) / (k : Int)) = (xd : Int) := by
                      rw [hxd.out]
                      have hq4 : xc / k ≤ 4194304 := Nat.le_trans hdv (Nat.le_trans hxc hpz)
                      rw [← Int.natCast_ediv]
                      generalize xc / k = v at hq4 ⊢
                      clear hdv hmod
                      unfold wrap64; omega
                    have hxq : xc / k ≤ Q := Nat.le_trans hdv hxc
                    have hszz : Hid ((lt ++ s).size + lf ≤ 11) := by show _ ≤ _; rw [HSZ.out]; omega
                    clear hdv
                    rw [← hxd.out] at hxq HDG
                    have HXQ := Lib.hid hxq; clear hxq
                    go_wp2_with (fail)
                    go_quiet (fail)
                    go_wp2_with (fail)
                    exact ⟨⟨lf, xd, c :: wc, _, by omega, rfl, by rw [hwd], rfl, hcat, hszz.out, HXQ.out, HDG.out, hb.trans ⟨rfl, rfl, rfl, Nat.le_refl _, fun _ _ => rfl⟩⟩, by simp [intOf]⟩
                  | zero =>
                    have hw : wc = digL k i r := hdg.out
                    have hwl : wc.length = i := by rw [hw]; exact dig_len k i r
                    by_cases hend : i = E.length + 1 ∧ r = qm
                    · have hwm : wc = mm := by
                        rw [hw, hend.1, hend.2, ← hnat.out]; exact HQ.out.2.1
                      have hss2 : (s.toList == sm.toList) = true := by rw [hs.out, hsm.out, hwm]; simp
                      have hlf : leftL x wc = false := by rw [hwm]; exact HQ.out.2.2.1
                      have hL := left_b x wc
                      rw [hlf, ← hs.out] at hL
                      have HL := Lib.hid fun W => hL W (by unfold maxLen; omega) (by unfold maxLen; omega)
                      clear hw hwl hend hwm hlf hL
                      go_wp2_with (fail)
                      refine (HL.out _).mono ?_; rintro e9 w4 ⟨rfl, hb4⟩
                      have hW4 := hb.trans (hb4.mono hb.size)
                      go_wp2_with (fail)
                      refine (works_any _).mono ?_; rintro e9 w5 ⟨rfl, hb5⟩
                      have hW5 := hW4.trans (hb5.mono hW4.size)
                      go_wp2_with (fail)
                      go_ret
                      exact ⟨rfl, hW5⟩
                    · have hlf : leftL x wc = true := by
                        rw [hw]
                        by_cases hi1 : i = E.length + 1
                        · have hrq : r ≤ qm := HRQ.out hi1
                          have hrq2 : r < qm := by
                            rcases Nat.lt_or_ge r qm with h | h
                            · exact h
                            · exact absurd ⟨hi1, by omega⟩ hend
                          have h := HQ.out.2.2.2 r hrq2
                          rw [hnat.out] at h
                          rw [hi1]; exact h
                        · refine HB4.out i r (by rw [hnat.out]; omega) ?_
                          rw [← hQ.out]; exact hrl
                      have hss2 : (s.toList == sm.toList) = false := by
                        rw [beq_eq_false_iff_ne]; intro e
                        have e' : wc = mm := by rw [hs.out, hsm.out] at e; simpa using e
                        rw [e'] at hlf
                        rw [HQ.out.2.2.1] at hlf; exact absurd hlf (by decide)
                      have hL := left_b x wc
                      rw [hlf, ← hs.out] at hL
                      have HL := Lib.hid fun W => hL W (by unfold maxLen; omega) (by unfold maxLen; omega)
                      have hnext : Hid (i = E.length + 1 → r + 1 ≤ qm) := fun hi1 => by
                        have hrq : r ≤ qm := HRQ.out hi1
                        rcases Nat.lt_or_ge r qm with h | h
                        · exact h
                        · exact absurd ⟨hi1, by omega⟩ hend
                      clear hw hwl hend hlf hL
                      go_wp2_with (fail)
                      refine (HL.out _).mono ?_; rintro e9 w4 ⟨rfl, hb4⟩
                      have hW4 := hb.trans (hb4.mono hb.size)
                      go_wp2_with (fail)
                      exact ⟨⟨r + 1, by omega, hnext.out, by go_num, hW4⟩, by simp [intOf]; omega⟩
              · obtain rfl : r = Q := by omega
                have hrd : decide ((r : Int) < (r : Int)) = false := by simp
                have hi1 : i ≠ E.length + 1 := fun hi1 => by
                  have h1' := HRQ.out hi1
                  have h2' := HQ.out.1
                  rw [hnat.out, ← hi1, ← hQ.out] at h2'
                  omega
                go_wp2_with (fail)
                exact ⟨⟨i + 1, by omega, by omega, by go_num, hb⟩, by simp [intOf]; omega⟩
end Go.Proofs.Ytalildjhighlhaa
