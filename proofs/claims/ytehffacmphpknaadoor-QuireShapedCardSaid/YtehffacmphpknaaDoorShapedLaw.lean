/-
  The walk of QuireShaped: it returns true at any two numbers and any list.
-/
import Derived.Test.YtehffacmphpknaaDoorShapedM
import Derived.Test.YtehffacmphpknaaDoorContH
import Derived.Test.YtehffacmphpknaaDoorWorks
import Derived.Test.YtehffacmphpknaaDoorPowerH
import Derived.OpenShut
import Derived.Test.YtehffacmphpknaaDoorMirrorLaw
set_option linter.unusedSimpArgs false
set_option linter.unusedVariables false
namespace Go.Proofs.YtehffacmphpknaaDoor
open Go.RowKit Go.Lib Go.Proofs.Quire

theorem append_z {ops : Array Oper} {rest : List Oper} {o : Oper} {a : Act} {Q : Exit → Act → World → Prop} (w0 : World) (hgd : o.guard = none) (s x : Operand)
    (ho : o.op = .call { callee := .builtin .append, args := #[s, x], argTypes := #[23, 23] })
    (B n : Nat) (v : Value) (l : List Int) (b : Int) (hs : a.eval s = v) (hown : w0.ownsRow B 3 1 v n (zs l)) (g : Nat) (hgz : w0.heap.size = g) (hx : a.eval x = .slice (some ⟨g, 0, none⟩) 1 1) (hn : n ≤ 1000) (hB : B ≤ w0.heap.size)
    (h : ∀ g' c w', w'.ownsRow B 3 1 (.slice (some ⟨g', 0, none⟩) (n + 1) c) (n + 1) (zs (l ++ [b])) → w0.grownBy w' v.ownBlock → wpList Tryd.prog ops Q rest (a.put o.dst (.slice (some ⟨g', 0, none⟩) (n + 1) c)) w') :
    wpList Tryd.prog ops Q (o :: rest) a (w0.alloc (.cells #[.int .i64 b] 3)) := by
  subst hgz
  obtain ⟨i0, hi, hz0, hz1, hz2⟩ := info_parts Tryd.infoInt
  refine wpList_append_own _ hgd s x 23 ho B 3 i0 (.int .i64 0) 1 8 Tryd.underlying23 hi hz0 hz1 hz2 rfl (by decide) v n _ hs (hown.alloc _) ⟨w0.heap.size, 0, none⟩ 1 1 [.int .i64 b] hx rfl (cell_one_new _ _ _) (fun u hu => by rw [List.mem_singleton.1 hu]; rfl) (by unfold maxLen; omega) (by omega) (by simp; omega) ?_
  intro v' w' h1 h2 _
  have hg0 : w0.grownBy w' v.ownBlock := ⟨h2.os, h2.tape, h2.output, Nat.le_trans (by simp) h2.size, fun k hk hne => (h2.block k (by simp; omega) hne).trans (Below.heap_alloc _ _ k hk)⟩
  have h1' : w'.ownsRow B 3 1 v' (n + 1) (zs (l ++ [b])) := by
    have e : zs (l ++ [b]) = zs l ++ [.int .i64 b] := by simp [zs]
    rw [e]; exact h1
  rcases h1'.2 with ⟨_, hn0⟩ | ⟨g', cap, cur, rfl, hr⟩
  · omega
  · exact h g' cap w' h1' hg0
theorem tm20 (x : Int) (h1 : -128 ≤ x) (h2 : x ≤ 127) : -20 ≤ x.tmod 20 ∧ x.tmod 20 ≤ 20 := by
  have h : ∀ n : Nat, n < 256 → -20 ≤ ((n : Int) - 128).tmod 20 ∧ ((n : Int) - 128).tmod 20 ≤ 20 := by decide +kernel
  have := h (x + 128).toNat (by omega)
  rw [show (((x + 128).toNat : Nat) : Int) - 128 = x by omega] at this
  exact this
/-- what package quire answers at a text that is, or is no strip -/
def ShapeAns (cs : List UInt8) (want e1 x y e2 : Int) (F : List UInt8) : Prop :=
  foldsP cs = (F, e1) ∧ whyR cs = .tuple #[.int .i64 x, .int .i64 y, .int .i64 e2] ∧ ((want = 0 ∧ (e1 == 5) = false ∧ (e2 == 5) = false ∧ provE cs cs.length 0 = 2) ∨ (want = 5 ∧ e1 = 5 ∧ e2 = 5 ∧ provE cs cs.length 0 = 5))
theorem shape_ans (cs : List UInt8) (hk : cs.length ≤ 63) (hc : ∀ c ∈ cs, c = 118 ∨ c = 104) : ∃ e1 x y e2 F, ShapeAns cs (if onesN (cs.length + 1) = 1 then 0 else 5) e1 x y e2 F := by
  have hz : chkL 63 118 104 cs = 0 := chkL_all2 hk hc
  by_cases ho : onesN (cs.length + 1) = 1
  · rw [if_pos ho]
    have hs : stripE cs = 0 := by unfold stripE; rw [if_pos hz, if_pos ho]
    have hp : provE cs cs.length 0 = 2 := by unfold provE; rw [if_pos hs, if_pos (by omega)]
    obtain ⟨x, y, e2, h2, h3⟩ : ∃ x y e2, whyR cs = .tuple #[.int .i64 x, .int .i64 y, .int .i64 e2] ∧ (e2 == 5) = false := by
      unfold whyR; rw [if_pos hs]
      rcases firstP (clashB cs) cs.length cs.length 0 with _ | ⟨i, j⟩
      · exact ⟨_, _, _, rfl, rfl⟩
      · exact ⟨_, _, _, rfl, rfl⟩
    unfold ShapeAns
    by_cases hf : creS (foldsB (waysL cs 7 (cs.length + 1))) = cs
    · exact ⟨0, x, y, e2, _, by unfold foldsP; rw [if_pos hs, if_pos hf], h2, .inl ⟨rfl, rfl, h3, hp⟩⟩
    · exact ⟨12, x, y, e2, [], by unfold foldsP; rw [if_pos hs, if_neg hf], h2, .inl ⟨rfl, rfl, h3, hp⟩⟩
  · rw [if_neg ho]
    have hs : stripE cs = 5 := by unfold stripE; rw [if_pos hz, if_neg ho]
    refine ⟨5, 0, 0, 5, [], ?_, ?_, .inr ⟨rfl, rfl, rfl, ?_⟩⟩
    · unfold foldsP; rw [if_neg (by rw [hs]; decide), hs]
    · unfold whyR; rw [if_neg (by rw [hs]; decide), hs]
    · unfold provE; rw [if_neg (by rw [hs]; decide), hs]
set_option maxRecDepth 100000 in
set_option maxHeartbeats 4000000 in
theorem shapedLaw_any (m b : Nat) (A : Option Addr) (n c : Nat) (l : List Int) (w : World) (hT : Tab w) (hm : m < 256) (hb : b < 18446744073709551616) (hrd : Rd w A n (l.map (Value.int .i8))) (hn : n ≤ maxLen) (hl : ∀ x ∈ l, (Lit.int .i8 x).wf = true) :
    Calls Tryd.prog 15 #[.int .u8 m, .int .u64 b, .slice A n c] w (ValC (.bool true) w) := by
  unfold maxLen at hn
  have h0 := fun W => creasedH_any m b hm hb W
  have hcl := creasesOf_len b (m % 64)
  have hcm : ∀ c ∈ creasesOf b (m % 64), c = 118 ∨ c = 104 := fun c hc => bitC_mem hc
  generalize creasesOf b (m % 64) = cs at h0 hcl hcm
  obtain ⟨e1, x, y, e2, F, hA1, hA2, hA3⟩ := shape_ans cs (by omega) hcm
  have h1 := fun W => folds_any cs W (small _ (by omega))
  have h2 := fun W hW => why_any cs W hW (small _ (by omega))
  have h3 := fun W hW => proves_any cs cs.length 0 W hW (small _ (by omega)) (by rw [IntKind.wrap_i64]; omega) (by rw [IntKind.wrap_i64]; omega)
  have h4 := fun W => power_any (cs.length + 1) (by omega) (by omega) W
  rw [hA1] at h1
  rw [hA2] at h2
  have h1 : ∀ W, Calls Tryd.prog 29 #[.string ⟨cs.toArray⟩] W (ValC (.tuple #[.string ⟨F.toArray⟩, .int .i64 e1]) W) := h1
  obtain ⟨M, hM⟩ : ∃ M, cs.length = M := ⟨_, rfl⟩
  have hpo := ones_iff (M + 1) (by omega) (by omega)
  rw [hM] at h3 h4 hA3
  have hM1 : ((M + 1 : Nat) : Int) = (M : Int) + 1 := by omega
  rw [hM1] at h4
  have hsz : (⟨cs.toArray⟩ : ByteArray).size = M := by rw [size_l]; exact hM
  have hM64 : M ≤ 63 := by omega
  have hpw : 2 ^ tzN (M + 1) ≤ 64 := by
    have := tz_facts (M + 1)
    rcases Nat.lt_or_ge (M + 1) 64 with h | h
    · have h5 : 1 * 2 ^ tzN (M + 1) ≤ oddN (M + 1) * 2 ^ tzN (M + 1) := Nat.mul_le_mul_right _ (by have := (tz_facts (M + 1) h (by omega)).1; omega)
      have := (tz_facts (M + 1) h (by omega)).2; omega
    · have : M + 1 = 64 := by omega
      rw [this]; decide
  generalize 2 ^ tzN (M + 1) = Pw at h4 hpo hpw
  have hws := fun W hW => works_any W hW
  generalize (⟨cs.toArray⟩ : ByteArray) = sc at h0 h1 h2 h3 hsz
  have hwant : Hid ((((Pw : Int) == (M : Int) + 1) = true ∧ (if onesN (M + 1) = 1 then (0 : Int) else 5) = 0) ∨ (((Pw : Int) == (M : Int) + 1) = false ∧ (if onesN (M + 1) = 1 then (0 : Int) else 5) = 5)) := by
    show _ ∨ _
    by_cases ho : onesN (M + 1) = 1
    · left; rw [if_pos ho]; exact ⟨by have := hpo.2 ho; simp; omega, rfl⟩
    · right; rw [if_neg ho]; exact ⟨by have : ¬ Pw = M + 1 := fun e => ho (hpo.1 e); simp; omega, rfl⟩
  generalize (if onesN (M + 1) = 1 then (0 : Int) else 5) = want at hA3 hwant
  generalize provE cs M 0 = pe at h3 hA3
  have HA := Lib.hid hA3
  clear hA1 hA2 hA3 hpo hcm hcl hM hM1
  have hln : l.length = n := by have := hrd.1; rwa [List.length_map] at this
  obtain ⟨xs, hxs⟩ : ∃ xs, small20 l = xs := ⟨_, rfl⟩
  have hxl : xs.length = n := by rw [← hxs]; unfold small20; rw [List.length_map]; exact hln
  have hget : ∀ k, k < n → xs.getD k 0 = (l.getD k 0).tmod 20 - 1 := fun k hk => by
    rw [← hxs, getD_lt _ _ _ (by unfold small20; rw [List.length_map]; omega), getD_lt _ _ _ (by omega)]; unfold small20; simp
  have hlb : ∀ k, k < n → -128 ≤ l.getD k 0 ∧ l.getD k 0 ≤ 127 := fun k hk => by
    rw [getD_lt _ _ _ (by omega)]; exact bounds_i8 (hl _ (List.getElem_mem _))
  have hf : n ≤ 16 → ∀ A c W, Rd W A n (zs xs) → Calls Tryd.prog 40 #[.slice A n c] W (ValC (.tuple #[.string ⟨(foldedP xs).1.toArray⟩, .int .i64 (foldedP xs).2]) W) := fun h16 A c W h => by
    have := folded_any A c xs W (by rw [hxl]; exact h) (small _ (by omega))
    rw [hxl] at this; exact this
  obtain ⟨r, hr⟩ : ∃ r, Hid (shw n 0 [] xs = r) := ⟨_, rfl⟩
  have hfin : n ≤ 16 → Hid (((if onesN n = 1 then r else 5) = 0 ∧ ((foldedP xs).2 = 0 ∨ (foldedP xs).2 = 12)) ∨ (¬ (if onesN n = 1 then r else 5) = 0 ∧ (foldedP xs).2 = if onesN n = 1 then r else 5)) := fun h16 => by
    show _ ∨ _
    have hp := pile_shw (xs := xs) (by omega)
    rw [hxl, hr.out] at hp
    rw [← hp]
    unfold foldedP
    by_cases h : pileE xs = 0
    · left; refine ⟨h, ?_⟩; rw [if_pos h]; split
      · exact .inl rfl
      · exact .inr rfl
    · right; refine ⟨h, ?_⟩; rw [if_neg h]
  have hst0 : Hid (shw n 0 (xs.take 0) (xs.drop 0) = r) := hr
  generalize (foldedP xs).1 = fd at hf
  generalize (foldedP xs).2 = ef at hf hfin
  have HGET := Lib.hid hget; have HLB := Lib.hid hlb; have HXL := Lib.hid hxl; have HFIN := Lib.hid hfin; have HRD := Lib.hid hrd
  clear hxs hget hlb hxl hfin hln hr hrd hl
  rcases hwant.out with ⟨hq, hw0⟩ | ⟨hq, hw0⟩
  · obtain ⟨g1, g2, rfl⟩ : (e1 == 5) = false ∧ (e2 == 5) = false ∧ pe = 2 := by
      rcases HA.out with ⟨a0, a1, a2, a3⟩ | ⟨a0, a1, a2, a3⟩
      · first | exact ⟨a1, a2, a3⟩ | (rw [hw0] at a0; exact absurd a0 (by decide))
      · first | exact ⟨a1, a2, a3⟩ | (rw [hw0] at a0; exact absurd a0 (by decide))
    clear HA hw0 hwant
    go_enter Tryd.func15, Tryd.ntmps15
    go_wp2_with (fail)
    refine (h0 _).mono ?_; rintro e w1 ⟨rfl, q1, rfl⟩
    have hB1 : Below w.heap.size w (w.drewN q1) := below_drewN (Below.refl _ _) _
    generalize w.drewN q1 = w1 at hB1 ⊢
    go_wp2_with (fail)
    refine (h4 _).mono ?_; rintro e w2 ⟨rfl, rfl⟩
    go_wp2_with (fail)
    refine (h1 _).mono ?_; rintro e w3 ⟨rfl, hb3⟩
    have hB3 := hB1.trans (hb3.mono hB1.size)
    go_wp2_with (fail)
    refine (h2 _ (hT.below hB3)).mono ?_; rintro e w4 ⟨rfl, hb4⟩
    have hB4 := hB3.trans (hb4.mono hB3.size)
    go_wp2_with (fail)
    refine (h3 _ (hT.below hB4)).mono ?_; rintro e w5 ⟨rfl, hb5⟩
    have hB5 := hB4.trans (hb5.mono hB4.size)
    clear hB1 hb3 hB3 hb4 hB4 hb5 h0 h1 h2 h3
    by_cases hbig : 16 < n
    · go_wp2_with (fail)
      refine (hws _ (hT.below hB5)).mono ?_; rintro e w9 ⟨rfl, hb9⟩
      have hB9 := hB5.trans (hb9.mono hB5.size)
      go_wp2_with (fail)
      go_ret
      exact ⟨rfl, hB9⟩
    · have hsz5 := hB5.size
      go_wp2_with (fail)
      go_loopw [9, 16, 78] (fun v9 v16 v78 wr => ∃ (k : Nat) (z : Int) (A1 : Option Addr) (c1 : Nat), k ≤ n ∧ v9 = .int .i64 z ∧ v16 = .slice A1 k c1 ∧ v78 = .int .i64 k ∧ Hid (z = 0 ∨ z = 2 ∨ z = 6) ∧ wr.ownsRow w.heap.size 3 1 (.slice A1 k c1) k (zs (xs.take k)) ∧ Hid (shw n z (xs.take k) (xs.drop k) = r) ∧ Below w.heap.size w wr) (fun _ _ v _ => n - (RowKit.intOf v).toNat)
      case atStart => exact ⟨0, 0, none, 0, Nat.zero_le _, rfl, rfl, rfl, .inl rfl, ⟨rfl, .inl ⟨rfl, rfl⟩⟩, hst0, hB5⟩
      case round =>
        clear hst0
        obtain ⟨k, z, A1, c1, hk, rfl, rfl, rfl, hz3, hown, hsh, hbr⟩ := hrel
        by_cases hlt : k < n
        · obtain ⟨g, o, rfl, hg, _, hc⟩ := (HRD.out.below hbr).2 (by omega)
          have hcx := hc k hlt
          have hln : k < l.length := by have := HRD.out.1; rw [List.length_map] at this; omega
          have hkx : k < xs.length := by rw [HXL.out]; exact hlt
          rw [getD_map1 (Value.int .i8) l k 0 (.bool false) hln] at hcx
          obtain ⟨b1, b2⟩ := HLB.out k hlt
          have hgx := HGET.out k hlt
          have hstp : Hid (shw n (shE n z (xs.take k) (xs.getD k 0)) (xs.take k ++ [xs.getD k 0]) (xs.drop (k + 1)) = r) := by show _ = _; rw [← hsh.out, drop_cons xs k 0 hkx]; rfl
          have htk : Hid (xs.take (k + 1) = xs.take k ++ [xs.getD k 0]) := take_succ xs k 0 hkx
          clear hc
          generalize l.getD k 0 = lx at hcx b1 b2 hgx
          obtain ⟨tb1, tb2⟩ := tm20 lx b1 b2
          obtain ⟨t, ht⟩ : ∃ t, lx.tmod 20 = t := ⟨_, rfl⟩
          rw [ht] at tb1 tb2
          rw [ht] at hgx
          rw [hgx] at hstp htk
          have hct := fun W h => contZ_any A1 c1 k (xs.take k) (t - 1) W h (by omega)
          have hrdp := own_rd hown (X := []) (by simp)
          have hgo : Hid (Below w.heap.size w wr) := hbr
          have hsz := hbr.size
          have ev := shE_vals n z (xs.take k) (t - 1) hz3.out
          have EV := Lib.hid ev
          clear ev hgx
          by_cases hz0 : z = 0
          · subst hz0
            by_cases c1' : t - 1 < 0
            · have hneg : decide (t - 1 < 0) = true := by simpa using c1'
              have hv : shE n 0 (xs.take k) (t - 1) = 2 := by unfold shE; rw [if_pos rfl, if_pos (.inl c1')]
              rw [hv, ← htk.out] at hstp
              rw [hv] at EV
              have HS := hstp; have HV := EV
              clear hv hstp EV hsh hz3 hbr
              go_wp2_with (at_builtin; refine append_z wr rfl _ _ rfl w.heap.size k (.slice A1 k c1) (xs.take k) (t - 1) rfl hown wr.heap.size rfl rfl (by omega) hsz ?_)
              intro g5 c5 w5x hown5 hg5
              rw [← htk.out] at hown5
              have hB5x : Below w.heap.size w w5x := hgo.out.grown hg5 hsz (fun k' e => (hown.lt k' e).1)
              clear hown hg5
              go_wp2_with (fail)
              exact ⟨⟨k + 1, _, some ⟨g5, 0, none⟩, c5, by omega, rfl, rfl, by go_num, (by show _ ∨ _; first | exact .inl rfl | exact .inr (.inl rfl) | exact .inr (.inr rfl) | exact HV.out), hown5, HS.out, hB5x⟩, by simp [RowKit.intOf]; omega⟩
            · by_cases c2' : (n : Int) ≤ t - 1
              · skip
                have hv : shE n 0 (xs.take k) (t - 1) = 2 := by unfold shE; rw [if_pos rfl, if_pos (.inr c2')]
                rw [hv, ← htk.out] at hstp
                rw [hv] at EV
                have HS := hstp; have HV := EV
                clear hv hstp EV hsh hz3 hbr
                go_wp2_with (at_builtin; refine append_z wr rfl _ _ rfl w.heap.size k (.slice A1 k c1) (xs.take k) (t - 1) rfl hown wr.heap.size rfl rfl (by omega) hsz ?_)
                intro g5 c5 w5x hown5 hg5
                rw [← htk.out] at hown5
                have hB5x : Below w.heap.size w w5x := hgo.out.grown hg5 hsz (fun k' e => (hown.lt k' e).1)
                clear hown hg5
                go_wp2_with (fail)
                exact ⟨⟨k + 1, _, some ⟨g5, 0, none⟩, c5, by omega, rfl, rfl, by go_num, (by show _ ∨ _; first | exact .inl rfl | exact .inr (.inl rfl) | exact .inr (.inr rfl) | exact HV.out), hown5, HS.out, hB5x⟩, by simp [RowKit.intOf]; omega⟩
              · cases c3' : (xs.take k).contains (t - 1) with
                | true =>
                  rw [c3'] at hct
                  have hv : shE n 0 (xs.take k) (t - 1) = 6 := by unfold shE; rw [if_pos rfl, if_neg (by omega), if_pos c3']
                  rw [hv, ← htk.out] at hstp
                  rw [hv] at EV
                  have HS := hstp; have HV := EV
                  clear hv hstp EV hsh hz3 hbr
                  go_wp2_with (fail)
                  refine (hct _ hrdp).mono ?_; rintro e w6 ⟨rfl, hw6⟩
                  rw [hw6]; clear hw6
                  go_wp2_with (at_builtin; refine append_z wr rfl _ _ rfl w.heap.size k (.slice A1 k c1) (xs.take k) (t - 1) rfl hown wr.heap.size rfl rfl (by omega) hsz ?_)
                  intro g5 c5 w5x hown5 hg5
                  rw [← htk.out] at hown5
                  have hB5x : Below w.heap.size w w5x := hgo.out.grown hg5 hsz (fun k' e => (hown.lt k' e).1)
                  clear hown hg5
                  go_wp2_with (fail)
                  exact ⟨⟨k + 1, _, some ⟨g5, 0, none⟩, c5, by omega, rfl, rfl, by go_num, (by show _ ∨ _; first | exact .inl rfl | exact .inr (.inl rfl) | exact .inr (.inr rfl) | exact HV.out), hown5, HS.out, hB5x⟩, by simp [RowKit.intOf]; omega⟩
                | false =>
                  rw [c3'] at hct
                  have hv : shE n 0 (xs.take k) (t - 1) = 0 := by unfold shE; rw [if_pos rfl, if_neg (by omega), c3']; rfl
                  rw [hv, ← htk.out] at hstp
                  rw [hv] at EV
                  have HS := hstp; have HV := EV
                  clear hv hstp EV hsh hz3 hbr
                  go_wp2_with (fail)
                  refine (hct _ hrdp).mono ?_; rintro e w6 ⟨rfl, hw6⟩
                  rw [hw6]; clear hw6
                  go_wp2_with (at_builtin; refine append_z wr rfl _ _ rfl w.heap.size k (.slice A1 k c1) (xs.take k) (t - 1) rfl hown wr.heap.size rfl rfl (by omega) hsz ?_)
                  intro g5 c5 w5x hown5 hg5
                  rw [← htk.out] at hown5
                  have hB5x : Below w.heap.size w w5x := hgo.out.grown hg5 hsz (fun k' e => (hown.lt k' e).1)
                  clear hown hg5
                  go_wp2_with (fail)
                  exact ⟨⟨k + 1, _, some ⟨g5, 0, none⟩, c5, by omega, rfl, rfl, by go_num, (by show _ ∨ _; first | exact .inl rfl | exact .inr (.inl rfl) | exact .inr (.inr rfl) | exact HV.out), hown5, HS.out, hB5x⟩, by simp [RowKit.intOf]; omega⟩
          · have hzb : (z == 0) = false := by simpa using hz0
            have hv : shE n z (xs.take k) (t - 1) = z := by unfold shE; rw [if_neg hz0]
            rw [hv, ← htk.out] at hstp
            rw [hv] at EV
            have HS := hstp; have HV := EV
            clear hv hstp EV hsh hz3 hbr
            go_wp2_with (at_builtin; refine append_z wr rfl _ _ rfl w.heap.size k (.slice A1 k c1) (xs.take k) (t - 1) rfl hown wr.heap.size rfl rfl (by omega) hsz ?_)
            intro g5 c5 w5x hown5 hg5
            rw [← htk.out] at hown5
            have hB5x : Below w.heap.size w w5x := hgo.out.grown hg5 hsz (fun k' e => (hown.lt k' e).1)
            clear hown hg5
            go_wp2_with (fail)
            exact ⟨⟨k + 1, _, some ⟨g5, 0, none⟩, c5, by omega, rfl, rfl, by go_num, (by show _ ∨ _; first | exact .inl rfl | exact .inr (.inl rfl) | exact .inr (.inr rfl) | exact HV.out), hown5, HS.out, hB5x⟩, by simp [RowKit.intOf]; omega⟩
        · obtain rfl : k = n := by omega
          have hzr : z = r := by rw [← hsh.out, List.drop_eq_nil_of_le (by rw [HXL.out]; omega)]; rfl
          subst hzr
          have hrd5 := own_rd hown (X := []) (by simp)
          rw [List.take_of_length_le (by rw [HXL.out]; omega)] at hrd5
          have hR := Lib.hid hrd5
          have hf := hf (by omega)
          have hfi := HFIN.out (by omega)
          clear hrd5 hown hsh HFIN HGET HLB
          by_cases hn0 : k = 0
          · subst hn0
            rw [show onesN 0 = 0 from rfl, if_neg (by decide)] at hfi
            obtain rfl : ef = 5 := by
              rcases hfi.out with ⟨h, _⟩ | ⟨_, h⟩
              · exact absurd h (by decide)
              · exact h
            clear hfi
            go_wp2_with (fail)
            refine (hf _ _ _ hR.out).mono ?_; rintro e w7 ⟨rfl, hb7⟩
            have hB7 := hbr.trans (hb7.mono hbr.size)
            go_wp2_with (fail)
            refine (hws _ (hT.below hB7)).mono ?_; rintro e w9 ⟨rfl, hb9⟩
            have hB9 := hB7.trans (hb9.mono hB7.size)
            go_wp2_with (fail)
            go_ret
            exact ⟨rfl, hB9⟩
          · have hpk := fun W => power_any k (by omega) (by omega) W
            have hbn : ((k : Int) == 0) = false := by simp; omega
            have hoi := ones_iff k (by omega) (by omega)
            generalize 2 ^ tzN k = Pk at hpk hoi
            by_cases ho : onesN k = 1
            · have hPk : ((Pk : Int) != (k : Int)) = false := by have := hoi.2 ho; simp; omega
              rw [if_pos ho] at hfi
              clear ho hoi
              by_cases hz0 : z = 0
              · subst hz0
                have hef : ef = 0 ∨ ef = 12 := by
                  rcases hfi.out with ⟨_, h⟩ | ⟨h, _⟩
                  · exact h
                  · exact absurd rfl h
                clear hfi hz3
                rcases hef with rfl | rfl
                · go_wp2_with (fail)
                  refine (hpk _).mono ?_; rintro e w6 ⟨rfl, hw6⟩
                  rw [hw6]; clear hw6
                  go_wp2_with (fail)
                  refine (hf _ _ _ hR.out).mono ?_; rintro e w7 ⟨rfl, hb7⟩
                  have hB7 := hbr.trans (hb7.mono hbr.size)
                  go_wp2_with (fail)
                  refine (hws _ (hT.below hB7)).mono ?_; rintro e w9 ⟨rfl, hb9⟩
                  have hB9 := hB7.trans (hb9.mono hB7.size)
                  go_wp2_with (fail)
                  go_ret
                  exact ⟨rfl, hB9⟩
                · go_wp2_with (fail)
                  refine (hpk _).mono ?_; rintro e w6 ⟨rfl, hw6⟩
                  rw [hw6]; clear hw6
                  go_wp2_with (fail)
                  refine (hf _ _ _ hR.out).mono ?_; rintro e w7 ⟨rfl, hb7⟩
                  have hB7 := hbr.trans (hb7.mono hbr.size)
                  go_wp2_with (fail)
                  refine (hws _ (hT.below hB7)).mono ?_; rintro e w9 ⟨rfl, hb9⟩
                  have hB9 := hB7.trans (hb9.mono hB7.size)
                  go_wp2_with (fail)
                  go_ret
                  exact ⟨rfl, hB9⟩
              · have hzb : (z == 0) = false := by simpa using hz0
                obtain rfl : ef = z := by
                  rcases hfi.out with ⟨h, _⟩ | ⟨_, h⟩
                  · exact absurd h hz0
                  · exact h
                clear hfi hz3 hz0
                go_wp2_with (fail)
                refine (hpk _).mono ?_; rintro e w6 ⟨rfl, hw6⟩
                rw [hw6]; clear hw6
                go_wp2_with (fail)
                refine (hf _ _ _ hR.out).mono ?_; rintro e w7 ⟨rfl, hb7⟩
                have hB7 := hbr.trans (hb7.mono hbr.size)
                go_wp2_with (fail)
                refine (hws _ (hT.below hB7)).mono ?_; rintro e w9 ⟨rfl, hb9⟩
                have hB9 := hB7.trans (hb9.mono hB7.size)
                go_wp2_with (fail)
                go_ret
                exact ⟨rfl, hB9⟩
            · have hPk : ((Pk : Int) != (k : Int)) = true := by have : ¬ Pk = k := fun e => ho (hoi.1 e); simp; omega
              rw [if_neg ho] at hfi
              obtain rfl : ef = 5 := by
                rcases hfi.out with ⟨h, _⟩ | ⟨_, h⟩
                · exact absurd h (by decide)
                · exact h
              clear hfi hz3 ho hoi
              go_wp2_with (fail)
              refine (hpk _).mono ?_; rintro e w6 ⟨rfl, hw6⟩
              rw [hw6]; clear hw6
              go_wp2_with (fail)
              refine (hf _ _ _ hR.out).mono ?_; rintro e w7 ⟨rfl, hb7⟩
              have hB7 := hbr.trans (hb7.mono hbr.size)
              go_wp2_with (fail)
              refine (hws _ (hT.below hB7)).mono ?_; rintro e w9 ⟨rfl, hb9⟩
              have hB9 := hB7.trans (hb9.mono hB7.size)
              go_wp2_with (fail)
              go_ret
              exact ⟨rfl, hB9⟩
  · obtain ⟨rfl, rfl, rfl⟩ : e1 = 5 ∧ e2 = 5 ∧ pe = 5 := by
      rcases HA.out with ⟨a0, a1, a2, a3⟩ | ⟨a0, a1, a2, a3⟩
      · first | exact ⟨a1, a2, a3⟩ | (rw [hw0] at a0; exact absurd a0 (by decide))
      · first | exact ⟨a1, a2, a3⟩ | (rw [hw0] at a0; exact absurd a0 (by decide))
    clear HA hw0 hwant
    go_enter Tryd.func15, Tryd.ntmps15
    go_wp2_with (fail)
    refine (h0 _).mono ?_; rintro e w1 ⟨rfl, q1, rfl⟩
    have hB1 : Below w.heap.size w (w.drewN q1) := below_drewN (Below.refl _ _) _
    generalize w.drewN q1 = w1 at hB1 ⊢
    go_wp2_with (fail)
    refine (h4 _).mono ?_; rintro e w2 ⟨rfl, rfl⟩
    go_wp2_with (fail)
    refine (h1 _).mono ?_; rintro e w3 ⟨rfl, hb3⟩
    have hB3 := hB1.trans (hb3.mono hB1.size)
    go_wp2_with (fail)
    refine (h2 _ (hT.below hB3)).mono ?_; rintro e w4 ⟨rfl, hb4⟩
    have hB4 := hB3.trans (hb4.mono hB3.size)
    go_wp2_with (fail)
    refine (h3 _ (hT.below hB4)).mono ?_; rintro e w5 ⟨rfl, hb5⟩
    have hB5 := hB4.trans (hb5.mono hB4.size)
    clear hB1 hb3 hB3 hb4 hB4 hb5 h0 h1 h2 h3
    by_cases hbig : 16 < n
    · go_wp2_with (fail)
      refine (hws _ (hT.below hB5)).mono ?_; rintro e w9 ⟨rfl, hb9⟩
      have hB9 := hB5.trans (hb9.mono hB5.size)
      go_wp2_with (fail)
      go_ret
      exact ⟨rfl, hB9⟩
    · have hsz5 := hB5.size
      go_wp2_with (fail)
      go_loopw [9, 16, 78] (fun v9 v16 v78 wr => ∃ (k : Nat) (z : Int) (A1 : Option Addr) (c1 : Nat), k ≤ n ∧ v9 = .int .i64 z ∧ v16 = .slice A1 k c1 ∧ v78 = .int .i64 k ∧ Hid (z = 0 ∨ z = 2 ∨ z = 6) ∧ wr.ownsRow w.heap.size 3 1 (.slice A1 k c1) k (zs (xs.take k)) ∧ Hid (shw n z (xs.take k) (xs.drop k) = r) ∧ Below w.heap.size w wr) (fun _ _ v _ => n - (RowKit.intOf v).toNat)
      case atStart => exact ⟨0, 0, none, 0, Nat.zero_le _, rfl, rfl, rfl, .inl rfl, ⟨rfl, .inl ⟨rfl, rfl⟩⟩, hst0, hB5⟩
      case round =>
        clear hst0
        obtain ⟨k, z, A1, c1, hk, rfl, rfl, rfl, hz3, hown, hsh, hbr⟩ := hrel
        by_cases hlt : k < n
        · obtain ⟨g, o, rfl, hg, _, hc⟩ := (HRD.out.below hbr).2 (by omega)
          have hcx := hc k hlt
          have hln : k < l.length := by have := HRD.out.1; rw [List.length_map] at this; omega
          have hkx : k < xs.length := by rw [HXL.out]; exact hlt
          rw [getD_map1 (Value.int .i8) l k 0 (.bool false) hln] at hcx
          obtain ⟨b1, b2⟩ := HLB.out k hlt
          have hgx := HGET.out k hlt
          have hstp : Hid (shw n (shE n z (xs.take k) (xs.getD k 0)) (xs.take k ++ [xs.getD k 0]) (xs.drop (k + 1)) = r) := by show _ = _; rw [← hsh.out, drop_cons xs k 0 hkx]; rfl
          have htk : Hid (xs.take (k + 1) = xs.take k ++ [xs.getD k 0]) := take_succ xs k 0 hkx
          clear hc
          generalize l.getD k 0 = lx at hcx b1 b2 hgx
          obtain ⟨tb1, tb2⟩ := tm20 lx b1 b2
          obtain ⟨t, ht⟩ : ∃ t, lx.tmod 20 = t := ⟨_, rfl⟩
          rw [ht] at tb1 tb2
          rw [ht] at hgx
          rw [hgx] at hstp htk
          have hct := fun W h => contZ_any A1 c1 k (xs.take k) (t - 1) W h (by omega)
          have hrdp := own_rd hown (X := []) (by simp)
          have hgo : Hid (Below w.heap.size w wr) := hbr
          have hsz := hbr.size
          have ev := shE_vals n z (xs.take k) (t - 1) hz3.out
          have EV := Lib.hid ev
          clear ev hgx
          by_cases hz0 : z = 0
          · subst hz0
            by_cases c1' : t - 1 < 0
            · have hneg : decide (t - 1 < 0) = true := by simpa using c1'
              have hv : shE n 0 (xs.take k) (t - 1) = 2 := by unfold shE; rw [if_pos rfl, if_pos (.inl c1')]
              rw [hv, ← htk.out] at hstp
              rw [hv] at EV
              have HS := hstp; have HV := EV
              clear hv hstp EV hsh hz3 hbr
              go_wp2_with (at_builtin; refine append_z wr rfl _ _ rfl w.heap.size k (.slice A1 k c1) (xs.take k) (t - 1) rfl hown wr.heap.size rfl rfl (by omega) hsz ?_)
              intro g5 c5 w5x hown5 hg5
              rw [← htk.out] at hown5
              have hB5x : Below w.heap.size w w5x := hgo.out.grown hg5 hsz (fun k' e => (hown.lt k' e).1)
              clear hown hg5
              go_wp2_with (fail)
              exact ⟨⟨k + 1, _, some ⟨g5, 0, none⟩, c5, by omega, rfl, rfl, by go_num, (by show _ ∨ _; first | exact .inl rfl | exact .inr (.inl rfl) | exact .inr (.inr rfl) | exact HV.out), hown5, HS.out, hB5x⟩, by simp [RowKit.intOf]; omega⟩
            · by_cases c2' : (n : Int) ≤ t - 1
              · skip
                have hv : shE n 0 (xs.take k) (t - 1) = 2 := by unfold shE; rw [if_pos rfl, if_pos (.inr c2')]
                rw [hv, ← htk.out] at hstp
                rw [hv] at EV
                have HS := hstp; have HV := EV
                clear hv hstp EV hsh hz3 hbr
                go_wp2_with (at_builtin; refine append_z wr rfl _ _ rfl w.heap.size k (.slice A1 k c1) (xs.take k) (t - 1) rfl hown wr.heap.size rfl rfl (by omega) hsz ?_)
                intro g5 c5 w5x hown5 hg5
                rw [← htk.out] at hown5
                have hB5x : Below w.heap.size w w5x := hgo.out.grown hg5 hsz (fun k' e => (hown.lt k' e).1)
                clear hown hg5
                go_wp2_with (fail)
                exact ⟨⟨k + 1, _, some ⟨g5, 0, none⟩, c5, by omega, rfl, rfl, by go_num, (by show _ ∨ _; first | exact .inl rfl | exact .inr (.inl rfl) | exact .inr (.inr rfl) | exact HV.out), hown5, HS.out, hB5x⟩, by simp [RowKit.intOf]; omega⟩
              · cases c3' : (xs.take k).contains (t - 1) with
                | true =>
                  rw [c3'] at hct
                  have hv : shE n 0 (xs.take k) (t - 1) = 6 := by unfold shE; rw [if_pos rfl, if_neg (by omega), if_pos c3']
                  rw [hv, ← htk.out] at hstp
                  rw [hv] at EV
                  have HS := hstp; have HV := EV
                  clear hv hstp EV hsh hz3 hbr
                  go_wp2_with (fail)
                  refine (hct _ hrdp).mono ?_; rintro e w6 ⟨rfl, hw6⟩
                  rw [hw6]; clear hw6
                  go_wp2_with (at_builtin; refine append_z wr rfl _ _ rfl w.heap.size k (.slice A1 k c1) (xs.take k) (t - 1) rfl hown wr.heap.size rfl rfl (by omega) hsz ?_)
                  intro g5 c5 w5x hown5 hg5
                  rw [← htk.out] at hown5
                  have hB5x : Below w.heap.size w w5x := hgo.out.grown hg5 hsz (fun k' e => (hown.lt k' e).1)
                  clear hown hg5
                  go_wp2_with (fail)
                  exact ⟨⟨k + 1, _, some ⟨g5, 0, none⟩, c5, by omega, rfl, rfl, by go_num, (by show _ ∨ _; first | exact .inl rfl | exact .inr (.inl rfl) | exact .inr (.inr rfl) | exact HV.out), hown5, HS.out, hB5x⟩, by simp [RowKit.intOf]; omega⟩
                | false =>
                  rw [c3'] at hct
                  have hv : shE n 0 (xs.take k) (t - 1) = 0 := by unfold shE; rw [if_pos rfl, if_neg (by omega), c3']; rfl
                  rw [hv, ← htk.out] at hstp
                  rw [hv] at EV
                  have HS := hstp; have HV := EV
                  clear hv hstp EV hsh hz3 hbr
                  go_wp2_with (fail)
                  refine (hct _ hrdp).mono ?_; rintro e w6 ⟨rfl, hw6⟩
                  rw [hw6]; clear hw6
                  go_wp2_with (at_builtin; refine append_z wr rfl _ _ rfl w.heap.size k (.slice A1 k c1) (xs.take k) (t - 1) rfl hown wr.heap.size rfl rfl (by omega) hsz ?_)
                  intro g5 c5 w5x hown5 hg5
                  rw [← htk.out] at hown5
                  have hB5x : Below w.heap.size w w5x := hgo.out.grown hg5 hsz (fun k' e => (hown.lt k' e).1)
                  clear hown hg5
                  go_wp2_with (fail)
                  exact ⟨⟨k + 1, _, some ⟨g5, 0, none⟩, c5, by omega, rfl, rfl, by go_num, (by show _ ∨ _; first | exact .inl rfl | exact .inr (.inl rfl) | exact .inr (.inr rfl) | exact HV.out), hown5, HS.out, hB5x⟩, by simp [RowKit.intOf]; omega⟩
          · have hzb : (z == 0) = false := by simpa using hz0
            have hv : shE n z (xs.take k) (t - 1) = z := by unfold shE; rw [if_neg hz0]
            rw [hv, ← htk.out] at hstp
            rw [hv] at EV
            have HS := hstp; have HV := EV
            clear hv hstp EV hsh hz3 hbr
            go_wp2_with (at_builtin; refine append_z wr rfl _ _ rfl w.heap.size k (.slice A1 k c1) (xs.take k) (t - 1) rfl hown wr.heap.size rfl rfl (by omega) hsz ?_)
            intro g5 c5 w5x hown5 hg5
            rw [← htk.out] at hown5
            have hB5x : Below w.heap.size w w5x := hgo.out.grown hg5 hsz (fun k' e => (hown.lt k' e).1)
            clear hown hg5
            go_wp2_with (fail)
            exact ⟨⟨k + 1, _, some ⟨g5, 0, none⟩, c5, by omega, rfl, rfl, by go_num, (by show _ ∨ _; first | exact .inl rfl | exact .inr (.inl rfl) | exact .inr (.inr rfl) | exact HV.out), hown5, HS.out, hB5x⟩, by simp [RowKit.intOf]; omega⟩
        · obtain rfl : k = n := by omega
          have hzr : z = r := by rw [← hsh.out, List.drop_eq_nil_of_le (by rw [HXL.out]; omega)]; rfl
          subst hzr
          have hrd5 := own_rd hown (X := []) (by simp)
          rw [List.take_of_length_le (by rw [HXL.out]; omega)] at hrd5
          have hR := Lib.hid hrd5
          have hf := hf (by omega)
          have hfi := HFIN.out (by omega)
          clear hrd5 hown hsh HFIN HGET HLB
          by_cases hn0 : k = 0
          · subst hn0
            rw [show onesN 0 = 0 from rfl, if_neg (by decide)] at hfi
            obtain rfl : ef = 5 := by
              rcases hfi.out with ⟨h, _⟩ | ⟨_, h⟩
              · exact absurd h (by decide)
              · exact h
            clear hfi
            go_wp2_with (fail)
            refine (hf _ _ _ hR.out).mono ?_; rintro e w7 ⟨rfl, hb7⟩
            have hB7 := hbr.trans (hb7.mono hbr.size)
            go_wp2_with (fail)
            refine (hws _ (hT.below hB7)).mono ?_; rintro e w9 ⟨rfl, hb9⟩
            have hB9 := hB7.trans (hb9.mono hB7.size)
            go_wp2_with (fail)
            go_ret
            exact ⟨rfl, hB9⟩
          · have hpk := fun W => power_any k (by omega) (by omega) W
            have hbn : ((k : Int) == 0) = false := by simp; omega
            have hoi := ones_iff k (by omega) (by omega)
            generalize 2 ^ tzN k = Pk at hpk hoi
            by_cases ho : onesN k = 1
            · have hPk : ((Pk : Int) != (k : Int)) = false := by have := hoi.2 ho; simp; omega
              rw [if_pos ho] at hfi
              clear ho hoi
              by_cases hz0 : z = 0
              · subst hz0
                have hef : ef = 0 ∨ ef = 12 := by
                  rcases hfi.out with ⟨_, h⟩ | ⟨h, _⟩
                  · exact h
                  · exact absurd rfl h
                clear hfi hz3
                rcases hef with rfl | rfl
                · go_wp2_with (fail)
                  refine (hpk _).mono ?_; rintro e w6 ⟨rfl, hw6⟩
                  rw [hw6]; clear hw6
                  go_wp2_with (fail)
                  refine (hf _ _ _ hR.out).mono ?_; rintro e w7 ⟨rfl, hb7⟩
                  have hB7 := hbr.trans (hb7.mono hbr.size)
                  go_wp2_with (fail)
                  refine (hws _ (hT.below hB7)).mono ?_; rintro e w9 ⟨rfl, hb9⟩
                  have hB9 := hB7.trans (hb9.mono hB7.size)
                  go_wp2_with (fail)
                  go_ret
                  exact ⟨rfl, hB9⟩
                · go_wp2_with (fail)
                  refine (hpk _).mono ?_; rintro e w6 ⟨rfl, hw6⟩
                  rw [hw6]; clear hw6
                  go_wp2_with (fail)
                  refine (hf _ _ _ hR.out).mono ?_; rintro e w7 ⟨rfl, hb7⟩
                  have hB7 := hbr.trans (hb7.mono hbr.size)
                  go_wp2_with (fail)
                  refine (hws _ (hT.below hB7)).mono ?_; rintro e w9 ⟨rfl, hb9⟩
                  have hB9 := hB7.trans (hb9.mono hB7.size)
                  go_wp2_with (fail)
                  go_ret
                  exact ⟨rfl, hB9⟩
              · have hzb : (z == 0) = false := by simpa using hz0
                obtain rfl : ef = z := by
                  rcases hfi.out with ⟨h, _⟩ | ⟨_, h⟩
                  · exact absurd h hz0
                  · exact h
                clear hfi hz3 hz0
                go_wp2_with (fail)
                refine (hpk _).mono ?_; rintro e w6 ⟨rfl, hw6⟩
                rw [hw6]; clear hw6
                go_wp2_with (fail)
                refine (hf _ _ _ hR.out).mono ?_; rintro e w7 ⟨rfl, hb7⟩
                have hB7 := hbr.trans (hb7.mono hbr.size)
                go_wp2_with (fail)
                refine (hws _ (hT.below hB7)).mono ?_; rintro e w9 ⟨rfl, hb9⟩
                have hB9 := hB7.trans (hb9.mono hB7.size)
                go_wp2_with (fail)
                go_ret
                exact ⟨rfl, hB9⟩
            · have hPk : ((Pk : Int) != (k : Int)) = true := by have : ¬ Pk = k := fun e => ho (hoi.1 e); simp; omega
              rw [if_neg ho] at hfi
              obtain rfl : ef = 5 := by
                rcases hfi.out with ⟨h, _⟩ | ⟨_, h⟩
                · exact absurd h (by decide)
                · exact h
              clear hfi hz3 ho hoi
              go_wp2_with (fail)
              refine (hpk _).mono ?_; rintro e w6 ⟨rfl, hw6⟩
              rw [hw6]; clear hw6
              go_wp2_with (fail)
              refine (hf _ _ _ hR.out).mono ?_; rintro e w7 ⟨rfl, hb7⟩
              have hB7 := hbr.trans (hb7.mono hbr.size)
              go_wp2_with (fail)
              refine (hws _ (hT.below hB7)).mono ?_; rintro e w9 ⟨rfl, hb9⟩
              have hB9 := hB7.trans (hb9.mono hB7.size)
              go_wp2_with (fail)
              go_ret
              exact ⟨rfl, hB9⟩
end Go.Proofs.YtehffacmphpknaaDoor
