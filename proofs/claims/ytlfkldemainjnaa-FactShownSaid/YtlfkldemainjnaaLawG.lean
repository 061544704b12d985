/-
  The law's run, whole.
-/
import Derived.Test.YtlfkldemainjnaaLawF
set_option linter.unusedSimpArgs false
set_option linter.unusedVariables false
namespace Go.Proofs.Ytlfkldemainjnaa
open Go Go.Proofs.Eng
set_option maxRecDepth 100000
set_option maxHeartbeats 4000000
theorem chkL_zero {m : Int} {l : List (Int × Int)} : ∀ (k i : Nat), (∀ j, i ≤ j → j < i + k → pairE m l j = 0) → chkL m l k i = 0
  | 0, _, _ => rfl
  | k + 1, i, h => by
    unfold chkL
    rw [if_pos (h i (Nat.le_refl _) (by omega))]
    exact chkL_zero k (i + 1) fun j a b => h j (by omega) (by omega)
def goodP (m : Int) (p : Int × Int) : Prop := 0 ≤ p.1 ∧ p.1 < p.2 ∧ p.2 < m
theorem prM_ok {m : Int} {x : Int × Int} (hm : 0 < m) (hx : 0 ≤ x.1 ∧ x.1 ≤ 255 ∧ 0 ≤ x.2 ∧ x.2 ≤ 255) (h : (prM m x).1 ≠ (prM m x).2) : goodP m (prM m x) := by
  obtain ⟨a1, a2⟩ := tmod_b (a := x.1) (n := m) hx.1 hm
  obtain ⟨b1, b2⟩ := tmod_b (a := x.2) (n := m) hx.2.2.1 hm
  unfold goodP
  unfold prM mn2 mx2 at *
  generalize x.1.tmod m = a at *
  generalize x.2.tmod m = b at *
  by_cases c1 : b < a <;> by_cases c2 : b > a <;> simp [c1, c2] at h ⊢ <;> omega
theorem mkL_good {m : Int} (hm : 0 < m) {E : List (Int × Int)} (hb : ∀ p, p ∈ E → 0 ≤ p.1 ∧ p.1 ≤ 255 ∧ 0 ≤ p.2 ∧ p.2 ≤ 255) : ∀ i, i ≤ E.length → (∀ p, p ∈ mkL m (E.take i) → goodP m p) ∧ (mkL m (E.take i)).Nodup
  | 0, _ => by simp [mkL]
  | i + 1, h => by
    obtain ⟨h1, h2⟩ := mkL_good hm hb i (by omega)
    rw [mkL_take h]
    unfold mkS
    split
    · rename_i hc
      refine ⟨fun p hp => ?_, ?_⟩
      · rcases List.mem_append.1 hp with q | q
        · exact h1 p q
        · rw [List.mem_singleton] at q
          subst q
          exact prM_ok hm (hb _ (getD_mem (by omega))) hc.1
      · rw [List.nodup_append]
        refine ⟨h2, by simp, fun a ha b hb2 e => ?_⟩
        rw [List.mem_singleton] at hb2
        subst e; subst hb2
        exact hc.2 ha
    · exact ⟨h1, h2⟩
theorem mem_take_ne {l : List (Int × Int)} (hd : l.Nodup) {j : Nat} (h : j < l.length) : l.getD j (0, 0) ∉ l.take j := by
  intro hm
  obtain ⟨k, hk, e⟩ := List.mem_iff_getElem.1 hm
  rw [List.length_take] at hk
  rw [List.getElem_take, List.getD_eq_getElem?_getD, List.getElem?_eq_getElem h] at e
  have := (List.getElem_inj hd).1 e
  omega
theorem chk_made {m : Int} (h1 : 1 ≤ m) (h7 : m ≤ 7) {E : List (Int × Int)} (hE : E.length ≤ 10) (hb : ∀ p, p ∈ E → 0 ≤ p.1 ∧ p.1 ≤ 255 ∧ 0 ≤ p.2 ∧ p.2 ≤ 255) : chkE m (mkL m E) = 0 := by
  obtain ⟨g1, g2⟩ := mkL_good (m := m) (by omega) hb E.length (Nat.le_refl _)
  have hl := mkL_len m E E.length (Nat.le_refl _)
  rw [List.take_length] at g1 g2 hl
  unfold chkE
  rw [if_neg (by omega), if_neg (by omega), if_neg (by omega)]
  refine chkL_zero _ 0 fun j _ hj => ?_
  have hj : j < (mkL m E).length := by omega
  obtain ⟨p0, p1, p2⟩ := g1 _ (getD_mem (d := (0, 0)) hj)
  have hmem := mem_take_ne g2 hj
  unfold pairE
  have hin : (inB m ((mkL m E).getD j (0, 0)).1 && inB m ((mkL m E).getD j (0, 0)).2) = true := by
    simp only [inB, Bool.and_eq_true, decide_eq_true_eq]; omega
  rw [if_pos hin, if_neg (by omega), if_neg (fun q => hmem (memD_iff.1 q))]
theorem named2 {r9 : Nat × Option Ob} (j : Nat) : Go.Proofs.Eng.look [(9, r9)] j = Go.Proofs.Eng.look [(9, r9), (53, (0, none))] j := by
  simp only [Go.Proofs.Eng.look]
  by_cases h1 : 9 = j
  · simp [h1]
  · by_cases h2 : 53 = j
    · subst h2; simp
    · simp [h1, h2]
theorem noRef_qu (A N : Int) (E : List (Int × Int)) : noRefs [quA A N E, ai 1] = true := by
  have h : ∀ E : List (Int × Int), noRefs (E.flatMap fun p => [u8 p.1, u8 p.2]) = true := fun E => by
    induction E with
    | nil => rfl
    | cons p E ih => rw [List.flatMap_cons]; simpa [noRefs, noRef, u8] using ih
  simp [noRefs, noRef, quA, ai, u8]
  simpa [u8] using h E
theorem noRef_b1' {x : AV} {l : List (Int × Int)} (h : isP x l) (m : Int) : noRef (bkA m x) = true := by simp [noRefs, noRef, bkA, ai, h.ref]
theorem isP_mdv (l : List (Int × Int)) : isP (mdv l) l := by
  cases l with
  | nil => exact .inr ⟨rfl, rfl⟩
  | cons x t => exact .inl ⟨false, rfl⟩
theorem shown_run (A N g : Int) (E : List (Int × Int)) (V S : List Int) (hE : E.length = 10) (hA : 0 ≤ A ∧ A ≤ 255) (hN : 0 ≤ N ∧ N ≤ 255) (hb : ∀ p, p ∈ E → 0 ≤ p.1 ∧ p.1 ≤ 255 ∧ 0 ≤ p.2 ∧ p.2 ≤ 255)
    (hV : V.length = 7) (hVb : ∀ x, x ∈ V → 0 ≤ x ∧ x ≤ 255) (hS : S.length = 10) (hSb : ∀ x, x ∈ S → 0 ≤ x ∧ x ≤ 255) (hg : 0 ≤ g ∧ g ≤ 255) (hwk : Runs Try.prog xf 12 [] (ab true)) :
    Runs Try.prog xf 3 [quA A N E, .ag (V.map u8), .ag (S.map u8), u8 g] (ab true) := by
  have hmade := made_run A N E hE hA hN hb
  obtain ⟨a1, a2'⟩ := tmod_b (a := A) (n := 7) hA.1 (by omega)
  have hm1 : 1 ≤ mM A := by unfold mM; omega
  have hm7 : mM A ≤ 7 := by unfold mM; omega
  have hEl : (mE N E).length ≤ 10 := by unfold mE; rw [List.length_take]; omega
  have hc := chk_made hm1 hm7 hEl (fun p hp => hb p (List.mem_of_mem_take hp))
  have hl := mkL_len (mM A) (mE N E) (mE N E).length (Nat.le_refl _)
  rw [List.take_length] at hl
  have hx := isP_mdv (mkL (mM A) (mE N E))
  generalize mkL (mM A) (mE N E) = l at hmade hc hl hx
  generalize mdv l = pv at hmade hx
  generalize mM A = m at hmade hc hm1 hm7
  obtain ⟨t1, t2⟩ := tmod_b (a := g) (n := 16) hg.1 (by omega)
  have wg : IntKind.i64.wrap (g.tmod 16) = g.tmod 16 := wrap_id (by omega) (by omega)
  obtain ⟨k1, k2⟩ := tdiv_b (a := g.tmod 16) (n := 15) t1 (by omega)
  have w15 : IntKind.i64.wrap ((g.tmod 16).tdiv 15) = (g.tmod 16).tdiv 15 := wrap_id (by omega) (by omega)
  generalize hk : (g.tmod 16).tdiv 15 = k at *
  have z16 : ((16 : Int) = 0) = False := by simp
  have z15 : ((15 : Int) = 0) = False := by simp
  have c7 := chunk_b hV (.inl rfl)
  obtain ⟨nn, h66, hnn⟩ : ∃ nn : Nat, m - (if k < m then k else m) = (nn : Int) ∧ nn ≤ 7 := ⟨(m - (if k < m then k else m)).toNat, by split <;> omega, by split <;> omega⟩
  have w66 : IntKind.i64.wrap (m - (if k < m then k else m)) = (nn : Int) := by rw [h66]; exact wrap_id (by omega) (by omega)
  obtain ⟨G, hqu, hGl⟩ : ∃ G, quA A N E = .ag G ∧ G.length = 22 := ⟨_, rfl, by simp only [List.length_cons, flat_len2, hE]⟩
  rw [hqu] at hmade ⊢
  have hnr : noRefs [.ag G, ai 1] = true := by rw [← hqu]; exact noRef_qu A N E
  have hG22 : List.take 22 G = G := List.take_of_length_le (by omega)
  refine Runs.ofW (fn := xf3) 20 (by kernel_rfl) (W_run 120 ?_)
  simp only [go_some, go_none, go_zero, nxt_op, nxt_guard, nxt_skip, nxt_region, nxt_drawn, nxt_seq, nxt_block, nxt_scope, nxt_exit, nxt_blk, nxt_lp, nxt_cond, nxt_loop, nxt_ret, nxt_stop, nxt_nil, Eng.start, frG, frF, isCall, stp, exec1, exec1K, keyA, wantedA, stepF, stF_mv, stF_bin, stF_len, stF_un, stF_pick, stF_load, stF_iadr, stF_box, stF_fadr, stF_store, stF_ext, stF_fld, stF_idx, stF_aadr, stF_app, stF_bldS, stF_slc, stF_slcA, stF_bld, stF_isnil, stF_mki, stF_mkf, stF_mkb, mapF_eq, evalF_eq, evalA, setAF, setA, setF_eq, putF_eq, lookF_eq, List.getD_cons_zero, List.getD_cons_succ, List.set_cons_zero, List.set_cons_succ, List.replicate, List.length_cons, List.length_nil, Nat.zero_add, Nat.reduceSub, Nat.reduceAdd, List.cons_append, List.nil_append, Option.getD, drop, Nat.beq, List.length_map, binV, binI, unV, if_true, Eng.asInt, Eng.part, cellsOf, toNat_cast, cast_nonneg, true_and, and_true, if_pos, giveOp, List.getElem?_cons_zero, List.getElem?_cons_succ, Bool.not_true, Bool.not_false, ofVal, eq_self, and_self, true_implies, dfF, touch, regF, quietF, pairOK, noCs, Go.Value.oneCell', decide_true, decide_false, Nat.mul_one, asBound, fullOf, Option.isSome_none, Option.isSome_some, Nat.zero_le, Bool.false_eq_true, false_implies, Int.cast_ofNat_Int, Int.reduceLT, Int.reduceLE, Int.reduceToNat, Nat.reduceMul, Int.le_refl, Eng.look, putAt, Nat.reduceEqDiff, reduceCtorEq, Nat.reduceBEq, if_false, List.all_cons, List.all_nil, tf_beq, ft_beq, lvSub, lvOK, isNone, width, solid, splice, List.take_zero, List.drop_zero, List.drop_nil, List.take_nil, List.drop_succ_cons, List.take_succ_cons, List.append_nil, beq_self_eq_true, Bool.and_true, Bool.true_and, Bool.and_self, ge_iff_le, gt_iff_lt, Nat.le_refl, Nat.reduceLeDiff, Nat.reduceLT, xf3, ai, u8, raw_conv, raw_min, rawC, rawK, mn2, opA, argT, Option.elim, wg, w15, z16, z15, hk, w66, hnn, hV, hS, hGl, hG22]
  refine W_call (args := [.ag G, ai 1]) rfl hnr hmade (noRef_b1' hx m) (W_run 120 ?_)
  simp only [go_some, go_none, go_zero, nxt_op, nxt_guard, nxt_skip, nxt_region, nxt_drawn, nxt_seq, nxt_block, nxt_scope, nxt_exit, nxt_blk, nxt_lp, nxt_cond, nxt_loop, nxt_ret, nxt_stop, nxt_nil, Eng.start, frG, frF, isCall, stp, exec1, exec1K, keyA, wantedA, stepF, stF_mv, stF_bin, stF_len, stF_un, stF_pick, stF_load, stF_iadr, stF_box, stF_fadr, stF_store, stF_ext, stF_fld, stF_idx, stF_aadr, stF_app, stF_bldS, stF_slc, stF_slcA, stF_bld, stF_isnil, stF_mki, stF_mkf, stF_mkb, mapF_eq, evalF_eq, evalA, setAF, setA, setF_eq, putF_eq, lookF_eq, List.getD_cons_zero, List.getD_cons_succ, List.set_cons_zero, List.set_cons_succ, List.replicate, List.length_cons, List.length_nil, Nat.zero_add, Nat.reduceSub, Nat.reduceAdd, List.cons_append, List.nil_append, Option.getD, drop, Nat.beq, List.length_map, binV, binI, unV, if_true, Eng.asInt, Eng.part, cellsOf, toNat_cast, cast_nonneg, true_and, and_true, if_pos, giveOp, List.getElem?_cons_zero, List.getElem?_cons_succ, Bool.not_true, Bool.not_false, ofVal, eq_self, and_self, true_implies, dfF, touch, regF, quietF, pairOK, noCs, Go.Value.oneCell', decide_true, decide_false, Nat.mul_one, asBound, fullOf, Option.isSome_none, Option.isSome_some, Nat.zero_le, Bool.false_eq_true, false_implies, Int.cast_ofNat_Int, Int.reduceLT, Int.reduceLE, Int.reduceToNat, Nat.reduceMul, Int.le_refl, Eng.look, putAt, Nat.reduceEqDiff, reduceCtorEq, Nat.reduceBEq, if_false, List.all_cons, List.all_nil, tf_beq, ft_beq, lvSub, lvOK, isNone, width, solid, splice, List.take_zero, List.drop_zero, List.drop_nil, List.take_nil, List.drop_succ_cons, List.take_succ_cons, List.append_nil, beq_self_eq_true, Bool.and_true, Bool.true_and, Bool.and_self, ge_iff_le, gt_iff_lt, Nat.le_refl, Nat.reduceLeDiff, Nat.reduceLT, ai, bkA]
  have c7' : chunkA false 1 (List.map u8 V) 7 = some (List.map u8 V) := c7
  simp only [go_some, go_none, go_zero, nxt_op, nxt_guard, nxt_skip, nxt_region, nxt_drawn, nxt_seq, nxt_block, nxt_scope, nxt_exit, nxt_blk, nxt_lp, nxt_cond, nxt_loop, nxt_ret, nxt_stop, nxt_nil, Eng.start, frG, frF, isCall, stp, exec1, exec1K, keyA, wantedA, stepF, stF_mv, stF_bin, stF_len, stF_un, stF_pick, stF_load, stF_iadr, stF_box, stF_fadr, stF_store, stF_ext, stF_fld, stF_idx, stF_aadr, stF_app, stF_bldS, stF_slc, stF_slcA, stF_bld, stF_isnil, stF_mki, stF_mkf, stF_mkb, mapF_eq, evalF_eq, evalA, setAF, setA, setF_eq, putF_eq, lookF_eq, List.getD_cons_zero, List.getD_cons_succ, List.set_cons_zero, List.set_cons_succ, List.replicate, List.length_cons, List.length_nil, Nat.zero_add, Nat.reduceSub, Nat.reduceAdd, List.cons_append, List.nil_append, Option.getD, drop, Nat.beq, List.length_map, binV, binI, unV, if_true, Eng.asInt, Eng.part, cellsOf, toNat_cast, cast_nonneg, true_and, and_true, if_pos, giveOp, List.getElem?_cons_zero, List.getElem?_cons_succ, Bool.not_true, Bool.not_false, ofVal, eq_self, and_self, true_implies, dfF, touch, regF, quietF, pairOK, noCs, Go.Value.oneCell', decide_true, decide_false, Nat.mul_one, asBound, fullOf, Option.isSome_none, Option.isSome_some, Nat.zero_le, Bool.false_eq_true, false_implies, Int.cast_ofNat_Int, Int.reduceLT, Int.reduceLE, Int.reduceToNat, Nat.reduceMul, Int.le_refl, Eng.look, putAt, Nat.reduceEqDiff, reduceCtorEq, Nat.reduceBEq, if_false, List.all_cons, List.all_nil, tf_beq, ft_beq, lvSub, lvOK, isNone, width, solid, splice, List.take_zero, List.drop_zero, List.drop_nil, List.take_nil, List.drop_succ_cons, List.take_succ_cons, List.append_nil, beq_self_eq_true, Bool.and_true, Bool.true_and, Bool.and_self, ge_iff_le, gt_iff_lt, Nat.le_refl, Nat.reduceLeDiff, Nat.reduceLT, ai, u8, raw_conv, raw_min, rawC, rawK, mn2, opA, argT, Option.elim, wg, w15, z16, z15, hk, w66, hnn, hV, hS, hGl, hG22]
  simp only [go_some, go_none, go_zero, nxt_op, nxt_guard, nxt_skip, nxt_region, nxt_drawn, nxt_seq, nxt_block, nxt_scope, nxt_exit, nxt_blk, nxt_lp, nxt_cond, nxt_loop, nxt_ret, nxt_stop, nxt_nil, Eng.start, frG, frF, isCall, stp, exec1, exec1K, keyA, wantedA, stepF, stF_mv, stF_bin, stF_len, stF_un, stF_pick, stF_load, stF_iadr, stF_box, stF_fadr, stF_store, stF_ext, stF_fld, stF_idx, stF_aadr, stF_app, stF_bldS, stF_slc, stF_slcA, stF_bld, stF_isnil, stF_mki, stF_mkf, stF_mkb, mapF_eq, evalF_eq, evalA, setAF, setA, setF_eq, putF_eq, lookF_eq, List.getD_cons_zero, List.getD_cons_succ, List.set_cons_zero, List.set_cons_succ, List.replicate, List.length_cons, List.length_nil, Nat.zero_add, Nat.reduceSub, Nat.reduceAdd, List.cons_append, List.nil_append, Option.getD, drop, Nat.beq, List.length_map, binV, binI, unV, if_true, Eng.asInt, Eng.part, cellsOf, toNat_cast, cast_nonneg, true_and, and_true, if_pos, giveOp, List.getElem?_cons_zero, List.getElem?_cons_succ, Bool.not_true, Bool.not_false, ofVal, eq_self, and_self, true_implies, dfF, touch, regF, quietF, pairOK, noCs, Go.Value.oneCell', decide_true, decide_false, Nat.mul_one, asBound, fullOf, Option.isSome_none, Option.isSome_some, Nat.zero_le, Bool.false_eq_true, false_implies, Int.cast_ofNat_Int, Int.reduceLT, Int.reduceLE, Int.reduceToNat, Nat.reduceMul, Int.le_refl, Eng.look, putAt, Nat.reduceEqDiff, reduceCtorEq, Nat.reduceBEq, if_false, List.all_cons, List.all_nil, tf_beq, ft_beq, lvSub, lvOK, isNone, width, solid, splice, List.take_zero, List.drop_zero, List.drop_nil, List.take_nil, List.drop_succ_cons, List.take_succ_cons, List.append_nil, beq_self_eq_true, Bool.and_true, Bool.true_and, Bool.and_self, ge_iff_le, gt_iff_lt, Nat.le_refl, Nat.reduceLeDiff, Nat.reduceLT, ai, c7, w66, hnn]
  have eF : List.take nn (List.map u8 V) = (V.take nn).map u8 := List.map_take.symm
  rw [eF, List.length_map]
  refine W_alone (W_named named2 (LA_loop _ _ _ (V.take nn) (by rw [List.length_take]; omega) (fun x hx => hVb x (List.mem_of_mem_take hx)) _ _ (.ptr (.ag (S.map u8))) _ (fun j0 j1 j2 j4 j7 j12 j13 j14 j15 j16 j17 j18 j19 j20 j21 j22 j23 j24 j25 j26 j27 j28 j29 j30 j31 j32 j33 j34 j35 j36 j37 j41 j42 j43 j44 j45 j46 j47 j48 j49 j50 j51 j52 j53 j54 j55 j56 j57 j58 j59 j60 j61 j62 j63 j64 j65 j66 j67 j68 j69 j70 j71 j72 j73 j74 j75 j76 j77 j78 j79 j80 j81 j82 j83 j84 j85 j86 j87 j88 j89 j90 j91 j92 j93 j94 j95 j96 j97 j98 j99 j100 j101 j102 j103 j104 j105 j106 j107 j108 j109 j110 j111 j112 j113 j114 j115 j116 j117 j118 j119 j120 j121 j122 j123 j124 j125 j126 j127 j128 j129 j130 j131 j132 j133 j134 j135 j136 j137 j138 j139 j140 j141 j142 j143 j144 j145 j146 j147 j148 j149 j150 j151 j152 j153 j154 j155 j156 j157 j158 j159 j160 j161 j162 j163 j164 j165 j166 j167 j168 j169 j170 j171 j172 j173 j174 j175 j176 j177 j178 j179 j180 j181 j182 j183 j184 j185 j186 j187 j188 j189 j190 j191 j192 j193 j194 j195 j196 j197 j198 => ?_) (V.take nn).length 0 (by omega) _ _ _ _ _ _ _ _ _ _ _ _ _ _ _ _ _ _ _ _ _ _ _ _ _ _ _ _ _ _ _ _ _ _ _ _ _ _ _ _ _ _ _ _ _ _ _ _ _ _ _ _ _ _ _ _ _ _ _ _ _ _ _ _ _ _ _ _ _ _ _ _ _ _ _ _ _ _ _ _ _ _ _ _ _ _ _ _ _ _ _ _ _ _ _ _ _ _ _ _ _ _ _ _ _ _ _ _ _ _ _ _ _ _ _ _ _ _ _ _ _ _ _ _ _ _ _ _ _ _ _ _ _ _ _ _ _ _ _ _ _ _ _ _ _ _ _ _ _ _ _ _ _ _ _ _ _ _ _ _ _ _ _ _ _ _ _ _ _ _ _ _ _ _ _ _ _ _ _ _ _ _ _ _ _ _ _ _ _))
  have hvv : ∀ x, x ∈ (V.take nn).map vOf → 0 ≤ x := fun x hx => by
    obtain ⟨u, hu, rfl⟩ := List.mem_map.1 hx
    exact vOf_b (hVb u (List.mem_of_mem_take hu))
  have hVl : ((V.take nn).map vOf).length ≤ 10 := by rw [List.length_map, List.length_take]; omega
  generalize (V.take nn).map vOf = vs at hvv hVl
  cases vs with
  | nil => exact r4_run m l [] g S nilA pv hx isL_nil (by omega) (by simp) hc (by simp) hg hS hSb hwk 0 _ _ _ _ _ _ _ _ _ _ _ _ _ _ _ _ _ _ _ _ _ _ _ _ _ _ _ _ _ _ _ _ _ _ _ _ _ _ _ _ _ _ _ _ _ _ _ _ _ _ _ _ _ _ _ _ _ _ _ _ _ _ _ _ _ _ _ _ _ _ _ _ _ _ _ _ _ _ _ _ _ _ _ _ _ _ _ _ _ _ _ _ _ _ _ _ _ _ _ _ _ _ _ _ _ _ _ _ _ _ _ _ _ _ _ _ _ _ _ _ _ _ _ _ _ _ _ _ _ _ _ _ _ _ _ _ _ _ _ _ _ _ _ _ _ _ _ _ _ _ _ _ _ _ _ _ _ _ _ _ _ _ _ _ _ _ _ _ _ _ _ _ _ _ _ _ _ _ _ _ _ _ _ _ _ _ _ _ _ _ _ _ _
  | cons x t =>
    refine W_giveC (giveT_row (t := 10) (k := 53) rfl rfl (by simp)) ?_
    simp only [List.map_cons, List.map_nil, hvl, ab, nilA, toData_os, toData_v, toData_o, toData_ptr, Go.Proofs.Eng.putAt, Nat.reduceEqDiff, if_false, if_true]
    exact r4_run m l (x :: t) g S (al false (x :: t)) pv hx (.inl ⟨_, rfl⟩) (by omega) (by omega) hc hvv hg hS hSb hwk 1 _ _ _ _ _ _ _ _ _ _ _ _ _ _ _ _ _ _ _ _ _ _ _ _ _ _ _ _ _ _ _ _ _ _ _ _ _ _ _ _ _ _ _ _ _ _ _ _ _ _ _ _ _ _ _ _ _ _ _ _ _ _ _ _ _ _ _ _ _ _ _ _ _ _ _ _ _ _ _ _ _ _ _ _ _ _ _ _ _ _ _ _ _ _ _ _ _ _ _ _ _ _ _ _ _ _ _ _ _ _ _ _ _ _ _ _ _ _ _ _ _ _ _ _ _ _ _ _ _ _ _ _ _ _ _ _ _ _ _ _ _ _ _ _ _ _ _ _ _ _ _ _ _ _ _ _ _ _ _ _ _ _ _ _ _ _ _ _ _ _ _ _ _ _ _ _ _ _ _ _ _ _ _ _ _ _ _ _ _ _ _ _ _
end Go.Proofs.Ytlfkldemainjnaa

