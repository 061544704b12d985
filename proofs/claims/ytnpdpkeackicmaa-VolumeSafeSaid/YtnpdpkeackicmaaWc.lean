/-
  The law of safe cuts, whole.
-/
import Derived.Test.YtnpdpkeackicmaaWb
set_option linter.unusedSimpArgs false
set_option linter.unusedVariables false
namespace Go.Proofs.Ytnpdpkeackicmaa
open Go Go.Proofs.Eng
set_option maxRecDepth 100000
set_option maxHeartbeats 8000000
def rawN (x y : AV) (fb : Option Res) : Option Res :=
  match x, y with
  | .v (.bool a), .v (.bool b) => some (.val (.v (.bool (a != b))))
  | _, _ => fb
theorem raw_bne (dst : Nat) (c : Cfg) (x y : Operand) (ty : TypeId) :
    stF_raw Try.prog dst c (.binOp .neq 4 x y 4) ty = rawN (opA c.σ x) (opA c.σ y) (rawX Try.prog dst c (.binOp .neq 4 x y 4) ty) := by
  unfold rawN
  split
  · rename_i a b hi hj
    have e1 := toVal_opB hi
    have e2 := toVal_opB hj
    unfold stF_raw
    rw [if_pos ⟨rfl, by simp [Op.operands, e1, e2]⟩]
    have h3 : pureRun Try.prog (execOp (fun x => ((argT x).bind fun xa => toVal (evalF c.σ xa)).getD (.bool false)) { dst := none, op := .binOp .neq 4 x y 4, type := ty, pos := "", after := #[], guard := none }) = some (.value (.bool (a != b))) := by
      simp only [execOp, e1, e2, Option.getD_some]
      have hg : ∀ u v : Value, u = .bool a → v = .bool b → pureRun Try.prog (eqGuard .neq 4 x y u v) = some () := fun u v hu hv => by
        have grd : Try.prog.eqGuardType Try.prog.depth 4 = false := by kernel_rfl
        subst hu hv
        simp only [eqGuard, pureRun_bind, pureRun_program, Option.bind_some, grd, Bool.not_false, if_true, pureRun_pure]
        rfl
      have h4 : pureRun Try.prog (binOp .neq 4 (.bool a) (.bool b)) = some (.bool (a != b)) := by cases a <;> cases b <;> kernel_rfl
      rw [pureRun_bind, pureRun_bind, hg _ _ rfl rfl, Option.bind_some, h4]; rfl
    rw [h3]; rfl
  · rfl
def bOf : Option (Nat × List Int) → Option (List Int) := Option.map Prod.snd
def hldP (R : Int) (s : List (Int × Int)) : Bool := !decide (R < smM s)
theorem all_not {α : Type} (p : α → Bool) (l : List α) : l.all (fun s => !p s) = !l.any p := by
  induction l with
  | nil => rfl
  | cons x l ih => simp [ih]
theorem all_sf (R F : Int) (l : List (List (Int × Int))) : l.all (sfP R F) = (!l.any (buP R) && !l.any (thP F)) := by
  induction l with
  | nil => rfl
  | cons x l ih =>
    simp only [List.all_cons, List.any_cons, ih, sfP]
    have h1 : decide (R < smM x) = buP R x := rfl
    have h2 : decide (smL x < F) = thP F x := rfl
    rw [h1, h2]
    cases buP R x <;> cases thP F x <;> cases l.any (buP R) <;> cases l.any (thP F) <;> rfl
theorem bOf_first (c d : Nat) (f : List Int) (s : Option (Nat × List Int)) : bOf (mrg (some (c, f)) s) = bOf (mrg (some (d, f)) s) := by
  match s with
  | none => rfl
  | some (e, g) => rfl
def oneO (B : Option (List Int)) : Option (Nat × List Int) := B.map fun E => (1, E)
theorem bup_mrg (B : Option (List Int)) (E : List Int) (s : Option (Nat × List Int)) : bOf (mrg (oneO (bup B E)) s) = bOf (mrg (oneO B) (mrg (some (1, E)) s)) := by
  rw [← mrg_assoc]
  match B with
  | none => rfl
  | some B0 =>
    show bOf (mrg (oneO (if E.length < B0.length then some E else some B0)) s) = bOf (mrg (some (1 + 1, if B0.length ≤ E.length then B0 else E)) s)
    by_cases h : E.length < B0.length
    · rw [if_pos h, if_neg (by omega)]
      exact bOf_first 1 2 E s
    · rw [if_neg h, if_pos (by omega)]
      exact bOf_first 1 2 B0 s
theorem fold_upd (A : List (Int × Int)) (R F : Int) : ∀ (l : List (List Int)) (h m : Nat) (B : Option (List Int)),
    foldU A R F [] (h, m, B) l = (h + (l.filter fun E => (vSeg A 0 E).all (hldP R)).length, m + (l.filter fun E => (vSeg A 0 E).all (sfP R F)).length, bOf (mrg (oneO B) (smry (l.filter fun E => (vSeg A 0 E).all (sfP R F)))))
  | [], h, m, B => by
    show (h, m, B) = _
    simp only [List.filter_nil, List.length_nil, Nat.add_zero, smry, mrg_none]
    cases B <;> rfl
  | E :: l, h, m, B => by
    have e : foldU A R F [] (h, m, B) (E :: l) = foldU A R F [] (upd A R F (h, m, B) E) l := rfl
    rw [e]
    have h1 : (vSeg A 0 E).all (hldP R) = !(vSeg A 0 E).any (buP R) := all_not (buP R) _
    have h2 := all_sf R F (vSeg A 0 E)
    simp only [List.filter_cons, h1, h2]
    unfold upd
    cases hb : (vSeg A 0 E).any (buP R) with
    | true =>
      simp only [if_true, Bool.not_true, Bool.false_and, Bool.false_eq_true, if_false]
      exact fold_upd A R F l h m B
    | false =>
      cases ht : (vSeg A 0 E).any (thP F) with
      | true =>
        simp only [if_true, Bool.not_true, Bool.not_false, Bool.and_false, Bool.false_eq_true, if_false, List.length_cons]
        rw [fold_upd A R F l]
        refine Prod.ext (by simp only; omega) rfl
      | false =>
        simp only [if_true, Bool.not_false, Bool.and_true, Bool.false_eq_true, if_false, List.length_cons]
        rw [fold_upd A R F l, smry, bup_mrg]
        refine Prod.ext (by simp only; omega) (Prod.ext (by simp only; omega) rfl)
/-- what the law has counted -/
theorem tried (A : List (Int × Int)) (R F : Int) : foldU A R F [] (0, 0, none) (cts okT A.length 0) = ((cts (fun b e => hldP R (seg A b e)) A.length 0).length, (cts (sfOk A R F) A.length 0).length, bOf (sfS A R F 0)) := by
  have h1 := cts_filter A (hldP R) A.length 0 (by omega)
  have h2 := cts_filter A (sfP R F) A.length 0 (by omega)
  rw [fold_upd]
  have e1 : (cts okT A.length 0).filter (fun E => (vSeg A 0 E).all (hldP R)) = cts (fun b e => hldP R (seg A b e)) A.length 0 := h1
  have e2 : (cts okT A.length 0).filter (fun E => (vSeg A 0 E).all (sfP R F)) = cts (sfOk A R F) A.length 0 := h2
  rw [e1, e2, Nat.zero_add, Nat.zero_add]
  rfl
theorem cnt_len (A : List (Int × Int)) (R F : Int) : cntN (sfS A R F 0) = (cts (sfOk A R F) A.length 0).length := by
  have h := smry_ok (cts (sfOk A R F) A.length 0)
  show cntN (smry (cts (sfOk A R F) A.length 0)) = _
  cases hs : smry (cts (sfOk A R F) A.length 0) with
  | none => rw [h.1.1 hs]; rfl
  | some p =>
    obtain ⟨c, f⟩ := p
    exact (h.2 c f hs).1
theorem smL_pos {A : List (Int × Int)} (hA : ∀ p, p ∈ A → gA p) {b e : Nat} (hb : b < e) (he : e ≤ A.length) : 1 ≤ smL (seg A b e) := by
  have hs : seg A b e = A.getD b (0, 0) :: seg A (b + 1) e := by
    unfold seg
    rw [drop_at (d := (0, 0)) (by rw [List.length_take]; omega)]
    congr 1
    rw [List.getD_eq_getElem?_getD, List.getElem?_take, if_pos hb, ← List.getD_eq_getElem?_getD]
  rw [hs, smL_cons]
  have h1 := hA _ (getD_mem (l := A) (d := (0, 0)) (i := b) (by omega))
  have h2 := smL_b (l := seg A (b + 1) e) fun p hp => hA p (seg_mem hp)
  unfold gA at h1
  omega
/-- without a floor the safe cuts are those that hold -/
theorem no_floor {A : List (Int × Int)} (hA : ∀ p, p ∈ A → gA p) {R F : Int} (hF : F ≤ 1) : cts (sfOk A R F) A.length 0 = cts (fun b e => hldP R (seg A b e)) A.length 0 :=
  cts_congr (fun b e h1 h2 => by
    have := smL_pos hA h1 h2
    unfold sfOk sfP hldP
    rw [decide_eq_false (p := smL (seg A b e) < F) (by omega)]
    simp) A.length 0 (by omega)
theorem hold_any {A : List (Int × Int)} {R : Int} {E : List Int} (h : E ∈ cts (fun b e => hldP R (seg A b e)) A.length 0) : vErr A.length 0 E = 0 ∧ (vSeg A 0 E).any (buP R) = false := by
  obtain ⟨h1, h2⟩ := cts_mem A (hldP R) A.length 0 (by omega) E h
  have h3 : (vSeg A 0 E).all (hldP R) = !(vSeg A 0 E).any (buP R) := all_not (buP R) _
  rw [h3] at h2
  exact ⟨h1, by simpa using h2⟩
theorem safe_hold {A : List (Int × Int)} {R F : Int} {E : List Int} (h : E ∈ cts (sfOk A R F) A.length 0) : vErr A.length 0 E = 0 ∧ (vSeg A 0 E).any (buP R) = false := by
  obtain ⟨h1, h2⟩ := cts_mem A (sfP R F) A.length 0 (by omega) E h
  rw [all_sf] at h2
  simp only [Bool.and_eq_true, Bool.not_eq_true'] at h2
  exact ⟨h1, h2.1⟩
theorem safe_law (a b c : Int) (D H : List Int) (ha : 0 ≤ a ∧ a ≤ 255) (hb : 0 ≤ b ∧ b ≤ 255) (hc : 0 ≤ c ∧ c ≤ 255) (hD : D.length = 12) (hH : H.length = 12) (bD : ∀ x, x ∈ D → 0 ≤ x ∧ x ≤ 255) (bH : ∀ x, x ∈ H → 0 ≤ x ∧ x ≤ 255) (hwk : Runs Try.prog xf 23 [] (ab true)) :
    Runs Try.prog xf 6 [shelf a b c D H] (ab true) := by
  obtain ⟨r, ⟨A, R, F, rfl, hg, hm, hl30, hall⟩, hmade⟩ := made_run 9 10 a b c D H (by omega) (by omega) ha hb hc hD hH bD bH
  obtain ⟨G, hG, hGl, hGt, hGn⟩ := shelf_ag a b c D H hD hH
  rw [hG] at hmade ⊢
  have hn0 := hg.n0
  have hn1 := hg.n1
  have f0 := hg.f0
  obtain ⟨t1, t2⟩ := tmod_b (a := F) (n := 2) f0 (by omega)
  have z2 : ((2 : Int) = 0) = False := by simp
  have hr0 := hg.r0
  have hr1 := hg.r1
  generalize hF2 : F.tmod 2 = F2 at *
  have hg2 : gB A R F2 := ⟨hn0, hn1, hg.art, hr0, hr1, t1, by omega⟩
  obtain ⟨r', hcuts⟩ := cutsF_run A R F hg
  rw [tried] at hcuts
  have hcut := cut_run A R F hg
  have hcnt := count_run A R F hg
  rw [cnt_len] at hcnt
  have hcut2 := cut_run A R F2 hg2
  have hcnt2 := count_run A R F2 hg2
  rw [cnt_len, no_floor hg.art (by omega)] at hcnt2
  have hf := few_run A R F2 hg2
  unfold fewR at hf
  rw [if_pos hall] at hf
  obtain ⟨hfc, hfa⟩ := fil_cut A R hall hn0 (by omega)
  -- the shortest of those that hold
  have hmem : filL R A ∈ cts (fun b e => hldP R (seg A b e)) A.length 0 := mem_cts A (hldP R) (filL R A) 0 (by omega) hfc (by
    have : (vSeg A 0 (filL R A)).all (hldP R) = !(vSeg A 0 (filL R A)).any (buP R) := all_not (buP R) _
    rw [this, hfa]; rfl)
  have hs2 : sfS A R F2 0 = smry (cts (fun b e => hldP R (seg A b e)) A.length 0) := by unfold sfS; rw [no_floor hg.art (by omega)]
  obtain ⟨c2, f2, hsf2, hf2l⟩ : ∃ c2 f2, sfS A R F2 0 = some (c2, f2) ∧ f2.length = (filL R A).length := by
    have hok := smry_ok (cts (fun b e => hldP R (seg A b e)) A.length 0)
    cases hs : smry (cts (fun b e => hldP R (seg A b e)) A.length 0) with
    | none => rw [hok.1.1 hs] at hmem; cases hmem
    | some p =>
      obtain ⟨c2, f2⟩ := p
      obtain ⟨k1, k2, k3⟩ := hok.2 c2 f2 hs
      refine ⟨c2, f2, by rw [hs2, hs], ?_⟩
      obtain ⟨v1, v2⟩ := hold_any k2
      have hd := dom hg.art hall f2 0 0 (Nat.le_refl _) hn0 v1 v2
      rw [flB_zero] at hd
      have := k3 _ hmem
      have := hd.1
      omega
  have hlen := fil_len R A
  obtain ⟨y2, u2, hyu⟩ : ∃ y u, f2 = y :: u := by
    cases f2 with
    | nil => simp only [List.length_nil] at hf2l; omega
    | cons y u => exact ⟨y, u, rfl⟩
  rw [hsf2] at hcut2
  have hc2 : cutA (some (c2, f2)) = .tup [al false f2, ai 0] := by rw [hyu]; rfl
  rw [hc2] at hcut2
  have hll : ((f2.length : Int) == ((filL R A).length : Int)) = true := by rw [hf2l]; simp
  have n00 : ((0 : Int) != 0) = false := rfl
  have e00 : ((0 : Int) == 0) = true := rfl
  have hhb := cts_4096 (fun b e => hldP R (seg A b e)) hn1 (Nat.zero_le A.length)
  have hsb := cts_4096 (sfOk A R F) hn1 (Nat.zero_le A.length)
  have hfl9 := vErr_len hfc (Nat.zero_le _)
  have hsl := smry_ok (cts (sfOk A R F) A.length 0)
  have hsd : sfS A R F 0 = smry (cts (sfOk A R F) A.length 0) := rfl
  refine Runs.ofW (fn := xf6) 20 (by kernel_rfl) (W_run 160 ?_)
  simp (maxSteps := 2000000) only [go_some, go_none, go_zero, nxt_op, nxt_guard, nxt_skip, nxt_label, nxt_region, nxt_drawn, nxt_seq, nxt_block, nxt_scope, nxt_exit, nxt_blk, nxt_lp, nxt_cond, nxt_loop, nxt_ret, nxt_stop, nxt_nil, Eng.start, frG, frF, isCall, stp, exec1, exec1K, dK, Nat.reduceDiv, keyA, wantedA, stepF, stF_mv, stF_bin, stF_len, stF_un, stF_pick, stF_load, stF_iadr, stF_box, stF_fadr, stF_store, stF_ext, stF_fld, stF_idx, stF_aadr, stF_app, stF_bldS, stF_slc, stF_slcA, stF_bld, stF_isnil, stF_mki, stF_mkf, stF_mkb, stF_nilc, stF_mks, stF_tas, mapF_eq, evalF_eq, evalA, setAF, setA, setF_eq, putF_eq, lookF_eq, List.getD_cons_zero, List.getD_cons_succ, List.set_cons_zero, List.set_cons_succ, List.replicate, List.length_cons, List.length_nil, Nat.zero_add, Nat.reduceSub, Nat.reduceAdd, List.cons_append, List.nil_append, Option.getD, drop, Nat.beq, List.length_map, binV, binI, unV, if_true, Eng.asInt, Eng.part, cellsOf, toNat_cast, cast_nonneg, true_and, and_true, if_pos, giveOp, gvK, List.getElem?_cons_zero, List.getElem?_cons_succ, Bool.not_true, Bool.not_false, ofVal, eq_self, and_self, true_implies, dfF, touch, regF, quietF, pairOK, noCs, Go.Value.oneCell', decide_true, decide_false, Nat.mul_one, asBound, fullOf, Option.isSome_none, Option.isSome_some, Nat.zero_le, Bool.false_eq_true, false_implies, Int.cast_ofNat_Int, Int.reduceLT, Int.reduceLE, Int.reduceToNat, Nat.reduceMul, Int.le_refl, Eng.look, putAt, Nat.reduceEqDiff, reduceCtorEq, Nat.reduceBEq, if_false, List.all_cons, List.all_nil, tf_beq, ft_beq, lvSub, lvOK, isNone, width, solid, splice, List.take_zero, List.drop_zero, List.drop_nil, List.take_nil, List.drop_succ_cons, List.take_succ_cons, List.append_nil, beq_self_eq_true, Bool.and_true, Bool.true_and, Bool.and_self, ge_iff_le, gt_iff_lt, Nat.le_refl, Nat.reduceLeDiff, Nat.reduceLT, xf6, ai, hGl, hGt]
  refine W_call (args := [.ag G, ai 9, ai 10]) rfl (noRefs_3 hGn rfl rfl) hmade (noRef_bk _ _ _ _) (W_run 160 ?_)
  simp (maxSteps := 2000000) only [go_some, go_none, go_zero, nxt_op, nxt_guard, nxt_skip, nxt_label, nxt_region, nxt_drawn, nxt_seq, nxt_block, nxt_scope, nxt_exit, nxt_blk, nxt_lp, nxt_cond, nxt_loop, nxt_ret, nxt_stop, nxt_nil, Eng.start, frG, frF, isCall, stp, exec1, exec1K, dK, Nat.reduceDiv, keyA, wantedA, stepF, stF_mv, stF_bin, stF_len, stF_un, stF_pick, stF_load, stF_iadr, stF_box, stF_fadr, stF_store, stF_ext, stF_fld, stF_idx, stF_aadr, stF_app, stF_bldS, stF_slc, stF_slcA, stF_bld, stF_isnil, stF_mki, stF_mkf, stF_mkb, stF_nilc, stF_mks, stF_tas, mapF_eq, evalF_eq, evalA, setAF, setA, setF_eq, putF_eq, lookF_eq, List.getD_cons_zero, List.getD_cons_succ, List.set_cons_zero, List.set_cons_succ, List.replicate, List.length_cons, List.length_nil, Nat.zero_add, Nat.reduceSub, Nat.reduceAdd, List.cons_append, List.nil_append, Option.getD, drop, Nat.beq, List.length_map, binV, binI, unV, if_true, Eng.asInt, Eng.part, cellsOf, toNat_cast, cast_nonneg, true_and, and_true, if_pos, giveOp, gvK, List.getElem?_cons_zero, List.getElem?_cons_succ, Bool.not_true, Bool.not_false, ofVal, eq_self, and_self, true_implies, dfF, touch, regF, quietF, pairOK, noCs, Go.Value.oneCell', decide_true, decide_false, Nat.mul_one, asBound, fullOf, Option.isSome_none, Option.isSome_some, Nat.zero_le, Bool.false_eq_true, false_implies, Int.cast_ofNat_Int, Int.reduceLT, Int.reduceLE, Int.reduceToNat, Nat.reduceMul, Int.le_refl, Eng.look, putAt, Nat.reduceEqDiff, reduceCtorEq, Nat.reduceBEq, if_false, List.all_cons, List.all_nil, tf_beq, ft_beq, lvSub, lvOK, isNone, width, solid, splice, List.take_zero, List.drop_zero, List.drop_nil, List.take_nil, List.drop_succ_cons, List.take_succ_cons, List.append_nil, beq_self_eq_true, Bool.and_true, Bool.true_and, Bool.and_self, ge_iff_le, gt_iff_lt, Nat.le_refl, Nat.reduceLeDiff, Nat.reduceLT, ai, ab, aS, bkA, nilA, List.map_cons, List.map_nil]
  refine W_callR (kb' := 1000) rfl hcuts rfl (W_run 160 ?_)
  cases hS : sfS A R F 0 with
  | none =>
    have hnil : cts (sfOk A R F) A.length 0 = [] := hsl.1.1 (by rw [← hsd]; exact hS)
    rw [hS] at hcut
    rw [hnil] at hcnt ⊢
    have d00' : decide ((0 : Int) < 0) = false := rfl
    have e120 : ((12 : Int) == 0) = false := rfl
    have n120 : ((12 : Int) != 0) = true := rfl
    have n1212 : ((12 : Int) != 12) = false := rfl
    have nff : (false != false) = false := rfl
    have hcA : cutA none = .tup [nilA, ai 12] := rfl
    rw [hcA] at hcut
    have hhh : (((cts (fun b e => hldP R (seg A b e)) A.length 0).length : Int) == ((cts (fun b e => hldP R (seg A b e)) A.length 0).length : Int)) = true := by simp
    generalize (cts (fun b e => hldP R (seg A b e)) A.length 0).length = hh at *
    have hml : mn2 0 1 = 0 := rfl
    have wm : IntKind.i64.wrap (((filL R A).length : Int) * 0) = 0 := by rw [Int.mul_zero]; decide
    have dge : decide ((0 : Int) ≤ 0) = true := rfl
    simp only [List.length_nil] at hcnt ⊢
    simp (maxSteps := 2000000) only [go_some, go_none, go_zero, nxt_op, nxt_guard, nxt_skip, nxt_label, nxt_region, nxt_drawn, nxt_seq, nxt_block, nxt_scope, nxt_exit, nxt_blk, nxt_lp, nxt_cond, nxt_loop, nxt_ret, nxt_stop, nxt_nil, Eng.start, frG, frF, isCall, stp, exec1, exec1K, dK, Nat.reduceDiv, keyA, wantedA, stepF, stF_mv, stF_bin, stF_len, stF_un, stF_pick, stF_load, stF_iadr, stF_box, stF_fadr, stF_store, stF_ext, stF_fld, stF_idx, stF_aadr, stF_app, stF_bldS, stF_slc, stF_slcA, stF_bld, stF_isnil, stF_mki, stF_mkf, stF_mkb, stF_nilc, stF_mks, stF_tas, mapF_eq, evalF_eq, evalA, setAF, setA, setF_eq, putF_eq, lookF_eq, List.getD_cons_zero, List.getD_cons_succ, List.set_cons_zero, List.set_cons_succ, List.replicate, List.length_cons, List.length_nil, Nat.zero_add, Nat.reduceSub, Nat.reduceAdd, List.cons_append, List.nil_append, Option.getD, drop, Nat.beq, List.length_map, binV, binI, unV, if_true, Eng.asInt, Eng.part, cellsOf, toNat_cast, cast_nonneg, true_and, and_true, if_pos, giveOp, gvK, List.getElem?_cons_zero, List.getElem?_cons_succ, Bool.not_true, Bool.not_false, ofVal, eq_self, and_self, true_implies, dfF, touch, regF, quietF, pairOK, noCs, Go.Value.oneCell', decide_true, decide_false, Nat.mul_one, asBound, fullOf, Option.isSome_none, Option.isSome_some, Nat.zero_le, Bool.false_eq_true, false_implies, Int.cast_ofNat_Int, Int.reduceLT, Int.reduceLE, Int.reduceToNat, Nat.reduceMul, Int.le_refl, Eng.look, putAt, Nat.reduceEqDiff, reduceCtorEq, Nat.reduceBEq, if_false, List.all_cons, List.all_nil, tf_beq, ft_beq, lvSub, lvOK, isNone, width, solid, splice, List.take_zero, List.drop_zero, List.drop_nil, List.take_nil, List.drop_succ_cons, List.take_succ_cons, List.append_nil, beq_self_eq_true, Bool.and_true, Bool.true_and, Bool.and_self, ge_iff_le, gt_iff_lt, Nat.le_refl, Nat.reduceLeDiff, Nat.reduceLT, ai, ab, aS, bkA, nilA, hpF, bOf, bvO, Option.map_none]
    refine W_call (args := [bkA false A R F]) rfl (noRefs_1 (noRef_bk _ _ _ _)) hcut rfl (W_run 160 ?_)
    simp (maxSteps := 2000000) only [go_some, go_none, go_zero, nxt_op, nxt_guard, nxt_skip, nxt_label, nxt_region, nxt_drawn, nxt_seq, nxt_block, nxt_scope, nxt_exit, nxt_blk, nxt_lp, nxt_cond, nxt_loop, nxt_ret, nxt_stop, nxt_nil, Eng.start, frG, frF, isCall, stp, exec1, exec1K, dK, Nat.reduceDiv, keyA, wantedA, stepF, stF_mv, stF_bin, stF_len, stF_un, stF_pick, stF_load, stF_iadr, stF_box, stF_fadr, stF_store, stF_ext, stF_fld, stF_idx, stF_aadr, stF_app, stF_bldS, stF_slc, stF_slcA, stF_bld, stF_isnil, stF_mki, stF_mkf, stF_mkb, stF_nilc, stF_mks, stF_tas, mapF_eq, evalF_eq, evalA, setAF, setA, setF_eq, putF_eq, lookF_eq, List.getD_cons_zero, List.getD_cons_succ, List.set_cons_zero, List.set_cons_succ, List.replicate, List.length_cons, List.length_nil, Nat.zero_add, Nat.reduceSub, Nat.reduceAdd, List.cons_append, List.nil_append, Option.getD, drop, Nat.beq, List.length_map, binV, binI, unV, if_true, Eng.asInt, Eng.part, cellsOf, toNat_cast, cast_nonneg, true_and, and_true, if_pos, giveOp, gvK, List.getElem?_cons_zero, List.getElem?_cons_succ, Bool.not_true, Bool.not_false, ofVal, eq_self, and_self, true_implies, dfF, touch, regF, quietF, pairOK, noCs, Go.Value.oneCell', decide_true, decide_false, Nat.mul_one, asBound, fullOf, Option.isSome_none, Option.isSome_some, Nat.zero_le, Bool.false_eq_true, false_implies, Int.cast_ofNat_Int, Int.reduceLT, Int.reduceLE, Int.reduceToNat, Nat.reduceMul, Int.le_refl, Eng.look, putAt, Nat.reduceEqDiff, reduceCtorEq, Nat.reduceBEq, if_false, List.all_cons, List.all_nil, tf_beq, ft_beq, lvSub, lvOK, isNone, width, solid, splice, List.take_zero, List.drop_zero, List.drop_nil, List.take_nil, List.drop_succ_cons, List.take_succ_cons, List.append_nil, beq_self_eq_true, Bool.and_true, Bool.true_and, Bool.and_self, ge_iff_le, gt_iff_lt, Nat.le_refl, Nat.reduceLeDiff, Nat.reduceLT, ai, ab, aS, bkA, nilA]
    refine W_call (args := [bkA false A R F]) rfl (noRefs_1 (noRef_bk _ _ _ _)) hcnt rfl (W_run 160 ?_)
    simp (maxSteps := 2000000) only [go_some, go_none, go_zero, nxt_op, nxt_guard, nxt_skip, nxt_label, nxt_region, nxt_drawn, nxt_seq, nxt_block, nxt_scope, nxt_exit, nxt_blk, nxt_lp, nxt_cond, nxt_loop, nxt_ret, nxt_stop, nxt_nil, Eng.start, frG, frF, isCall, stp, exec1, exec1K, dK, Nat.reduceDiv, keyA, wantedA, stepF, stF_mv, stF_bin, stF_len, stF_un, stF_pick, stF_load, stF_iadr, stF_box, stF_fadr, stF_store, stF_ext, stF_fld, stF_idx, stF_aadr, stF_app, stF_bldS, stF_slc, stF_slcA, stF_bld, stF_isnil, stF_mki, stF_mkf, stF_mkb, stF_nilc, stF_mks, stF_tas, mapF_eq, evalF_eq, evalA, setAF, setA, setF_eq, putF_eq, lookF_eq, List.getD_cons_zero, List.getD_cons_succ, List.set_cons_zero, List.set_cons_succ, List.replicate, List.length_cons, List.length_nil, Nat.zero_add, Nat.reduceSub, Nat.reduceAdd, List.cons_append, List.nil_append, Option.getD, drop, Nat.beq, List.length_map, binV, binI, unV, if_true, Eng.asInt, Eng.part, cellsOf, toNat_cast, cast_nonneg, true_and, and_true, if_pos, giveOp, gvK, List.getElem?_cons_zero, List.getElem?_cons_succ, Bool.not_true, Bool.not_false, ofVal, eq_self, and_self, true_implies, dfF, touch, regF, quietF, pairOK, noCs, Go.Value.oneCell', decide_true, decide_false, Nat.mul_one, asBound, fullOf, Option.isSome_none, Option.isSome_some, Nat.zero_le, Bool.false_eq_true, false_implies, Int.cast_ofNat_Int, Int.reduceLT, Int.reduceLE, Int.reduceToNat, Nat.reduceMul, Int.le_refl, Eng.look, putAt, Nat.reduceEqDiff, reduceCtorEq, Nat.reduceBEq, if_false, List.all_cons, List.all_nil, tf_beq, ft_beq, lvSub, lvOK, isNone, width, solid, splice, List.take_zero, List.drop_zero, List.drop_nil, List.take_nil, List.drop_succ_cons, List.take_succ_cons, List.append_nil, beq_self_eq_true, Bool.and_true, Bool.true_and, Bool.and_self, ge_iff_le, gt_iff_lt, Nat.le_refl, Nat.reduceLeDiff, Nat.reduceLT, ai, ab, aS, bkA, nilA, undef, n00]
    refine W_call (args := [nilA, nilA]) rfl rfl same_nil rfl (W_run 160 ?_)
    simp (maxSteps := 2000000) only [go_some, go_none, go_zero, nxt_op, nxt_guard, nxt_skip, nxt_label, nxt_region, nxt_drawn, nxt_seq, nxt_block, nxt_scope, nxt_exit, nxt_blk, nxt_lp, nxt_cond, nxt_loop, nxt_ret, nxt_stop, nxt_nil, Eng.start, frG, frF, isCall, stp, exec1, exec1K, dK, Nat.reduceDiv, keyA, wantedA, stepF, stF_mv, stF_bin, stF_len, stF_un, stF_pick, stF_load, stF_iadr, stF_box, stF_fadr, stF_store, stF_ext, stF_fld, stF_idx, stF_aadr, stF_app, stF_bldS, stF_slc, stF_slcA, stF_bld, stF_isnil, stF_mki, stF_mkf, stF_mkb, stF_nilc, stF_mks, stF_tas, mapF_eq, evalF_eq, evalA, setAF, setA, setF_eq, putF_eq, lookF_eq, List.getD_cons_zero, List.getD_cons_succ, List.set_cons_zero, List.set_cons_succ, List.replicate, List.length_cons, List.length_nil, Nat.zero_add, Nat.reduceSub, Nat.reduceAdd, List.cons_append, List.nil_append, Option.getD, drop, Nat.beq, List.length_map, binV, binI, unV, if_true, Eng.asInt, Eng.part, cellsOf, toNat_cast, cast_nonneg, true_and, and_true, if_pos, giveOp, gvK, List.getElem?_cons_zero, List.getElem?_cons_succ, Bool.not_true, Bool.not_false, ofVal, eq_self, and_self, true_implies, dfF, touch, regF, quietF, pairOK, noCs, Go.Value.oneCell', decide_true, decide_false, Nat.mul_one, asBound, fullOf, Option.isSome_none, Option.isSome_some, Nat.zero_le, Bool.false_eq_true, false_implies, Int.cast_ofNat_Int, Int.reduceLT, Int.reduceLE, Int.reduceToNat, Nat.reduceMul, Int.le_refl, Eng.look, putAt, Nat.reduceEqDiff, reduceCtorEq, Nat.reduceBEq, if_false, List.all_cons, List.all_nil, tf_beq, ft_beq, lvSub, lvOK, isNone, width, solid, splice, List.take_zero, List.drop_zero, List.drop_nil, List.take_nil, List.drop_succ_cons, List.take_succ_cons, List.append_nil, beq_self_eq_true, Bool.and_true, Bool.true_and, Bool.and_self, ge_iff_le, gt_iff_lt, Nat.le_refl, Nat.reduceLeDiff, Nat.reduceLT, ai, ab, aS, bkA, nilA, undef, d00', e120, n120, n1212, nff, raw_bne, rawN, opA, argT, Option.elim, z2, hF2, Go.Proofs.Eng.fillA, List.map_cons, List.map_nil]
    refine W_call (args := [bkA false A R F2]) rfl (noRefs_1 (noRef_bk _ _ _ _)) hcut2 (noRef_t2 (noRef_al _ _) rfl) (W_run 160 ?_)
    simp (maxSteps := 2000000) only [go_some, go_none, go_zero, nxt_op, nxt_guard, nxt_skip, nxt_label, nxt_region, nxt_drawn, nxt_seq, nxt_block, nxt_scope, nxt_exit, nxt_blk, nxt_lp, nxt_cond, nxt_loop, nxt_ret, nxt_stop, nxt_nil, Eng.start, frG, frF, isCall, stp, exec1, exec1K, dK, Nat.reduceDiv, keyA, wantedA, stepF, stF_mv, stF_bin, stF_len, stF_un, stF_pick, stF_load, stF_iadr, stF_box, stF_fadr, stF_store, stF_ext, stF_fld, stF_idx, stF_aadr, stF_app, stF_bldS, stF_slc, stF_slcA, stF_bld, stF_isnil, stF_mki, stF_mkf, stF_mkb, stF_nilc, stF_mks, stF_tas, mapF_eq, evalF_eq, evalA, setAF, setA, setF_eq, putF_eq, lookF_eq, List.getD_cons_zero, List.getD_cons_succ, List.set_cons_zero, List.set_cons_succ, List.replicate, List.length_cons, List.length_nil, Nat.zero_add, Nat.reduceSub, Nat.reduceAdd, List.cons_append, List.nil_append, Option.getD, drop, Nat.beq, List.length_map, binV, binI, unV, if_true, Eng.asInt, Eng.part, cellsOf, toNat_cast, cast_nonneg, true_and, and_true, if_pos, giveOp, gvK, List.getElem?_cons_zero, List.getElem?_cons_succ, Bool.not_true, Bool.not_false, ofVal, eq_self, and_self, true_implies, dfF, touch, regF, quietF, pairOK, noCs, Go.Value.oneCell', decide_true, decide_false, Nat.mul_one, asBound, fullOf, Option.isSome_none, Option.isSome_some, Nat.zero_le, Bool.false_eq_true, false_implies, Int.cast_ofNat_Int, Int.reduceLT, Int.reduceLE, Int.reduceToNat, Nat.reduceMul, Int.le_refl, Eng.look, putAt, Nat.reduceEqDiff, reduceCtorEq, Nat.reduceBEq, if_false, List.all_cons, List.all_nil, tf_beq, ft_beq, lvSub, lvOK, isNone, width, solid, splice, List.take_zero, List.drop_zero, List.drop_nil, List.take_nil, List.drop_succ_cons, List.take_succ_cons, List.append_nil, beq_self_eq_true, Bool.and_true, Bool.true_and, Bool.and_self, ge_iff_le, gt_iff_lt, Nat.le_refl, Nat.reduceLeDiff, Nat.reduceLT, ai, al, ab, aS, bkA, nilA]
    refine W_call (args := [bkA false A R F2]) rfl (noRefs_1 (noRef_bk _ _ _ _)) hcnt2 rfl (W_run 160 ?_)
    simp (maxSteps := 2000000) only [go_some, go_none, go_zero, nxt_op, nxt_guard, nxt_skip, nxt_label, nxt_region, nxt_drawn, nxt_seq, nxt_block, nxt_scope, nxt_exit, nxt_blk, nxt_lp, nxt_cond, nxt_loop, nxt_ret, nxt_stop, nxt_nil, Eng.start, frG, frF, isCall, stp, exec1, exec1K, dK, Nat.reduceDiv, keyA, wantedA, stepF, stF_mv, stF_bin, stF_len, stF_un, stF_pick, stF_load, stF_iadr, stF_box, stF_fadr, stF_store, stF_ext, stF_fld, stF_idx, stF_aadr, stF_app, stF_bldS, stF_slc, stF_slcA, stF_bld, stF_isnil, stF_mki, stF_mkf, stF_mkb, stF_nilc, stF_mks, stF_tas, mapF_eq, evalF_eq, evalA, setAF, setA, setF_eq, putF_eq, lookF_eq, List.getD_cons_zero, List.getD_cons_succ, List.set_cons_zero, List.set_cons_succ, List.replicate, List.length_cons, List.length_nil, Nat.zero_add, Nat.reduceSub, Nat.reduceAdd, List.cons_append, List.nil_append, Option.getD, drop, Nat.beq, List.length_map, binV, binI, unV, if_true, Eng.asInt, Eng.part, cellsOf, toNat_cast, cast_nonneg, true_and, and_true, if_pos, giveOp, gvK, List.getElem?_cons_zero, List.getElem?_cons_succ, Bool.not_true, Bool.not_false, ofVal, eq_self, and_self, true_implies, dfF, touch, regF, quietF, pairOK, noCs, Go.Value.oneCell', decide_true, decide_false, Nat.mul_one, asBound, fullOf, Option.isSome_none, Option.isSome_some, Nat.zero_le, Bool.false_eq_true, false_implies, Int.cast_ofNat_Int, Int.reduceLT, Int.reduceLE, Int.reduceToNat, Nat.reduceMul, Int.le_refl, Eng.look, putAt, Nat.reduceEqDiff, reduceCtorEq, Nat.reduceBEq, if_false, List.all_cons, List.all_nil, tf_beq, ft_beq, lvSub, lvOK, isNone, width, solid, splice, List.take_zero, List.drop_zero, List.drop_nil, List.take_nil, List.drop_succ_cons, List.take_succ_cons, List.append_nil, beq_self_eq_true, Bool.and_true, Bool.true_and, Bool.and_self, ge_iff_le, gt_iff_lt, Nat.le_refl, Nat.reduceLeDiff, Nat.reduceLT, ai, al, ab, aS, bkA, nilA]
    refine W_call (args := [bkA false A R F2]) rfl (noRefs_1 (noRef_bk _ _ _ _)) hf (noRef_t2 (noRef_al _ _) rfl) (W_run 160 ?_)
    simp (maxSteps := 2000000) only [go_some, go_none, go_zero, nxt_op, nxt_guard, nxt_skip, nxt_label, nxt_region, nxt_drawn, nxt_seq, nxt_block, nxt_scope, nxt_exit, nxt_blk, nxt_lp, nxt_cond, nxt_loop, nxt_ret, nxt_stop, nxt_nil, Eng.start, frG, frF, isCall, stp, exec1, exec1K, dK, Nat.reduceDiv, keyA, wantedA, stepF, stF_mv, stF_bin, stF_len, stF_un, stF_pick, stF_load, stF_iadr, stF_box, stF_fadr, stF_store, stF_ext, stF_fld, stF_idx, stF_aadr, stF_app, stF_bldS, stF_slc, stF_slcA, stF_bld, stF_isnil, stF_mki, stF_mkf, stF_mkb, stF_nilc, stF_mks, stF_tas, mapF_eq, evalF_eq, evalA, setAF, setA, setF_eq, putF_eq, lookF_eq, List.getD_cons_zero, List.getD_cons_succ, List.set_cons_zero, List.set_cons_succ, List.replicate, List.length_cons, List.length_nil, Nat.zero_add, Nat.reduceSub, Nat.reduceAdd, List.cons_append, List.nil_append, Option.getD, drop, Nat.beq, List.length_map, binV, binI, unV, if_true, Eng.asInt, Eng.part, cellsOf, toNat_cast, cast_nonneg, true_and, and_true, if_pos, giveOp, gvK, List.getElem?_cons_zero, List.getElem?_cons_succ, Bool.not_true, Bool.not_false, ofVal, eq_self, and_self, true_implies, dfF, touch, regF, quietF, pairOK, noCs, Go.Value.oneCell', decide_true, decide_false, Nat.mul_one, asBound, fullOf, Option.isSome_none, Option.isSome_some, Nat.zero_le, Bool.false_eq_true, false_implies, Int.cast_ofNat_Int, Int.reduceLT, Int.reduceLE, Int.reduceToNat, Nat.reduceMul, Int.le_refl, Eng.look, putAt, Nat.reduceEqDiff, reduceCtorEq, Nat.reduceBEq, if_false, List.all_cons, List.all_nil, tf_beq, ft_beq, lvSub, lvOK, isNone, width, solid, splice, List.take_zero, List.drop_zero, List.drop_nil, List.take_nil, List.drop_succ_cons, List.take_succ_cons, List.append_nil, beq_self_eq_true, Bool.and_true, Bool.true_and, Bool.and_self, ge_iff_le, gt_iff_lt, Nat.le_refl, Nat.reduceLeDiff, Nat.reduceLT, ai, al, ab, aS, bkA, nilA, undef, e00, hhh, hll, hml, wm, dge, raw_min, rawK, opA, argT, Option.elim]
    refine W_call (args := []) rfl rfl hwk rfl (W_run 160 ?_)
    simp (maxSteps := 2000000) only [go_some, go_none, go_zero, nxt_op, nxt_guard, nxt_skip, nxt_label, nxt_region, nxt_drawn, nxt_seq, nxt_block, nxt_scope, nxt_exit, nxt_blk, nxt_lp, nxt_cond, nxt_loop, nxt_ret, nxt_stop, nxt_nil, Eng.start, frG, frF, isCall, stp, exec1, exec1K, dK, Nat.reduceDiv, keyA, wantedA, stepF, stF_mv, stF_bin, stF_len, stF_un, stF_pick, stF_load, stF_iadr, stF_box, stF_fadr, stF_store, stF_ext, stF_fld, stF_idx, stF_aadr, stF_app, stF_bldS, stF_slc, stF_slcA, stF_bld, stF_isnil, stF_mki, stF_mkf, stF_mkb, stF_nilc, stF_mks, stF_tas, mapF_eq, evalF_eq, evalA, setAF, setA, setF_eq, putF_eq, lookF_eq, List.getD_cons_zero, List.getD_cons_succ, List.set_cons_zero, List.set_cons_succ, List.replicate, List.length_cons, List.length_nil, Nat.zero_add, Nat.reduceSub, Nat.reduceAdd, List.cons_append, List.nil_append, Option.getD, drop, Nat.beq, List.length_map, binV, binI, unV, if_true, Eng.asInt, Eng.part, cellsOf, toNat_cast, cast_nonneg, true_and, and_true, if_pos, giveOp, gvK, List.getElem?_cons_zero, List.getElem?_cons_succ, Bool.not_true, Bool.not_false, ofVal, eq_self, and_self, true_implies, dfF, touch, regF, quietF, pairOK, noCs, Go.Value.oneCell', decide_true, decide_false, Nat.mul_one, asBound, fullOf, Option.isSome_none, Option.isSome_some, Nat.zero_le, Bool.false_eq_true, false_implies, Int.cast_ofNat_Int, Int.reduceLT, Int.reduceLE, Int.reduceToNat, Nat.reduceMul, Int.le_refl, Eng.look, putAt, Nat.reduceEqDiff, reduceCtorEq, Nat.reduceBEq, if_false, List.all_cons, List.all_nil, tf_beq, ft_beq, lvSub, lvOK, isNone, width, solid, splice, List.take_zero, List.drop_zero, List.drop_nil, List.take_nil, List.drop_succ_cons, List.take_succ_cons, List.append_nil, beq_self_eq_true, Bool.and_true, Bool.true_and, Bool.and_self, ge_iff_le, gt_iff_lt, Nat.le_refl, Nat.reduceLeDiff, Nat.reduceLT, ab]
    exact W_ret1 (WX_nil ⟨.inl rfl, _, rfl, rfl⟩)
  | some p =>
    obtain ⟨cc, ff⟩ := p
    obtain ⟨k1, k2, k3⟩ := hsl.2 cc ff (by rw [← hsd]; exact hS)
    obtain ⟨v1, v2⟩ := safe_hold k2
    have hd := dom hg.art hall ff 0 0 (Nat.le_refl _) hn0 v1 v2
    rw [flB_zero] at hd
    have hffl := vErr_len v1 (Nat.zero_le _)
    obtain ⟨y, u, hyu1⟩ : ∃ y u, ff = y :: u := by
      cases ff with
      | nil => have := hd.1; simp only [List.length_nil] at this; omega
      | cons y u => exact ⟨y, u, rfl⟩
    have hpos : 1 ≤ (cts (sfOk A R F) A.length 0).length := List.length_pos_of_mem k2
    rw [hS] at hcut
    have hc1 : cutA (some (cc, ff)) = .tup [al false ff, ai 0] := by rw [hyu1]; rfl
    rw [hc1] at hcut
    have hsm := same_run ff (by omega)
    have hhh : (((cts (fun b e => hldP R (seg A b e)) A.length 0).length : Int) == ((cts (fun b e => hldP R (seg A b e)) A.length 0).length : Int)) = true := by simp
    generalize (cts (fun b e => hldP R (seg A b e)) A.length 0).length = hh at *
    generalize (cts (sfOk A R F) A.length 0).length = mm at *
    have nmm : ((mm : Int) != (mm : Int)) = false := by simp
    have dmm : decide ((0 : Int) < (mm : Int)) = true := decide_eq_true (by omega)
    have ntt : (true != true) = false := rfl
    have hml : mn2 (mm : Int) 1 = 1 := by unfold mn2; split <;> omega
    have wm : IntKind.i64.wrap (((filL R A).length : Int) * 1) = ((filL R A).length : Int) := by rw [Int.mul_one]; exact wrap_id (by omega) (by omega)
    have dge : decide (((filL R A).length : Int) ≤ (ff.length : Int)) = true := decide_eq_true (by have := hd.1; omega)
    simp (maxSteps := 2000000) only [go_some, go_none, go_zero, nxt_op, nxt_guard, nxt_skip, nxt_label, nxt_region, nxt_drawn, nxt_seq, nxt_block, nxt_scope, nxt_exit, nxt_blk, nxt_lp, nxt_cond, nxt_loop, nxt_ret, nxt_stop, nxt_nil, Eng.start, frG, frF, isCall, stp, exec1, exec1K, dK, Nat.reduceDiv, keyA, wantedA, stepF, stF_mv, stF_bin, stF_len, stF_un, stF_pick, stF_load, stF_iadr, stF_box, stF_fadr, stF_store, stF_ext, stF_fld, stF_idx, stF_aadr, stF_app, stF_bldS, stF_slc, stF_slcA, stF_bld, stF_isnil, stF_mki, stF_mkf, stF_mkb, stF_nilc, stF_mks, stF_tas, mapF_eq, evalF_eq, evalA, setAF, setA, setF_eq, putF_eq, lookF_eq, List.getD_cons_zero, List.getD_cons_succ, List.set_cons_zero, List.set_cons_succ, List.replicate, List.length_cons, List.length_nil, Nat.zero_add, Nat.reduceSub, Nat.reduceAdd, List.cons_append, List.nil_append, Option.getD, drop, Nat.beq, List.length_map, binV, binI, unV, if_true, Eng.asInt, Eng.part, cellsOf, toNat_cast, cast_nonneg, true_and, and_true, if_pos, giveOp, gvK, List.getElem?_cons_zero, List.getElem?_cons_succ, Bool.not_true, Bool.not_false, ofVal, eq_self, and_self, true_implies, dfF, touch, regF, quietF, pairOK, noCs, Go.Value.oneCell', decide_true, decide_false, Nat.mul_one, asBound, fullOf, Option.isSome_none, Option.isSome_some, Nat.zero_le, Bool.false_eq_true, false_implies, Int.cast_ofNat_Int, Int.reduceLT, Int.reduceLE, Int.reduceToNat, Nat.reduceMul, Int.le_refl, Eng.look, putAt, Nat.reduceEqDiff, reduceCtorEq, Nat.reduceBEq, if_false, List.all_cons, List.all_nil, tf_beq, ft_beq, lvSub, lvOK, isNone, width, solid, splice, List.take_zero, List.drop_zero, List.drop_nil, List.take_nil, List.drop_succ_cons, List.take_succ_cons, List.append_nil, beq_self_eq_true, Bool.and_true, Bool.true_and, Bool.and_self, ge_iff_le, gt_iff_lt, Nat.le_refl, Nat.reduceLeDiff, Nat.reduceLT, ai, ab, aS, bkA, nilA, hpF, bOf, bvO, Option.map_some]
    refine W_call (args := [bkA false A R F]) rfl (noRefs_1 (noRef_bk _ _ _ _)) hcut (noRef_t2 (noRef_al _ _) rfl) (W_run 160 ?_)
    simp (maxSteps := 2000000) only [go_some, go_none, go_zero, nxt_op, nxt_guard, nxt_skip, nxt_label, nxt_region, nxt_drawn, nxt_seq, nxt_block, nxt_scope, nxt_exit, nxt_blk, nxt_lp, nxt_cond, nxt_loop, nxt_ret, nxt_stop, nxt_nil, Eng.start, frG, frF, isCall, stp, exec1, exec1K, dK, Nat.reduceDiv, keyA, wantedA, stepF, stF_mv, stF_bin, stF_len, stF_un, stF_pick, stF_load, stF_iadr, stF_box, stF_fadr, stF_store, stF_ext, stF_fld, stF_idx, stF_aadr, stF_app, stF_bldS, stF_slc, stF_slcA, stF_bld, stF_isnil, stF_mki, stF_mkf, stF_mkb, stF_nilc, stF_mks, stF_tas, mapF_eq, evalF_eq, evalA, setAF, setA, setF_eq, putF_eq, lookF_eq, List.getD_cons_zero, List.getD_cons_succ, List.set_cons_zero, List.set_cons_succ, List.replicate, List.length_cons, List.length_nil, Nat.zero_add, Nat.reduceSub, Nat.reduceAdd, List.cons_append, List.nil_append, Option.getD, drop, Nat.beq, List.length_map, binV, binI, unV, if_true, Eng.asInt, Eng.part, cellsOf, toNat_cast, cast_nonneg, true_and, and_true, if_pos, giveOp, gvK, List.getElem?_cons_zero, List.getElem?_cons_succ, Bool.not_true, Bool.not_false, ofVal, eq_self, and_self, true_implies, dfF, touch, regF, quietF, pairOK, noCs, Go.Value.oneCell', decide_true, decide_false, Nat.mul_one, asBound, fullOf, Option.isSome_none, Option.isSome_some, Nat.zero_le, Bool.false_eq_true, false_implies, Int.cast_ofNat_Int, Int.reduceLT, Int.reduceLE, Int.reduceToNat, Nat.reduceMul, Int.le_refl, Eng.look, putAt, Nat.reduceEqDiff, reduceCtorEq, Nat.reduceBEq, if_false, List.all_cons, List.all_nil, tf_beq, ft_beq, lvSub, lvOK, isNone, width, solid, splice, List.take_zero, List.drop_zero, List.drop_nil, List.take_nil, List.drop_succ_cons, List.take_succ_cons, List.append_nil, beq_self_eq_true, Bool.and_true, Bool.true_and, Bool.and_self, ge_iff_le, gt_iff_lt, Nat.le_refl, Nat.reduceLeDiff, Nat.reduceLT, ai, al, ab, aS, bkA, nilA]
    refine W_call (args := [bkA false A R F]) rfl (noRefs_1 (noRef_bk _ _ _ _)) hcnt rfl (W_run 160 ?_)
    simp (maxSteps := 2000000) only [go_some, go_none, go_zero, nxt_op, nxt_guard, nxt_skip, nxt_label, nxt_region, nxt_drawn, nxt_seq, nxt_block, nxt_scope, nxt_exit, nxt_blk, nxt_lp, nxt_cond, nxt_loop, nxt_ret, nxt_stop, nxt_nil, Eng.start, frG, frF, isCall, stp, exec1, exec1K, dK, Nat.reduceDiv, keyA, wantedA, stepF, stF_mv, stF_bin, stF_len, stF_un, stF_pick, stF_load, stF_iadr, stF_box, stF_fadr, stF_store, stF_ext, stF_fld, stF_idx, stF_aadr, stF_app, stF_bldS, stF_slc, stF_slcA, stF_bld, stF_isnil, stF_mki, stF_mkf, stF_mkb, stF_nilc, stF_mks, stF_tas, mapF_eq, evalF_eq, evalA, setAF, setA, setF_eq, putF_eq, lookF_eq, List.getD_cons_zero, List.getD_cons_succ, List.set_cons_zero, List.set_cons_succ, List.replicate, List.length_cons, List.length_nil, Nat.zero_add, Nat.reduceSub, Nat.reduceAdd, List.cons_append, List.nil_append, Option.getD, drop, Nat.beq, List.length_map, binV, binI, unV, if_true, Eng.asInt, Eng.part, cellsOf, toNat_cast, cast_nonneg, true_and, and_true, if_pos, giveOp, gvK, List.getElem?_cons_zero, List.getElem?_cons_succ, Bool.not_true, Bool.not_false, ofVal, eq_self, and_self, true_implies, dfF, touch, regF, quietF, pairOK, noCs, Go.Value.oneCell', decide_true, decide_false, Nat.mul_one, asBound, fullOf, Option.isSome_none, Option.isSome_some, Nat.zero_le, Bool.false_eq_true, false_implies, Int.cast_ofNat_Int, Int.reduceLT, Int.reduceLE, Int.reduceToNat, Nat.reduceMul, Int.le_refl, Eng.look, putAt, Nat.reduceEqDiff, reduceCtorEq, Nat.reduceBEq, if_false, List.all_cons, List.all_nil, tf_beq, ft_beq, lvSub, lvOK, isNone, width, solid, splice, List.take_zero, List.drop_zero, List.drop_nil, List.take_nil, List.drop_succ_cons, List.take_succ_cons, List.append_nil, beq_self_eq_true, Bool.and_true, Bool.true_and, Bool.and_self, ge_iff_le, gt_iff_lt, Nat.le_refl, Nat.reduceLeDiff, Nat.reduceLT, ai, al, ab, aS, bkA, nilA, undef, n00, nmm]
    refine W_call (args := [al false ff, al false ff]) rfl (noRefs_2 (noRef_al _ _) (noRef_al _ _)) hsm rfl (W_run 160 ?_)
    simp (maxSteps := 2000000) only [go_some, go_none, go_zero, nxt_op, nxt_guard, nxt_skip, nxt_label, nxt_region, nxt_drawn, nxt_seq, nxt_block, nxt_scope, nxt_exit, nxt_blk, nxt_lp, nxt_cond, nxt_loop, nxt_ret, nxt_stop, nxt_nil, Eng.start, frG, frF, isCall, stp, exec1, exec1K, dK, Nat.reduceDiv, keyA, wantedA, stepF, stF_mv, stF_bin, stF_len, stF_un, stF_pick, stF_load, stF_iadr, stF_box, stF_fadr, stF_store, stF_ext, stF_fld, stF_idx, stF_aadr, stF_app, stF_bldS, stF_slc, stF_slcA, stF_bld, stF_isnil, stF_mki, stF_mkf, stF_mkb, stF_nilc, stF_mks, stF_tas, mapF_eq, evalF_eq, evalA, setAF, setA, setF_eq, putF_eq, lookF_eq, List.getD_cons_zero, List.getD_cons_succ, List.set_cons_zero, List.set_cons_succ, List.replicate, List.length_cons, List.length_nil, Nat.zero_add, Nat.reduceSub, Nat.reduceAdd, List.cons_append, List.nil_append, Option.getD, drop, Nat.beq, List.length_map, binV, binI, unV, if_true, Eng.asInt, Eng.part, cellsOf, toNat_cast, cast_nonneg, true_and, and_true, if_pos, giveOp, gvK, List.getElem?_cons_zero, List.getElem?_cons_succ, Bool.not_true, Bool.not_false, ofVal, eq_self, and_self, true_implies, dfF, touch, regF, quietF, pairOK, noCs, Go.Value.oneCell', decide_true, decide_false, Nat.mul_one, asBound, fullOf, Option.isSome_none, Option.isSome_some, Nat.zero_le, Bool.false_eq_true, false_implies, Int.cast_ofNat_Int, Int.reduceLT, Int.reduceLE, Int.reduceToNat, Nat.reduceMul, Int.le_refl, Eng.look, putAt, Nat.reduceEqDiff, reduceCtorEq, Nat.reduceBEq, if_false, List.all_cons, List.all_nil, tf_beq, ft_beq, lvSub, lvOK, isNone, width, solid, splice, List.take_zero, List.drop_zero, List.drop_nil, List.take_nil, List.drop_succ_cons, List.take_succ_cons, List.append_nil, beq_self_eq_true, Bool.and_true, Bool.true_and, Bool.and_self, ge_iff_le, gt_iff_lt, Nat.le_refl, Nat.reduceLeDiff, Nat.reduceLT, ai, al, ab, aS, bkA, nilA, undef, e00, n00, dmm, ntt, raw_bne, rawN, opA, argT, Option.elim, z2, hF2, Go.Proofs.Eng.fillA, List.map_cons, List.map_nil]
    refine W_call (args := [bkA false A R F2]) rfl (noRefs_1 (noRef_bk _ _ _ _)) hcut2 (noRef_t2 (noRef_al _ _) rfl) (W_run 160 ?_)
    simp (maxSteps := 2000000) only [go_some, go_none, go_zero, nxt_op, nxt_guard, nxt_skip, nxt_label, nxt_region, nxt_drawn, nxt_seq, nxt_block, nxt_scope, nxt_exit, nxt_blk, nxt_lp, nxt_cond, nxt_loop, nxt_ret, nxt_stop, nxt_nil, Eng.start, frG, frF, isCall, stp, exec1, exec1K, dK, Nat.reduceDiv, keyA, wantedA, stepF, stF_mv, stF_bin, stF_len, stF_un, stF_pick, stF_load, stF_iadr, stF_box, stF_fadr, stF_store, stF_ext, stF_fld, stF_idx, stF_aadr, stF_app, stF_bldS, stF_slc, stF_slcA, stF_bld, stF_isnil, stF_mki, stF_mkf, stF_mkb, stF_nilc, stF_mks, stF_tas, mapF_eq, evalF_eq, evalA, setAF, setA, setF_eq, putF_eq, lookF_eq, List.getD_cons_zero, List.getD_cons_succ, List.set_cons_zero, List.set_cons_succ, List.replicate, List.length_cons, List.length_nil, Nat.zero_add, Nat.reduceSub, Nat.reduceAdd, List.cons_append, List.nil_append, Option.getD, drop, Nat.beq, List.length_map, binV, binI, unV, if_true, Eng.asInt, Eng.part, cellsOf, toNat_cast, cast_nonneg, true_and, and_true, if_pos, giveOp, gvK, List.getElem?_cons_zero, List.getElem?_cons_succ, Bool.not_true, Bool.not_false, ofVal, eq_self, and_self, true_implies, dfF, touch, regF, quietF, pairOK, noCs, Go.Value.oneCell', decide_true, decide_false, Nat.mul_one, asBound, fullOf, Option.isSome_none, Option.isSome_some, Nat.zero_le, Bool.false_eq_true, false_implies, Int.cast_ofNat_Int, Int.reduceLT, Int.reduceLE, Int.reduceToNat, Nat.reduceMul, Int.le_refl, Eng.look, putAt, Nat.reduceEqDiff, reduceCtorEq, Nat.reduceBEq, if_false, List.all_cons, List.all_nil, tf_beq, ft_beq, lvSub, lvOK, isNone, width, solid, splice, List.take_zero, List.drop_zero, List.drop_nil, List.take_nil, List.drop_succ_cons, List.take_succ_cons, List.append_nil, beq_self_eq_true, Bool.and_true, Bool.true_and, Bool.and_self, ge_iff_le, gt_iff_lt, Nat.le_refl, Nat.reduceLeDiff, Nat.reduceLT, ai, al, ab, aS, bkA, nilA]
    refine W_call (args := [bkA false A R F2]) rfl (noRefs_1 (noRef_bk _ _ _ _)) hcnt2 rfl (W_run 160 ?_)
    simp (maxSteps := 2000000) only [go_some, go_none, go_zero, nxt_op, nxt_guard, nxt_skip, nxt_label, nxt_region, nxt_drawn, nxt_seq, nxt_block, nxt_scope, nxt_exit, nxt_blk, nxt_lp, nxt_cond, nxt_loop, nxt_ret, nxt_stop, nxt_nil, Eng.start, frG, frF, isCall, stp, exec1, exec1K, dK, Nat.reduceDiv, keyA, wantedA, stepF, stF_mv, stF_bin, stF_len, stF_un, stF_pick, stF_load, stF_iadr, stF_box, stF_fadr, stF_store, stF_ext, stF_fld, stF_idx, stF_aadr, stF_app, stF_bldS, stF_slc, stF_slcA, stF_bld, stF_isnil, stF_mki, stF_mkf, stF_mkb, stF_nilc, stF_mks, stF_tas, mapF_eq, evalF_eq, evalA, setAF, setA, setF_eq, putF_eq, lookF_eq, List.getD_cons_zero, List.getD_cons_succ, List.set_cons_zero, List.set_cons_succ, List.replicate, List.length_cons, List.length_nil, Nat.zero_add, Nat.reduceSub, Nat.reduceAdd, List.cons_append, List.nil_append, Option.getD, drop, Nat.beq, List.length_map, binV, binI, unV, if_true, Eng.asInt, Eng.part, cellsOf, toNat_cast, cast_nonneg, true_and, and_true, if_pos, giveOp, gvK, List.getElem?_cons_zero, List.getElem?_cons_succ, Bool.not_true, Bool.not_false, ofVal, eq_self, and_self, true_implies, dfF, touch, regF, quietF, pairOK, noCs, Go.Value.oneCell', decide_true, decide_false, Nat.mul_one, asBound, fullOf, Option.isSome_none, Option.isSome_some, Nat.zero_le, Bool.false_eq_true, false_implies, Int.cast_ofNat_Int, Int.reduceLT, Int.reduceLE, Int.reduceToNat, Nat.reduceMul, Int.le_refl, Eng.look, putAt, Nat.reduceEqDiff, reduceCtorEq, Nat.reduceBEq, if_false, List.all_cons, List.all_nil, tf_beq, ft_beq, lvSub, lvOK, isNone, width, solid, splice, List.take_zero, List.drop_zero, List.drop_nil, List.take_nil, List.drop_succ_cons, List.take_succ_cons, List.append_nil, beq_self_eq_true, Bool.and_true, Bool.true_and, Bool.and_self, ge_iff_le, gt_iff_lt, Nat.le_refl, Nat.reduceLeDiff, Nat.reduceLT, ai, al, ab, aS, bkA, nilA]
    refine W_call (args := [bkA false A R F2]) rfl (noRefs_1 (noRef_bk _ _ _ _)) hf (noRef_t2 (noRef_al _ _) rfl) (W_run 160 ?_)
    simp (maxSteps := 2000000) only [go_some, go_none, go_zero, nxt_op, nxt_guard, nxt_skip, nxt_label, nxt_region, nxt_drawn, nxt_seq, nxt_block, nxt_scope, nxt_exit, nxt_blk, nxt_lp, nxt_cond, nxt_loop, nxt_ret, nxt_stop, nxt_nil, Eng.start, frG, frF, isCall, stp, exec1, exec1K, dK, Nat.reduceDiv, keyA, wantedA, stepF, stF_mv, stF_bin, stF_len, stF_un, stF_pick, stF_load, stF_iadr, stF_box, stF_fadr, stF_store, stF_ext, stF_fld, stF_idx, stF_aadr, stF_app, stF_bldS, stF_slc, stF_slcA, stF_bld, stF_isnil, stF_mki, stF_mkf, stF_mkb, stF_nilc, stF_mks, stF_tas, mapF_eq, evalF_eq, evalA, setAF, setA, setF_eq, putF_eq, lookF_eq, List.getD_cons_zero, List.getD_cons_succ, List.set_cons_zero, List.set_cons_succ, List.replicate, List.length_cons, List.length_nil, Nat.zero_add, Nat.reduceSub, Nat.reduceAdd, List.cons_append, List.nil_append, Option.getD, drop, Nat.beq, List.length_map, binV, binI, unV, if_true, Eng.asInt, Eng.part, cellsOf, toNat_cast, cast_nonneg, true_and, and_true, if_pos, giveOp, gvK, List.getElem?_cons_zero, List.getElem?_cons_succ, Bool.not_true, Bool.not_false, ofVal, eq_self, and_self, true_implies, dfF, touch, regF, quietF, pairOK, noCs, Go.Value.oneCell', decide_true, decide_false, Nat.mul_one, asBound, fullOf, Option.isSome_none, Option.isSome_some, Nat.zero_le, Bool.false_eq_true, false_implies, Int.cast_ofNat_Int, Int.reduceLT, Int.reduceLE, Int.reduceToNat, Nat.reduceMul, Int.le_refl, Eng.look, putAt, Nat.reduceEqDiff, reduceCtorEq, Nat.reduceBEq, if_false, List.all_cons, List.all_nil, tf_beq, ft_beq, lvSub, lvOK, isNone, width, solid, splice, List.take_zero, List.drop_zero, List.drop_nil, List.take_nil, List.drop_succ_cons, List.take_succ_cons, List.append_nil, beq_self_eq_true, Bool.and_true, Bool.true_and, Bool.and_self, ge_iff_le, gt_iff_lt, Nat.le_refl, Nat.reduceLeDiff, Nat.reduceLT, ai, al, ab, aS, bkA, nilA, undef, e00, hhh, hll, hml, wm, dge, raw_min, rawK, opA, argT, Option.elim]
    refine W_call (args := []) rfl rfl hwk rfl (W_run 160 ?_)
    simp (maxSteps := 2000000) only [go_some, go_none, go_zero, nxt_op, nxt_guard, nxt_skip, nxt_label, nxt_region, nxt_drawn, nxt_seq, nxt_block, nxt_scope, nxt_exit, nxt_blk, nxt_lp, nxt_cond, nxt_loop, nxt_ret, nxt_stop, nxt_nil, Eng.start, frG, frF, isCall, stp, exec1, exec1K, dK, Nat.reduceDiv, keyA, wantedA, stepF, stF_mv, stF_bin, stF_len, stF_un, stF_pick, stF_load, stF_iadr, stF_box, stF_fadr, stF_store, stF_ext, stF_fld, stF_idx, stF_aadr, stF_app, stF_bldS, stF_slc, stF_slcA, stF_bld, stF_isnil, stF_mki, stF_mkf, stF_mkb, stF_nilc, stF_mks, stF_tas, mapF_eq, evalF_eq, evalA, setAF, setA, setF_eq, putF_eq, lookF_eq, List.getD_cons_zero, List.getD_cons_succ, List.set_cons_zero, List.set_cons_succ, List.replicate, List.length_cons, List.length_nil, Nat.zero_add, Nat.reduceSub, Nat.reduceAdd, List.cons_append, List.nil_append, Option.getD, drop, Nat.beq, List.length_map, binV, binI, unV, if_true, Eng.asInt, Eng.part, cellsOf, toNat_cast, cast_nonneg, true_and, and_true, if_pos, giveOp, gvK, List.getElem?_cons_zero, List.getElem?_cons_succ, Bool.not_true, Bool.not_false, ofVal, eq_self, and_self, true_implies, dfF, touch, regF, quietF, pairOK, noCs, Go.Value.oneCell', decide_true, decide_false, Nat.mul_one, asBound, fullOf, Option.isSome_none, Option.isSome_some, Nat.zero_le, Bool.false_eq_true, false_implies, Int.cast_ofNat_Int, Int.reduceLT, Int.reduceLE, Int.reduceToNat, Nat.reduceMul, Int.le_refl, Eng.look, putAt, Nat.reduceEqDiff, reduceCtorEq, Nat.reduceBEq, if_false, List.all_cons, List.all_nil, tf_beq, ft_beq, lvSub, lvOK, isNone, width, solid, splice, List.take_zero, List.drop_zero, List.drop_nil, List.take_nil, List.drop_succ_cons, List.take_succ_cons, List.append_nil, beq_self_eq_true, Bool.and_true, Bool.true_and, Bool.and_self, ge_iff_le, gt_iff_lt, Nat.le_refl, Nat.reduceLeDiff, Nat.reduceLT, ab]
    exact W_ret1 (WX_nil ⟨.inl rfl, _, rfl, rfl⟩)
end Go.Proofs.Ytnpdpkeackicmaa

