/-
  The law's book by numbers.
-/
import Derived.Test.YtkaoelhhabecnaaVe
set_option linter.unusedSimpArgs false
set_option linter.unusedVariables false
namespace Go.Proofs.Ytkaoelhhabecnaa
open Go Go.Proofs.Eng
set_option maxRecDepth 100000
set_option maxHeartbeats 2000000
def u8 (z : Int) : AV := .v (.int .u8 z)
theorem ofWE {f : Nat} {fn : XFunc} {args : List AV} {G : AV → Prop} (fuel : Nat) (hf : xf f = some fn)
    (h : W Try.prog (RelU Try.prog xf) 0 [.code fn.body] (Go.Proofs.Eng.start fn args []) fun o c => (o = .ret ∨ o = .normal) ∧ ∃ rs, fn.results.mapM (resOf Try.prog c) = some rs ∧ ∃ r, G r ∧ reify c.η fuel (retOf rs) = some r) : ∃ r, G r ∧ Runs Try.prog xf f args r := by
  obtain ⟨o, c, h1, ho, rs, h3, r, hg, h4⟩ := h
  exact ⟨r, hg, Runs.ofW fuel hf ⟨o, c, h1, ho, rs, h3, h4⟩⟩
theorem undT : pureRun Try.prog (underlying 5) = some (.int .u8) := by kernel_rfl
/-- a byte as a number -/
def rawC (x : AV) (fb : Option Res) : Option Res :=
  match x with
  | .v (.int .u8 z) => some (.val (.v (.int .i64 (IntKind.i64.wrap z))))
  | _ => fb
theorem raw_conv (dst : Nat) (c : Cfg) (x : Operand) (ty : TypeId) : stF_raw Try.prog dst c (.convert 5 3 x) ty = rawC (opA c.σ x) (rawX Try.prog dst c (.convert 5 3 x) ty) := by
  unfold rawC
  split
  · rename_i z hi
    have e1 := toVal_op hi
    unfold stF_raw
    rw [if_pos ⟨rfl, by simp [Op.operands, e1]⟩]
    have h3 : pureRun Try.prog (execOp (fun x => ((argT x).bind fun xa => toVal (evalF c.σ xa)).getD (.bool false)) { dst := none, op := .convert 5 3 x, type := ty, pos := "", after := #[], guard := none }) = some (.value (.int .i64 (IntKind.i64.wrap z))) := by
      simp only [execOp, e1, Option.getD_some, pureRun_bind, convert, undT, und1, Option.bind_some, Conv.intToInt, pureRun_pure]
    rw [h3]; rfl
  · rfl
theorem toVal_opB {σ : List AV} {x : Operand} {a : Bool} (hi : opA σ x = .v (.bool a)) : ((argT x).bind fun xa => toVal (evalF σ xa)) = some (.bool a) := by
  unfold opA at hi
  cases h : argT x with
  | none => rw [h] at hi; cases hi
  | some xa =>
    rw [h] at hi
    simp only [Option.elim] at hi
    rw [Option.bind_some, evalF_eq, hi]; rfl
def rawE (x y : AV) (fb : Option Res) : Option Res :=
  match x, y with
  | .v (.bool a), .v (.bool b) => some (.val (.v (.bool (a == b))))
  | _, _ => fb
theorem raw_beq (dst : Nat) (c : Cfg) (x y : Operand) (ty : TypeId) :
    stF_raw Try.prog dst c (.binOp .eql 4 x y 4) ty = rawE (opA c.σ x) (opA c.σ y) (rawX Try.prog dst c (.binOp .eql 4 x y 4) ty) := by
  unfold rawE
  split
  · rename_i a b hi hj
    have e1 := toVal_opB hi
    have e2 := toVal_opB hj
    unfold stF_raw
    rw [if_pos ⟨rfl, by simp [Op.operands, e1, e2]⟩]
    have h3 : pureRun Try.prog (execOp (fun x => ((argT x).bind fun xa => toVal (evalF c.σ xa)).getD (.bool false)) { dst := none, op := .binOp .eql 4 x y 4, type := ty, pos := "", after := #[], guard := none }) = some (.value (.bool (a == b))) := by
      simp only [execOp, e1, e2, Option.getD_some]
      have hg : ∀ u v : Value, u = .bool a → v = .bool b → pureRun Try.prog (eqGuard .eql 4 x y u v) = some () := fun u v hu hv => by
        have grd : Try.prog.eqGuardType Try.prog.depth 4 = false := by kernel_rfl
        subst hu hv
        simp only [eqGuard, pureRun_bind, pureRun_program, Option.bind_some, grd, Bool.not_false, if_true, pureRun_pure]
        rfl
      have h4 : pureRun Try.prog (binOp .eql 4 (.bool a) (.bool b)) = some (.bool (a == b)) := by cases a <;> cases b <;> kernel_rfl
      rw [pureRun_bind, pureRun_bind, hg _ _ rfl rfl, Option.bind_some, h4]; rfl
    rw [h3]; rfl
  · rfl
theorem get_u8 {l : List Int} {i : Nat} (h : i < l.length) : (l.map u8)[i]? = some (u8 (l.getD i 0)) := by
  rw [List.getElem?_map, List.getElem?_eq_getElem h, List.getD_eq_getElem?_getD, List.getElem?_eq_getElem h]; rfl
def shelf (a b c : Int) (D H : List Int) : AV := .ag (u8 a :: u8 b :: u8 c :: (D.map u8 ++ H.map u8))
/-- what a book by numbers keeps -/
def gL (n : Int) (L : List (Int × Int)) (lg : Int) : Prop := 1 ≤ lg ∧ lg ≤ n ∧ ∀ p, p ∈ L → gA p ∧ p.2 ≤ lg
def hvL (L : List (Int × Int)) : AV := match L with | [] => nilA | x :: t => .os 47 1 (x :: t).length 2 0 (x :: t).length
def hrL (L : List (Int × Int)) : Nat × Option Ob := match L with | [] => (0, none) | x :: t => (1, some ⟨46, 2, (x :: t).map shA⟩)
def hpL (L : List (Int × Int)) (r11 : Nat × Option Ob) : Heap := [(6, (1, some ⟨29, 3, [.ag [nilA, ai 0, ai 0]]⟩)), (7, (1, some ⟨29, 3, [.ag [hvL L, ai 0, ai 0]]⟩)), (11, r11), (47, hrL L)]
theorem mk_loop (a b c m n : Int) (hn : 1 ≤ n ∧ n ≤ 30) (D H : List Int) (hD : D.length = 12) (hH : H.length = 12) (bD : ∀ x, x ∈ D → 0 ≤ x ∧ x ≤ 255) (bH : ∀ x, x ∈ H → 0 ≤ x ∧ x ≤ 255) (cnt : Nat) (hc : cnt ≤ 12) (x0 x4 x5 x12 x13 x14 x15 x16 : AV) (K : List Fr) (Q : Out → Cfg → Prop)
    (hK : ∀ (L : List (Int × Int)) (lg : Int), L.length = cnt → gL n L lg → ∀ r11 : Nat × Option Ob, ∀ j9 j10 j11 j19 j20 j21 j22 j23 j24 j25 j26 j27 j28 j29 j30 j31 j32 j33 j34 j35 j36 j37 j38 j39 j40 j41 j42 j43 j44 j45 j46 j47 j48 j49 j50 j51 j52 j53 j54 j55 j56 j57 j58 j59 j60 j61 j62 j63 j64 j65 j66 j67 j68 j69 j70 j71 j72 : AV, W Try.prog (RelU Try.prog xf) 0 K ⟨(x0 :: (ai m) :: (ai n) :: (.ptr (shelf a b c D H)) :: x4 :: x5 :: (.o 6 1 1 0 0) :: (.o 7 1 1 0 0) :: (ai lg) :: j9 :: j10 :: j11 :: x12 :: x13 :: x14 :: x15 :: x16 :: (ai cnt) :: (ai cnt) :: j19 :: j20 :: j21 :: j22 :: j23 :: j24 :: j25 :: j26 :: j27 :: j28 :: j29 :: j30 :: j31 :: j32 :: j33 :: j34 :: j35 :: j36 :: j37 :: j38 :: j39 :: j40 :: j41 :: j42 :: j43 :: j44 :: j45 :: j46 :: j47 :: j48 :: j49 :: j50 :: j51 :: j52 :: j53 :: j54 :: j55 :: j56 :: j57 :: j58 :: j59 :: j60 :: j61 :: j62 :: j63 :: j64 :: j65 :: j66 :: j67 :: j68 :: j69 :: j70 :: j71 :: j72 :: []), hpL L r11⟩ Q) :
    ∀ (k i : Nat), i + k = cnt → ∀ (L : List (Int × Int)) (lg : Int), L.length = i → gL n L lg → ∀ (g11 : Nat) (o11 : Option Ob), ∀ j9 j10 j11 j19 j20 j21 j22 j23 j24 j25 j26 j27 j28 j29 j30 j31 j32 j33 j34 j35 j36 j37 j38 j39 j40 j41 j42 j43 j44 j45 j46 j47 j48 j49 j50 j51 j52 j53 j54 j55 j56 j57 j58 j59 j60 j61 j62 j63 j64 j65 j66 j67 j68 j69 j70 j71 j72 : AV, W Try.prog (RelU Try.prog xf) 0 (.code (.loop xf4_L0) :: .blk 0 :: .stop :: K) ⟨(x0 :: (ai m) :: (ai n) :: (.ptr (shelf a b c D H)) :: x4 :: x5 :: (.o 6 1 1 0 0) :: (.o 7 1 1 0 0) :: (ai lg) :: j9 :: j10 :: j11 :: x12 :: x13 :: x14 :: x15 :: x16 :: (ai cnt) :: (ai i) :: j19 :: j20 :: j21 :: j22 :: j23 :: j24 :: j25 :: j26 :: j27 :: j28 :: j29 :: j30 :: j31 :: j32 :: j33 :: j34 :: j35 :: j36 :: j37 :: j38 :: j39 :: j40 :: j41 :: j42 :: j43 :: j44 :: j45 :: j46 :: j47 :: j48 :: j49 :: j50 :: j51 :: j52 :: j53 :: j54 :: j55 :: j56 :: j57 :: j58 :: j59 :: j60 :: j61 :: j62 :: j63 :: j64 :: j65 :: j66 :: j67 :: j68 :: j69 :: j70 :: j71 :: j72 :: []), hpL L (g11, o11)⟩ Q := by
  intro k
  induction k with
  | zero =>
    intro i hi L lg hL hg g11 o11 j9 j10 j11 j19 j20 j21 j22 j23 j24 j25 j26 j27 j28 j29 j30 j31 j32 j33 j34 j35 j36 j37 j38 j39 j40 j41 j42 j43 j44 j45 j46 j47 j48 j49 j50 j51 j52 j53 j54 j55 j56 j57 j58 j59 j60 j61 j62 j63 j64 j65 j66 j67 j68 j69 j70 j71 j72
    have : i = cnt := by omega
    subst this
    have h0 : decide (i < i) = false := by simp
    refine W_loop (W_run 80 ?_)
    simp (maxSteps := 2000000) only [go_some, go_none, go_zero, nxt_op, nxt_guard, nxt_skip, nxt_label, nxt_region, nxt_drawn, nxt_seq, nxt_block, nxt_scope, nxt_exit, nxt_blk, nxt_lp, nxt_cond, nxt_loop, nxt_ret, nxt_stop, nxt_nil, Eng.start, frG, frF, isCall, stp, exec1, exec1K, dK, Nat.reduceDiv, keyA, wantedA, stepF, stF_mv, stF_bin, stF_len, stF_un, stF_pick, stF_load, stF_iadr, stF_box, stF_fadr, stF_store, stF_ext, stF_fld, stF_idx, stF_aadr, stF_app, stF_bldS, stF_slc, stF_slcA, stF_bld, stF_isnil, stF_mki, stF_mkf, stF_mkb, stF_nilc, stF_mks, stF_tas, mapF_eq, evalF_eq, evalA, setAF, setA, setF_eq, putF_eq, lookF_eq, List.getD_cons_zero, List.getD_cons_succ, List.set_cons_zero, List.set_cons_succ, List.replicate, List.length_cons, List.length_nil, Nat.zero_add, Nat.reduceSub, Nat.reduceAdd, List.cons_append, List.nil_append, Option.getD, drop, Nat.beq, List.length_map, binV, binI, unV, if_true, Eng.asInt, Eng.part, cellsOf, toNat_cast, cast_nonneg, true_and, and_true, if_pos, giveOp, gvK, List.getElem?_cons_zero, List.getElem?_cons_succ, Bool.not_true, Bool.not_false, ofVal, eq_self, and_self, true_implies, dfF, touch, regF, quietF, pairOK, noCs, Go.Value.oneCell', decide_true, decide_false, Nat.mul_one, asBound, fullOf, Option.isSome_none, Option.isSome_some, Nat.zero_le, Bool.false_eq_true, false_implies, Int.cast_ofNat_Int, Int.reduceLT, Int.reduceLE, Int.reduceToNat, Nat.reduceMul, Int.le_refl, Eng.look, putAt, Nat.reduceEqDiff, reduceCtorEq, Nat.reduceBEq, if_false, List.all_cons, List.all_nil, tf_beq, ft_beq, lvSub, lvOK, isNone, width, solid, splice, List.take_zero, List.drop_zero, List.drop_nil, List.take_nil, List.drop_succ_cons, List.take_succ_cons, List.append_nil, beq_self_eq_true, Bool.and_true, Bool.true_and, Bool.and_self, ge_iff_le, gt_iff_lt, Nat.le_refl, Nat.reduceLeDiff, Nat.reduceLT, xf4_L0, ai, lt_cast, h0]
    exact W_stop (hK L lg hL hg _ _ _ _ _ _ _ _ _ _ _ _ _ _ _ _ _ _ _ _ _ _ _ _ _ _ _ _ _ _ _ _ _ _ _ _ _ _ _ _ _ _ _ _ _ _ _ _ _ _ _ _ _ _ _ _ _ _)
  | succ k ih =>
    intro i hi L lg hL hg g11 o11 j9 j10 j11 j19 j20 j21 j22 j23 j24 j25 j26 j27 j28 j29 j30 j31 j32 j33 j34 j35 j36 j37 j38 j39 j40 j41 j42 j43 j44 j45 j46 j47 j48 j49 j50 j51 j52 j53 j54 j55 j56 j57 j58 j59 j60 j61 j62 j63 j64 j65 j66 j67 j68 j69 j70 j71 j72
    have h1 : i < cnt := by omega
    have h0 : decide (i < cnt) = true := decide_eq_true h1
    have hiD : i < D.length := by omega
    have hiH : i < H.length := by omega
    have i12 : (i : Int) < 12 := by omega
    have hd := bD _ (getD_mem (d := 0) hiD)
    have hh := bH _ (getD_mem (d := 0) hiH)
    obtain ⟨g1, g2, g3⟩ := hg
    obtain ⟨t1, t2⟩ := tmod_b (a := D.getD i 0) (n := n) hd.1 (by omega)
    have gD := get_u8 hiD
    have gH := get_u8 hiH
    generalize D.getD i 0 = d at *
    generalize H.getD i 0 = h at *
    have wd : IntKind.i64.wrap d = d := wrap_id (by omega) (by omega)
    have wh : IntKind.i64.wrap h = h := wrap_id (by omega) (by omega)
    have w1 : IntKind.i64.wrap (1 + d.tmod n) = 1 + d.tmod n := wrap_id (by omega) (by omega)
    have zn : (n = 0) = False := eq_false (by omega)
    generalize hls : 1 + d.tmod n = ls at *
    have w2 : IntKind.i64.wrap (n - ls) = n - ls := wrap_id (by omega) (by omega)
    have w3 : IntKind.i64.wrap (n - ls + 1) = n - ls + 1 := wrap_id (by omega) (by omega)
    have z2 : (n - ls + 1 = 0) = False := eq_false (by omega)
    obtain ⟨s1, s2⟩ := tmod_b (a := h) (n := n - ls + 1) hh.1 (by omega)
    have w4 : IntKind.i64.wrap (ls + h.tmod (n - ls + 1)) = ls + h.tmod (n - ls + 1) := wrap_id (by omega) (by omega)
    generalize hms : ls + h.tmod (n - ls + 1) = ms at *
    have wi : IntKind.i64.wrap ((i : Int) + 1) = ((i + 1 : Nat) : Int) := by rw [wrap_id (by omega) (by omega)]; simp
    have hT1 : List.take 12 (D.map u8 ++ H.map u8) = D.map u8 := List.take_left' (by simp [hD])
    have hT2 : List.drop 12 (D.map u8 ++ H.map u8) = H.map u8 := List.drop_left' (by simp [hD])
    have hT3 : List.take 12 (H.map u8) = H.map u8 := List.take_of_length_le (by simp [hH])
    have hx : mx2 lg ms = lg ∨ mx2 lg ms = ms := by unfold mx2; split <;> simp
    have hx1 : lg ≤ mx2 lg ms := by unfold mx2; split <;> omega
    have hx2 : ms ≤ mx2 lg ms := by unfold mx2; split <;> omega
    have next := ih (i + 1) (by omega) (L ++ [(ls, ms)]) (mx2 lg ms) (by simp [hL]) ⟨by omega, by omega, fun p hp => by
      rw [List.mem_append, List.mem_singleton] at hp
      rcases hp with q | rfl
      · have := g3 p q; exact ⟨this.1, by omega⟩
      · exact ⟨⟨by simp only; omega, by simp only; omega, by simp only; omega⟩, hx2⟩⟩
    have hmx : rawK (.v (.int .i64 lg)) (.v (.int .i64 ms)) mx2 = fun _ => some (.val (.v (.int .i64 (mx2 lg ms)))) := rfl
    refine W_loop (W_run 160 ?_)
    cases L with
    | nil =>
      have e1 : shA (ls, ms) = .ag [.v (.int .i64 ls), .v (.int .i64 ms)] := rfl
      simp only [hpL, hvL, hrL, List.nil_append, List.map_cons, List.map_nil, e1] at next ⊢
      simp (maxSteps := 2000000) only [go_some, go_none, go_zero, nxt_op, nxt_guard, nxt_skip, nxt_label, nxt_region, nxt_drawn, nxt_seq, nxt_block, nxt_scope, nxt_exit, nxt_blk, nxt_lp, nxt_cond, nxt_loop, nxt_ret, nxt_stop, nxt_nil, Eng.start, frG, frF, isCall, stp, exec1, exec1K, dK, Nat.reduceDiv, keyA, wantedA, stepF, stF_mv, stF_bin, stF_len, stF_un, stF_pick, stF_load, stF_iadr, stF_box, stF_fadr, stF_store, stF_ext, stF_fld, stF_idx, stF_aadr, stF_app, stF_bldS, stF_slc, stF_slcA, stF_bld, stF_isnil, stF_mki, stF_mkf, stF_mkb, stF_nilc, stF_mks, stF_tas, mapF_eq, evalF_eq, evalA, setAF, setA, setF_eq, putF_eq, lookF_eq, List.getD_cons_zero, List.getD_cons_succ, List.set_cons_zero, List.set_cons_succ, List.replicate, List.length_cons, List.length_nil, Nat.zero_add, Nat.reduceSub, Nat.reduceAdd, List.cons_append, List.nil_append, Option.getD, drop, Nat.beq, List.length_map, binV, binI, unV, if_true, Eng.asInt, Eng.part, cellsOf, toNat_cast, cast_nonneg, true_and, and_true, if_pos, giveOp, gvK, List.getElem?_cons_zero, List.getElem?_cons_succ, Bool.not_true, Bool.not_false, ofVal, eq_self, and_self, true_implies, dfF, touch, regF, quietF, pairOK, noCs, Go.Value.oneCell', decide_true, decide_false, Nat.mul_one, asBound, fullOf, Option.isSome_none, Option.isSome_some, Nat.zero_le, Bool.false_eq_true, false_implies, Int.cast_ofNat_Int, Int.reduceLT, Int.reduceLE, Int.reduceToNat, Nat.reduceMul, Int.le_refl, Eng.look, putAt, Nat.reduceEqDiff, reduceCtorEq, Nat.reduceBEq, if_false, List.all_cons, List.all_nil, tf_beq, ft_beq, lvSub, lvOK, isNone, width, solid, splice, List.take_zero, List.drop_zero, List.drop_nil, List.take_nil, List.drop_succ_cons, List.take_succ_cons, List.append_nil, beq_self_eq_true, Bool.and_true, Bool.true_and, Bool.and_self, ge_iff_le, gt_iff_lt, Nat.le_refl, Nat.reduceLeDiff, Nat.reduceLT, xf4_L0, ai, u8, nilA, shelf, lt_cast, h0, i12, hD, hH, hT1, hT2, hT3, gD, gH, wd, wh, w1, w2, w3, w4, zn, z2, hls, hms, wi, raw_conv, rawC, raw_max, rawK, opA, argT, Option.elim, Go.Proofs.Eng.elems, Go.Proofs.Eng.fillA, List.map_cons, List.map_nil, List.length_append]
      exact next _ _ _ _ _ _ _ _ _ _ _ _ _ _ _ _ _ _ _ _ _ _ _ _ _ _ _ _ _ _ _ _ _ _ _ _ _ _ _ _ _ _ _ _ _ _ _ _ _ _ _ _ _ _ _ _ _ _ _
    | cons x t =>
      have q1 : (t.length + 1 + 1) * 16 ≤ 100000000000000 := by simp only [List.length_cons] at hL; omega
      have q2 : t.length + 1 + 1 ≤ 100000000000000 := by simp only [List.length_cons] at hL; omega
      have e1 : shA (ls, ms) = .ag [.v (.int .i64 ls), .v (.int .i64 ms)] := rfl
      have e2 : (x :: (t ++ [(ls, ms)])).length = t.length + 1 + 1 := by simp
      simp only [hpL, hvL, hrL, List.cons_append, e2, List.map_cons, List.map_append, List.map_nil, e1] at next ⊢
      simp (maxSteps := 2000000) only [go_some, go_none, go_zero, nxt_op, nxt_guard, nxt_skip, nxt_label, nxt_region, nxt_drawn, nxt_seq, nxt_block, nxt_scope, nxt_exit, nxt_blk, nxt_lp, nxt_cond, nxt_loop, nxt_ret, nxt_stop, nxt_nil, Eng.start, frG, frF, isCall, stp, exec1, exec1K, dK, Nat.reduceDiv, keyA, wantedA, stepF, stF_mv, stF_bin, stF_len, stF_un, stF_pick, stF_load, stF_iadr, stF_box, stF_fadr, stF_store, stF_ext, stF_fld, stF_idx, stF_aadr, stF_app, stF_bldS, stF_slc, stF_slcA, stF_bld, stF_isnil, stF_mki, stF_mkf, stF_mkb, stF_nilc, stF_mks, stF_tas, mapF_eq, evalF_eq, evalA, setAF, setA, setF_eq, putF_eq, lookF_eq, List.getD_cons_zero, List.getD_cons_succ, List.set_cons_zero, List.set_cons_succ, List.replicate, List.length_cons, List.length_nil, Nat.zero_add, Nat.reduceSub, Nat.reduceAdd, List.cons_append, List.nil_append, Option.getD, drop, Nat.beq, List.length_map, binV, binI, unV, if_true, Eng.asInt, Eng.part, cellsOf, toNat_cast, cast_nonneg, true_and, and_true, if_pos, giveOp, gvK, List.getElem?_cons_zero, List.getElem?_cons_succ, Bool.not_true, Bool.not_false, ofVal, eq_self, and_self, true_implies, dfF, touch, regF, quietF, pairOK, noCs, Go.Value.oneCell', decide_true, decide_false, Nat.mul_one, asBound, fullOf, Option.isSome_none, Option.isSome_some, Nat.zero_le, Bool.false_eq_true, false_implies, Int.cast_ofNat_Int, Int.reduceLT, Int.reduceLE, Int.reduceToNat, Nat.reduceMul, Int.le_refl, Eng.look, putAt, Nat.reduceEqDiff, reduceCtorEq, Nat.reduceBEq, if_false, List.all_cons, List.all_nil, tf_beq, ft_beq, lvSub, lvOK, isNone, width, solid, splice, List.take_zero, List.drop_zero, List.drop_nil, List.take_nil, List.drop_succ_cons, List.take_succ_cons, List.append_nil, beq_self_eq_true, Bool.and_true, Bool.true_and, Bool.and_self, ge_iff_le, gt_iff_lt, Nat.le_refl, Nat.reduceLeDiff, Nat.reduceLT, xf4_L0, ai, u8, nilA, shelf, lt_cast, h0, i12, hD, hH, hT1, hT2, hT3, gD, gH, wd, wh, w1, w2, w3, w4, zn, z2, hls, hms, wi, q1, q2, raw_conv, rawC, raw_max, rawK, opA, argT, Option.elim, Go.Proofs.Eng.elems, Go.Proofs.Eng.fillA, List.map_cons, List.map_nil, List.length_append]
      exact next _ _ _ _ _ _ _ _ _ _ _ _ _ _ _ _ _ _ _ _ _ _ _ _ _ _ _ _ _ _ _ _ _ _ _ _ _ _ _ _ _ _ _ _ _ _ _ _ _ _ _ _ _ _ _ _ _ _ _
/-- what the law's book by numbers is -/
def GM (m n : Int) (r : AV) : Prop := ∃ A R F, r = bkA false A R F ∧ gB A R F ∧ (A.length : Int) ≤ m ∧ (∀ p, p ∈ A → p.2 ≤ n) ∧ ∀ p, p ∈ A → p.2 ≤ R
theorem named_m (j : Nat) : Go.Proofs.Eng.look [(6, (1, some (Ob.mk 29 3 [.ag [nilA, ai 0, ai 0]]))), (7, (1, some (Ob.mk 29 3 [.ag [nilA, ai 0, ai 0]])))] j = Go.Proofs.Eng.look (hpL [] (0, none)) j := by
  simp only [Go.Proofs.Eng.look, hpL, hvL, hrL]
  by_cases h6 : 6 = j
  · simp [h6]
  · by_cases h7 : 7 = j
    · subst h7; simp
    · by_cases h11 : 11 = j
      · subst h11; simp
      · by_cases h47 : 47 = j
        · subst h47; simp
        · simp [h6, h7, h11, h47]
theorem made_run (m n a b c : Int) (D H : List Int) (hm : 1 ≤ m ∧ m ≤ 12) (hn : 1 ≤ n ∧ n ≤ 30) (ha : 0 ≤ a ∧ a ≤ 255) (hb : 0 ≤ b ∧ b ≤ 255) (hc : 0 ≤ c ∧ c ≤ 255) (hD : D.length = 12) (hH : H.length = 12) (bD : ∀ x, x ∈ D → 0 ≤ x ∧ x ≤ 255) (bH : ∀ x, x ∈ H → 0 ≤ x ∧ x ≤ 255) :
    ∃ r, GM m n r ∧ Runs Try.prog xf 4 [shelf a b c D H, ai m, ai n] r := by
  refine ofWE (fn := xf4) 20 (by kernel_rfl) (W_run 120 ?_)
  have wa : IntKind.i64.wrap a = a := wrap_id (by omega) (by omega)
  have wb : IntKind.i64.wrap b = b := wrap_id (by omega) (by omega)
  have wc : IntKind.i64.wrap c = c := wrap_id (by omega) (by omega)
  obtain ⟨t1, t2⟩ := tmod_b (a := a) (n := m) ha.1 (by omega)
  have zm : (m = 0) = False := eq_false (by omega)
  obtain ⟨cnt, hcnt⟩ : ∃ cnt : Nat, 1 + a.tmod m = (cnt : Int) := ⟨(1 + a.tmod m).toNat, by omega⟩
  have w1 : IntKind.i64.wrap (1 + a.tmod m) = (cnt : Int) := by rw [wrap_id (by omega) (by omega), hcnt]
  have hlen : (D.map u8 ++ H.map u8).length = 24 := by simp [hD, hH]
  have hG : (D.map u8 ++ H.map u8) = (D.map u8 ++ H.map u8) := rfl
  unfold shelf
  generalize hGG : (D.map u8 ++ H.map u8) = G at hlen ⊢
  simp (maxSteps := 2000000) only [go_some, go_none, go_zero, nxt_op, nxt_guard, nxt_skip, nxt_label, nxt_region, nxt_drawn, nxt_seq, nxt_block, nxt_scope, nxt_exit, nxt_blk, nxt_lp, nxt_cond, nxt_loop, nxt_ret, nxt_stop, nxt_nil, Eng.start, frG, frF, isCall, stp, exec1, exec1K, dK, Nat.reduceDiv, keyA, wantedA, stepF, stF_mv, stF_bin, stF_len, stF_un, stF_pick, stF_load, stF_iadr, stF_box, stF_fadr, stF_store, stF_ext, stF_fld, stF_idx, stF_aadr, stF_app, stF_bldS, stF_slc, stF_slcA, stF_bld, stF_isnil, stF_mki, stF_mkf, stF_mkb, stF_nilc, stF_mks, stF_tas, mapF_eq, evalF_eq, evalA, setAF, setA, setF_eq, putF_eq, lookF_eq, List.getD_cons_zero, List.getD_cons_succ, List.set_cons_zero, List.set_cons_succ, List.replicate, List.length_cons, List.length_nil, Nat.zero_add, Nat.reduceSub, Nat.reduceAdd, List.cons_append, List.nil_append, Option.getD, drop, Nat.beq, List.length_map, binV, binI, unV, if_true, Eng.asInt, Eng.part, cellsOf, toNat_cast, cast_nonneg, true_and, and_true, if_pos, giveOp, gvK, List.getElem?_cons_zero, List.getElem?_cons_succ, Bool.not_true, Bool.not_false, ofVal, eq_self, and_self, true_implies, dfF, touch, regF, quietF, pairOK, noCs, Go.Value.oneCell', decide_true, decide_false, Nat.mul_one, asBound, fullOf, Option.isSome_none, Option.isSome_some, Nat.zero_le, Bool.false_eq_true, false_implies, Int.cast_ofNat_Int, Int.reduceLT, Int.reduceLE, Int.reduceToNat, Nat.reduceMul, Int.le_refl, Eng.look, putAt, Nat.reduceEqDiff, reduceCtorEq, Nat.reduceBEq, if_false, List.all_cons, List.all_nil, tf_beq, ft_beq, lvSub, lvOK, isNone, width, solid, splice, List.take_zero, List.drop_zero, List.drop_nil, List.take_nil, List.drop_succ_cons, List.take_succ_cons, List.append_nil, beq_self_eq_true, Bool.and_true, Bool.true_and, Bool.and_self, ge_iff_le, gt_iff_lt, Nat.le_refl, Nat.reduceLeDiff, Nat.reduceLT, xf4, ai, u8, nilA, hlen, wa, zm, w1, raw_conv, rawC, opA, argT, Option.elim]
  subst hGG
  refine W_alone (W_named named_m (mk_loop a b c m n hn D H hD hH bD bH cnt (by omega) _ _ _ _ _ _ _ _ _ _ (fun L lg hL hg r11 j9 j10 j11 j19 j20 j21 j22 j23 j24 j25 j26 j27 j28 j29 j30 j31 j32 j33 j34 j35 j36 j37 j38 j39 j40 j41 j42 j43 j44 j45 j46 j47 j48 j49 j50 j51 j52 j53 j54 j55 j56 j57 j58 j59 j60 j61 j62 j63 j64 j65 j66 j67 j68 j69 j70 j71 j72 => W_run 160 ?_) cnt 0 (by omega) [] 1 rfl ⟨by omega, by omega, fun p hp => by cases hp⟩ _ _ _ _ _ _ _ _ _ _ _ _ _ _ _ _ _ _ _ _ _ _ _ _ _ _ _ _ _ _ _ _ _ _ _ _ _ _ _ _ _ _ _ _ _ _ _ _ _ _ _ _ _ _ _ _ _ _ _))
  obtain ⟨g1, g2, g3⟩ := hg
  have w3n : IntKind.i64.wrap (3 * n) = 3 * n := wrap_id (by omega) (by omega)
  have z3n : (3 * n = 0) = False := eq_false (by omega)
  obtain ⟨s1, s2⟩ := tmod_b (a := b) (n := 3 * n) hb.1 (by omega)
  have wl : IntKind.i64.wrap (lg + b.tmod (3 * n)) = lg + b.tmod (3 * n) := wrap_id (by omega) (by omega)
  generalize hv : lg + b.tmod (3 * n) = v at *
  have hR1 : lg ≤ mn2 100 v := by unfold mn2; split <;> omega
  have hR2 : mn2 100 v ≤ 100 := by unfold mn2; split <;> omega
  generalize hR : mn2 100 v = R at *
  have wR : IntKind.i64.wrap (R + 1) = R + 1 := wrap_id (by omega) (by omega)
  have zR : (R + 1 = 0) = False := eq_false (by omega)
  obtain ⟨u1, u2⟩ := tmod_b (a := c) (n := R + 1) hc.1 (by omega)
  cases L with
  | nil => simp only [List.length_nil] at hL; omega
  | cons x t =>
    simp only [hpL, hvL, hrL]
    simp (maxSteps := 2000000) only [go_some, go_none, go_zero, nxt_op, nxt_guard, nxt_skip, nxt_label, nxt_region, nxt_drawn, nxt_seq, nxt_block, nxt_scope, nxt_exit, nxt_blk, nxt_lp, nxt_cond, nxt_loop, nxt_ret, nxt_stop, nxt_nil, Eng.start, frG, frF, isCall, stp, exec1, exec1K, dK, Nat.reduceDiv, keyA, wantedA, stepF, stF_mv, stF_bin, stF_len, stF_un, stF_pick, stF_load, stF_iadr, stF_box, stF_fadr, stF_store, stF_ext, stF_fld, stF_idx, stF_aadr, stF_app, stF_bldS, stF_slc, stF_slcA, stF_bld, stF_isnil, stF_mki, stF_mkf, stF_mkb, stF_nilc, stF_mks, stF_tas, mapF_eq, evalF_eq, evalA, setAF, setA, setF_eq, putF_eq, lookF_eq, List.getD_cons_zero, List.getD_cons_succ, List.set_cons_zero, List.set_cons_succ, List.replicate, List.length_cons, List.length_nil, Nat.zero_add, Nat.reduceSub, Nat.reduceAdd, List.cons_append, List.nil_append, Option.getD, drop, Nat.beq, List.length_map, binV, binI, unV, if_true, Eng.asInt, Eng.part, cellsOf, toNat_cast, cast_nonneg, true_and, and_true, if_pos, giveOp, gvK, List.getElem?_cons_zero, List.getElem?_cons_succ, Bool.not_true, Bool.not_false, ofVal, eq_self, and_self, true_implies, dfF, touch, regF, quietF, pairOK, noCs, Go.Value.oneCell', decide_true, decide_false, Nat.mul_one, asBound, fullOf, Option.isSome_none, Option.isSome_some, Nat.zero_le, Bool.false_eq_true, false_implies, Int.cast_ofNat_Int, Int.reduceLT, Int.reduceLE, Int.reduceToNat, Nat.reduceMul, Int.le_refl, Eng.look, putAt, Nat.reduceEqDiff, reduceCtorEq, Nat.reduceBEq, if_false, List.all_cons, List.all_nil, tf_beq, ft_beq, lvSub, lvOK, isNone, width, solid, splice, List.take_zero, List.drop_zero, List.drop_nil, List.take_nil, List.drop_succ_cons, List.take_succ_cons, List.append_nil, beq_self_eq_true, Bool.and_true, Bool.true_and, Bool.and_self, ge_iff_le, gt_iff_lt, Nat.le_refl, Nat.reduceLeDiff, Nat.reduceLT, xf4_R0, ai, u8, nilA, shelf, hD, hH, wb, wc, w3n, z3n, wl, hv, hR, wR, zR, raw_conv, rawC, raw_min, rawK, opA, argT, Option.elim, List.length_append]
    refine W_ret1 (WX_nil ⟨.inl rfl, _, rfl, bkA false (x :: t) R (c.tmod (R + 1)), ⟨x :: t, R, c.tmod (R + 1), rfl, ⟨by simp, by omega, fun p hp => (g3 p hp).1, by omega, hR2, u1, by omega⟩, by omega, fun p hp => by have := (g3 p hp).2; omega, fun p hp => by have := (g3 p hp).2; omega⟩, ?_⟩)
    generalize hE : (x :: t : List (Int × Int)) = L
    have e : (t.length + 1) = L.length := by rw [← hE]; rfl
    have e2 : shA x :: t.map shA = L.map shA := by rw [← hE]; rfl
    simp only [List.length_cons, e, List.map_cons, e2]
    generalize hη : ([(6, _), (7, _), (11, r11), (47, (1, some ⟨_, 2, L.map shA⟩))] : Heap) = η
    have hk : Go.Proofs.Eng.look η 47 = (1, some ⟨46, 2, L.map shA⟩) := by rw [← hη]; rfl
    have h : reify η 19 (.os 47 1 L.length 2 0 L.length) = some (aS false L) := reify_os (elem_sh _ 17) hk
    show ([.os 47 1 L.length 2 0 L.length, ai R, ai (c.tmod (R + 1))].mapM (reify η 19)).map AV.ag = _
    rw [List.mapM_cons, h]; rfl
end Go.Proofs.Ytkaoelhhabecnaa

