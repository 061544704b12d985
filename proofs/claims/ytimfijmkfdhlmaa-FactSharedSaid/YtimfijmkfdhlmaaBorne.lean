/-
  Package fact's isBorne.
-/
import Derived.Test.YtimfijmkfdhlmaaPaid
set_option linter.unusedSimpArgs false
set_option linter.unusedVariables false
namespace Go.Proofs.Ytimfijmkfdhlmaa
open Go Go.Proofs.Eng
set_option maxRecDepth 100000
def opA (σ : List AV) (x : Operand) : AV := (argT x).elim .any (evalA σ)
theorem toVal_op {σ : List AV} {x : Operand} {k : IntKind} {a : Int} (hi : opA σ x = .v (.int k a)) : ((argT x).bind fun xa => toVal (evalF σ xa)) = some (.int k a) := by
  unfold opA at hi
  cases h : argT x with
  | none => rw [h] at hi; cases hi
  | some xa =>
    rw [h] at hi
    simp only [Option.elim] at hi
    rw [Option.bind_some, evalF_eq, hi]; rfl
/-- two numbers are looked at; if there are none, whatever else -/
def rawK (x y : AV) (op : Int → Int → Int) (fb : Option Res) : Option Res :=
  match x, y with
  | .v (.int .i64 a), .v (.int .i64 b) => some (.val (.v (.int .i64 (op a b))))
  | _, _ => fb
def rawX (P : Program) (dst : Nat) (c : Cfg) (o : Op) (ty : Nat) : Option Res := stF_raw P dst c o ty
def mx2 (a b : Int) : Int := if b > a then b else a
def mn2 (a b : Int) : Int := if b < a then b else a
theorem raw_max (dst : Nat) (c : Cfg) (x y : Operand) (ts : Array TypeId) (ty : TypeId) :
    stF_raw Try.prog dst c (.call ⟨.builtin .max, #[x, y], ts⟩) ty = rawK (opA c.σ x) (opA c.σ y) mx2 (rawX Try.prog dst c (.call ⟨.builtin .max, #[x, y], ts⟩) ty) := by
  unfold rawK
  split
  · rename_i a b hi hj
    have e1 := toVal_op hi
    have e2 := toVal_op hj
    unfold stF_raw
    rw [if_pos ⟨rfl, by simp [Op.operands, Call.operands, e1, e2]⟩]
    have h3 : pureRun Try.prog (execOp (fun x => ((argT x).bind fun xa => toVal (evalF c.σ xa)).getD (.bool false)) { dst := none, op := .call ⟨.builtin .max, #[x, y], ts⟩, type := ty, pos := "", after := #[], guard := none }) = some (.value (.int .i64 (mx2 a b))) := by
      simp only [execOp, resolve, invoke, pureRun_bind, pureRun_pure, Option.bind_some, List.map_toArray, List.map_cons, List.map_nil, e1, e2, Option.getD_some]
      show pureRun Try.prog (do pure (.value (← Builtin.max_ ts ty #[.int .i64 a, .int .i64 b])) : Sem Next) = _
      rw [pureRun_bind]
      have h4 : pureRun Try.prog (Builtin.max_ ts ty #[.int .i64 a, .int .i64 b]) = some (.int .i64 (mx2 a b)) := by
        simp [Builtin.max_, Builtin.max2, pureRun_bind, pureRun_pure, mx2]
      rw [h4]; rfl
    rw [h3]; rfl
  · rfl
theorem raw_min (dst : Nat) (c : Cfg) (x y : Operand) (ts : Array TypeId) (ty : TypeId) :
    stF_raw Try.prog dst c (.call ⟨.builtin .min, #[x, y], ts⟩) ty = rawK (opA c.σ x) (opA c.σ y) mn2 (rawX Try.prog dst c (.call ⟨.builtin .min, #[x, y], ts⟩) ty) := by
  unfold rawK
  split
  · rename_i a b hi hj
    have e1 := toVal_op hi
    have e2 := toVal_op hj
    unfold stF_raw
    rw [if_pos ⟨rfl, by simp [Op.operands, Call.operands, e1, e2]⟩]
    have h3 : pureRun Try.prog (execOp (fun x => ((argT x).bind fun xa => toVal (evalF c.σ xa)).getD (.bool false)) { dst := none, op := .call ⟨.builtin .min, #[x, y], ts⟩, type := ty, pos := "", after := #[], guard := none }) = some (.value (.int .i64 (mn2 a b))) := by
      simp only [execOp, resolve, invoke, pureRun_bind, pureRun_pure, Option.bind_some, List.map_toArray, List.map_cons, List.map_nil, e1, e2, Option.getD_some]
      show pureRun Try.prog (do pure (.value (← Builtin.min_ ts ty #[.int .i64 a, .int .i64 b])) : Sem Next) = _
      rw [pureRun_bind]
      have h4 : pureRun Try.prog (Builtin.min_ ts ty #[.int .i64 a, .int .i64 b]) = some (.int .i64 (mn2 a b)) := by
        simp [Builtin.min_, Builtin.min2, pureRun_bind, pureRun_pure, mn2]
      rw [h4]; rfl
    rw [h3]; rfl
  · rfl
/-- the greatest of numbers -/
def mxF : List Int → Int
  | [] => 0
  | x :: t => t.foldl mx2 x
theorem mxF_take {l : List Int} {i : Nat} (h : i < l.length) (h0 : 0 < i) : mxF (l.take (i + 1)) = mx2 (mxF (l.take i)) (l.getD i 0) := by
  have e : l.getD i 0 = l[i] := by rw [List.getD_eq_getElem?_getD, List.getElem?_eq_getElem h]; rfl
  rw [e, ← List.take_append_getElem h]
  cases l with
  | nil => simp at h
  | cons x t =>
    obtain ⟨j, rfl⟩ : ∃ j, i = j + 1 := ⟨i - 1, by omega⟩
    simp only [List.take_succ_cons, List.cons_append, mxF, List.foldl_append, List.foldl_cons, List.foldl_nil]
theorem mx_ge {l : List Int} : ∀ {a : Int}, a ≤ l.foldl mx2 a ∧ ∀ x, x ∈ l → x ≤ l.foldl mx2 a := by
  induction l with
  | nil => intro a; exact ⟨Int.le_refl _, fun x h => by cases h⟩
  | cons y l ih =>
    intro a
    obtain ⟨h1, h2⟩ := ih (a := mx2 a y)
    have h3 : a ≤ mx2 a y ∧ y ≤ mx2 a y := by unfold mx2; split <;> omega
    refine ⟨Int.le_trans h3.1 h1, fun x hx => ?_⟩
    rcases List.mem_cons.1 hx with rfl | hx
    · exact Int.le_trans h3.2 h1
    · exact h2 x hx
theorem mx_le {l : List Int} {b : Int} : ∀ {a : Int}, a ≤ b → (∀ x, x ∈ l → x ≤ b) → l.foldl mx2 a ≤ b := by
  induction l with
  | nil => intro a h _; exact h
  | cons y l ih =>
    intro a h1 h2
    exact ih (by unfold mx2; split; exact h2 y List.mem_cons_self; exact h1) fun x hx => h2 x (List.mem_cons_of_mem _ hx)
theorem mxF_le {l : List Int} {b : Int} (h : l ≠ []) : mxF l ≤ b ↔ ∀ x, x ∈ l → x ≤ b := by
  cases l with
  | nil => exact absurd rfl h
  | cons y l =>
    refine ⟨fun q x hx => ?_, fun q => mx_le (q y List.mem_cons_self) fun x hx => q x (List.mem_cons_of_mem _ hx)⟩
    have := mx_ge (l := l) (a := y)
    rcases List.mem_cons.1 hx with rfl | hx
    · exact Int.le_trans this.1 q
    · exact Int.le_trans (this.2 x hx) q
theorem max_loop (full : Bool) (l : List Int) (K : List Fr) (Q : Out → Cfg → Prop) (hn : l.length ≤ 100000)
    (hK : ∀ j1 j2 j5 j6 j7 j8 j9 j10 j11 j12 j13 j14 j15 j16 j17 j18 j19 j20 j21 j22 j23 j24 : AV, W Try.prog (RelU Try.prog xf) 0 K ⟨((al full l) :: j1 :: j2 :: (ai (mxF l)) :: (ai l.length) :: j5 :: j6 :: j7 :: j8 :: j9 :: j10 :: j11 :: j12 :: j13 :: j14 :: j15 :: j16 :: j17 :: j18 :: j19 :: j20 :: j21 :: j22 :: j23 :: j24 :: []), []⟩ Q) :
    ∀ (k i : Nat), i + k = l.length → 0 < i → ∀ j1 j2 j5 j6 j7 j8 j9 j10 j11 j12 j13 j14 j15 j16 j17 j18 j19 j20 j21 j22 j23 j24 : AV, W Try.prog (RelU Try.prog xf) 0 (.code (.loop xf69_L0) :: .blk 0 :: .stop :: K) ⟨((al full l) :: j1 :: j2 :: (ai (mxF (l.take i))) :: (ai i) :: j5 :: j6 :: j7 :: j8 :: j9 :: j10 :: j11 :: j12 :: j13 :: j14 :: j15 :: j16 :: j17 :: j18 :: j19 :: j20 :: j21 :: j22 :: j23 :: j24 :: []), []⟩ Q := by
  intro k
  induction k with
  | zero =>
    intro i hi hc j1 j2 j5 j6 j7 j8 j9 j10 j11 j12 j13 j14 j15 j16 j17 j18 j19 j20 j21 j22 j23 j24
    have : i = l.length := by omega
    subst this
    have h0 : decide (l.length < l.length) = false := by simp
    refine W_loop (W_run 80 ?_)
    simp only [go_some, go_none, go_zero, nxt_op, nxt_guard, nxt_skip, nxt_region, nxt_drawn, nxt_seq, nxt_block, nxt_scope, nxt_exit, nxt_blk, nxt_lp, nxt_cond, nxt_loop, nxt_ret, nxt_stop, nxt_nil, Eng.start, frG, frF, isCall, stp, exec1, exec1K, keyA, wantedA, stepF, stF_mv, stF_bin, stF_len, stF_un, stF_pick, stF_load, stF_iadr, stF_box, stF_fadr, stF_store, stF_ext, stF_fld, stF_idx, stF_aadr, stF_app, stF_bldS, stF_slc, stF_slcA, stF_bld, stF_isnil, stF_mki, stF_mkf, stF_mkb, mapF_eq, evalF_eq, evalA, setAF, setA, setF_eq, putF_eq, lookF_eq, List.getD_cons_zero, List.getD_cons_succ, List.set_cons_zero, List.set_cons_succ, List.replicate, List.length_cons, List.length_nil, Nat.zero_add, Nat.reduceSub, Nat.reduceAdd, List.cons_append, List.nil_append, Option.getD, drop, Nat.beq, List.length_map, binV, binI, unV, if_true, Eng.asInt, Eng.part, cellsOf, toNat_cast, cast_nonneg, true_and, and_true, if_pos, giveOp, List.getElem?_cons_zero, List.getElem?_cons_succ, Bool.not_true, Bool.not_false, ofVal, eq_self, and_self, true_implies, dfF, touch, regF, quietF, pairOK, noCs, Go.Value.oneCell', decide_true, decide_false, Nat.mul_one, asBound, fullOf, Option.isSome_none, Option.isSome_some, Nat.zero_le, Bool.false_eq_true, false_implies, Int.cast_ofNat_Int, Int.reduceLT, Int.reduceLE, Int.reduceToNat, Nat.reduceMul, Int.le_refl, Eng.look, putAt, Nat.reduceEqDiff, reduceCtorEq, Nat.reduceBEq, if_false, List.all_cons, List.all_nil, tf_beq, ft_beq, lvSub, lvOK, isNone, width, solid, splice, List.take_zero, List.drop_zero, List.drop_nil, List.take_nil, List.drop_succ_cons, List.take_succ_cons, List.append_nil, beq_self_eq_true, Bool.and_true, Bool.true_and, Bool.and_self, ge_iff_le, gt_iff_lt, Nat.le_refl, Nat.reduceLeDiff, Nat.reduceLT, xf69_L0, ai, al, lt_cast, h0]
    rw [List.take_length]
    exact W_stop (hK _ _ _ _ _ _ _ _ _ _ _ _ _ _ _ _ _ _ _ _ _ _)
  | succ k ih =>
    intro i hi hc j1 j2 j5 j6 j7 j8 j9 j10 j11 j12 j13 j14 j15 j16 j17 j18 j19 j20 j21 j22 j23 j24
    have h1 : i < l.length := by omega
    have h0 : decide (i < l.length) = true := decide_eq_true h1
    refine W_loop (W_run 80 ?_)
    simp only [go_some, go_none, go_zero, nxt_op, nxt_guard, nxt_skip, nxt_region, nxt_drawn, nxt_seq, nxt_block, nxt_scope, nxt_exit, nxt_blk, nxt_lp, nxt_cond, nxt_loop, nxt_ret, nxt_stop, nxt_nil, Eng.start, frG, frF, isCall, stp, exec1, exec1K, keyA, wantedA, stepF, stF_mv, stF_bin, stF_len, stF_un, stF_pick, stF_load, stF_iadr, stF_box, stF_fadr, stF_store, stF_ext, stF_fld, stF_idx, stF_aadr, stF_app, stF_bldS, stF_slc, stF_slcA, stF_bld, stF_isnil, stF_mki, stF_mkf, stF_mkb, mapF_eq, evalF_eq, evalA, setAF, setA, setF_eq, putF_eq, lookF_eq, List.getD_cons_zero, List.getD_cons_succ, List.set_cons_zero, List.set_cons_succ, List.replicate, List.length_cons, List.length_nil, Nat.zero_add, Nat.reduceSub, Nat.reduceAdd, List.cons_append, List.nil_append, Option.getD, drop, Nat.beq, List.length_map, binV, binI, unV, if_true, Eng.asInt, Eng.part, cellsOf, toNat_cast, cast_nonneg, true_and, and_true, if_pos, giveOp, List.getElem?_cons_zero, List.getElem?_cons_succ, Bool.not_true, Bool.not_false, ofVal, eq_self, and_self, true_implies, dfF, touch, regF, quietF, pairOK, noCs, Go.Value.oneCell', decide_true, decide_false, Nat.mul_one, asBound, fullOf, Option.isSome_none, Option.isSome_some, Nat.zero_le, Bool.false_eq_true, false_implies, Int.cast_ofNat_Int, Int.reduceLT, Int.reduceLE, Int.reduceToNat, Nat.reduceMul, Int.le_refl, Eng.look, putAt, Nat.reduceEqDiff, reduceCtorEq, Nat.reduceBEq, if_false, List.all_cons, List.all_nil, tf_beq, ft_beq, lvSub, lvOK, isNone, width, solid, splice, List.take_zero, List.drop_zero, List.drop_nil, List.take_nil, List.drop_succ_cons, List.take_succ_cons, List.append_nil, beq_self_eq_true, Bool.and_true, Bool.true_and, Bool.and_self, ge_iff_le, gt_iff_lt, Nat.le_refl, Nat.reduceLeDiff, Nat.reduceLT, xf69_L0, ai, al, lt_cast, h0, get_al h1, raw_max, opA, argT, Option.elim, rawK]
    rw [← mxF_take h1 hc, wrap_id (by omega) (by omega)]
    exact ih (i + 1) (by omega) (by omega) _ _ _ _ _ _ _ _ _ _ _ _ _ _ _ _ _ _ _ _ _ _
theorem max_run (full : Bool) (l : List Int) (h : 0 < l.length) (hn : l.length ≤ 100000) : Runs Try.prog xf 69 [al full l] (ai (mxF l)) := by
  refine Runs.ofW (fn := xf69) 20 (by kernel_rfl) (W_run 80 ?_)
  have h1 : decide ((l.length : Int) < 1) = false := decide_eq_false (by omega)
  have g := get_al h
  have e : l.getD 0 0 = mxF (l.take 1) := by cases l with | nil => simp at h | cons x t => rfl
  simp only [go_some, go_none, go_zero, nxt_op, nxt_guard, nxt_skip, nxt_region, nxt_drawn, nxt_seq, nxt_block, nxt_scope, nxt_exit, nxt_blk, nxt_lp, nxt_cond, nxt_loop, nxt_ret, nxt_stop, nxt_nil, Eng.start, frG, frF, isCall, stp, exec1, exec1K, keyA, wantedA, stepF, stF_mv, stF_bin, stF_len, stF_un, stF_pick, stF_load, stF_iadr, stF_box, stF_fadr, stF_store, stF_ext, stF_fld, stF_idx, stF_aadr, stF_app, stF_bldS, stF_slc, stF_slcA, stF_bld, stF_isnil, stF_mki, stF_mkf, stF_mkb, mapF_eq, evalF_eq, evalA, setAF, setA, setF_eq, putF_eq, lookF_eq, List.getD_cons_zero, List.getD_cons_succ, List.set_cons_zero, List.set_cons_succ, List.replicate, List.length_cons, List.length_nil, Nat.zero_add, Nat.reduceSub, Nat.reduceAdd, List.cons_append, List.nil_append, Option.getD, drop, Nat.beq, List.length_map, binV, binI, unV, if_true, Eng.asInt, Eng.part, cellsOf, toNat_cast, cast_nonneg, true_and, and_true, if_pos, giveOp, List.getElem?_cons_zero, List.getElem?_cons_succ, Bool.not_true, Bool.not_false, ofVal, eq_self, and_self, true_implies, dfF, touch, regF, quietF, pairOK, noCs, Go.Value.oneCell', decide_true, decide_false, Nat.mul_one, asBound, fullOf, Option.isSome_none, Option.isSome_some, Nat.zero_le, Bool.false_eq_true, false_implies, Int.cast_ofNat_Int, Int.reduceLT, Int.reduceLE, Int.reduceToNat, Nat.reduceMul, Int.le_refl, Eng.look, putAt, Nat.reduceEqDiff, reduceCtorEq, Nat.reduceBEq, if_false, List.all_cons, List.all_nil, tf_beq, ft_beq, lvSub, lvOK, isNone, width, solid, splice, List.take_zero, List.drop_zero, List.drop_nil, List.take_nil, List.drop_succ_cons, List.take_succ_cons, List.append_nil, beq_self_eq_true, Bool.and_true, Bool.true_and, Bool.and_self, ge_iff_le, gt_iff_lt, Nat.le_refl, Nat.reduceLeDiff, Nat.reduceLT, xf69, ai, al, h1, g]
  rw [e]
  refine W_alone (max_loop full l _ _ hn (fun j1 j2 j5 j6 j7 j8 j9 j10 j11 j12 j13 j14 j15 j16 j17 j18 j19 j20 j21 j22 j23 j24 => W_run 80 ?_) (l.length - 1) 1 (by omega) (by omega) _ _ _ _ _ _ _ _ _ _ _ _ _ _ _ _ _ _ _ _ _ _)
  simp only [go_some, go_none, go_zero, nxt_op, nxt_guard, nxt_skip, nxt_region, nxt_drawn, nxt_seq, nxt_block, nxt_scope, nxt_exit, nxt_blk, nxt_lp, nxt_cond, nxt_loop, nxt_ret, nxt_stop, nxt_nil, Eng.start, frG, frF, isCall, stp, exec1, exec1K, keyA, wantedA, stepF, stF_mv, stF_bin, stF_len, stF_un, stF_pick, stF_load, stF_iadr, stF_box, stF_fadr, stF_store, stF_ext, stF_fld, stF_idx, stF_aadr, stF_app, stF_bldS, stF_slc, stF_slcA, stF_bld, stF_isnil, stF_mki, stF_mkf, stF_mkb, mapF_eq, evalF_eq, evalA, setAF, setA, setF_eq, putF_eq, lookF_eq, List.getD_cons_zero, List.getD_cons_succ, List.set_cons_zero, List.set_cons_succ, List.replicate, List.length_cons, List.length_nil, Nat.zero_add, Nat.reduceSub, Nat.reduceAdd, List.cons_append, List.nil_append, Option.getD, drop, Nat.beq, List.length_map, binV, binI, unV, if_true, Eng.asInt, Eng.part, cellsOf, toNat_cast, cast_nonneg, true_and, and_true, if_pos, giveOp, List.getElem?_cons_zero, List.getElem?_cons_succ, Bool.not_true, Bool.not_false, ofVal, eq_self, and_self, true_implies, dfF, touch, regF, quietF, pairOK, noCs, Go.Value.oneCell', decide_true, decide_false, Nat.mul_one, asBound, fullOf, Option.isSome_none, Option.isSome_some, Nat.zero_le, Bool.false_eq_true, false_implies, Int.cast_ofNat_Int, Int.reduceLT, Int.reduceLE, Int.reduceToNat, Nat.reduceMul, Int.le_refl, Eng.look, putAt, Nat.reduceEqDiff, reduceCtorEq, Nat.reduceBEq, if_false, List.all_cons, List.all_nil, tf_beq, ft_beq, lvSub, lvOK, isNone, width, solid, splice, List.take_zero, List.drop_zero, List.drop_nil, List.take_nil, List.drop_succ_cons, List.take_succ_cons, List.append_nil, beq_self_eq_true, Bool.and_true, Bool.true_and, Bool.and_self, ge_iff_le, gt_iff_lt, Nat.le_refl, Nat.reduceLeDiff, Nat.reduceLT, xf69_R0, ai, al]
  exact W_ret1 (WX_nil ⟨.inl rfl, _, rfl, rfl⟩)
end Go.Proofs.Ytimfijmkfdhlmaa


set_option linter.unusedSimpArgs false
set_option linter.unusedVariables false
namespace Go.Proofs.Ytimfijmkfdhlmaa
open Go Go.Proofs.Eng
set_option maxRecDepth 100000
def add1 (t : List Int) (a s : Int) : List Int := t.set a.toNat (t.getD a.toNat 0 + s)
def addP (t : List Int) (p : Int × Int) (s : Int) : List Int := add1 (add1 t p.1 s) p.2 s
/-- what the articles have together after the first i shares -/
def tog (l : List (Int × Int)) (sh : List Int) : Nat → List Int
  | 0 => [0, 0, 0, 0, 0, 0, 0]
  | i + 1 => addP (tog l sh i) (l.getD i (0, 0)) (sh.getD i 0)
theorem add1_len (t : List Int) (a s : Int) : (add1 t a s).length = t.length := by simp [add1]
theorem tog_len (l : List (Int × Int)) (sh : List Int) : ∀ i, (tog l sh i).length = 7
  | 0 => rfl
  | i + 1 => by unfold tog addP; rw [add1_len, add1_len]; exact tog_len l sh i
theorem spl {t : List Int} {j : Nat} {z : Int} (h : j < t.length) : splice (t.map ai) j [ai z] = (t.set j z).map ai := by
  unfold splice
  rw [List.map_set, List.set_eq_take_append_cons_drop, if_pos (by simpa using h)]
  simp
theorem borne_step (full fv : Bool) (m : Int) (l : List (Int × Int)) (sh : List Int) (K : List Fr) (Q : Out → Cfg → Prop) (hn : l.length ≤ 1000) (hsn : sh.length ≤ l.length) (hs : sh.all okH = true) (hl : ∀ p, p ∈ l → 0 ≤ p.1 ∧ p.1 < p.2 ∧ p.2 < 7) (x4 : AV)
    (i : Nat) (h1 : i < sh.length) (t : List Int) (ht : t.length = 7) (hb : ∀ x, x ∈ t → 0 ≤ x ∧ x ≤ 4000)
    (hK : ∀ j3 j6 j7 j8 j9 j13 j14 j15 j16 j17 j18 j19 j20 j21 j22 j23 j24 j25 j26 j27 j28 j29 j30 j31 j32 j33 j34 j35 : AV, W Try.prog (RelU Try.prog xf) 0 (.code (.loop xf53_L1) :: .blk 0 :: .stop :: K) ⟨((bkA m (ap full l)) :: (al fv sh) :: (.ptr (bkA m (ap full l))) :: j3 :: x4 :: (.o 5 1 1 0 0) :: j6 :: j7 :: j8 :: j9 :: (al fv sh) :: (ai sh.length) :: (ai ((i + 1 : Nat) : Int)) :: j13 :: j14 :: j15 :: j16 :: j17 :: j18 :: j19 :: j20 :: j21 :: j22 :: j23 :: j24 :: j25 :: j26 :: j27 :: j28 :: j29 :: j30 :: j31 :: j32 :: j33 :: j34 :: j35 :: []), [(5, (1, some ⟨50, 7, [.ag ((addP t (l.getD i (0, 0)) (sh.getD i 0)).map ai)]⟩))]⟩ Q) :
    ∀ j3 j6 j7 j8 j9 j13 j14 j15 j16 j17 j18 j19 j20 j21 j22 j23 j24 j25 j26 j27 j28 j29 j30 j31 j32 j33 j34 j35 : AV, W Try.prog (RelU Try.prog xf) 0 (.code (.loop xf53_L1) :: .blk 0 :: .stop :: K) ⟨((bkA m (ap full l)) :: (al fv sh) :: (.ptr (bkA m (ap full l))) :: j3 :: x4 :: (.o 5 1 1 0 0) :: j6 :: j7 :: j8 :: j9 :: (al fv sh) :: (ai sh.length) :: (ai i) :: j13 :: j14 :: j15 :: j16 :: j17 :: j18 :: j19 :: j20 :: j21 :: j22 :: j23 :: j24 :: j25 :: j26 :: j27 :: j28 :: j29 :: j30 :: j31 :: j32 :: j33 :: j34 :: j35 :: []), [(5, (1, some ⟨50, 7, [.ag (t.map ai)]⟩))]⟩ Q := by
  intro j3 j6 j7 j8 j9 j13 j14 j15 j16 j17 j18 j19 j20 j21 j22 j23 j24 j25 j26 j27 j28 j29 j30 j31 j32 j33 j34 j35
  have hli : i < l.length := by omega
  have h0 : decide (i < sh.length) = true := decide_eq_true h1
  obtain ⟨p0, p1, p2⟩ := hl _ (getD_mem (d := (0, 0)) hli)
  refine W_loop (W_run 80 ?_)
  simp only [go_some, go_none, go_zero, nxt_op, nxt_guard, nxt_skip, nxt_region, nxt_drawn, nxt_seq, nxt_block, nxt_scope, nxt_exit, nxt_blk, nxt_lp, nxt_cond, nxt_loop, nxt_ret, nxt_stop, nxt_nil, Eng.start, frG, frF, isCall, stp, exec1, exec1K, keyA, wantedA, stepF, stF_mv, stF_bin, stF_len, stF_un, stF_pick, stF_load, stF_iadr, stF_box, stF_fadr, stF_store, stF_ext, stF_fld, stF_idx, stF_aadr, stF_app, stF_bldS, stF_slc, stF_slcA, stF_bld, stF_isnil, stF_mki, stF_mkf, stF_mkb, mapF_eq, evalF_eq, evalA, setAF, setA, setF_eq, putF_eq, lookF_eq, List.getD_cons_zero, List.getD_cons_succ, List.set_cons_zero, List.set_cons_succ, List.replicate, List.length_cons, List.length_nil, Nat.zero_add, Nat.reduceSub, Nat.reduceAdd, List.cons_append, List.nil_append, Option.getD, drop, Nat.beq, List.length_map, binV, binI, unV, if_true, Eng.asInt, Eng.part, cellsOf, toNat_cast, cast_nonneg, true_and, and_true, if_pos, giveOp, List.getElem?_cons_zero, List.getElem?_cons_succ, Bool.not_true, Bool.not_false, ofVal, eq_self, and_self, true_implies, dfF, touch, regF, quietF, pairOK, noCs, Go.Value.oneCell', decide_true, decide_false, Nat.mul_one, asBound, fullOf, Option.isSome_none, Option.isSome_some, Nat.zero_le, Bool.false_eq_true, false_implies, Int.cast_ofNat_Int, Int.reduceLT, Int.reduceLE, Int.reduceToNat, Nat.reduceMul, Int.le_refl, Eng.look, putAt, Nat.reduceEqDiff, reduceCtorEq, Nat.reduceBEq, if_false, List.all_cons, List.all_nil, tf_beq, ft_beq, lvSub, lvOK, isNone, width, solid, splice, List.take_zero, List.drop_zero, List.drop_nil, List.take_nil, List.drop_succ_cons, List.take_succ_cons, List.append_nil, beq_self_eq_true, Bool.and_true, Bool.true_and, Bool.and_self, ge_iff_le, gt_iff_lt, Nat.le_refl, Nat.reduceLeDiff, Nat.reduceLT, xf53_L1, ai, ap, al, bkA, lt_cast, h0, get_al h1, get_ap hli, a2]
  have ha7 : (l.getD i (0, 0)).1 < 7 := by omega
  have hb0 : 0 ≤ (l.getD i (0, 0)).2 := by omega
  have la : (l.getD i (0, 0)).1.toNat + 1 ≤ 7 := by omega
  have lb : (l.getD i (0, 0)).2.toNat + 1 ≤ 7 := by omega
  have bs := getD_ok hs i
  have bt : ∀ j, 0 ≤ t.getD j 0 ∧ t.getD j 0 ≤ 4000 := fun j => by
    rcases Nat.lt_or_ge j t.length with h | h
    · exact hb _ (getD_mem h)
    · rw [List.getD_eq_getElem?_getD, List.getElem?_eq_none h]; simp
  have g1 := get_al (l := t) (i := (l.getD i (0, 0)).1.toNat) (by omega)
  have s1 := spl (t := t) (j := (l.getD i (0, 0)).1.toNat) (z := t.getD (l.getD i (0, 0)).1.toNat 0 + sh.getD i 0) (by omega)
  have w1 : IntKind.i64.wrap (t.getD (l.getD i (0, 0)).1.toNat 0 + sh.getD i 0) = t.getD (l.getD i (0, 0)).1.toNat 0 + sh.getD i 0 := wrap_id (by have := bt (l.getD i (0, 0)).1.toNat; omega) (by have := bt (l.getD i (0, 0)).1.toNat; omega)
  have w01 : IntKind.i64.wrap (0 + 1) = 1 := by rw [wrap_id (by omega) (by omega)]; rfl
  have w12 : IntKind.i64.wrap (1 + 1) = 2 := by rw [wrap_id (by omega) (by omega)]; rfl
  have ht2 : (add1 t (l.getD i (0, 0)).1 (sh.getD i 0)).length = 7 := by rw [add1_len, ht]
  have bt2 : ∀ j, 0 ≤ (add1 t (l.getD i (0, 0)).1 (sh.getD i 0)).getD j 0 ∧ (add1 t (l.getD i (0, 0)).1 (sh.getD i 0)).getD j 0 ≤ 4002 := fun j => by
    unfold add1
    by_cases hj : j = (l.getD i (0, 0)).1.toNat
    · subst hj
      have := bt (l.getD i (0, 0)).1.toNat
      rw [List.getD_eq_getElem?_getD, List.getElem?_set_self (by omega)]; simp only [Option.getD_some]; omega
    · have := bt j
      rw [List.getD_eq_getElem?_getD, List.getElem?_set_ne (Ne.symm hj), ← List.getD_eq_getElem?_getD]; omega
  have g2 := get_al (l := add1 t (l.getD i (0, 0)).1 (sh.getD i 0)) (i := (l.getD i (0, 0)).2.toNat) (by omega)
  have s2 := spl (t := add1 t (l.getD i (0, 0)).1 (sh.getD i 0)) (j := (l.getD i (0, 0)).2.toNat) (z := (add1 t (l.getD i (0, 0)).1 (sh.getD i 0)).getD (l.getD i (0, 0)).2.toNat 0 + sh.getD i 0) (by omega)
  have w2 : IntKind.i64.wrap ((add1 t (l.getD i (0, 0)).1 (sh.getD i 0)).getD (l.getD i (0, 0)).2.toNat 0 + sh.getD i 0) = (add1 t (l.getD i (0, 0)).1 (sh.getD i 0)).getD (l.getD i (0, 0)).2.toNat 0 + sh.getD i 0 := wrap_id (by have := bt2 (l.getD i (0, 0)).2.toNat; omega) (by have := bt2 (l.getD i (0, 0)).2.toNat; omega)
  have f1 : t.set (l.getD i (0, 0)).1.toNat (t.getD (l.getD i (0, 0)).1.toNat 0 + sh.getD i 0) = add1 t (l.getD i (0, 0)).1 (sh.getD i 0) := rfl
  refine W_loop (W_run 80 ?_)
  simp only [ai] at g1 s1 g2 s2
  simp only [go_some, go_none, go_zero, nxt_op, nxt_guard, nxt_skip, nxt_region, nxt_drawn, nxt_seq, nxt_block, nxt_scope, nxt_exit, nxt_blk, nxt_lp, nxt_cond, nxt_loop, nxt_ret, nxt_stop, nxt_nil, Eng.start, frG, frF, isCall, stp, exec1, exec1K, keyA, wantedA, stepF, stF_mv, stF_bin, stF_len, stF_un, stF_pick, stF_load, stF_iadr, stF_box, stF_fadr, stF_store, stF_ext, stF_fld, stF_idx, stF_aadr, stF_app, stF_bldS, stF_slc, stF_slcA, stF_bld, stF_isnil, stF_mki, stF_mkf, stF_mkb, mapF_eq, evalF_eq, evalA, setAF, setA, setF_eq, putF_eq, lookF_eq, List.getD_cons_zero, List.getD_cons_succ, List.set_cons_zero, List.set_cons_succ, List.replicate, List.length_cons, List.length_nil, Nat.zero_add, Nat.reduceSub, Nat.reduceAdd, List.cons_append, List.nil_append, Option.getD, drop, Nat.beq, List.length_map, binV, binI, unV, if_true, Eng.asInt, Eng.part, cellsOf, toNat_cast, cast_nonneg, true_and, and_true, if_pos, giveOp, List.getElem?_cons_zero, List.getElem?_cons_succ, Bool.not_true, Bool.not_false, ofVal, eq_self, and_self, true_implies, dfF, touch, regF, quietF, pairOK, noCs, Go.Value.oneCell', decide_true, decide_false, Nat.mul_one, asBound, fullOf, Option.isSome_none, Option.isSome_some, Nat.zero_le, Bool.false_eq_true, false_implies, Int.cast_ofNat_Int, Int.reduceLT, Int.reduceLE, Int.reduceToNat, Nat.reduceMul, Int.le_refl, Eng.look, putAt, Nat.reduceEqDiff, reduceCtorEq, Nat.reduceBEq, if_false, List.all_cons, List.all_nil, tf_beq, ft_beq, lvSub, lvOK, isNone, width, solid, List.take_zero, List.drop_zero, List.drop_nil, List.take_nil, List.drop_succ_cons, List.take_succ_cons, List.append_nil, beq_self_eq_true, Bool.and_true, Bool.true_and, Bool.and_self, ge_iff_le, gt_iff_lt, Nat.le_refl, Nat.reduceLeDiff, Nat.reduceLT, xf53_L0, ai, p0, ha7, ht, la, g1, s1, w1, w01, f1]
  refine W_loop (W_run 80 ?_)
  simp only [go_some, go_none, go_zero, nxt_op, nxt_guard, nxt_skip, nxt_region, nxt_drawn, nxt_seq, nxt_block, nxt_scope, nxt_exit, nxt_blk, nxt_lp, nxt_cond, nxt_loop, nxt_ret, nxt_stop, nxt_nil, Eng.start, frG, frF, isCall, stp, exec1, exec1K, keyA, wantedA, stepF, stF_mv, stF_bin, stF_len, stF_un, stF_pick, stF_load, stF_iadr, stF_box, stF_fadr, stF_store, stF_ext, stF_fld, stF_idx, stF_aadr, stF_app, stF_bldS, stF_slc, stF_slcA, stF_bld, stF_isnil, stF_mki, stF_mkf, stF_mkb, mapF_eq, evalF_eq, evalA, setAF, setA, setF_eq, putF_eq, lookF_eq, List.getD_cons_zero, List.getD_cons_succ, List.set_cons_zero, List.set_cons_succ, List.replicate, List.length_cons, List.length_nil, Nat.zero_add, Nat.reduceSub, Nat.reduceAdd, List.cons_append, List.nil_append, Option.getD, drop, Nat.beq, List.length_map, binV, binI, unV, if_true, Eng.asInt, Eng.part, cellsOf, toNat_cast, cast_nonneg, true_and, and_true, if_pos, giveOp, List.getElem?_cons_zero, List.getElem?_cons_succ, Bool.not_true, Bool.not_false, ofVal, eq_self, and_self, true_implies, dfF, touch, regF, quietF, pairOK, noCs, Go.Value.oneCell', decide_true, decide_false, Nat.mul_one, asBound, fullOf, Option.isSome_none, Option.isSome_some, Nat.zero_le, Bool.false_eq_true, false_implies, Int.cast_ofNat_Int, Int.reduceLT, Int.reduceLE, Int.reduceToNat, Nat.reduceMul, Int.le_refl, Eng.look, putAt, Nat.reduceEqDiff, reduceCtorEq, Nat.reduceBEq, if_false, List.all_cons, List.all_nil, tf_beq, ft_beq, lvSub, lvOK, isNone, width, solid, List.take_zero, List.drop_zero, List.drop_nil, List.take_nil, List.drop_succ_cons, List.take_succ_cons, List.append_nil, beq_self_eq_true, Bool.and_true, Bool.true_and, Bool.and_self, ge_iff_le, gt_iff_lt, Nat.le_refl, Nat.reduceLeDiff, Nat.reduceLT, xf53_L0, ai, hb0, p2, ht2, lb, g2, s2, w2, w12]
  refine W_loop (W_run 80 ?_)
  simp only [go_some, go_none, go_zero, nxt_op, nxt_guard, nxt_skip, nxt_region, nxt_drawn, nxt_seq, nxt_block, nxt_scope, nxt_exit, nxt_blk, nxt_lp, nxt_cond, nxt_loop, nxt_ret, nxt_stop, nxt_nil, Eng.start, frG, frF, isCall, stp, exec1, exec1K, keyA, wantedA, stepF, stF_mv, stF_bin, stF_len, stF_un, stF_pick, stF_load, stF_iadr, stF_box, stF_fadr, stF_store, stF_ext, stF_fld, stF_idx, stF_aadr, stF_app, stF_bldS, stF_slc, stF_slcA, stF_bld, stF_isnil, stF_mki, stF_mkf, stF_mkb, mapF_eq, evalF_eq, evalA, setAF, setA, setF_eq, putF_eq, lookF_eq, List.getD_cons_zero, List.getD_cons_succ, List.set_cons_zero, List.set_cons_succ, List.replicate, List.length_cons, List.length_nil, Nat.zero_add, Nat.reduceSub, Nat.reduceAdd, List.cons_append, List.nil_append, Option.getD, drop, Nat.beq, List.length_map, binV, binI, unV, if_true, Eng.asInt, Eng.part, cellsOf, toNat_cast, cast_nonneg, true_and, and_true, if_pos, giveOp, List.getElem?_cons_zero, List.getElem?_cons_succ, Bool.not_true, Bool.not_false, ofVal, eq_self, and_self, true_implies, dfF, touch, regF, quietF, pairOK, noCs, Go.Value.oneCell', decide_true, decide_false, Nat.mul_one, asBound, fullOf, Option.isSome_none, Option.isSome_some, Nat.zero_le, Bool.false_eq_true, false_implies, Int.cast_ofNat_Int, Int.reduceLT, Int.reduceLE, Int.reduceToNat, Nat.reduceMul, Int.le_refl, Eng.look, putAt, Nat.reduceEqDiff, reduceCtorEq, Nat.reduceBEq, if_false, List.all_cons, List.all_nil, tf_beq, ft_beq, lvSub, lvOK, isNone, width, solid, List.take_zero, List.drop_zero, List.drop_nil, List.take_nil, List.drop_succ_cons, List.take_succ_cons, List.append_nil, beq_self_eq_true, Bool.and_true, Bool.true_and, Bool.and_self, ge_iff_le, gt_iff_lt, Nat.le_refl, Nat.reduceLeDiff, Nat.reduceLT, xf53_L0, xf53_R0]
  rw [wrap_id (by omega) (by omega)]
  exact hK _ _ _ _ _ _ _ _ _ _ _ _ _ _ _ _ _ _ _ _ _ _ _ _ _ _ _ _
theorem add1_le {t : List Int} {a s b : Int} (hb : ∀ x, x ∈ t → 0 ≤ x ∧ x ≤ b) (hb0 : 0 ≤ b) (hs : 0 ≤ s ∧ s ≤ 2) : ∀ x, x ∈ add1 t a s → 0 ≤ x ∧ x ≤ b + 2 := by
  intro x hx
  unfold add1 at hx
  rcases List.mem_or_eq_of_mem_set hx with h | h
  · have := hb x h; omega
  · rcases Nat.lt_or_ge a.toNat t.length with q | q
    · have := hb _ (getD_mem (d := 0) q); omega
    · rw [List.getD_eq_getElem?_getD, List.getElem?_eq_none q] at h; simp at h; omega
theorem tog_le {l : List (Int × Int)} {sh : List Int} (hs : sh.all okH = true) : ∀ (i : Nat) (x : Int), x ∈ tog l sh i → 0 ≤ x ∧ x ≤ 4 * (i : Int)
  | 0, x, hx => by simp [tog] at hx; subst hx; simp
  | i + 1, x, hx => by
    have h := add1_le (add1_le (tog_le hs i) (by omega) (getD_ok hs i)) (by omega) (getD_ok hs i) x hx
    omega
theorem borne_loop (full fv : Bool) (m : Int) (l : List (Int × Int)) (sh : List Int) (K : List Fr) (Q : Out → Cfg → Prop) (hn : l.length ≤ 1000) (hsn : sh.length ≤ l.length) (hs : sh.all okH = true) (hl : ∀ p, p ∈ l → 0 ≤ p.1 ∧ p.1 < p.2 ∧ p.2 < 7) (x4 : AV)
    (hK : ∀ j3 j6 j7 j8 j9 j13 j14 j15 j16 j17 j18 j19 j20 j21 j22 j23 j24 j25 j26 j27 j28 j29 j30 j31 j32 j33 j34 j35 : AV, W Try.prog (RelU Try.prog xf) 0 K ⟨((bkA m (ap full l)) :: (al fv sh) :: (.ptr (bkA m (ap full l))) :: j3 :: x4 :: (.o 5 1 1 0 0) :: j6 :: j7 :: j8 :: j9 :: (al fv sh) :: (ai sh.length) :: (ai sh.length) :: j13 :: j14 :: j15 :: j16 :: j17 :: j18 :: j19 :: j20 :: j21 :: j22 :: j23 :: j24 :: j25 :: j26 :: j27 :: j28 :: j29 :: j30 :: j31 :: j32 :: j33 :: j34 :: j35 :: []), [(5, (1, some ⟨50, 7, [.ag ((tog l sh sh.length).map ai)]⟩))]⟩ Q) :
    ∀ (k i : Nat), i + k = sh.length → ∀ j3 j6 j7 j8 j9 j13 j14 j15 j16 j17 j18 j19 j20 j21 j22 j23 j24 j25 j26 j27 j28 j29 j30 j31 j32 j33 j34 j35 : AV, W Try.prog (RelU Try.prog xf) 0 (.code (.loop xf53_L1) :: .blk 0 :: .stop :: K) ⟨((bkA m (ap full l)) :: (al fv sh) :: (.ptr (bkA m (ap full l))) :: j3 :: x4 :: (.o 5 1 1 0 0) :: j6 :: j7 :: j8 :: j9 :: (al fv sh) :: (ai sh.length) :: (ai i) :: j13 :: j14 :: j15 :: j16 :: j17 :: j18 :: j19 :: j20 :: j21 :: j22 :: j23 :: j24 :: j25 :: j26 :: j27 :: j28 :: j29 :: j30 :: j31 :: j32 :: j33 :: j34 :: j35 :: []), [(5, (1, some ⟨50, 7, [.ag ((tog l sh i).map ai)]⟩))]⟩ Q := by
  intro k
  induction k with
  | zero =>
    intro i hi j3 j6 j7 j8 j9 j13 j14 j15 j16 j17 j18 j19 j20 j21 j22 j23 j24 j25 j26 j27 j28 j29 j30 j31 j32 j33 j34 j35
    have : i = sh.length := by omega
    subst this
    have h0 : decide (sh.length < sh.length) = false := by simp
    refine W_loop (W_run 80 ?_)
    simp only [go_some, go_none, go_zero, nxt_op, nxt_guard, nxt_skip, nxt_region, nxt_drawn, nxt_seq, nxt_block, nxt_scope, nxt_exit, nxt_blk, nxt_lp, nxt_cond, nxt_loop, nxt_ret, nxt_stop, nxt_nil, Eng.start, frG, frF, isCall, stp, exec1, exec1K, keyA, wantedA, stepF, stF_mv, stF_bin, stF_len, stF_un, stF_pick, stF_load, stF_iadr, stF_box, stF_fadr, stF_store, stF_ext, stF_fld, stF_idx, stF_aadr, stF_app, stF_bldS, stF_slc, stF_slcA, stF_bld, stF_isnil, stF_mki, stF_mkf, stF_mkb, mapF_eq, evalF_eq, evalA, setAF, setA, setF_eq, putF_eq, lookF_eq, List.getD_cons_zero, List.getD_cons_succ, List.set_cons_zero, List.set_cons_succ, List.replicate, List.length_cons, List.length_nil, Nat.zero_add, Nat.reduceSub, Nat.reduceAdd, List.cons_append, List.nil_append, Option.getD, drop, Nat.beq, List.length_map, binV, binI, unV, if_true, Eng.asInt, Eng.part, cellsOf, toNat_cast, cast_nonneg, true_and, and_true, if_pos, giveOp, List.getElem?_cons_zero, List.getElem?_cons_succ, Bool.not_true, Bool.not_false, ofVal, eq_self, and_self, true_implies, dfF, touch, regF, quietF, pairOK, noCs, Go.Value.oneCell', decide_true, decide_false, Nat.mul_one, asBound, fullOf, Option.isSome_none, Option.isSome_some, Nat.zero_le, Bool.false_eq_true, false_implies, Int.cast_ofNat_Int, Int.reduceLT, Int.reduceLE, Int.reduceToNat, Nat.reduceMul, Int.le_refl, Eng.look, putAt, Nat.reduceEqDiff, reduceCtorEq, Nat.reduceBEq, if_false, List.all_cons, List.all_nil, tf_beq, ft_beq, lvSub, lvOK, isNone, width, solid, splice, List.take_zero, List.drop_zero, List.drop_nil, List.take_nil, List.drop_succ_cons, List.take_succ_cons, List.append_nil, beq_self_eq_true, Bool.and_true, Bool.true_and, Bool.and_self, ge_iff_le, gt_iff_lt, Nat.le_refl, Nat.reduceLeDiff, Nat.reduceLT, xf53_L1, ai, al, lt_cast, h0]
    exact W_stop (hK _ _ _ _ _ _ _ _ _ _ _ _ _ _ _ _ _ _ _ _ _ _ _ _ _ _ _ _)
  | succ k ih =>
    intro i hi j3 j6 j7 j8 j9 j13 j14 j15 j16 j17 j18 j19 j20 j21 j22 j23 j24 j25 j26 j27 j28 j29 j30 j31 j32 j33 j34 j35
    exact borne_step full fv m l sh K Q hn hsn hs hl x4 i (by omega) _ (tog_len l sh i) (fun x hx => by have := tog_le hs i x hx; omega) (fun j3 j6 j7 j8 j9 j13 j14 j15 j16 j17 j18 j19 j20 j21 j22 j23 j24 j25 j26 j27 j28 j29 j30 j31 j32 j33 j34 j35 => ih (i + 1) (by omega) _ _ _ _ _ _ _ _ _ _ _ _ _ _ _ _ _ _ _ _ _ _ _ _ _ _ _ _) _ _ _ _ _ _ _ _ _ _ _ _ _ _ _ _ _ _ _ _ _ _ _ _ _ _ _ _
def borneB (l : List (Int × Int)) (sh : List Int) : Bool := decide (mxF (tog l sh sh.length) ≤ 2)
theorem chunk7 {t : List Int} (ht : t.length = 7) : chunkA false 1 (t.map ai) 7 = some (t.map ai) := by
  match t, ht with
  | [a, b, c, d, e, f, g], _ => rfl
theorem take7 {t : List Int} (ht : t.length = 7) : (t.map ai).take 7 = t.map ai := List.take_of_length_le (by simp [ht])
theorem borne_run (full fv : Bool) (m : Int) (l : List (Int × Int)) (sh : List Int) (hn : l.length ≤ 1000) (hsn : sh.length ≤ l.length) (hs : sh.all okH = true) (hl : ∀ p, p ∈ l → 0 ≤ p.1 ∧ p.1 < p.2 ∧ p.2 < 7) :
    Runs Try.prog xf 53 [bkA m (ap full l), al fv sh] (ab (borneB l sh)) := by
  refine Runs.ofW (fn := xf53) 20 (by kernel_rfl) (W_run 80 ?_)
  simp only [go_some, go_none, go_zero, nxt_op, nxt_guard, nxt_skip, nxt_region, nxt_drawn, nxt_seq, nxt_block, nxt_scope, nxt_exit, nxt_blk, nxt_lp, nxt_cond, nxt_loop, nxt_ret, nxt_stop, nxt_nil, Eng.start, frG, frF, isCall, stp, exec1, exec1K, keyA, wantedA, stepF, stF_mv, stF_bin, stF_len, stF_un, stF_pick, stF_load, stF_iadr, stF_box, stF_fadr, stF_store, stF_ext, stF_fld, stF_idx, stF_aadr, stF_app, stF_bldS, stF_slc, stF_slcA, stF_bld, stF_isnil, stF_mki, stF_mkf, stF_mkb, mapF_eq, evalF_eq, evalA, setAF, setA, setF_eq, putF_eq, lookF_eq, List.getD_cons_zero, List.getD_cons_succ, List.set_cons_zero, List.set_cons_succ, List.replicate, List.length_cons, List.length_nil, Nat.zero_add, Nat.reduceSub, Nat.reduceAdd, List.cons_append, List.nil_append, Option.getD, drop, Nat.beq, List.length_map, binV, binI, unV, if_true, Eng.asInt, Eng.part, cellsOf, toNat_cast, cast_nonneg, true_and, and_true, if_pos, giveOp, List.getElem?_cons_zero, List.getElem?_cons_succ, Bool.not_true, Bool.not_false, ofVal, eq_self, and_self, true_implies, dfF, touch, regF, quietF, pairOK, noCs, Go.Value.oneCell', decide_true, decide_false, Nat.mul_one, asBound, fullOf, Option.isSome_none, Option.isSome_some, Nat.zero_le, Bool.false_eq_true, false_implies, Int.cast_ofNat_Int, Int.reduceLT, Int.reduceLE, Int.reduceToNat, Nat.reduceMul, Int.le_refl, Eng.look, putAt, Nat.reduceEqDiff, reduceCtorEq, Nat.reduceBEq, if_false, List.all_cons, List.all_nil, tf_beq, ft_beq, lvSub, lvOK, isNone, width, solid, splice, List.take_zero, List.drop_zero, List.drop_nil, List.take_nil, List.drop_succ_cons, List.take_succ_cons, List.append_nil, beq_self_eq_true, Bool.and_true, Bool.true_and, Bool.and_self, ge_iff_le, gt_iff_lt, Nat.le_refl, Nat.reduceLeDiff, Nat.reduceLT, xf53, bkA, ai, ap, al]
  refine W_alone (borne_loop full fv m l sh _ _ hn hsn hs hl _ (fun j3 j6 j7 j8 j9 j13 j14 j15 j16 j17 j18 j19 j20 j21 j22 j23 j24 j25 j26 j27 j28 j29 j30 j31 j32 j33 j34 j35 => W_run 80 ?_) sh.length 0 (by omega) _ _ _ _ _ _ _ _ _ _ _ _ _ _ _ _ _ _ _ _ _ _ _ _ _ _ _ _)
  have ht := tog_len l sh sh.length
  have c7 := chunk7 ht
  have k7 := take7 ht
  generalize hT : tog l sh sh.length = T at ht c7 k7
  simp only [go_some, go_none, go_zero, nxt_op, nxt_guard, nxt_skip, nxt_region, nxt_drawn, nxt_seq, nxt_block, nxt_scope, nxt_exit, nxt_blk, nxt_lp, nxt_cond, nxt_loop, nxt_ret, nxt_stop, nxt_nil, Eng.start, frG, frF, isCall, stp, exec1, exec1K, keyA, wantedA, stepF, stF_mv, stF_bin, stF_len, stF_un, stF_pick, stF_load, stF_iadr, stF_box, stF_fadr, stF_store, stF_ext, stF_fld, stF_idx, stF_aadr, stF_app, stF_bldS, stF_slc, stF_slcA, stF_bld, stF_isnil, stF_mki, stF_mkf, stF_mkb, mapF_eq, evalF_eq, evalA, setAF, setA, setF_eq, putF_eq, lookF_eq, List.getD_cons_zero, List.getD_cons_succ, List.set_cons_zero, List.set_cons_succ, List.replicate, List.length_cons, List.length_nil, Nat.zero_add, Nat.reduceSub, Nat.reduceAdd, List.cons_append, List.nil_append, Option.getD, drop, Nat.beq, List.length_map, binV, binI, unV, if_true, Eng.asInt, Eng.part, cellsOf, toNat_cast, cast_nonneg, true_and, and_true, if_pos, giveOp, List.getElem?_cons_zero, List.getElem?_cons_succ, Bool.not_true, Bool.not_false, ofVal, eq_self, and_self, true_implies, dfF, touch, regF, quietF, pairOK, noCs, Go.Value.oneCell', decide_true, decide_false, Nat.mul_one, asBound, fullOf, Option.isSome_none, Option.isSome_some, Nat.zero_le, Bool.false_eq_true, false_implies, Int.cast_ofNat_Int, Int.reduceLT, Int.reduceLE, Int.reduceToNat, Nat.reduceMul, Int.le_refl, Eng.look, putAt, Nat.reduceEqDiff, reduceCtorEq, Nat.reduceBEq, if_false, List.all_cons, List.all_nil, tf_beq, ft_beq, lvSub, lvOK, isNone, width, solid, splice, List.take_zero, List.drop_zero, List.drop_nil, List.take_nil, List.drop_succ_cons, List.take_succ_cons, List.append_nil, beq_self_eq_true, Bool.and_true, Bool.true_and, Bool.and_self, ge_iff_le, gt_iff_lt, Nat.le_refl, Nat.reduceLeDiff, Nat.reduceLT, xf53_R1, ai, c7, k7, ht]
  refine W_call (args := [al true T]) rfl (by simp [noRefs, noRef_al]) (max_run true T (by omega) (by omega)) rfl (W_run 80 ?_)
  simp only [go_some, go_none, go_zero, nxt_op, nxt_guard, nxt_skip, nxt_region, nxt_drawn, nxt_seq, nxt_block, nxt_scope, nxt_exit, nxt_blk, nxt_lp, nxt_cond, nxt_loop, nxt_ret, nxt_stop, nxt_nil, Eng.start, frG, frF, isCall, stp, exec1, exec1K, keyA, wantedA, stepF, stF_mv, stF_bin, stF_len, stF_un, stF_pick, stF_load, stF_iadr, stF_box, stF_fadr, stF_store, stF_ext, stF_fld, stF_idx, stF_aadr, stF_app, stF_bldS, stF_slc, stF_slcA, stF_bld, stF_isnil, stF_mki, stF_mkf, stF_mkb, mapF_eq, evalF_eq, evalA, setAF, setA, setF_eq, putF_eq, lookF_eq, List.getD_cons_zero, List.getD_cons_succ, List.set_cons_zero, List.set_cons_succ, List.replicate, List.length_cons, List.length_nil, Nat.zero_add, Nat.reduceSub, Nat.reduceAdd, List.cons_append, List.nil_append, Option.getD, drop, Nat.beq, List.length_map, binV, binI, unV, if_true, Eng.asInt, Eng.part, cellsOf, toNat_cast, cast_nonneg, true_and, and_true, if_pos, giveOp, List.getElem?_cons_zero, List.getElem?_cons_succ, Bool.not_true, Bool.not_false, ofVal, eq_self, and_self, true_implies, dfF, touch, regF, quietF, pairOK, noCs, Go.Value.oneCell', decide_true, decide_false, Nat.mul_one, asBound, fullOf, Option.isSome_none, Option.isSome_some, Nat.zero_le, Bool.false_eq_true, false_implies, Int.cast_ofNat_Int, Int.reduceLT, Int.reduceLE, Int.reduceToNat, Nat.reduceMul, Int.le_refl, Eng.look, putAt, Nat.reduceEqDiff, reduceCtorEq, Nat.reduceBEq, if_false, List.all_cons, List.all_nil, tf_beq, ft_beq, lvSub, lvOK, isNone, width, solid, splice, List.take_zero, List.drop_zero, List.drop_nil, List.take_nil, List.drop_succ_cons, List.take_succ_cons, List.append_nil, beq_self_eq_true, Bool.and_true, Bool.true_and, Bool.and_self, ge_iff_le, gt_iff_lt, Nat.le_refl, Nat.reduceLeDiff, Nat.reduceLT, ai]
  exact W_ret1 (WX_nil ⟨.inl rfl, _, rfl, by unfold borneB; rw [hT]; rfl⟩)
end Go.Proofs.Ytimfijmkfdhlmaa

