/-
  The greater of two numbers, slices.Max, conversions; lists of numbers that may be nil.
-/
import Derived.Test.YtliklcopmapfaaaDoorXT
import Derived.Test.YtliklcopmapfaaaDoorEngT
import Derived.WalkKit
set_option linter.unusedSimpArgs false
set_option linter.unusedVariables false
namespace Go.Proofs.YtliklcopmapfaaaDoor
open Go Go.Proofs.Eng
set_option maxRecDepth 100000
set_option maxHeartbeats 1000000
theorem d00 : decide ((0 : Int) < 0) = false := rfl
theorem tmod_b {a n : Int} (h : 0 ≤ a) (hn : 0 < n) : 0 ≤ a.tmod n ∧ a.tmod n < n := by
  rw [Int.tmod_eq_emod_of_nonneg h]
  exact ⟨Int.emod_nonneg _ (by omega), Int.emod_lt_of_pos _ hn⟩
def nilA : AV := .v (.slice none 0 0)
def isL (x : AV) (l : List Int) : Prop := (∃ f, x = al f l) ∨ (x = nilA ∧ l = [])
theorem noRef_al (full : Bool) (l : List Int) : noRef (al full l) = true := noRefs_of fun x hx => by obtain ⟨z, _, rfl⟩ := List.mem_map.1 hx; rfl
theorem isL.ref {x : AV} {l : List Int} (h : isL x l) : noRef x = true := by
  rcases h with ⟨f, rfl⟩ | ⟨rfl, _⟩
  · exact noRef_al f l
  · rfl
theorem pureRun_bind (P : Program) {α β : Type} (s : Sem α) (f : α → Sem β) : pureRun P (s >>= f) = (pureRun P s).bind fun a => pureRun P (f a) := by
  show pureRun P (Sem.bind s f) = _
  induction s with
  | pure a => rfl
  | program k ih => exact ih P
  | _ => rfl
theorem pureRun_pure (P : Program) {α : Type} (a : α) : pureRun P (pure a : Sem α) = some a := rfl
theorem pureRun_program (P : Program) : pureRun P program = some P := rfl
theorem und1 : pureRun Tryd.prog (underlying 3) = some (.int .i64) := by kernel_rfl
def opA (σ : List AV) (x : Operand) : AV := (argT x).elim .any (evalA σ)
theorem toVal_op {σ : List AV} {x : Operand} {k : IntKind} {a : Int} (hi : opA σ x = .v (.int k a)) : ((argT x).bind fun xa => toVal (evalF σ xa)) = some (.int k a) := by
  unfold opA at hi
  cases h : argT x with
  | none => rw [h] at hi; cases hi
  | some xa =>
    rw [h] at hi
    simp only [Option.elim] at hi
    rw [Option.bind_some, evalF_eq, hi]; rfl
/-- two numbers are looked at; if there are none, whatever else -/
def rawK (x y : AV) (op : Int → Int → Int) (fb : Option Res) : Option Res :=
  match x, y with
  | .v (.int .i64 a), .v (.int .i64 b) => some (.val (.v (.int .i64 (op a b))))
  | _, _ => fb
def rawX (P : Program) (dst : Nat) (c : Cfg) (o : Op) (ty : Nat) : Option Res := stF_raw P dst c o ty
def mx2 (a b : Int) : Int := if b > a then b else a
def mn2 (a b : Int) : Int := if b < a then b else a
theorem raw_max (dst : Nat) (c : Cfg) (x y : Operand) (ts : Array TypeId) (ty : TypeId) :
    stF_raw Tryd.prog dst c (.call ⟨.builtin .max, #[x, y], ts⟩) ty = rawK (opA c.σ x) (opA c.σ y) mx2 (rawX Tryd.prog dst c (.call ⟨.builtin .max, #[x, y], ts⟩) ty) := by
  unfold rawK
  split
  · rename_i a b hi hj
    have e1 := toVal_op hi
    have e2 := toVal_op hj
    unfold stF_raw
    rw [if_pos ⟨rfl, by simp [Op.operands, Call.operands, e1, e2]⟩]
    have h3 : pureRun Tryd.prog (execOp (fun x => ((argT x).bind fun xa => toVal (evalF c.σ xa)).getD (.bool false)) { dst := none, op := .call ⟨.builtin .max, #[x, y], ts⟩, type := ty, pos := "", after := #[], guard := none }) = some (.value (.int .i64 (mx2 a b))) := by
      simp only [execOp, resolve, invoke, pureRun_bind, pureRun_pure, Option.bind_some, List.map_toArray, List.map_cons, List.map_nil, e1, e2, Option.getD_some]
      show pureRun Tryd.prog (do pure (.value (← Builtin.max_ ts ty #[.int .i64 a, .int .i64 b])) : Sem Next) = _
      rw [pureRun_bind]
      have h4 : pureRun Tryd.prog (Builtin.max_ ts ty #[.int .i64 a, .int .i64 b]) = some (.int .i64 (mx2 a b)) := by
        simp [Builtin.max_, Builtin.max2, pureRun_bind, pureRun_pure, mx2]
      rw [h4]; rfl
    rw [h3]; rfl
  · rfl
theorem raw_min (dst : Nat) (c : Cfg) (x y : Operand) (ts : Array TypeId) (ty : TypeId) :
    stF_raw Tryd.prog dst c (.call ⟨.builtin .min, #[x, y], ts⟩) ty = rawK (opA c.σ x) (opA c.σ y) mn2 (rawX Tryd.prog dst c (.call ⟨.builtin .min, #[x, y], ts⟩) ty) := by
  unfold rawK
  split
  · rename_i a b hi hj
    have e1 := toVal_op hi
    have e2 := toVal_op hj
    unfold stF_raw
    rw [if_pos ⟨rfl, by simp [Op.operands, Call.operands, e1, e2]⟩]
    have h3 : pureRun Tryd.prog (execOp (fun x => ((argT x).bind fun xa => toVal (evalF c.σ xa)).getD (.bool false)) { dst := none, op := .call ⟨.builtin .min, #[x, y], ts⟩, type := ty, pos := "", after := #[], guard := none }) = some (.value (.int .i64 (mn2 a b))) := by
      simp only [execOp, resolve, invoke, pureRun_bind, pureRun_pure, Option.bind_some, List.map_toArray, List.map_cons, List.map_nil, e1, e2, Option.getD_some]
      show pureRun Tryd.prog (do pure (.value (← Builtin.min_ ts ty #[.int .i64 a, .int .i64 b])) : Sem Next) = _
      rw [pureRun_bind]
      have h4 : pureRun Tryd.prog (Builtin.min_ ts ty #[.int .i64 a, .int .i64 b]) = some (.int .i64 (mn2 a b)) := by
        simp [Builtin.min_, Builtin.min2, pureRun_bind, pureRun_pure, mn2]
      rw [h4]; rfl
    rw [h3]; rfl
  · rfl
/-- the greatest of numbers -/
def mxF : List Int → Int
  | [] => 0
  | x :: t => t.foldl mx2 x
theorem mxF_take {l : List Int} {i : Nat} (h : i < l.length) (h0 : 0 < i) : mxF (l.take (i + 1)) = mx2 (mxF (l.take i)) (l.getD i 0) := by
  have e : l.getD i 0 = l[i] := by rw [List.getD_eq_getElem?_getD, List.getElem?_eq_getElem h]; rfl
  rw [e, ← List.take_append_getElem h]
  cases l with
  | nil => simp at h
  | cons x t =>
    obtain ⟨j, rfl⟩ : ∃ j, i = j + 1 := ⟨i - 1, by omega⟩
    simp only [List.take_succ_cons, List.cons_append, mxF, List.foldl_append, List.foldl_cons, List.foldl_nil]
theorem mx_ge {l : List Int} : ∀ {a : Int}, a ≤ l.foldl mx2 a ∧ ∀ x, x ∈ l → x ≤ l.foldl mx2 a := by
  induction l with
  | nil => intro a; exact ⟨Int.le_refl _, fun x h => by cases h⟩
  | cons y l ih =>
    intro a
    obtain ⟨h1, h2⟩ := ih (a := mx2 a y)
    have h3 : a ≤ mx2 a y ∧ y ≤ mx2 a y := by unfold mx2; split <;> omega
    refine ⟨Int.le_trans h3.1 h1, fun x hx => ?_⟩
    rcases List.mem_cons.1 hx with rfl | hx
    · exact Int.le_trans h3.2 h1
    · exact h2 x hx
theorem mx_le {l : List Int} {b : Int} : ∀ {a : Int}, a ≤ b → (∀ x, x ∈ l → x ≤ b) → l.foldl mx2 a ≤ b := by
  induction l with
  | nil => intro a h _; exact h
  | cons y l ih =>
    intro a h1 h2
    exact ih (by unfold mx2; split; exact h2 y List.mem_cons_self; exact h1) fun x hx => h2 x (List.mem_cons_of_mem _ hx)
theorem mxF_le {l : List Int} {b : Int} (h : l ≠ []) : mxF l ≤ b ↔ ∀ x, x ∈ l → x ≤ b := by
  cases l with
  | nil => exact absurd rfl h
  | cons y l =>
    refine ⟨fun q x hx => ?_, fun q => mx_le (q y List.mem_cons_self) fun x hx => q x (List.mem_cons_of_mem _ hx)⟩
    have := mx_ge (l := l) (a := y)
    rcases List.mem_cons.1 hx with rfl | hx
    · exact Int.le_trans this.1 q
    · exact Int.le_trans (this.2 x hx) q
theorem max_loop (full : Bool) (l : List Int) (K : List Fr) (Q : Out → Cfg → Prop) (hn : l.length ≤ 100000)
    (hK : ∀ j1 j2 j5 j6 j7 j8 j9 j10 j11 j12 j13 j14 j15 j16 j17 j18 j19 j20 j21 j22 j23 j24 : AV, W Tryd.prog (RelU Tryd.prog xf) 0 K ⟨((al full l) :: j1 :: j2 :: (ai (mxF l)) :: (ai l.length) :: j5 :: j6 :: j7 :: j8 :: j9 :: j10 :: j11 :: j12 :: j13 :: j14 :: j15 :: j16 :: j17 :: j18 :: j19 :: j20 :: j21 :: j22 :: j23 :: j24 :: []), []⟩ Q) :
    ∀ (k i : Nat), i + k = l.length → 0 < i → ∀ j1 j2 j5 j6 j7 j8 j9 j10 j11 j12 j13 j14 j15 j16 j17 j18 j19 j20 j21 j22 j23 j24 : AV, W Tryd.prog (RelU Tryd.prog xf) 0 (.code (.loop xf17_L0) :: .blk 0 :: .stop :: K) ⟨((al full l) :: j1 :: j2 :: (ai (mxF (l.take i))) :: (ai i) :: j5 :: j6 :: j7 :: j8 :: j9 :: j10 :: j11 :: j12 :: j13 :: j14 :: j15 :: j16 :: j17 :: j18 :: j19 :: j20 :: j21 :: j22 :: j23 :: j24 :: []), []⟩ Q := by
  intro k
  induction k with
  | zero =>
    intro i hi hc j1 j2 j5 j6 j7 j8 j9 j10 j11 j12 j13 j14 j15 j16 j17 j18 j19 j20 j21 j22 j23 j24
    have : i = l.length := by omega
    subst this
    have h0 : decide (l.length < l.length) = false := by simp
    refine W_loop (W_run 80 ?_)
    simp only [go_some, go_none, go_zero, nxt_op, nxt_guard, nxt_skip, nxt_label, nxt_region, nxt_drawn, nxt_seq, nxt_block, nxt_scope, nxt_exit, nxt_blk, nxt_lp, nxt_cond, nxt_loop, nxt_ret, nxt_stop, nxt_nil, Eng.start, frG, frF, isCall, stp, exec1, exec1K, dK, Nat.reduceDiv, keyA, wantedA, stepF, stF_mv, stF_bin, stF_len, stF_un, stF_pick, stF_load, stF_iadr, stF_box, stF_fadr, stF_store, stF_ext, stF_fld, stF_idx, stF_aadr, stF_app, stF_bldS, stF_slc, stF_slcA, stF_bld, stF_isnil, stF_mki, stF_mkf, stF_mkb, mapF_eq, evalF_eq, evalA, setAF, setA, setF_eq, putF_eq, lookF_eq, List.getD_cons_zero, List.getD_cons_succ, List.set_cons_zero, List.set_cons_succ, List.replicate, List.length_cons, List.length_nil, Nat.zero_add, Nat.reduceSub, Nat.reduceAdd, List.cons_append, List.nil_append, Option.getD, drop, Nat.beq, List.length_map, binV, binI, unV, if_true, Eng.asInt, Eng.part, cellsOf, toNat_cast, cast_nonneg, true_and, and_true, if_pos, giveOp, gvK, List.getElem?_cons_zero, List.getElem?_cons_succ, Bool.not_true, Bool.not_false, ofVal, eq_self, and_self, true_implies, dfF, touch, regF, quietF, pairOK, noCs, Go.Value.oneCell', decide_true, decide_false, Nat.mul_one, asBound, fullOf, Option.isSome_none, Option.isSome_some, Nat.zero_le, Bool.false_eq_true, false_implies, Int.cast_ofNat_Int, Int.reduceLT, Int.reduceLE, Int.reduceToNat, Nat.reduceMul, Int.le_refl, Eng.look, putAt, Nat.reduceEqDiff, reduceCtorEq, Nat.reduceBEq, if_false, List.all_cons, List.all_nil, tf_beq, ft_beq, lvSub, lvOK, isNone, width, solid, splice, List.take_zero, List.drop_zero, List.drop_nil, List.take_nil, List.drop_succ_cons, List.take_succ_cons, List.append_nil, beq_self_eq_true, Bool.and_true, Bool.true_and, Bool.and_self, ge_iff_le, gt_iff_lt, Nat.le_refl, Nat.reduceLeDiff, Nat.reduceLT, xf17_L0, ai, al, lt_cast, h0]
    rw [List.take_length]
    exact W_stop (hK _ _ _ _ _ _ _ _ _ _ _ _ _ _ _ _ _ _ _ _ _ _)
  | succ k ih =>
    intro i hi hc j1 j2 j5 j6 j7 j8 j9 j10 j11 j12 j13 j14 j15 j16 j17 j18 j19 j20 j21 j22 j23 j24
    have h1 : i < l.length := by omega
    have h0 : decide (i < l.length) = true := decide_eq_true h1
    refine W_loop (W_run 80 ?_)
    simp only [go_some, go_none, go_zero, nxt_op, nxt_guard, nxt_skip, nxt_label, nxt_region, nxt_drawn, nxt_seq, nxt_block, nxt_scope, nxt_exit, nxt_blk, nxt_lp, nxt_cond, nxt_loop, nxt_ret, nxt_stop, nxt_nil, Eng.start, frG, frF, isCall, stp, exec1, exec1K, dK, Nat.reduceDiv, keyA, wantedA, stepF, stF_mv, stF_bin, stF_len, stF_un, stF_pick, stF_load, stF_iadr, stF_box, stF_fadr, stF_store, stF_ext, stF_fld, stF_idx, stF_aadr, stF_app, stF_bldS, stF_slc, stF_slcA, stF_bld, stF_isnil, stF_mki, stF_mkf, stF_mkb, mapF_eq, evalF_eq, evalA, setAF, setA, setF_eq, putF_eq, lookF_eq, List.getD_cons_zero, List.getD_cons_succ, List.set_cons_zero, List.set_cons_succ, List.replicate, List.length_cons, List.length_nil, Nat.zero_add, Nat.reduceSub, Nat.reduceAdd, List.cons_append, List.nil_append, Option.getD, drop, Nat.beq, List.length_map, binV, binI, unV, if_true, Eng.asInt, Eng.part, cellsOf, toNat_cast, cast_nonneg, true_and, and_true, if_pos, giveOp, gvK, List.getElem?_cons_zero, List.getElem?_cons_succ, Bool.not_true, Bool.not_false, ofVal, eq_self, and_self, true_implies, dfF, touch, regF, quietF, pairOK, noCs, Go.Value.oneCell', decide_true, decide_false, Nat.mul_one, asBound, fullOf, Option.isSome_none, Option.isSome_some, Nat.zero_le, Bool.false_eq_true, false_implies, Int.cast_ofNat_Int, Int.reduceLT, Int.reduceLE, Int.reduceToNat, Nat.reduceMul, Int.le_refl, Eng.look, putAt, Nat.reduceEqDiff, reduceCtorEq, Nat.reduceBEq, if_false, List.all_cons, List.all_nil, tf_beq, ft_beq, lvSub, lvOK, isNone, width, solid, splice, List.take_zero, List.drop_zero, List.drop_nil, List.take_nil, List.drop_succ_cons, List.take_succ_cons, List.append_nil, beq_self_eq_true, Bool.and_true, Bool.true_and, Bool.and_self, ge_iff_le, gt_iff_lt, Nat.le_refl, Nat.reduceLeDiff, Nat.reduceLT, xf17_L0, ai, al, lt_cast, h0, get_al h1, raw_max, opA, argT, Option.elim, rawK]
    rw [← mxF_take h1 hc, wrap_id (by omega) (by omega)]
    exact ih (i + 1) (by omega) (by omega) _ _ _ _ _ _ _ _ _ _ _ _ _ _ _ _ _ _ _ _ _ _
theorem max_run (full : Bool) (l : List Int) (h : 0 < l.length) (hn : l.length ≤ 100000) : Runs Tryd.prog xf 17 [al full l] (ai (mxF l)) := by
  refine Runs.ofW (fn := xf17) 20 (by kernel_rfl) (W_run 80 ?_)
  have h1 : decide ((l.length : Int) < 1) = false := decide_eq_false (by omega)
  have g := get_al h
  have e : l.getD 0 0 = mxF (l.take 1) := by cases l with | nil => simp at h | cons x t => rfl
  simp only [go_some, go_none, go_zero, nxt_op, nxt_guard, nxt_skip, nxt_label, nxt_region, nxt_drawn, nxt_seq, nxt_block, nxt_scope, nxt_exit, nxt_blk, nxt_lp, nxt_cond, nxt_loop, nxt_ret, nxt_stop, nxt_nil, Eng.start, frG, frF, isCall, stp, exec1, exec1K, dK, Nat.reduceDiv, keyA, wantedA, stepF, stF_mv, stF_bin, stF_len, stF_un, stF_pick, stF_load, stF_iadr, stF_box, stF_fadr, stF_store, stF_ext, stF_fld, stF_idx, stF_aadr, stF_app, stF_bldS, stF_slc, stF_slcA, stF_bld, stF_isnil, stF_mki, stF_mkf, stF_mkb, mapF_eq, evalF_eq, evalA, setAF, setA, setF_eq, putF_eq, lookF_eq, List.getD_cons_zero, List.getD_cons_succ, List.set_cons_zero, List.set_cons_succ, List.replicate, List.length_cons, List.length_nil, Nat.zero_add, Nat.reduceSub, Nat.reduceAdd, List.cons_append, List.nil_append, Option.getD, drop, Nat.beq, List.length_map, binV, binI, unV, if_true, Eng.asInt, Eng.part, cellsOf, toNat_cast, cast_nonneg, true_and, and_true, if_pos, giveOp, gvK, List.getElem?_cons_zero, List.getElem?_cons_succ, Bool.not_true, Bool.not_false, ofVal, eq_self, and_self, true_implies, dfF, touch, regF, quietF, pairOK, noCs, Go.Value.oneCell', decide_true, decide_false, Nat.mul_one, asBound, fullOf, Option.isSome_none, Option.isSome_some, Nat.zero_le, Bool.false_eq_true, false_implies, Int.cast_ofNat_Int, Int.reduceLT, Int.reduceLE, Int.reduceToNat, Nat.reduceMul, Int.le_refl, Eng.look, putAt, Nat.reduceEqDiff, reduceCtorEq, Nat.reduceBEq, if_false, List.all_cons, List.all_nil, tf_beq, ft_beq, lvSub, lvOK, isNone, width, solid, splice, List.take_zero, List.drop_zero, List.drop_nil, List.take_nil, List.drop_succ_cons, List.take_succ_cons, List.append_nil, beq_self_eq_true, Bool.and_true, Bool.true_and, Bool.and_self, ge_iff_le, gt_iff_lt, Nat.le_refl, Nat.reduceLeDiff, Nat.reduceLT, xf17, ai, al, h1, g]
  rw [e]
  refine W_alone (max_loop full l _ _ hn (fun j1 j2 j5 j6 j7 j8 j9 j10 j11 j12 j13 j14 j15 j16 j17 j18 j19 j20 j21 j22 j23 j24 => W_run 80 ?_) (l.length - 1) 1 (by omega) (by omega) _ _ _ _ _ _ _ _ _ _ _ _ _ _ _ _ _ _ _ _ _ _)
  simp only [go_some, go_none, go_zero, nxt_op, nxt_guard, nxt_skip, nxt_label, nxt_region, nxt_drawn, nxt_seq, nxt_block, nxt_scope, nxt_exit, nxt_blk, nxt_lp, nxt_cond, nxt_loop, nxt_ret, nxt_stop, nxt_nil, Eng.start, frG, frF, isCall, stp, exec1, exec1K, dK, Nat.reduceDiv, keyA, wantedA, stepF, stF_mv, stF_bin, stF_len, stF_un, stF_pick, stF_load, stF_iadr, stF_box, stF_fadr, stF_store, stF_ext, stF_fld, stF_idx, stF_aadr, stF_app, stF_bldS, stF_slc, stF_slcA, stF_bld, stF_isnil, stF_mki, stF_mkf, stF_mkb, mapF_eq, evalF_eq, evalA, setAF, setA, setF_eq, putF_eq, lookF_eq, List.getD_cons_zero, List.getD_cons_succ, List.set_cons_zero, List.set_cons_succ, List.replicate, List.length_cons, List.length_nil, Nat.zero_add, Nat.reduceSub, Nat.reduceAdd, List.cons_append, List.nil_append, Option.getD, drop, Nat.beq, List.length_map, binV, binI, unV, if_true, Eng.asInt, Eng.part, cellsOf, toNat_cast, cast_nonneg, true_and, and_true, if_pos, giveOp, gvK, List.getElem?_cons_zero, List.getElem?_cons_succ, Bool.not_true, Bool.not_false, ofVal, eq_self, and_self, true_implies, dfF, touch, regF, quietF, pairOK, noCs, Go.Value.oneCell', decide_true, decide_false, Nat.mul_one, asBound, fullOf, Option.isSome_none, Option.isSome_some, Nat.zero_le, Bool.false_eq_true, false_implies, Int.cast_ofNat_Int, Int.reduceLT, Int.reduceLE, Int.reduceToNat, Nat.reduceMul, Int.le_refl, Eng.look, putAt, Nat.reduceEqDiff, reduceCtorEq, Nat.reduceBEq, if_false, List.all_cons, List.all_nil, tf_beq, ft_beq, lvSub, lvOK, isNone, width, solid, splice, List.take_zero, List.drop_zero, List.drop_nil, List.take_nil, List.drop_succ_cons, List.take_succ_cons, List.append_nil, beq_self_eq_true, Bool.and_true, Bool.true_and, Bool.and_self, ge_iff_le, gt_iff_lt, Nat.le_refl, Nat.reduceLeDiff, Nat.reduceLT, xf17_R0, ai, al]
  exact W_ret1 (WX_nil ⟨.inl rfl, _, rfl, rfl⟩)
theorem reify_os {α : Type} {η : List (Nat × (Nat × Option Ob))} {n k g e s : Nat} {f : α → AV} {l : List α} (hf : ∀ a, elemR (reify η n) (f a) = some (f a)) (hk : Go.Proofs.Eng.look η k = (g, some ⟨e, s, l.map f⟩)) :
    reify η (n + 1) (.os k g l.length s 0 l.length) = some (.sl s false (l.map f)) := by
  have hm : ∀ l : List α, (l.map f).mapM (elemR (reify η n)) = some (l.map f) := fun l => by
    induction l with
    | nil => rfl
    | cons a l ih => rw [List.map_cons, List.mapM_cons, hf, ih]; rfl
  simp only [reify, hk]
  rw [if_pos (by simp), List.drop_zero, List.take_of_length_le (by simp), hm]
  rfl
theorem elem_ai (η : List (Nat × (Nat × Option Ob))) (n : Nat) (z : Int) : elemR (reify η (n + 1)) (ai z) = some (ai z) := rfl
theorem reify_ints {η : List (Nat × (Nat × Option Ob))} {k g e : Nat} {l : List Int} (hk : Go.Proofs.Eng.look η k = (g, some ⟨e, 1, l.map ai⟩)) : reify η 20 (.os k g l.length 1 0 l.length) = some (al false l) := reify_os (elem_ai η 18) hk
theorem undT : pureRun Tryd.prog (underlying 5) = some (.int .u8) := by kernel_rfl
/-- a byte as a number -/
def rawC (x : AV) (fb : Option Res) : Option Res :=
  match x with
  | .v (.int .u8 z) => some (.val (.v (.int .i64 (IntKind.i64.wrap z))))
  | _ => fb
theorem raw_conv (dst : Nat) (c : Cfg) (x : Operand) (ty : TypeId) : stF_raw Tryd.prog dst c (.convert 5 3 x) ty = rawC (opA c.σ x) (rawX Tryd.prog dst c (.convert 5 3 x) ty) := by
  unfold rawC
  split
  · rename_i z hi
    have e1 := toVal_op hi
    unfold stF_raw
    rw [if_pos ⟨rfl, by simp [Op.operands, e1]⟩]
    have h3 : pureRun Tryd.prog (execOp (fun x => ((argT x).bind fun xa => toVal (evalF c.σ xa)).getD (.bool false)) { dst := none, op := .convert 5 3 x, type := ty, pos := "", after := #[], guard := none }) = some (.value (.int .i64 (IntKind.i64.wrap z))) := by
      simp only [execOp, e1, Option.getD_some, pureRun_bind, convert, undT, und1, Option.bind_some, Conv.intToInt, pureRun_pure]
    rw [h3]; rfl
  · rfl
theorem undT8 : pureRun Tryd.prog (underlying 44) = some (.int .i8) := by kernel_rfl
/-- a small number as a number -/
def rawC8 (x : AV) (fb : Option Res) : Option Res :=
  match x with
  | .v (.int .i8 z) => some (.val (.v (.int .i64 (IntKind.i64.wrap z))))
  | _ => fb
theorem raw_conv8 (dst : Nat) (c : Cfg) (x : Operand) (ty : TypeId) : stF_raw Tryd.prog dst c (.convert 44 3 x) ty = rawC8 (opA c.σ x) (rawX Tryd.prog dst c (.convert 44 3 x) ty) := by
  unfold rawC8
  split
  · rename_i z hi
    have e1 := toVal_op hi
    unfold stF_raw
    rw [if_pos ⟨rfl, by simp [Op.operands, e1]⟩]
    have h3 : pureRun Tryd.prog (execOp (fun x => ((argT x).bind fun xa => toVal (evalF c.σ xa)).getD (.bool false)) { dst := none, op := .convert 44 3 x, type := ty, pos := "", after := #[], guard := none }) = some (.value (.int .i64 (IntKind.i64.wrap z))) := by
      simp only [execOp, e1, Option.getD_some, pureRun_bind, convert, undT8, und1, Option.bind_some, Conv.intToInt, pureRun_pure]
    rw [h3]; rfl
  · rfl
end Go.Proofs.YtliklcopmapfaaaDoor

