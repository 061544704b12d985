/-
  The law's sets of what each word sees, a bit each.
-/
import Derived.Test.YtdbodafhpmmnhaaPv
set_option linter.unusedSimpArgs false
set_option linter.unusedVariables false
namespace Go.Proofs.Ytdbodafhpmmnhaa
open Go Go.Proofs.Eng
set_option maxRecDepth 100000
set_option maxHeartbeats 1000000
def snF (x : Nat) (a : Nat) (p : Int × Int) : Nat := if p.1.toNat = x then a ||| 2 ^ p.2.toNat else a
def snN (l : List (Int × Int)) (x : Nat) : Nat := l.foldl (snF x) 0
theorem snN_take {l : List (Int × Int)} {i : Nat} (h : i < l.length) (x : Nat) : snN (l.take (i + 1)) x = snF x (snN (l.take i) x) (l.getD i (0, 0)) := by
  have e : l.getD i (0, 0) = l[i] := by rw [List.getD_eq_getElem?_getD, List.getElem?_eq_getElem h]; rfl
  unfold snN
  rw [e, ← List.take_append_getElem h, List.foldl_append]; rfl
theorem snF_lt {x : Nat} : ∀ (l : List (Int × Int)) (a : Nat), a < 64 → (∀ p, p ∈ l → p.2.toNat < 6) → l.foldl (snF x) a < 64
  | [], a, ha, _ => ha
  | p :: l, a, ha, h => by
    refine snF_lt l (snF x a p) ?_ fun q hq => h q (List.mem_cons_of_mem _ hq)
    unfold snF
    split
    · have h2 : 2 ^ p.2.toNat < 2 ^ 6 := Nat.pow_lt_pow_right (by omega) (h p List.mem_cons_self)
      exact Nat.or_lt_two_pow (n := 6) ha h2
    · exact ha
theorem snN_lt {l : List (Int × Int)} (h : ∀ p, p ∈ l → p.2.toNat < 6) (x : Nat) : snN l x < 64 := snF_lt l 0 (by omega) h
theorem snF_bit {x y : Nat} : ∀ (l : List (Int × Int)) (a : Nat), (l.foldl (snF x) a).testBit y = (a.testBit y || l.any fun p => decide (p.1.toNat = x) && decide (p.2.toNat = y))
  | [], a => by simp
  | p :: l, a => by
    rw [List.foldl_cons, snF_bit l, List.any_cons, ← Bool.or_assoc]
    congr 1
    unfold snF
    by_cases h : p.1.toNat = x
    · rw [if_pos h, Nat.testBit_or, Nat.testBit_two_pow, decide_eq_true h, Bool.true_and]
    · rw [if_neg h, decide_eq_false h, Bool.false_and, Bool.or_false]
theorem snN_bit {l : List (Int × Int)} (hl : ∀ p, p ∈ l → 0 ≤ p.1 ∧ 0 ≤ p.2) (x y : Nat) : (snN l x).testBit y = memD l ((x : Int), (y : Int)) := by
  rw [Bool.eq_iff_iff, memD_iff]
  unfold snN
  rw [snF_bit, Nat.zero_testBit, Bool.false_or, List.any_eq_true]
  constructor
  · rintro ⟨p, hp, hq⟩
    simp only [Bool.and_eq_true, decide_eq_true_eq] at hq
    obtain ⟨h1, h2⟩ := hl p hp
    have : p = ((x : Int), (y : Int)) := Prod.ext (by have := hq.1; simp only; omega) (by have := hq.2; simp only; omega)
    rw [← this]; exact hp
  · intro hp
    exact ⟨_, hp, by simp⟩
def snL (l : List (Int × Int)) : List Int := (List.range 8).map fun x => ((snN l x : Nat) : Int)
theorem snL_len (l : List (Int × Int)) : (snL l).length = 8 := by simp [snL]
theorem snL_get (l : List (Int × Int)) {x : Nat} (h : x < 8) : (snL l).getD x 0 = (snN l x : Int) := by
  rw [List.getD_eq_getElem?_getD]; simp [snL, h]
theorem snL_take {l : List (Int × Int)} {i : Nat} (h : i < l.length) : snL (l.take (i + 1)) = (snL (l.take i)).set (l.getD i (0, 0)).1.toNat ((snN (l.take i) (l.getD i (0, 0)).1.toNat ||| 2 ^ (l.getD i (0, 0)).2.toNat : Nat) : Int) := by
  refine List.ext_getElem (by simp [snL]) fun x h1 h2 => ?_
  have hx : x < 8 := by rw [snL_len] at h1; exact h1
  rw [List.getElem_set]
  simp only [snL, List.getElem_map, List.getElem_range]
  rw [snN_take h]
  unfold snF
  by_cases e : (l.getD i (0, 0)).1.toNat = x
  · rw [if_pos e, if_pos e, e]
  · rw [if_neg e, if_neg e]
theorem splice_ai (t : List Int) (j : Nat) (v : Int) (h : j < t.length) : splice (t.map ai) j [ai v] = (t.set j v).map ai := by
  unfold splice
  rw [List.map_set, List.set_eq_take_append_cons_drop, if_pos (by simpa using h)]
  simp
theorem or_eq : ∀ c : Fin 64, ∀ q : Fin 6, IntKind.i64.wrap (((BitVec.ofInt IntKind.i64.bits (c.val : Int) ||| BitVec.ofInt IntKind.i64.bits ((2 ^ q.val : Nat) : Int)).toNat : Nat) : Int) = ((c.val ||| 2 ^ q.val : Nat) : Int) := by decide +kernel
theorem shl_eq : ∀ q : Fin 6, IntKind.i64.wrap (1 * 2 ^ min q.val IntKind.i64.bits) = ((2 ^ q.val : Nat) : Int) := by decide +kernel
theorem bit_eq : ∀ c : Fin 64, ∀ q : Fin 6, IntKind.i64.wrap (((BitVec.ofInt IntKind.i64.bits ((c.val : Int).fdiv (2 ^ min q.val IntKind.i64.bits)) &&& BitVec.ofInt IntKind.i64.bits 1).toNat : Nat) : Int) = if c.val.testBit q.val then 1 else 0 := by decide +kernel
theorem spw (u v : AV) (x y : AV) : splice [u, v] 0 [x, y] = [x, y] := rfl
def rw8 (l : List (Int × Int)) : List AV := [.ag ((snL l).map ai)]
theorem seen_loop (full : Bool) (l : List (Int × Int)) (hn : l.length ≤ 1000) (hl : ∀ p, p ∈ l → 0 ≤ p.1 ∧ p.1 < 6 ∧ 0 ≤ p.2 ∧ p.2 < 6) (K : List Fr) (Q : Out → Cfg → Prop) (x0 x1 : AV) (r2 : Nat × Option Ob)
    (hK : ∀ j4 j5 j6 j10 j11 j12 j13 j14 j15 j16 j17 j18 j19 j20 j21 j22 j23 : AV, ∀ (g : Nat) (o : Option Ob), W Try.prog (RelU Try.prog xf) 0 K ⟨(x0 :: x1 :: (.o 2 1 1 0 0) :: (.o 3 1 1 0 0) :: j4 :: j5 :: j6 :: (ap full l) :: (ai l.length) :: (ai l.length) :: j10 :: j11 :: j12 :: j13 :: j14 :: j15 :: j16 :: j17 :: j18 :: j19 :: j20 :: j21 :: j22 :: j23 :: []), [(2, r2), (3, (1, some ⟨31, 8, rw8 l⟩)), (5, (g, o))]⟩ Q) :
    ∀ (k i : Nat), i + k = l.length → ∀ j4 j5 j6 j10 j11 j12 j13 j14 j15 j16 j17 j18 j19 j20 j21 j22 j23 : AV, ∀ (g : Nat) (o : Option Ob), W Try.prog (RelU Try.prog xf) 0 (.code (.loop xf5_L0) :: .blk 0 :: .stop :: K) ⟨(x0 :: x1 :: (.o 2 1 1 0 0) :: (.o 3 1 1 0 0) :: j4 :: j5 :: j6 :: (ap full l) :: (ai l.length) :: (ai i) :: j10 :: j11 :: j12 :: j13 :: j14 :: j15 :: j16 :: j17 :: j18 :: j19 :: j20 :: j21 :: j22 :: j23 :: []), [(2, r2), (3, (1, some ⟨31, 8, rw8 (l.take i)⟩)), (5, (g, o))]⟩ Q := by
  intro k
  induction k with
  | zero =>
    intro i hi j4 j5 j6 j10 j11 j12 j13 j14 j15 j16 j17 j18 j19 j20 j21 j22 j23 g o
    have : i = l.length := by omega
    subst this
    rw [List.take_length]
    have h0 : decide (l.length < l.length) = false := by simp
    refine W_loop (W_run 80 ?_)
    simp only [go_some, go_none, go_zero, nxt_op, nxt_guard, nxt_skip, nxt_label, nxt_region, nxt_drawn, nxt_seq, nxt_block, nxt_scope, nxt_exit, nxt_blk, nxt_lp, nxt_cond, nxt_loop, nxt_ret, nxt_stop, nxt_nil, Eng.start, frG, frF, isCall, stp, exec1, exec1K, dK, Nat.reduceDiv, keyA, wantedA, stepF, stF_mv, stF_bin, stF_len, stF_un, stF_pick, stF_load, stF_iadr, stF_box, stF_fadr, stF_store, stF_ext, stF_fld, stF_idx, stF_aadr, stF_app, stF_bldS, stF_slc, stF_slcA, stF_bld, stF_isnil, stF_mki, stF_mkf, stF_mkb, mapF_eq, evalF_eq, evalA, setAF, setA, setF_eq, putF_eq, lookF_eq, List.getD_cons_zero, List.getD_cons_succ, List.set_cons_zero, List.set_cons_succ, List.replicate, List.length_cons, List.length_nil, Nat.zero_add, Nat.reduceSub, Nat.reduceAdd, List.cons_append, List.nil_append, Option.getD, drop, Nat.beq, List.length_map, binV, binI, unV, if_true, Eng.asInt, Eng.part, cellsOf, toNat_cast, cast_nonneg, true_and, and_true, if_pos, giveOp, gvK, List.getElem?_cons_zero, List.getElem?_cons_succ, Bool.not_true, Bool.not_false, ofVal, eq_self, and_self, true_implies, dfF, touch, regF, quietF, pairOK, noCs, Go.Value.oneCell', decide_true, decide_false, Nat.mul_one, asBound, fullOf, Option.isSome_none, Option.isSome_some, Nat.zero_le, Bool.false_eq_true, false_implies, Int.cast_ofNat_Int, Int.reduceLT, Int.reduceLE, Int.reduceToNat, Nat.reduceMul, Int.le_refl, Eng.look, putAt, Nat.reduceEqDiff, reduceCtorEq, Nat.reduceBEq, if_false, List.all_cons, List.all_nil, tf_beq, ft_beq, lvSub, lvOK, isNone, width, solid, splice, List.take_zero, List.drop_zero, List.drop_nil, List.take_nil, List.drop_succ_cons, List.take_succ_cons, List.append_nil, beq_self_eq_true, Bool.and_true, Bool.true_and, Bool.and_self, ge_iff_le, gt_iff_lt, Nat.le_refl, Nat.reduceLeDiff, Nat.reduceLT, xf5_L0, ai, ap, lt_cast, h0]
    exact W_stop (hK _ _ _ _ _ _ _ _ _ _ _ _ _ _ _ _ _ _ _)
  | succ k ih =>
    intro i hi j4 j5 j6 j10 j11 j12 j13 j14 j15 j16 j17 j18 j19 j20 j21 j22 j23 g o
    have h1 : i < l.length := by omega
    have h0 : decide (i < l.length) = true := decide_eq_true h1
    obtain ⟨b1, b2, b3, b4⟩ := hl _ (getD_mem (d := (0, 0)) h1)
    have next := ih (i + 1) (by omega)
    unfold rw8 at next ⊢
    rw [snL_take h1] at next
    have hlt := snN_lt (l := l.take i) (fun p hp => by have := hl p (List.mem_of_mem_take hp); omega) (l.getD i (0, 0)).1.toNat
    have hle := snL_len (l.take i)
    have e1 : (l.getD i (0, 0)).1.toNat < 6 := by omega
    have hgv := snL_get (l.take i) (x := (l.getD i (0, 0)).1.toNat) (by omega)
    have hg1 : ((snL (l.take i)).map ai)[(l.getD i (0, 0)).1.toNat]? = some (ai (snN (l.take i) (l.getD i (0, 0)).1.toNat : Int)) := by rw [get_al (by omega), hgv]
    have hs1 := splice_ai (snL (l.take i)) (l.getD i (0, 0)).1.toNat ((snN (l.take i) (l.getD i (0, 0)).1.toNat ||| 2 ^ (l.getD i (0, 0)).2.toNat : Nat) : Int) (by omega)
    generalize snL (l.take i) = T at next hg1 hs1 hle
    generalize snN (l.take i) (l.getD i (0, 0)).1.toNat = c at next hg1 hs1 hlt
    have q8 : (l.getD i (0, 0)).1 < 8 := by omega
    have qn : ((l.getD i (0, 0)).2 < 0) = False := eq_false (by omega)
    have e2 : (l.getD i (0, 0)).2.toNat < 6 := by omega
    have w1 : IntKind.i64.wrap (1 * 2 ^ min (l.getD i (0, 0)).2.toNat IntKind.i64.bits) = ((2 ^ (l.getD i (0, 0)).2.toNat : Nat) : Int) := shl_eq ⟨_, e2⟩
    have w2 : IntKind.i64.wrap (((BitVec.ofInt IntKind.i64.bits (c : Int) ||| BitVec.ofInt IntKind.i64.bits ((2 ^ (l.getD i (0, 0)).2.toNat : Nat) : Int)).toNat : Nat) : Int) = ((c ||| 2 ^ (l.getD i (0, 0)).2.toNat : Nat) : Int) := or_eq ⟨c, hlt⟩ ⟨_, e2⟩
    have hl8 : (l.getD i (0, 0)).1.toNat + 1 ≤ T.length := by omega
    simp only [ai] at hg1 hs1
    refine W_loop (W_run 120 ?_)
    simp only [go_some, go_none, go_zero, nxt_op, nxt_guard, nxt_skip, nxt_label, nxt_region, nxt_drawn, nxt_seq, nxt_block, nxt_scope, nxt_exit, nxt_blk, nxt_lp, nxt_cond, nxt_loop, nxt_ret, nxt_stop, nxt_nil, Eng.start, frG, frF, isCall, stp, exec1, exec1K, dK, Nat.reduceDiv, keyA, wantedA, stepF, stF_mv, stF_bin, stF_len, stF_un, stF_pick, stF_load, stF_iadr, stF_box, stF_fadr, stF_store, stF_ext, stF_fld, stF_idx, stF_aadr, stF_app, stF_bldS, stF_slc, stF_slcA, stF_bld, stF_isnil, stF_mki, stF_mkf, stF_mkb, mapF_eq, evalF_eq, evalA, setAF, setA, setF_eq, putF_eq, lookF_eq, List.getD_cons_zero, List.getD_cons_succ, List.set_cons_zero, List.set_cons_succ, List.replicate, List.length_cons, List.length_nil, Nat.zero_add, Nat.reduceSub, Nat.reduceAdd, List.cons_append, List.nil_append, Option.getD, drop, Nat.beq, List.length_map, binV, binI, unV, if_true, Eng.asInt, Eng.part, cellsOf, toNat_cast, cast_nonneg, true_and, and_true, if_pos, giveOp, gvK, List.getElem?_cons_zero, List.getElem?_cons_succ, Bool.not_true, Bool.not_false, ofVal, eq_self, and_self, true_implies, dfF, touch, regF, quietF, pairOK, noCs, Go.Value.oneCell', decide_true, decide_false, Nat.mul_one, asBound, fullOf, Option.isSome_none, Option.isSome_some, Nat.zero_le, Bool.false_eq_true, false_implies, Int.cast_ofNat_Int, Int.reduceLT, Int.reduceLE, Int.reduceToNat, Nat.reduceMul, Int.le_refl, Eng.look, putAt, Nat.reduceEqDiff, reduceCtorEq, Nat.reduceBEq, if_false, List.all_cons, List.all_nil, tf_beq, ft_beq, lvSub, lvOK, isNone, width, solid, List.take_zero, List.drop_zero, List.drop_nil, List.take_nil, List.drop_succ_cons, List.take_succ_cons, List.append_nil, beq_self_eq_true, Bool.and_true, Bool.true_and, Bool.and_self, ge_iff_le, gt_iff_lt, Nat.le_refl, Nat.reduceLeDiff, Nat.reduceLT, xf5_L0, ai, ap, lt_cast, h0, get_ap h1, a2, b1, b3, q8, qn, hg1, hs1, w1, w2, hl8, spw]
    rw [wrap_id (by omega) (by omega)]
    exact next _ _ _ _ _ _ _ _ _ _ _ _ _ _ _ _ _ _ _
theorem W_eta23 {P : Program} {R : Rel} {kb : Nat} {k : List Fr} {σ : List AV} {Q : Out → Cfg → Prop} {x : XCode} {r2 r3 : Nat × Option Ob} (h : W P R kb (.code x :: k) ⟨σ, [(2, r2), (3, r3), (5, (0, none))]⟩ Q) : W P R kb (.code x :: k) ⟨σ, [(2, r2), (3, r3)]⟩ Q := by
  refine W_named (fun j => ?_) h
  simp only [Go.Proofs.Eng.look]
  by_cases h4 : 2 = j
  · simp [h4]
  · by_cases h5 : 3 = j
    · simp [h4, h5]
    · simp [h4, h5]
theorem snL_nil : (snL []).map ai = [ai 0, ai 0, ai 0, ai 0, ai 0, ai 0, ai 0, ai 0] := rfl
theorem splice8 (a b : List AV) (ha : a.length = 8) (hb : b.length = 8) : splice a 0 b = b := by
  unfold splice
  rw [List.take_zero, List.nil_append, List.drop_eq_nil_of_le (by omega), List.append_nil]
theorem reify_ai (η : List (Nat × (Nat × Option Ob))) (n : Nat) (L : List Int) : (L.map ai).mapM (reify η (n + 1)) = some (L.map ai) := by
  induction L with
  | nil => rfl
  | cons z l ih => rw [List.map_cons, List.mapM_cons, ih]; rfl
theorem fin8 {σ : List AV} {η : List (Nat × (Nat × Option Ob))} {L : List Int} {e : Nat} (hL : L.length = 8) (hs : σ.getD 2 .any = .o 2 1 1 0 0) (hk : Go.Proofs.Eng.look η 2 = (1, some ⟨e, 8, [.ag (L.map ai)]⟩)) :
    ∃ rs, [XRes.cell 2 8 true].mapM (resOf Try.prog ⟨σ, η⟩) = some rs ∧ reify η 20 (retOf rs) = some (.ag (L.map ai)) := by
  have h8 : (L.map ai).length = 8 := by rw [List.length_map, hL]
  refine ⟨[.ag (L.map ai)], ?_, ?_⟩
  · rw [List.mapM_cons]
    have : resOf Try.prog ⟨σ, η⟩ (.cell 2 8 true) = some (.ag (L.map ai)) := by
      have e1 : Go.Proofs.Eng.step Try.prog 0 ⟨σ, η⟩ (.load 8 true (.t 2)) = some (.val (.ag (L.map ai))) := by
        simp only [Go.Proofs.Eng.step, Go.Proofs.Eng.evalA, hs, hk]
        simp [Go.Proofs.Eng.part, cellsOf, hL, List.take_of_length_le]
      simp only [resOf, e1]
    rw [this]; rfl
  · show (((L.map ai).mapM (reify η 19)).map AV.ag) = _
    rw [reify_ai]; rfl
theorem seen_run {x : AV} {l : List (Int × Int)} (h : isP x l) (m : Int) (hn : l.length ≤ 1000) (hl : ∀ p, p ∈ l → 0 ≤ p.1 ∧ p.1 < 6 ∧ 0 ≤ p.2 ∧ p.2 < 6) : Runs Try.prog xf 5 [bkA m x] (.ag ((snL l).map ai)) := by
  refine Runs.ofW (fn := xf5) 20 (by kernel_rfl) (W_run 80 ?_)
  rcases h with ⟨f, rfl⟩ | ⟨rfl, rfl⟩
  · simp only [go_some, go_none, go_zero, nxt_op, nxt_guard, nxt_skip, nxt_label, nxt_region, nxt_drawn, nxt_seq, nxt_block, nxt_scope, nxt_exit, nxt_blk, nxt_lp, nxt_cond, nxt_loop, nxt_ret, nxt_stop, nxt_nil, Eng.start, frG, frF, isCall, stp, exec1, exec1K, dK, Nat.reduceDiv, keyA, wantedA, stepF, stF_mv, stF_bin, stF_len, stF_un, stF_pick, stF_load, stF_iadr, stF_box, stF_fadr, stF_store, stF_ext, stF_fld, stF_idx, stF_aadr, stF_app, stF_bldS, stF_slc, stF_slcA, stF_bld, stF_isnil, stF_mki, stF_mkf, stF_mkb, mapF_eq, evalF_eq, evalA, setAF, setA, setF_eq, putF_eq, lookF_eq, List.getD_cons_zero, List.getD_cons_succ, List.set_cons_zero, List.set_cons_succ, List.replicate, List.length_cons, List.length_nil, Nat.zero_add, Nat.reduceSub, Nat.reduceAdd, List.cons_append, List.nil_append, Option.getD, drop, Nat.beq, List.length_map, binV, binI, unV, if_true, Eng.asInt, Eng.part, cellsOf, toNat_cast, cast_nonneg, true_and, and_true, if_pos, giveOp, gvK, List.getElem?_cons_zero, List.getElem?_cons_succ, Bool.not_true, Bool.not_false, ofVal, eq_self, and_self, true_implies, dfF, touch, regF, quietF, pairOK, noCs, Go.Value.oneCell', decide_true, decide_false, Nat.mul_one, asBound, fullOf, Option.isSome_none, Option.isSome_some, Nat.zero_le, Bool.false_eq_true, false_implies, Int.cast_ofNat_Int, Int.reduceLT, Int.reduceLE, Int.reduceToNat, Nat.reduceMul, Int.le_refl, Eng.look, putAt, Nat.reduceEqDiff, reduceCtorEq, Nat.reduceBEq, if_false, List.all_cons, List.all_nil, tf_beq, ft_beq, lvSub, lvOK, isNone, width, solid, List.take_zero, List.drop_zero, List.drop_nil, List.take_nil, List.drop_succ_cons, List.take_succ_cons, List.append_nil, beq_self_eq_true, Bool.and_true, Bool.true_and, Bool.and_self, ge_iff_le, gt_iff_lt, Nat.le_refl, Nat.reduceLeDiff, Nat.reduceLT, xf5, bkA, ai, ap]
    refine W_alone (W_eta23 (seen_loop f l hn hl _ _ _ _ _ (fun j4 j5 j6 j10 j11 j12 j13 j14 j15 j16 j17 j18 j19 j20 j21 j22 j23 g o => W_run 80 ?_) l.length 0 (by omega) _ _ _ _ _ _ _ _ _ _ _ _ _ _ _ _ _ 0 none))
    unfold rw8
    have hL := snL_len l
    generalize snL l = L at hL
    have h8 : (L.map ai).length = 8 := by rw [List.length_map, hL]
    have hh : 0 + 8 ≤ (L.map ai).length := by omega
    have ht : (L.map ai).take 8 = L.map ai := List.take_of_length_le (by omega)
    have hsp := splice8 [AV.v (.int .i64 0), AV.v (.int .i64 0), AV.v (.int .i64 0), AV.v (.int .i64 0), AV.v (.int .i64 0), AV.v (.int .i64 0), AV.v (.int .i64 0), AV.v (.int .i64 0)] (L.map ai) rfl h8
    have hT : L.map ai = L.map ai := rfl
    generalize hU : L.map ai = U at h8 hh ht hsp
    simp only [go_some, go_none, go_zero, nxt_op, nxt_guard, nxt_skip, nxt_label, nxt_region, nxt_drawn, nxt_seq, nxt_block, nxt_scope, nxt_exit, nxt_blk, nxt_lp, nxt_cond, nxt_loop, nxt_ret, nxt_stop, nxt_nil, Eng.start, frG, frF, isCall, stp, exec1, exec1K, dK, Nat.reduceDiv, keyA, wantedA, stepF, stF_mv, stF_bin, stF_len, stF_un, stF_pick, stF_load, stF_iadr, stF_box, stF_fadr, stF_store, stF_ext, stF_fld, stF_idx, stF_aadr, stF_app, stF_bldS, stF_slc, stF_slcA, stF_bld, stF_isnil, stF_mki, stF_mkf, stF_mkb, mapF_eq, evalF_eq, evalA, setAF, setA, setF_eq, putF_eq, lookF_eq, List.getD_cons_zero, List.getD_cons_succ, List.set_cons_zero, List.set_cons_succ, List.replicate, List.length_cons, List.length_nil, Nat.zero_add, Nat.reduceSub, Nat.reduceAdd, List.cons_append, List.nil_append, Option.getD, drop, Nat.beq, List.length_map, binV, binI, unV, if_true, Eng.asInt, Eng.part, cellsOf, toNat_cast, cast_nonneg, true_and, and_true, if_pos, giveOp, gvK, List.getElem?_cons_zero, List.getElem?_cons_succ, Bool.not_true, Bool.not_false, ofVal, eq_self, and_self, true_implies, dfF, touch, regF, quietF, pairOK, noCs, Go.Value.oneCell', decide_true, decide_false, Nat.mul_one, asBound, fullOf, Option.isSome_none, Option.isSome_some, Nat.zero_le, Bool.false_eq_true, false_implies, Int.cast_ofNat_Int, Int.reduceLT, Int.reduceLE, Int.reduceToNat, Nat.reduceMul, Int.le_refl, Eng.look, putAt, Nat.reduceEqDiff, reduceCtorEq, Nat.reduceBEq, if_false, List.all_cons, List.all_nil, tf_beq, ft_beq, lvSub, lvOK, isNone, width, solid, List.take_zero, List.drop_zero, List.drop_nil, List.take_nil, List.drop_succ_cons, List.take_succ_cons, List.append_nil, beq_self_eq_true, Bool.and_true, Bool.true_and, Bool.and_self, ge_iff_le, gt_iff_lt, Nat.le_refl, Nat.reduceLeDiff, Nat.reduceLT, xf5_R0, ai, h8, hh, ht, hsp]
    subst hU
    obtain ⟨rs, q1, q2⟩ := fin8 (σ := [bkA m (ap f l), .ptr (bkA m (ap f l)), .o 2 1 1 0 0, .o 3 1 1 0 0, j4, j5, j6, ap f l, ai l.length, ai l.length, j10, j11, j12, j13, j14, j15, j16, j17, j18, j19, j20, j21, j22, .ag (L.map ai)]) (η := [(2, 1, some ⟨31, 8, [.ag (L.map ai)]⟩), (3, 1, some ⟨31, 8, [.ag (L.map ai)]⟩), (5, g, o)]) hL rfl rfl
    exact W_ret1 (WX_nil ⟨.inl rfl, rs, q1, q2⟩)
  · simp only [go_some, go_none, go_zero, nxt_op, nxt_guard, nxt_skip, nxt_label, nxt_region, nxt_drawn, nxt_seq, nxt_block, nxt_scope, nxt_exit, nxt_blk, nxt_lp, nxt_cond, nxt_loop, nxt_ret, nxt_stop, nxt_nil, Eng.start, frG, frF, isCall, stp, exec1, exec1K, dK, Nat.reduceDiv, keyA, wantedA, stepF, stF_mv, stF_bin, stF_len, stF_un, stF_pick, stF_load, stF_iadr, stF_box, stF_fadr, stF_store, stF_ext, stF_fld, stF_idx, stF_aadr, stF_app, stF_bldS, stF_slc, stF_slcA, stF_bld, stF_isnil, stF_mki, stF_mkf, stF_mkb, mapF_eq, evalF_eq, evalA, setAF, setA, setF_eq, putF_eq, lookF_eq, List.getD_cons_zero, List.getD_cons_succ, List.set_cons_zero, List.set_cons_succ, List.replicate, List.length_cons, List.length_nil, Nat.zero_add, Nat.reduceSub, Nat.reduceAdd, List.cons_append, List.nil_append, Option.getD, drop, Nat.beq, List.length_map, binV, binI, unV, if_true, Eng.asInt, Eng.part, cellsOf, toNat_cast, cast_nonneg, true_and, and_true, if_pos, giveOp, gvK, List.getElem?_cons_zero, List.getElem?_cons_succ, Bool.not_true, Bool.not_false, ofVal, eq_self, and_self, true_implies, dfF, touch, regF, quietF, pairOK, noCs, Go.Value.oneCell', decide_true, decide_false, Nat.mul_one, asBound, fullOf, Option.isSome_none, Option.isSome_some, Nat.zero_le, Bool.false_eq_true, false_implies, Int.cast_ofNat_Int, Int.reduceLT, Int.reduceLE, Int.reduceToNat, Nat.reduceMul, Int.le_refl, Eng.look, putAt, Nat.reduceEqDiff, reduceCtorEq, Nat.reduceBEq, if_false, List.all_cons, List.all_nil, tf_beq, ft_beq, lvSub, lvOK, isNone, width, solid, splice, List.take_zero, List.drop_zero, List.drop_nil, List.take_nil, List.drop_succ_cons, List.take_succ_cons, List.append_nil, beq_self_eq_true, Bool.and_true, Bool.true_and, Bool.and_self, ge_iff_le, gt_iff_lt, Nat.le_refl, Nat.reduceLeDiff, Nat.reduceLT, xf5, bkA, ai, nilA]
    refine W_loop (W_run 80 ?_)
    simp only [go_some, go_none, go_zero, nxt_op, nxt_guard, nxt_skip, nxt_label, nxt_region, nxt_drawn, nxt_seq, nxt_block, nxt_scope, nxt_exit, nxt_blk, nxt_lp, nxt_cond, nxt_loop, nxt_ret, nxt_stop, nxt_nil, Eng.start, frG, frF, isCall, stp, exec1, exec1K, dK, Nat.reduceDiv, keyA, wantedA, stepF, stF_mv, stF_bin, stF_len, stF_un, stF_pick, stF_load, stF_iadr, stF_box, stF_fadr, stF_store, stF_ext, stF_fld, stF_idx, stF_aadr, stF_app, stF_bldS, stF_slc, stF_slcA, stF_bld, stF_isnil, stF_mki, stF_mkf, stF_mkb, mapF_eq, evalF_eq, evalA, setAF, setA, setF_eq, putF_eq, lookF_eq, List.getD_cons_zero, List.getD_cons_succ, List.set_cons_zero, List.set_cons_succ, List.replicate, List.length_cons, List.length_nil, Nat.zero_add, Nat.reduceSub, Nat.reduceAdd, List.cons_append, List.nil_append, Option.getD, drop, Nat.beq, List.length_map, binV, binI, unV, if_true, Eng.asInt, Eng.part, cellsOf, toNat_cast, cast_nonneg, true_and, and_true, if_pos, giveOp, gvK, List.getElem?_cons_zero, List.getElem?_cons_succ, Bool.not_true, Bool.not_false, ofVal, eq_self, and_self, true_implies, dfF, touch, regF, quietF, pairOK, noCs, Go.Value.oneCell', decide_true, decide_false, Nat.mul_one, asBound, fullOf, Option.isSome_none, Option.isSome_some, Nat.zero_le, Bool.false_eq_true, false_implies, Int.cast_ofNat_Int, Int.reduceLT, Int.reduceLE, Int.reduceToNat, Nat.reduceMul, Int.le_refl, Eng.look, putAt, Nat.reduceEqDiff, reduceCtorEq, Nat.reduceBEq, if_false, List.all_cons, List.all_nil, tf_beq, ft_beq, lvSub, lvOK, isNone, width, solid, splice, List.take_zero, List.drop_zero, List.drop_nil, List.take_nil, List.drop_succ_cons, List.take_succ_cons, List.append_nil, beq_self_eq_true, Bool.and_true, Bool.true_and, Bool.and_self, ge_iff_le, gt_iff_lt, Nat.le_refl, Nat.reduceLeDiff, Nat.reduceLT, xf5_L0, xf5_R0, d00, ai]
    exact W_ret1 (WX_nil ⟨.inl rfl, _, rfl, rfl⟩)
end Go.Proofs.Ytdbodafhpmmnhaa

