/-
  The law's book by numbers: what it is.
-/
import Derived.Test.YtdbodafhpmmnhaaMd
set_option linter.unusedSimpArgs false
set_option linter.unusedVariables false
namespace Go.Proofs.Ytdbodafhpmmnhaa
open Go Go.Proofs.Eng
set_option maxRecDepth 100000
def hpv (L : List (Int × Int)) : AV := match L with | [] => nilA | x :: t => .os 56 1 (x :: t).length 2 0 (x :: t).length
def hrow (L : List (Int × Int)) : Nat × Option Ob := match L with | [] => (0, none) | x :: t => (1, some ⟨41, 2, (x :: t).map a2⟩)
def mdv (L : List (Int × Int)) : AV := match L with | [] => nilA | x :: t => ap false (x :: t)
theorem mkS_len (m : Int) (L : List (Int × Int)) (x : Int × Int) : (mkS m L x).length ≤ L.length + 1 := by unfold mkS; split <;> simp
theorem mkL_len (m : Int) (E : List (Int × Int)) : ∀ i, i ≤ E.length → (mkL m (E.take i)).length ≤ i
  | 0, _ => by simp [mkL]
  | i + 1, h => by
    rw [mkL_take h]
    exact Nat.le_trans (mkS_len _ _ _) (Nat.succ_le_succ (mkL_len m E i (Nat.le_of_lt h)))
theorem made_loop (A N m : Int) (E F : List (Int × Int)) (x0 : AV) (fE : Bool) (K : List Fr) (Q : Out → Cfg → Prop) (hm : 1 ≤ m ∧ m ≤ 7) (hb : ∀ p, p ∈ F → 0 ≤ p.1 ∧ p.1 ≤ 255 ∧ 0 ≤ p.2 ∧ p.2 ≤ 255) (hF : F.length ≤ 16)
    (hK : ∀ j3 j6 j7 j8 j9 j10 j11 j12 j13 j14 j15 j16 j17 j18 j19 j20 j24 j25 j26 j27 j28 j29 j30 j31 j32 j33 j34 j35 j36 j37 j38 j39 j40 j41 j42 j43 j44 j45 j46 j47 j48 j49 j50 j51 j52 j53 j54 j55 j56 j57 j58 j59 : AV, ∀ (g7 g8 : Nat) (o7 o8 : Option Ob), W Try.prog (RelU Try.prog xf) 0 K ⟨(x0 :: (ai 6) :: (.ptr (quA A N E)) :: j3 :: (.o 4 1 1 0 0) :: (.o 5 1 1 0 0) :: j6 :: j7 :: j8 :: j9 :: j10 :: j11 :: j12 :: j13 :: j14 :: j15 :: j16 :: j17 :: j18 :: j19 :: j20 :: (.sl 2 fE (F.map u82)) :: (ai F.length) :: (ai F.length) :: j24 :: j25 :: j26 :: j27 :: j28 :: j29 :: j30 :: j31 :: j32 :: j33 :: j34 :: j35 :: j36 :: j37 :: j38 :: j39 :: j40 :: j41 :: j42 :: j43 :: j44 :: j45 :: j46 :: j47 :: j48 :: j49 :: j50 :: j51 :: j52 :: j53 :: j54 :: j55 :: j56 :: j57 :: j58 :: j59 :: []), [(4, (1, some ⟨29, 2, [.ag [ai 0, nilA]]⟩)), (5, (1, some ⟨29, 2, [.ag [ai m, hpv (mkL m F)]]⟩)), (7, (g7, o7)), (8, (g8, o8)), (56, hrow (mkL m F))]⟩ Q) :
    ∀ (k i : Nat), i + k = F.length → ∀ j3 j6 j7 j8 j9 j10 j11 j12 j13 j14 j15 j16 j17 j18 j19 j20 j24 j25 j26 j27 j28 j29 j30 j31 j32 j33 j34 j35 j36 j37 j38 j39 j40 j41 j42 j43 j44 j45 j46 j47 j48 j49 j50 j51 j52 j53 j54 j55 j56 j57 j58 j59 : AV, ∀ (g7 g8 : Nat) (o7 o8 : Option Ob), W Try.prog (RelU Try.prog xf) 0 (.code (.loop xf4_L0) :: .blk 0 :: .stop :: K) ⟨(x0 :: (ai 6) :: (.ptr (quA A N E)) :: j3 :: (.o 4 1 1 0 0) :: (.o 5 1 1 0 0) :: j6 :: j7 :: j8 :: j9 :: j10 :: j11 :: j12 :: j13 :: j14 :: j15 :: j16 :: j17 :: j18 :: j19 :: j20 :: (.sl 2 fE (F.map u82)) :: (ai F.length) :: (ai i) :: j24 :: j25 :: j26 :: j27 :: j28 :: j29 :: j30 :: j31 :: j32 :: j33 :: j34 :: j35 :: j36 :: j37 :: j38 :: j39 :: j40 :: j41 :: j42 :: j43 :: j44 :: j45 :: j46 :: j47 :: j48 :: j49 :: j50 :: j51 :: j52 :: j53 :: j54 :: j55 :: j56 :: j57 :: j58 :: j59 :: []), [(4, (1, some ⟨29, 2, [.ag [ai 0, nilA]]⟩)), (5, (1, some ⟨29, 2, [.ag [ai m, hpv (mkL m (F.take i))]]⟩)), (7, (g7, o7)), (8, (g8, o8)), (56, hrow (mkL m (F.take i)))]⟩ Q := by
  intro k
  induction k with
  | zero =>
    intro i hi j3 j6 j7 j8 j9 j10 j11 j12 j13 j14 j15 j16 j17 j18 j19 j20 j24 j25 j26 j27 j28 j29 j30 j31 j32 j33 j34 j35 j36 j37 j38 j39 j40 j41 j42 j43 j44 j45 j46 j47 j48 j49 j50 j51 j52 j53 j54 j55 j56 j57 j58 j59 g7 g8 o7 o8
    have : i = F.length := by omega
    subst this
    have h0 : decide (F.length < F.length) = false := by simp
    rw [List.take_length]
    refine W_loop (W_run 80 ?_)
    simp only [go_some, go_none, go_zero, nxt_op, nxt_guard, nxt_skip, nxt_label, nxt_region, nxt_drawn, nxt_seq, nxt_block, nxt_scope, nxt_exit, nxt_blk, nxt_lp, nxt_cond, nxt_loop, nxt_ret, nxt_stop, nxt_nil, Eng.start, frG, frF, isCall, stp, exec1, exec1K, dK, Nat.reduceDiv, keyA, wantedA, stepF, stF_mv, stF_bin, stF_len, stF_un, stF_pick, stF_load, stF_iadr, stF_box, stF_fadr, stF_store, stF_ext, stF_fld, stF_idx, stF_aadr, stF_app, stF_bldS, stF_slc, stF_slcA, stF_bld, stF_isnil, stF_mki, stF_mkf, stF_mkb, mapF_eq, evalF_eq, evalA, setAF, setA, setF_eq, putF_eq, lookF_eq, List.getD_cons_zero, List.getD_cons_succ, List.set_cons_zero, List.set_cons_succ, List.replicate, List.length_cons, List.length_nil, Nat.zero_add, Nat.reduceSub, Nat.reduceAdd, List.cons_append, List.nil_append, Option.getD, drop, Nat.beq, List.length_map, binV, binI, unV, if_true, Eng.asInt, Eng.part, cellsOf, toNat_cast, cast_nonneg, true_and, and_true, if_pos, giveOp, gvK, List.getElem?_cons_zero, List.getElem?_cons_succ, Bool.not_true, Bool.not_false, ofVal, eq_self, and_self, true_implies, dfF, touch, regF, quietF, pairOK, noCs, Go.Value.oneCell', decide_true, decide_false, Nat.mul_one, asBound, fullOf, Option.isSome_none, Option.isSome_some, Nat.zero_le, Bool.false_eq_true, false_implies, Int.cast_ofNat_Int, Int.reduceLT, Int.reduceLE, Int.reduceToNat, Nat.reduceMul, Int.le_refl, Eng.look, putAt, Nat.reduceEqDiff, reduceCtorEq, Nat.reduceBEq, if_false, List.all_cons, List.all_nil, tf_beq, ft_beq, lvSub, lvOK, isNone, width, solid, splice, List.take_zero, List.drop_zero, List.drop_nil, List.take_nil, List.drop_succ_cons, List.take_succ_cons, List.append_nil, beq_self_eq_true, Bool.and_true, Bool.true_and, Bool.and_self, ge_iff_le, gt_iff_lt, Nat.le_refl, Nat.reduceLeDiff, Nat.reduceLT, xf4_L0, ai, lt_cast, h0]
    exact W_stop (hK _ _ _ _ _ _ _ _ _ _ _ _ _ _ _ _ _ _ _ _ _ _ _ _ _ _ _ _ _ _ _ _ _ _ _ _ _ _ _ _ _ _ _ _ _ _ _ _ _ _ _ _ _ _ _ _)
  | succ k ih =>
    intro i hi j3 j6 j7 j8 j9 j10 j11 j12 j13 j14 j15 j16 j17 j18 j19 j20 j24 j25 j26 j27 j28 j29 j30 j31 j32 j33 j34 j35 j36 j37 j38 j39 j40 j41 j42 j43 j44 j45 j46 j47 j48 j49 j50 j51 j52 j53 j54 j55 j56 j57 j58 j59 g7 g8 o7 o8
    have h1 : i < F.length := by omega
    have hlen := mkL_len m F i (by omega)
    have hnx := mkL_take (m := m) h1
    generalize hL : mkL m (F.take i) = L at hlen hnx
    have next : ∀ j3 j6 j7 j8 j9 j10 j11 j12 j13 j14 j15 j16 j17 j18 j19 j20 j24 j25 j26 j27 j28 j29 j30 j31 j32 j33 j34 j35 j36 j37 j38 j39 j40 j41 j42 j43 j44 j45 j46 j47 j48 j49 j50 j51 j52 j53 j54 j55 j56 j57 j58 j59 : AV, ∀ (g7 g8 : Nat) (o7 o8 : Option Ob) (L2 : List (Int × Int)), mkS m L (F.getD i (0, 0)) = L2 → W Try.prog (RelU Try.prog xf) 0 (.code (.loop xf4_L0) :: .blk 0 :: .stop :: K) ⟨(x0 :: (ai 6) :: (.ptr (quA A N E)) :: j3 :: (.o 4 1 1 0 0) :: (.o 5 1 1 0 0) :: j6 :: j7 :: j8 :: j9 :: j10 :: j11 :: j12 :: j13 :: j14 :: j15 :: j16 :: j17 :: j18 :: j19 :: j20 :: (.sl 2 fE (F.map u82)) :: (ai F.length) :: (ai ((i + 1 : Nat) : Int)) :: j24 :: j25 :: j26 :: j27 :: j28 :: j29 :: j30 :: j31 :: j32 :: j33 :: j34 :: j35 :: j36 :: j37 :: j38 :: j39 :: j40 :: j41 :: j42 :: j43 :: j44 :: j45 :: j46 :: j47 :: j48 :: j49 :: j50 :: j51 :: j52 :: j53 :: j54 :: j55 :: j56 :: j57 :: j58 :: j59 :: []), [(4, (1, some ⟨29, 2, [.ag [ai 0, nilA]]⟩)), (5, (1, some ⟨29, 2, [.ag [ai m, hpv L2]]⟩)), (7, (g7, o7)), (8, (g8, o8)), (56, hrow L2)]⟩ Q := fun j3 j6 j7 j8 j9 j10 j11 j12 j13 j14 j15 j16 j17 j18 j19 j20 j24 j25 j26 j27 j28 j29 j30 j31 j32 j33 j34 j35 j36 j37 j38 j39 j40 j41 j42 j43 j44 j45 j46 j47 j48 j49 j50 j51 j52 j53 j54 j55 j56 j57 j58 j59 g7 g8 o7 o8 L2 h2 => by
      have := ih (i + 1) (by omega) j3 j6 j7 j8 j9 j10 j11 j12 j13 j14 j15 j16 j17 j18 j19 j20 j24 j25 j26 j27 j28 j29 j30 j31 j32 j33 j34 j35 j36 j37 j38 j39 j40 j41 j42 j43 j44 j45 j46 j47 j48 j49 j50 j51 j52 j53 j54 j55 j56 j57 j58 j59 g7 g8 o7 o8
      rw [hnx, h2] at this
      exact this
    cases L with
    | nil =>
      refine made_none A N m E F x0 fE K Q i h1 hm hb hF (fun hp j3 j6 j7 j8 j9 j10 j11 j12 j13 j14 j15 j16 j17 j18 j19 j20 j24 j25 j26 j27 j28 j29 j30 j31 j32 j33 j34 j35 j36 j37 j38 j39 j40 j41 j42 j43 j44 j45 j46 j47 j48 j49 j50 j51 j52 j53 j54 j55 j56 j57 j58 j59 g7 g8 o7 o8 => next j3 j6 j7 j8 j9 j10 j11 j12 j13 j14 j15 j16 j17 j18 j19 j20 j24 j25 j26 j27 j28 j29 j30 j31 j32 j33 j34 j35 j36 j37 j38 j39 j40 j41 j42 j43 j44 j45 j46 j47 j48 j49 j50 j51 j52 j53 j54 j55 j56 j57 j58 j59 g7 g8 o7 o8 [] (by unfold mkS; rw [if_neg (fun q => q.1 hp)])) (fun hp j3 j6 j7 j8 j9 j10 j11 j12 j13 j14 j15 j16 j17 j18 j19 j20 j24 j25 j26 j27 j28 j29 j30 j31 j32 j33 j34 j35 j36 j37 j38 j39 j40 j41 j42 j43 j44 j45 j46 j47 j48 j49 j50 j51 j52 j53 j54 j55 j56 j57 j58 j59 g7 g8 o7 o8 L2 e2 => ?_) _ _ _ _ _ _ _ _ _ _ _ _ _ _ _ _ _ _ _ _ _ _ _ _ _ _ _ _ _ _ _ _ _ _ _ _ _ _ _ _ _ _ _ _ _ _ _ _ _ _ _ _ g7 g8 o7 o8
      subst e2
      exact next j3 j6 j7 j8 j9 j10 j11 j12 j13 j14 j15 j16 j17 j18 j19 j20 j24 j25 j26 j27 j28 j29 j30 j31 j32 j33 j34 j35 j36 j37 j38 j39 j40 j41 j42 j43 j44 j45 j46 j47 j48 j49 j50 j51 j52 j53 j54 j55 j56 j57 j58 j59 g7 g8 o7 o8 [prM m (F.getD i (0, 0))] (by unfold mkS; rw [if_pos ⟨hp, by simp⟩]; rfl)
    | cons x t =>
      refine made_some A N m E F x0 fE K Q i h1 hm hb hF (x :: t) (by omega) (fun hs j3 j6 j7 j8 j9 j10 j11 j12 j13 j14 j15 j16 j17 j18 j19 j20 j24 j25 j26 j27 j28 j29 j30 j31 j32 j33 j34 j35 j36 j37 j38 j39 j40 j41 j42 j43 j44 j45 j46 j47 j48 j49 j50 j51 j52 j53 j54 j55 j56 j57 j58 j59 g7 g8 o7 o8 => next j3 j6 j7 j8 j9 j10 j11 j12 j13 j14 j15 j16 j17 j18 j19 j20 j24 j25 j26 j27 j28 j29 j30 j31 j32 j33 j34 j35 j36 j37 j38 j39 j40 j41 j42 j43 j44 j45 j46 j47 j48 j49 j50 j51 j52 j53 j54 j55 j56 j57 j58 j59 g7 g8 o7 o8 (x :: t) hs) (fun j3 j6 j7 j8 j9 j10 j11 j12 j13 j14 j15 j16 j17 j18 j19 j20 j24 j25 j26 j27 j28 j29 j30 j31 j32 j33 j34 j35 j36 j37 j38 j39 j40 j41 j42 j43 j44 j45 j46 j47 j48 j49 j50 j51 j52 j53 j54 j55 j56 j57 j58 j59 g7 g8 o7 o8 L2 e2 hs => ?_) _ _ _ _ _ _ _ _ _ _ _ _ _ _ _ _ _ _ _ _ _ _ _ _ _ _ _ _ _ _ _ _ _ _ _ _ _ _ _ _ _ _ _ _ _ _ _ _ _ _ _ _ g7 g8 o7 o8
      have := next j3 j6 j7 j8 j9 j10 j11 j12 j13 j14 j15 j16 j17 j18 j19 j20 j24 j25 j26 j27 j28 j29 j30 j31 j32 j33 j34 j35 j36 j37 j38 j39 j40 j41 j42 j43 j44 j45 j46 j47 j48 j49 j50 j51 j52 j53 j54 j55 j56 j57 j58 j59 g7 g8 o7 o8 L2 hs
      cases L2 with
      | nil => simp at e2
      | cons y u => exact this
def mM (A : Int) : Int := 1 + A.tmod 6
def mE (N : Int) (E : List (Int × Int)) : List (Int × Int) := E.take (N.tmod 17).toNat
theorem W_eta3 {P : Program} {R : Rel} {kb : Nat} {k : List Fr} {σ : List AV} {Q : Out → Cfg → Prop} {x : XCode} {r4 r5 : Nat × Option Ob} (h : W P R kb (.code x :: k) ⟨σ, [(4, r4), (5, r5), (7, (0, none)), (8, (0, none)), (56, (0, none))]⟩ Q) : W P R kb (.code x :: k) ⟨σ, [(4, r4), (5, r5)]⟩ Q := by
  refine W_weak (c := ⟨σ, [(4, r4), (5, r5)]⟩) (c1 := ⟨σ, [(4, r4), (5, r5), (7, (0, none)), (8, (0, none)), (56, (0, none))]⟩) ⟨rfl, fun t x y h1 h2 => ?_, fun k => ?_⟩ h
  · simp only at h1 h2; rw [h1] at h2; injection h2 with h2; subst h2; exact .refl _
  · have e : Go.Proofs.Eng.look [(4, r4), (5, r5), (7, (0, none)), (8, (0, none)), (56, (0, none))] k = Go.Proofs.Eng.look [(4, r4), (5, r5)] k := by
      simp only [Go.Proofs.Eng.look]
      by_cases h4 : 4 = k
      · simp [h4]
      · by_cases h5 : 5 = k
        · simp [h4, h5]
        · simp [h4, h5]
    exact ⟨by rw [e], .inr (by rw [e])⟩
theorem made_run (A N : Int) (E : List (Int × Int)) (hE : E.length = 16) (hA : 0 ≤ A ∧ A ≤ 255) (hN : 0 ≤ N ∧ N ≤ 255) (hb : ∀ p, p ∈ E → 0 ≤ p.1 ∧ p.1 ≤ 255 ∧ 0 ≤ p.2 ∧ p.2 ≤ 255) :
    Runs Try.prog xf 4 [quA A N E, ai 6] (bkA (mM A) (mdv (mkL (mM A) (mE N E)))) := by
  have hR := flat_len2 E
  rw [hE] at hR
  have hch := chunk16 hE
  have hT : (E.flatMap fun p => [u8 p.1, u8 p.2]).take 32 = E.flatMap fun p => [u8 p.1, u8 p.2] := List.take_of_length_le (by omega)
  obtain ⟨n1, n2⟩ := tmod_b (a := N) (n := 17) hN.1 (by omega)
  obtain ⟨a1, a2'⟩ := tmod_b (a := A) (n := 6) hA.1 (by omega)
  have wA : IntKind.i64.wrap A = A := wrap_id (by omega) (by omega)
  have wN : IntKind.i64.wrap N = N := wrap_id (by omega) (by omega)
  have wM : IntKind.i64.wrap (1 + A.tmod 6) = mM A := wrap_id (by omega) (by omega)
  have z7 : ((6 : Int) = 0) = False := by simp
  have z11 : ((17 : Int) = 0) = False := by simp
  have hl : (N.tmod 17).toNat ≤ 16 := by omega
  refine Runs.ofW (fn := xf4) 20 (by kernel_rfl) (W_run 120 ?_)
  generalize hG : (E.flatMap fun p => [u8 p.1, u8 p.2]) = G at hR hch hT
  have hq : quA A N E = .ag (u8 A :: u8 N :: G) := by unfold quA; rw [hG]
  rw [hq]
  simp only [go_some, go_none, go_zero, nxt_op, nxt_guard, nxt_skip, nxt_label, nxt_region, nxt_drawn, nxt_seq, nxt_block, nxt_scope, nxt_exit, nxt_blk, nxt_lp, nxt_cond, nxt_loop, nxt_ret, nxt_stop, nxt_nil, Eng.start, frG, frF, isCall, stp, exec1, exec1K, dK, Nat.reduceDiv, keyA, wantedA, stepF, stF_mv, stF_bin, stF_len, stF_un, stF_pick, stF_load, stF_iadr, stF_box, stF_fadr, stF_store, stF_ext, stF_fld, stF_idx, stF_aadr, stF_app, stF_bldS, stF_slc, stF_slcA, stF_bld, stF_isnil, stF_mki, stF_mkf, stF_mkb, mapF_eq, evalF_eq, evalA, setAF, setA, setF_eq, putF_eq, lookF_eq, List.getD_cons_zero, List.getD_cons_succ, List.set_cons_zero, List.set_cons_succ, List.replicate, List.length_cons, List.length_nil, Nat.zero_add, Nat.reduceSub, Nat.reduceAdd, List.cons_append, List.nil_append, Option.getD, drop, Nat.beq, List.length_map, binV, binI, unV, if_true, Eng.asInt, Eng.part, cellsOf, toNat_cast, cast_nonneg, true_and, and_true, if_pos, giveOp, gvK, List.getElem?_cons_zero, List.getElem?_cons_succ, Bool.not_true, Bool.not_false, ofVal, eq_self, and_self, true_implies, dfF, touch, regF, quietF, pairOK, noCs, Go.Value.oneCell', decide_true, decide_false, Nat.mul_one, asBound, fullOf, Option.isSome_none, Option.isSome_some, Nat.zero_le, Bool.false_eq_true, false_implies, Int.cast_ofNat_Int, Int.reduceLT, Int.reduceLE, Int.reduceToNat, Nat.reduceMul, Int.le_refl, Eng.look, putAt, Nat.reduceEqDiff, reduceCtorEq, Nat.reduceBEq, if_false, List.all_cons, List.all_nil, tf_beq, ft_beq, lvSub, lvOK, isNone, width, solid, splice, List.take_zero, List.drop_zero, List.drop_nil, List.take_nil, List.drop_succ_cons, List.take_succ_cons, List.append_nil, beq_self_eq_true, Bool.and_true, Bool.true_and, Bool.and_self, ge_iff_le, gt_iff_lt, Nat.le_refl, Nat.reduceLeDiff, Nat.reduceLT, xf4, ai, u8, hR, hch, hT, raw_conv, rawC, opA, argT, Option.elim, wA, wN, wM, z7, z11, hl, n1, Go.Proofs.Eng.fillA, List.map_cons, List.map_nil]
  subst hG
  have eF : List.take (N.tmod 17).toNat (List.map u82 E) = (mE N E).map u82 := by unfold mE; rw [List.map_take]
  have hFl : (mE N E).length ≤ 16 := by unfold mE; rw [List.length_take]; omega
  rw [eF, List.length_map]
  refine W_alone (W_eta3 (made_loop A N (mM A) E (mE N E) _ _ _ _ (by unfold mM; omega) (fun p hp => hb p (List.mem_of_mem_take hp)) hFl (fun j3 j6 j7 j8 j9 j10 j11 j12 j13 j14 j15 j16 j17 j18 j19 j20 j24 j25 j26 j27 j28 j29 j30 j31 j32 j33 j34 j35 j36 j37 j38 j39 j40 j41 j42 j43 j44 j45 j46 j47 j48 j49 j50 j51 j52 j53 j54 j55 j56 j57 j58 j59 g7 g8 o7 o8 => W_run 80 ?_) (mE N E).length 0 (by omega) _ _ _ _ _ _ _ _ _ _ _ _ _ _ _ _ _ _ _ _ _ _ _ _ _ _ _ _ _ _ _ _ _ _ _ _ _ _ _ _ _ _ _ _ _ _ _ _ _ _ _ _ 0 0 none none))
  generalize mkL (mM A) (mE N E) = L
  generalize mM A = m
  cases L with
  | nil =>
    simp only [go_some, go_none, go_zero, nxt_op, nxt_guard, nxt_skip, nxt_label, nxt_region, nxt_drawn, nxt_seq, nxt_block, nxt_scope, nxt_exit, nxt_blk, nxt_lp, nxt_cond, nxt_loop, nxt_ret, nxt_stop, nxt_nil, Eng.start, frG, frF, isCall, stp, exec1, exec1K, dK, Nat.reduceDiv, keyA, wantedA, stepF, stF_mv, stF_bin, stF_len, stF_un, stF_pick, stF_load, stF_iadr, stF_box, stF_fadr, stF_store, stF_ext, stF_fld, stF_idx, stF_aadr, stF_app, stF_bldS, stF_slc, stF_slcA, stF_bld, stF_isnil, stF_mki, stF_mkf, stF_mkb, mapF_eq, evalF_eq, evalA, setAF, setA, setF_eq, putF_eq, lookF_eq, List.getD_cons_zero, List.getD_cons_succ, List.set_cons_zero, List.set_cons_succ, List.replicate, List.length_cons, List.length_nil, Nat.zero_add, Nat.reduceSub, Nat.reduceAdd, List.cons_append, List.nil_append, Option.getD, drop, Nat.beq, List.length_map, binV, binI, unV, if_true, Eng.asInt, Eng.part, cellsOf, toNat_cast, cast_nonneg, true_and, and_true, if_pos, giveOp, gvK, List.getElem?_cons_zero, List.getElem?_cons_succ, Bool.not_true, Bool.not_false, ofVal, eq_self, and_self, true_implies, dfF, touch, regF, quietF, pairOK, noCs, Go.Value.oneCell', decide_true, decide_false, Nat.mul_one, asBound, fullOf, Option.isSome_none, Option.isSome_some, Nat.zero_le, Bool.false_eq_true, false_implies, Int.cast_ofNat_Int, Int.reduceLT, Int.reduceLE, Int.reduceToNat, Nat.reduceMul, Int.le_refl, Eng.look, putAt, Nat.reduceEqDiff, reduceCtorEq, Nat.reduceBEq, if_false, List.all_cons, List.all_nil, tf_beq, ft_beq, lvSub, lvOK, isNone, width, solid, splice, List.take_zero, List.drop_zero, List.drop_nil, List.take_nil, List.drop_succ_cons, List.take_succ_cons, List.append_nil, beq_self_eq_true, Bool.and_true, Bool.true_and, Bool.and_self, ge_iff_le, gt_iff_lt, Nat.le_refl, Nat.reduceLeDiff, Nat.reduceLT, xf4_R0, ai, nilA, hpv, hrow]
    exact W_ret1 (WX_nil ⟨.inl rfl, _, rfl, rfl⟩)
  | cons x t =>
    simp only [go_some, go_none, go_zero, nxt_op, nxt_guard, nxt_skip, nxt_label, nxt_region, nxt_drawn, nxt_seq, nxt_block, nxt_scope, nxt_exit, nxt_blk, nxt_lp, nxt_cond, nxt_loop, nxt_ret, nxt_stop, nxt_nil, Eng.start, frG, frF, isCall, stp, exec1, exec1K, dK, Nat.reduceDiv, keyA, wantedA, stepF, stF_mv, stF_bin, stF_len, stF_un, stF_pick, stF_load, stF_iadr, stF_box, stF_fadr, stF_store, stF_ext, stF_fld, stF_idx, stF_aadr, stF_app, stF_bldS, stF_slc, stF_slcA, stF_bld, stF_isnil, stF_mki, stF_mkf, stF_mkb, mapF_eq, evalF_eq, evalA, setAF, setA, setF_eq, putF_eq, lookF_eq, List.getD_cons_zero, List.getD_cons_succ, List.set_cons_zero, List.set_cons_succ, List.replicate, List.length_cons, List.length_nil, Nat.zero_add, Nat.reduceSub, Nat.reduceAdd, List.cons_append, List.nil_append, Option.getD, drop, Nat.beq, List.length_map, binV, binI, unV, if_true, Eng.asInt, Eng.part, cellsOf, toNat_cast, cast_nonneg, true_and, and_true, if_pos, giveOp, gvK, List.getElem?_cons_zero, List.getElem?_cons_succ, Bool.not_true, Bool.not_false, ofVal, eq_self, and_self, true_implies, dfF, touch, regF, quietF, pairOK, noCs, Go.Value.oneCell', decide_true, decide_false, Nat.mul_one, asBound, fullOf, Option.isSome_none, Option.isSome_some, Nat.zero_le, Bool.false_eq_true, false_implies, Int.cast_ofNat_Int, Int.reduceLT, Int.reduceLE, Int.reduceToNat, Nat.reduceMul, Int.le_refl, Eng.look, putAt, Nat.reduceEqDiff, reduceCtorEq, Nat.reduceBEq, if_false, List.all_cons, List.all_nil, tf_beq, ft_beq, lvSub, lvOK, isNone, width, solid, splice, List.take_zero, List.drop_zero, List.drop_nil, List.take_nil, List.drop_succ_cons, List.take_succ_cons, List.append_nil, beq_self_eq_true, Bool.and_true, Bool.true_and, Bool.and_self, ge_iff_le, gt_iff_lt, Nat.le_refl, Nat.reduceLeDiff, Nat.reduceLT, xf4_R0, ai, nilA, hpv, hrow]
    refine W_ret1 (WX_nil ⟨.inl rfl, _, rfl, ?_⟩)
    show (([ai m, .os 56 1 (x :: t).length 2 0 (x :: t).length].mapM (reify _ 19)).map AV.ag) = _
    rw [List.mapM_cons, show reify _ 19 (ai m) = some (ai m) from rfl, List.mapM_cons, reify_os (l := x :: t) (elem_a2 _ 17) rfl]
    rfl
end Go.Proofs.Ytdbodafhpmmnhaa

