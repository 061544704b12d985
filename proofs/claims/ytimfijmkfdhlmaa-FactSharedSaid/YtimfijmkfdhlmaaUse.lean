/-
  Small things about lists that may be nil; the law's book passes Check.
-/
import Derived.Test.YtimfijmkfdhlmaaMade
set_option linter.unusedSimpArgs false
set_option linter.unusedVariables false
namespace Go.Proofs.Ytimfijmkfdhlmaa
open Go Go.Proofs.Eng
set_option maxRecDepth 100000
def hpv (L : List (Int × Int)) : AV := match L with | [] => nilA | x :: t => .os 69 1 (x :: t).length 2 0 (x :: t).length
def hrow (L : List (Int × Int)) : Nat × Option Ob := match L with | [] => (0, none) | x :: t => (1, some ⟨36, 2, (x :: t).map a2⟩)
def mdv (L : List (Int × Int)) : AV := match L with | [] => nilA | x :: t => ap false (x :: t)
theorem mkS_len (m : Int) (L : List (Int × Int)) (x : Int × Int) : (mkS m L x).length ≤ L.length + 1 := by unfold mkS; split <;> simp
theorem mkL_len (m : Int) (E : List (Int × Int)) : ∀ i, i ≤ E.length → (mkL m (E.take i)).length ≤ i
  | 0, _ => by simp [mkL]
  | i + 1, h => by
    rw [mkL_take h]
    exact Nat.le_trans (mkS_len _ _ _) (Nat.succ_le_succ (mkL_len m E i (Nat.le_of_lt h)))
theorem made_loop (A N m : Int) (E F : List (Int × Int)) (x0 : AV) (fE : Bool) (K : List Fr) (Q : Out → Cfg → Prop) (hm : 1 ≤ m ∧ m ≤ 7) (hb : ∀ p, p ∈ F → 0 ≤ p.1 ∧ p.1 ≤ 255 ∧ 0 ≤ p.2 ∧ p.2 ≤ 255) (hF : F.length ≤ 10)
    (hK : ∀ j3 j6 j7 j8 j9 j10 j11 j12 j13 j14 j15 j16 j17 j18 j19 j20 j21 j22 j26 j27 j28 j29 j30 j31 j32 j33 j34 j35 j36 j37 j38 j39 j40 j41 j42 j43 j44 j45 j46 j47 j48 j49 j50 j51 j52 j53 j54 j55 j56 j57 j58 j59 j60 j61 j62 j63 j64 j65 j66 j67 j68 j69 j70 j71 j72 : AV, ∀ (g7 g8 : Nat) (o7 o8 : Option Ob), W Try.prog (RelU Try.prog xf) 0 K ⟨(x0 :: (ai 1) :: (.ptr (quA A N E)) :: j3 :: (.o 4 1 1 0 0) :: (.o 5 1 1 0 0) :: j6 :: j7 :: j8 :: j9 :: j10 :: j11 :: j12 :: j13 :: j14 :: j15 :: j16 :: j17 :: j18 :: j19 :: j20 :: j21 :: j22 :: (.sl 2 fE (F.map u82)) :: (ai F.length) :: (ai F.length) :: j26 :: j27 :: j28 :: j29 :: j30 :: j31 :: j32 :: j33 :: j34 :: j35 :: j36 :: j37 :: j38 :: j39 :: j40 :: j41 :: j42 :: j43 :: j44 :: j45 :: j46 :: j47 :: j48 :: j49 :: j50 :: j51 :: j52 :: j53 :: j54 :: j55 :: j56 :: j57 :: j58 :: j59 :: j60 :: j61 :: j62 :: j63 :: j64 :: j65 :: j66 :: j67 :: j68 :: j69 :: j70 :: j71 :: j72 :: []), [(4, (1, some ⟨28, 2, [.ag [ai 0, nilA]]⟩)), (5, (1, some ⟨28, 2, [.ag [ai m, hpv (mkL m F)]]⟩)), (7, (g7, o7)), (8, (g8, o8)), (69, hrow (mkL m F))]⟩ Q) :
    ∀ (k i : Nat), i + k = F.length → ∀ j3 j6 j7 j8 j9 j10 j11 j12 j13 j14 j15 j16 j17 j18 j19 j20 j21 j22 j26 j27 j28 j29 j30 j31 j32 j33 j34 j35 j36 j37 j38 j39 j40 j41 j42 j43 j44 j45 j46 j47 j48 j49 j50 j51 j52 j53 j54 j55 j56 j57 j58 j59 j60 j61 j62 j63 j64 j65 j66 j67 j68 j69 j70 j71 j72 : AV, ∀ (g7 g8 : Nat) (o7 o8 : Option Ob), W Try.prog (RelU Try.prog xf) 0 (.code (.loop xf9_L0) :: .blk 0 :: .stop :: K) ⟨(x0 :: (ai 1) :: (.ptr (quA A N E)) :: j3 :: (.o 4 1 1 0 0) :: (.o 5 1 1 0 0) :: j6 :: j7 :: j8 :: j9 :: j10 :: j11 :: j12 :: j13 :: j14 :: j15 :: j16 :: j17 :: j18 :: j19 :: j20 :: j21 :: j22 :: (.sl 2 fE (F.map u82)) :: (ai F.length) :: (ai i) :: j26 :: j27 :: j28 :: j29 :: j30 :: j31 :: j32 :: j33 :: j34 :: j35 :: j36 :: j37 :: j38 :: j39 :: j40 :: j41 :: j42 :: j43 :: j44 :: j45 :: j46 :: j47 :: j48 :: j49 :: j50 :: j51 :: j52 :: j53 :: j54 :: j55 :: j56 :: j57 :: j58 :: j59 :: j60 :: j61 :: j62 :: j63 :: j64 :: j65 :: j66 :: j67 :: j68 :: j69 :: j70 :: j71 :: j72 :: []), [(4, (1, some ⟨28, 2, [.ag [ai 0, nilA]]⟩)), (5, (1, some ⟨28, 2, [.ag [ai m, hpv (mkL m (F.take i))]]⟩)), (7, (g7, o7)), (8, (g8, o8)), (69, hrow (mkL m (F.take i)))]⟩ Q := by
  intro k
  induction k with
  | zero =>
    intro i hi j3 j6 j7 j8 j9 j10 j11 j12 j13 j14 j15 j16 j17 j18 j19 j20 j21 j22 j26 j27 j28 j29 j30 j31 j32 j33 j34 j35 j36 j37 j38 j39 j40 j41 j42 j43 j44 j45 j46 j47 j48 j49 j50 j51 j52 j53 j54 j55 j56 j57 j58 j59 j60 j61 j62 j63 j64 j65 j66 j67 j68 j69 j70 j71 j72 g7 g8 o7 o8
    have : i = F.length := by omega
    subst this
    have h0 : decide (F.length < F.length) = false := by simp
    rw [List.take_length]
    refine W_loop (W_run 80 ?_)
    simp only [go_some, go_none, go_zero, nxt_op, nxt_guard, nxt_skip, nxt_region, nxt_drawn, nxt_seq, nxt_block, nxt_scope, nxt_exit, nxt_blk, nxt_lp, nxt_cond, nxt_loop, nxt_ret, nxt_stop, nxt_nil, Eng.start, frG, frF, isCall, stp, exec1, exec1K, keyA, wantedA, stepF, stF_mv, stF_bin, stF_len, stF_un, stF_pick, stF_load, stF_iadr, stF_box, stF_fadr, stF_store, stF_ext, stF_fld, stF_idx, stF_aadr, stF_app, stF_bldS, stF_slc, stF_slcA, stF_bld, stF_isnil, stF_mki, stF_mkf, stF_mkb, mapF_eq, evalF_eq, evalA, setAF, setA, setF_eq, putF_eq, lookF_eq, List.getD_cons_zero, List.getD_cons_succ, List.set_cons_zero, List.set_cons_succ, List.replicate, List.length_cons, List.length_nil, Nat.zero_add, Nat.reduceSub, Nat.reduceAdd, List.cons_append, List.nil_append, Option.getD, drop, Nat.beq, List.length_map, binV, binI, unV, if_true, Eng.asInt, Eng.part, cellsOf, toNat_cast, cast_nonneg, true_and, and_true, if_pos, giveOp, List.getElem?_cons_zero, List.getElem?_cons_succ, Bool.not_true, Bool.not_false, ofVal, eq_self, and_self, true_implies, dfF, touch, regF, quietF, pairOK, noCs, Go.Value.oneCell', decide_true, decide_false, Nat.mul_one, asBound, fullOf, Option.isSome_none, Option.isSome_some, Nat.zero_le, Bool.false_eq_true, false_implies, Int.cast_ofNat_Int, Int.reduceLT, Int.reduceLE, Int.reduceToNat, Nat.reduceMul, Int.le_refl, Eng.look, putAt, Nat.reduceEqDiff, reduceCtorEq, Nat.reduceBEq, if_false, List.all_cons, List.all_nil, tf_beq, ft_beq, lvSub, lvOK, isNone, width, solid, splice, List.take_zero, List.drop_zero, List.drop_nil, List.take_nil, List.drop_succ_cons, List.take_succ_cons, List.append_nil, beq_self_eq_true, Bool.and_true, Bool.true_and, Bool.and_self, ge_iff_le, gt_iff_lt, Nat.le_refl, Nat.reduceLeDiff, Nat.reduceLT, xf9_L0, ai, lt_cast, h0]
    exact W_stop (hK _ _ _ _ _ _ _ _ _ _ _ _ _ _ _ _ _ _ _ _ _ _ _ _ _ _ _ _ _ _ _ _ _ _ _ _ _ _ _ _ _ _ _ _ _ _ _ _ _ _ _ _ _ _ _ _ _ _ _ _ _ _ _ _ _ _ _ _ _)
  | succ k ih =>
    intro i hi j3 j6 j7 j8 j9 j10 j11 j12 j13 j14 j15 j16 j17 j18 j19 j20 j21 j22 j26 j27 j28 j29 j30 j31 j32 j33 j34 j35 j36 j37 j38 j39 j40 j41 j42 j43 j44 j45 j46 j47 j48 j49 j50 j51 j52 j53 j54 j55 j56 j57 j58 j59 j60 j61 j62 j63 j64 j65 j66 j67 j68 j69 j70 j71 j72 g7 g8 o7 o8
    have h1 : i < F.length := by omega
    have hlen := mkL_len m F i (by omega)
    have hnx := mkL_take (m := m) h1
    generalize hL : mkL m (F.take i) = L at hlen hnx
    have next : ∀ j3 j6 j7 j8 j9 j10 j11 j12 j13 j14 j15 j16 j17 j18 j19 j20 j21 j22 j26 j27 j28 j29 j30 j31 j32 j33 j34 j35 j36 j37 j38 j39 j40 j41 j42 j43 j44 j45 j46 j47 j48 j49 j50 j51 j52 j53 j54 j55 j56 j57 j58 j59 j60 j61 j62 j63 j64 j65 j66 j67 j68 j69 j70 j71 j72 : AV, ∀ (g7 g8 : Nat) (o7 o8 : Option Ob) (L2 : List (Int × Int)), mkS m L (F.getD i (0, 0)) = L2 → W Try.prog (RelU Try.prog xf) 0 (.code (.loop xf9_L0) :: .blk 0 :: .stop :: K) ⟨(x0 :: (ai 1) :: (.ptr (quA A N E)) :: j3 :: (.o 4 1 1 0 0) :: (.o 5 1 1 0 0) :: j6 :: j7 :: j8 :: j9 :: j10 :: j11 :: j12 :: j13 :: j14 :: j15 :: j16 :: j17 :: j18 :: j19 :: j20 :: j21 :: j22 :: (.sl 2 fE (F.map u82)) :: (ai F.length) :: (ai ((i + 1 : Nat) : Int)) :: j26 :: j27 :: j28 :: j29 :: j30 :: j31 :: j32 :: j33 :: j34 :: j35 :: j36 :: j37 :: j38 :: j39 :: j40 :: j41 :: j42 :: j43 :: j44 :: j45 :: j46 :: j47 :: j48 :: j49 :: j50 :: j51 :: j52 :: j53 :: j54 :: j55 :: j56 :: j57 :: j58 :: j59 :: j60 :: j61 :: j62 :: j63 :: j64 :: j65 :: j66 :: j67 :: j68 :: j69 :: j70 :: j71 :: j72 :: []), [(4, (1, some ⟨28, 2, [.ag [ai 0, nilA]]⟩)), (5, (1, some ⟨28, 2, [.ag [ai m, hpv L2]]⟩)), (7, (g7, o7)), (8, (g8, o8)), (69, hrow L2)]⟩ Q := fun j3 j6 j7 j8 j9 j10 j11 j12 j13 j14 j15 j16 j17 j18 j19 j20 j21 j22 j26 j27 j28 j29 j30 j31 j32 j33 j34 j35 j36 j37 j38 j39 j40 j41 j42 j43 j44 j45 j46 j47 j48 j49 j50 j51 j52 j53 j54 j55 j56 j57 j58 j59 j60 j61 j62 j63 j64 j65 j66 j67 j68 j69 j70 j71 j72 g7 g8 o7 o8 L2 h2 => by
      have := ih (i + 1) (by omega) j3 j6 j7 j8 j9 j10 j11 j12 j13 j14 j15 j16 j17 j18 j19 j20 j21 j22 j26 j27 j28 j29 j30 j31 j32 j33 j34 j35 j36 j37 j38 j39 j40 j41 j42 j43 j44 j45 j46 j47 j48 j49 j50 j51 j52 j53 j54 j55 j56 j57 j58 j59 j60 j61 j62 j63 j64 j65 j66 j67 j68 j69 j70 j71 j72 g7 g8 o7 o8
      rw [hnx, h2] at this
      exact this
    cases L with
    | nil =>
      refine made_none A N m E F x0 fE K Q i h1 hm hb hF (fun hp j3 j6 j7 j8 j9 j10 j11 j12 j13 j14 j15 j16 j17 j18 j19 j20 j21 j22 j26 j27 j28 j29 j30 j31 j32 j33 j34 j35 j36 j37 j38 j39 j40 j41 j42 j43 j44 j45 j46 j47 j48 j49 j50 j51 j52 j53 j54 j55 j56 j57 j58 j59 j60 j61 j62 j63 j64 j65 j66 j67 j68 j69 j70 j71 j72 g7 g8 o7 o8 => next j3 j6 j7 j8 j9 j10 j11 j12 j13 j14 j15 j16 j17 j18 j19 j20 j21 j22 j26 j27 j28 j29 j30 j31 j32 j33 j34 j35 j36 j37 j38 j39 j40 j41 j42 j43 j44 j45 j46 j47 j48 j49 j50 j51 j52 j53 j54 j55 j56 j57 j58 j59 j60 j61 j62 j63 j64 j65 j66 j67 j68 j69 j70 j71 j72 g7 g8 o7 o8 [] (by unfold mkS; rw [if_neg (fun q => q.1 hp)])) (fun hp j3 j6 j7 j8 j9 j10 j11 j12 j13 j14 j15 j16 j17 j18 j19 j20 j21 j22 j26 j27 j28 j29 j30 j31 j32 j33 j34 j35 j36 j37 j38 j39 j40 j41 j42 j43 j44 j45 j46 j47 j48 j49 j50 j51 j52 j53 j54 j55 j56 j57 j58 j59 j60 j61 j62 j63 j64 j65 j66 j67 j68 j69 j70 j71 j72 g7 g8 o7 o8 L2 e2 => ?_) _ _ _ _ _ _ _ _ _ _ _ _ _ _ _ _ _ _ _ _ _ _ _ _ _ _ _ _ _ _ _ _ _ _ _ _ _ _ _ _ _ _ _ _ _ _ _ _ _ _ _ _ _ _ _ _ _ _ _ _ _ _ _ _ _ g7 g8 o7 o8
      subst e2
      exact next j3 j6 j7 j8 j9 j10 j11 j12 j13 j14 j15 j16 j17 j18 j19 j20 j21 j22 j26 j27 j28 j29 j30 j31 j32 j33 j34 j35 j36 j37 j38 j39 j40 j41 j42 j43 j44 j45 j46 j47 j48 j49 j50 j51 j52 j53 j54 j55 j56 j57 j58 j59 j60 j61 j62 j63 j64 j65 j66 j67 j68 j69 j70 j71 j72 g7 g8 o7 o8 [prM m (F.getD i (0, 0))] (by unfold mkS; rw [if_pos ⟨hp, by simp⟩]; rfl)
    | cons x t =>
      refine made_some A N m E F x0 fE K Q i h1 hm hb hF (x :: t) (by omega) (fun hs j3 j6 j7 j8 j9 j10 j11 j12 j13 j14 j15 j16 j17 j18 j19 j20 j21 j22 j26 j27 j28 j29 j30 j31 j32 j33 j34 j35 j36 j37 j38 j39 j40 j41 j42 j43 j44 j45 j46 j47 j48 j49 j50 j51 j52 j53 j54 j55 j56 j57 j58 j59 j60 j61 j62 j63 j64 j65 j66 j67 j68 j69 j70 j71 j72 g7 g8 o7 o8 => next j3 j6 j7 j8 j9 j10 j11 j12 j13 j14 j15 j16 j17 j18 j19 j20 j21 j22 j26 j27 j28 j29 j30 j31 j32 j33 j34 j35 j36 j37 j38 j39 j40 j41 j42 j43 j44 j45 j46 j47 j48 j49 j50 j51 j52 j53 j54 j55 j56 j57 j58 j59 j60 j61 j62 j63 j64 j65 j66 j67 j68 j69 j70 j71 j72 g7 g8 o7 o8 (x :: t) hs) (fun j3 j6 j7 j8 j9 j10 j11 j12 j13 j14 j15 j16 j17 j18 j19 j20 j21 j22 j26 j27 j28 j29 j30 j31 j32 j33 j34 j35 j36 j37 j38 j39 j40 j41 j42 j43 j44 j45 j46 j47 j48 j49 j50 j51 j52 j53 j54 j55 j56 j57 j58 j59 j60 j61 j62 j63 j64 j65 j66 j67 j68 j69 j70 j71 j72 g7 g8 o7 o8 L2 e2 hs => ?_) _ _ _ _ _ _ _ _ _ _ _ _ _ _ _ _ _ _ _ _ _ _ _ _ _ _ _ _ _ _ _ _ _ _ _ _ _ _ _ _ _ _ _ _ _ _ _ _ _ _ _ _ _ _ _ _ _ _ _ _ _ _ _ _ _ g7 g8 o7 o8
      have := next j3 j6 j7 j8 j9 j10 j11 j12 j13 j14 j15 j16 j17 j18 j19 j20 j21 j22 j26 j27 j28 j29 j30 j31 j32 j33 j34 j35 j36 j37 j38 j39 j40 j41 j42 j43 j44 j45 j46 j47 j48 j49 j50 j51 j52 j53 j54 j55 j56 j57 j58 j59 j60 j61 j62 j63 j64 j65 j66 j67 j68 j69 j70 j71 j72 g7 g8 o7 o8 L2 hs
      cases L2 with
      | nil => simp at e2
      | cons y u => exact this
def mM (A : Int) : Int := 1 + A.tmod 7
def mE (N : Int) (E : List (Int × Int)) : List (Int × Int) := E.take (N.tmod 11).toNat
theorem tmod_b {a n : Int} (h : 0 ≤ a) (hn : 0 < n) : 0 ≤ a.tmod n ∧ a.tmod n < n := by
  rw [Int.tmod_eq_emod_of_nonneg h]
  exact ⟨Int.emod_nonneg _ (by omega), Int.emod_lt_of_pos _ hn⟩
theorem W_eta3 {P : Program} {R : Rel} {kb : Nat} {k : List Fr} {σ : List AV} {Q : Out → Cfg → Prop} {x : XCode} {r4 r5 : Nat × Option Ob} (h : W P R kb (.code x :: k) ⟨σ, [(4, r4), (5, r5), (7, (0, none)), (8, (0, none)), (69, (0, none))]⟩ Q) : W P R kb (.code x :: k) ⟨σ, [(4, r4), (5, r5)]⟩ Q := by
  refine W_weak (c := ⟨σ, [(4, r4), (5, r5)]⟩) (c1 := ⟨σ, [(4, r4), (5, r5), (7, (0, none)), (8, (0, none)), (69, (0, none))]⟩) ⟨rfl, fun t x y h1 h2 => ?_, fun k => ?_⟩ h
  · simp only at h1 h2; rw [h1] at h2; injection h2 with h2; subst h2; exact .refl _
  · have e : Go.Proofs.Eng.look [(4, r4), (5, r5), (7, (0, none)), (8, (0, none)), (69, (0, none))] k = Go.Proofs.Eng.look [(4, r4), (5, r5)] k := by
      simp only [Go.Proofs.Eng.look]
      by_cases h4 : 4 = k
      · simp [h4]
      · by_cases h5 : 5 = k
        · simp [h4, h5]
        · simp [h4, h5]
    exact ⟨by rw [e], .inr (by rw [e])⟩
theorem made_run (A N : Int) (E : List (Int × Int)) (hE : E.length = 10) (hA : 0 ≤ A ∧ A ≤ 255) (hN : 0 ≤ N ∧ N ≤ 255) (hb : ∀ p, p ∈ E → 0 ≤ p.1 ∧ p.1 ≤ 255 ∧ 0 ≤ p.2 ∧ p.2 ≤ 255) :
    Runs Try.prog xf 9 [quA A N E, ai 1] (bkA (mM A) (mdv (mkL (mM A) (mE N E)))) := by
  have hR := flat_len2 E
  rw [hE] at hR
  have hch := chunk10 hE
  have hT : (E.flatMap fun p => [u8 p.1, u8 p.2]).take 20 = E.flatMap fun p => [u8 p.1, u8 p.2] := List.take_of_length_le (by omega)
  obtain ⟨n1, n2⟩ := tmod_b (a := N) (n := 11) hN.1 (by omega)
  obtain ⟨a1, a2'⟩ := tmod_b (a := A) (n := 7) hA.1 (by omega)
  have wA : IntKind.i64.wrap A = A := wrap_id (by omega) (by omega)
  have wN : IntKind.i64.wrap N = N := wrap_id (by omega) (by omega)
  have w7 : IntKind.i64.wrap (8 - 1) = 7 := by rw [wrap_id (by omega) (by omega)]; rfl
  have wM : IntKind.i64.wrap (1 + A.tmod 7) = mM A := wrap_id (by omega) (by omega)
  have z7 : ((7 : Int) = 0) = False := by simp
  have z11 : ((11 : Int) = 0) = False := by simp
  have hl : (N.tmod 11).toNat ≤ 10 := by omega
  refine Runs.ofW (fn := xf9) 20 (by kernel_rfl) (W_run 120 ?_)
  generalize hG : (E.flatMap fun p => [u8 p.1, u8 p.2]) = G at hR hch hT
  have hq : quA A N E = .ag (u8 A :: u8 N :: G) := by unfold quA; rw [hG]
  rw [hq]
  simp only [go_some, go_none, go_zero, nxt_op, nxt_guard, nxt_skip, nxt_region, nxt_drawn, nxt_seq, nxt_block, nxt_scope, nxt_exit, nxt_blk, nxt_lp, nxt_cond, nxt_loop, nxt_ret, nxt_stop, nxt_nil, Eng.start, frG, frF, isCall, stp, exec1, exec1K, keyA, wantedA, stepF, stF_mv, stF_bin, stF_len, stF_un, stF_pick, stF_load, stF_iadr, stF_box, stF_fadr, stF_store, stF_ext, stF_fld, stF_idx, stF_aadr, stF_app, stF_bldS, stF_slc, stF_slcA, stF_bld, stF_isnil, stF_mki, stF_mkf, stF_mkb, mapF_eq, evalF_eq, evalA, setAF, setA, setF_eq, putF_eq, lookF_eq, List.getD_cons_zero, List.getD_cons_succ, List.set_cons_zero, List.set_cons_succ, List.replicate, List.length_cons, List.length_nil, Nat.zero_add, Nat.reduceSub, Nat.reduceAdd, List.cons_append, List.nil_append, Option.getD, drop, Nat.beq, List.length_map, binV, binI, unV, if_true, Eng.asInt, Eng.part, cellsOf, toNat_cast, cast_nonneg, true_and, and_true, if_pos, giveOp, List.getElem?_cons_zero, List.getElem?_cons_succ, Bool.not_true, Bool.not_false, ofVal, eq_self, and_self, true_implies, dfF, touch, regF, quietF, pairOK, noCs, Go.Value.oneCell', decide_true, decide_false, Nat.mul_one, asBound, fullOf, Option.isSome_none, Option.isSome_some, Nat.zero_le, Bool.false_eq_true, false_implies, Int.cast_ofNat_Int, Int.reduceLT, Int.reduceLE, Int.reduceToNat, Nat.reduceMul, Int.le_refl, Eng.look, putAt, Nat.reduceEqDiff, reduceCtorEq, Nat.reduceBEq, if_false, List.all_cons, List.all_nil, tf_beq, ft_beq, lvSub, lvOK, isNone, width, solid, splice, List.take_zero, List.drop_zero, List.drop_nil, List.take_nil, List.drop_succ_cons, List.take_succ_cons, List.append_nil, beq_self_eq_true, Bool.and_true, Bool.true_and, Bool.and_self, ge_iff_le, gt_iff_lt, Nat.le_refl, Nat.reduceLeDiff, Nat.reduceLT, xf9, ai, u8, hR, hch, hT, raw_conv, rawC, opA, argT, Option.elim, wA, wN, w7, wM, z7, z11, hl, n1, Go.Proofs.Eng.fillA, List.map_cons, List.map_nil]
  subst hG
  have eF : List.take (N.tmod 11).toNat (List.map u82 E) = (mE N E).map u82 := by unfold mE; rw [List.map_take]
  have hFl : (mE N E).length ≤ 10 := by unfold mE; rw [List.length_take]; omega
  rw [eF, List.length_map]
  refine W_alone (W_eta3 (made_loop A N (mM A) E (mE N E) _ _ _ _ (by unfold mM; omega) (fun p hp => hb p (List.mem_of_mem_take hp)) hFl (fun j3 j6 j7 j8 j9 j10 j11 j12 j13 j14 j15 j16 j17 j18 j19 j20 j21 j22 j26 j27 j28 j29 j30 j31 j32 j33 j34 j35 j36 j37 j38 j39 j40 j41 j42 j43 j44 j45 j46 j47 j48 j49 j50 j51 j52 j53 j54 j55 j56 j57 j58 j59 j60 j61 j62 j63 j64 j65 j66 j67 j68 j69 j70 j71 j72 g7 g8 o7 o8 => W_run 80 ?_) (mE N E).length 0 (by omega) _ _ _ _ _ _ _ _ _ _ _ _ _ _ _ _ _ _ _ _ _ _ _ _ _ _ _ _ _ _ _ _ _ _ _ _ _ _ _ _ _ _ _ _ _ _ _ _ _ _ _ _ _ _ _ _ _ _ _ _ _ _ _ _ _ 0 0 none none))
  generalize mkL (mM A) (mE N E) = L
  generalize mM A = m
  cases L with
  | nil =>
    simp only [go_some, go_none, go_zero, nxt_op, nxt_guard, nxt_skip, nxt_region, nxt_drawn, nxt_seq, nxt_block, nxt_scope, nxt_exit, nxt_blk, nxt_lp, nxt_cond, nxt_loop, nxt_ret, nxt_stop, nxt_nil, Eng.start, frG, frF, isCall, stp, exec1, exec1K, keyA, wantedA, stepF, stF_mv, stF_bin, stF_len, stF_un, stF_pick, stF_load, stF_iadr, stF_box, stF_fadr, stF_store, stF_ext, stF_fld, stF_idx, stF_aadr, stF_app, stF_bldS, stF_slc, stF_slcA, stF_bld, stF_isnil, stF_mki, stF_mkf, stF_mkb, mapF_eq, evalF_eq, evalA, setAF, setA, setF_eq, putF_eq, lookF_eq, List.getD_cons_zero, List.getD_cons_succ, List.set_cons_zero, List.set_cons_succ, List.replicate, List.length_cons, List.length_nil, Nat.zero_add, Nat.reduceSub, Nat.reduceAdd, List.cons_append, List.nil_append, Option.getD, drop, Nat.beq, List.length_map, binV, binI, unV, if_true, Eng.asInt, Eng.part, cellsOf, toNat_cast, cast_nonneg, true_and, and_true, if_pos, giveOp, List.getElem?_cons_zero, List.getElem?_cons_succ, Bool.not_true, Bool.not_false, ofVal, eq_self, and_self, true_implies, dfF, touch, regF, quietF, pairOK, noCs, Go.Value.oneCell', decide_true, decide_false, Nat.mul_one, asBound, fullOf, Option.isSome_none, Option.isSome_some, Nat.zero_le, Bool.false_eq_true, false_implies, Int.cast_ofNat_Int, Int.reduceLT, Int.reduceLE, Int.reduceToNat, Nat.reduceMul, Int.le_refl, Eng.look, putAt, Nat.reduceEqDiff, reduceCtorEq, Nat.reduceBEq, if_false, List.all_cons, List.all_nil, tf_beq, ft_beq, lvSub, lvOK, isNone, width, solid, splice, List.take_zero, List.drop_zero, List.drop_nil, List.take_nil, List.drop_succ_cons, List.take_succ_cons, List.append_nil, beq_self_eq_true, Bool.and_true, Bool.true_and, Bool.and_self, ge_iff_le, gt_iff_lt, Nat.le_refl, Nat.reduceLeDiff, Nat.reduceLT, xf9_R0, ai, nilA, hpv, hrow]
    exact W_ret1 (WX_nil ⟨.inl rfl, _, rfl, rfl⟩)
  | cons x t =>
    simp only [go_some, go_none, go_zero, nxt_op, nxt_guard, nxt_skip, nxt_region, nxt_drawn, nxt_seq, nxt_block, nxt_scope, nxt_exit, nxt_blk, nxt_lp, nxt_cond, nxt_loop, nxt_ret, nxt_stop, nxt_nil, Eng.start, frG, frF, isCall, stp, exec1, exec1K, keyA, wantedA, stepF, stF_mv, stF_bin, stF_len, stF_un, stF_pick, stF_load, stF_iadr, stF_box, stF_fadr, stF_store, stF_ext, stF_fld, stF_idx, stF_aadr, stF_app, stF_bldS, stF_slc, stF_slcA, stF_bld, stF_isnil, stF_mki, stF_mkf, stF_mkb, mapF_eq, evalF_eq, evalA, setAF, setA, setF_eq, putF_eq, lookF_eq, List.getD_cons_zero, List.getD_cons_succ, List.set_cons_zero, List.set_cons_succ, List.replicate, List.length_cons, List.length_nil, Nat.zero_add, Nat.reduceSub, Nat.reduceAdd, List.cons_append, List.nil_append, Option.getD, drop, Nat.beq, List.length_map, binV, binI, unV, if_true, Eng.asInt, Eng.part, cellsOf, toNat_cast, cast_nonneg, true_and, and_true, if_pos, giveOp, List.getElem?_cons_zero, List.getElem?_cons_succ, Bool.not_true, Bool.not_false, ofVal, eq_self, and_self, true_implies, dfF, touch, regF, quietF, pairOK, noCs, Go.Value.oneCell', decide_true, decide_false, Nat.mul_one, asBound, fullOf, Option.isSome_none, Option.isSome_some, Nat.zero_le, Bool.false_eq_true, false_implies, Int.cast_ofNat_Int, Int.reduceLT, Int.reduceLE, Int.reduceToNat, Nat.reduceMul, Int.le_refl, Eng.look, putAt, Nat.reduceEqDiff, reduceCtorEq, Nat.reduceBEq, if_false, List.all_cons, List.all_nil, tf_beq, ft_beq, lvSub, lvOK, isNone, width, solid, splice, List.take_zero, List.drop_zero, List.drop_nil, List.take_nil, List.drop_succ_cons, List.take_succ_cons, List.append_nil, beq_self_eq_true, Bool.and_true, Bool.true_and, Bool.and_self, ge_iff_le, gt_iff_lt, Nat.le_refl, Nat.reduceLeDiff, Nat.reduceLT, xf9_R0, ai, nilA, hpv, hrow]
    refine W_ret1 (WX_nil ⟨.inl rfl, _, rfl, ?_⟩)
    show (([ai m, .os 69 1 (x :: t).length 2 0 (x :: t).length].mapM (reify _ 19)).map AV.ag) = _
    rw [List.mapM_cons, show reify _ 19 (ai m) = some (ai m) from rfl, List.mapM_cons, reify_os (l := x :: t) (elem_a2 _ 17) rfl]
    rfl
end Go.Proofs.Ytimfijmkfdhlmaa


set_option linter.unusedSimpArgs false
set_option linter.unusedVariables false
namespace Go.Proofs.Ytimfijmkfdhlmaa
open Go Go.Proofs.Eng
set_option maxRecDepth 100000
theorem isL.len {x : AV} {l : List Int} (h : isL x l) : x = nilA ∧ l = [] ∨ ∃ f, x = al f l := by rcases h with h | h; exact .inr h; exact .inl h
theorem isP.cas {x : AV} {l : List (Int × Int)} (h : isP x l) : x = nilA ∧ l = [] ∨ ∃ f, x = ap f l := by rcases h with h | h; exact .inr h; exact .inl h
theorem has1_nil (p : Int) : Runs Try.prog xf 81 [nilA, ai p] (ab false) := by
  have hi : Runs Try.prog xf 16 [nilA, ai p] (ai (-1)) := by
    refine Runs.ofW (fn := xf16) 20 (by kernel_rfl) (W_run 60 ?_)
    simp only [go_some, go_none, go_zero, nxt_op, nxt_guard, nxt_skip, nxt_region, nxt_drawn, nxt_seq, nxt_block, nxt_scope, nxt_exit, nxt_blk, nxt_lp, nxt_cond, nxt_loop, nxt_ret, nxt_stop, nxt_nil, Eng.start, frG, frF, isCall, stp, exec1, exec1K, keyA, wantedA, stepF, stF_mv, stF_bin, stF_len, stF_un, stF_pick, stF_load, stF_iadr, stF_box, stF_fadr, stF_store, stF_ext, stF_fld, stF_idx, stF_aadr, stF_app, stF_bldS, stF_slc, stF_slcA, stF_bld, stF_isnil, stF_mki, stF_mkf, stF_mkb, mapF_eq, evalF_eq, evalA, setAF, setA, setF_eq, putF_eq, lookF_eq, List.getD_cons_zero, List.getD_cons_succ, List.set_cons_zero, List.set_cons_succ, List.replicate, List.length_cons, List.length_nil, Nat.zero_add, Nat.reduceSub, Nat.reduceAdd, List.cons_append, List.nil_append, Option.getD, drop, Nat.beq, List.length_map, binV, binI, unV, if_true, Eng.asInt, Eng.part, cellsOf, toNat_cast, cast_nonneg, true_and, and_true, if_pos, giveOp, List.getElem?_cons_zero, List.getElem?_cons_succ, Bool.not_true, Bool.not_false, ofVal, eq_self, and_self, true_implies, dfF, touch, regF, quietF, pairOK, noCs, Go.Value.oneCell', decide_true, decide_false, Nat.mul_one, asBound, fullOf, Option.isSome_none, Option.isSome_some, Nat.zero_le, Bool.false_eq_true, false_implies, Int.cast_ofNat_Int, Int.reduceLT, Int.reduceLE, Int.reduceToNat, Nat.reduceMul, Int.le_refl, Eng.look, putAt, Nat.reduceEqDiff, reduceCtorEq, Nat.reduceBEq, if_false, List.all_cons, List.all_nil, tf_beq, ft_beq, lvSub, lvOK, isNone, width, solid, splice, List.take_zero, List.drop_zero, List.drop_nil, List.take_nil, List.drop_succ_cons, List.take_succ_cons, List.append_nil, beq_self_eq_true, Bool.and_true, Bool.true_and, Bool.and_self, ge_iff_le, gt_iff_lt, Nat.le_refl, Nat.reduceLeDiff, Nat.reduceLT, xf16, nilA, ai]
    refine W_loop (W_run 40 ?_)
    simp only [go_some, go_none, go_zero, nxt_op, nxt_guard, nxt_skip, nxt_region, nxt_drawn, nxt_seq, nxt_block, nxt_scope, nxt_exit, nxt_blk, nxt_lp, nxt_cond, nxt_loop, nxt_ret, nxt_stop, nxt_nil, Eng.start, frG, frF, isCall, stp, exec1, exec1K, keyA, wantedA, stepF, stF_mv, stF_bin, stF_len, stF_un, stF_pick, stF_load, stF_iadr, stF_box, stF_fadr, stF_store, stF_ext, stF_fld, stF_idx, stF_aadr, stF_app, stF_bldS, stF_slc, stF_slcA, stF_bld, stF_isnil, stF_mki, stF_mkf, stF_mkb, mapF_eq, evalF_eq, evalA, setAF, setA, setF_eq, putF_eq, lookF_eq, List.getD_cons_zero, List.getD_cons_succ, List.set_cons_zero, List.set_cons_succ, List.replicate, List.length_cons, List.length_nil, Nat.zero_add, Nat.reduceSub, Nat.reduceAdd, List.cons_append, List.nil_append, Option.getD, drop, Nat.beq, List.length_map, binV, binI, unV, if_true, Eng.asInt, Eng.part, cellsOf, toNat_cast, cast_nonneg, true_and, and_true, if_pos, giveOp, List.getElem?_cons_zero, List.getElem?_cons_succ, Bool.not_true, Bool.not_false, ofVal, eq_self, and_self, true_implies, dfF, touch, regF, quietF, pairOK, noCs, Go.Value.oneCell', decide_true, decide_false, Nat.mul_one, asBound, fullOf, Option.isSome_none, Option.isSome_some, Nat.zero_le, Bool.false_eq_true, false_implies, Int.cast_ofNat_Int, Int.reduceLT, Int.reduceLE, Int.reduceToNat, Nat.reduceMul, Int.le_refl, Eng.look, putAt, Nat.reduceEqDiff, reduceCtorEq, Nat.reduceBEq, if_false, List.all_cons, List.all_nil, tf_beq, ft_beq, lvSub, lvOK, isNone, width, solid, splice, List.take_zero, List.drop_zero, List.drop_nil, List.take_nil, List.drop_succ_cons, List.take_succ_cons, List.append_nil, beq_self_eq_true, Bool.and_true, Bool.true_and, Bool.and_self, ge_iff_le, gt_iff_lt, Nat.le_refl, Nat.reduceLeDiff, Nat.reduceLT, xf16_L0, xf16_R0, d00, ai]
    exact W_ret1 (WX_nil ⟨.inl rfl, _, rfl, rfl⟩)
  refine Runs.ofW (fn := xf81) 20 (by kernel_rfl) (W_run 60 ?_)
  simp only [go_some, go_none, go_zero, nxt_op, nxt_guard, nxt_skip, nxt_region, nxt_drawn, nxt_seq, nxt_block, nxt_scope, nxt_exit, nxt_blk, nxt_lp, nxt_cond, nxt_loop, nxt_ret, nxt_stop, nxt_nil, Eng.start, frG, frF, isCall, stp, exec1, exec1K, keyA, wantedA, stepF, stF_mv, stF_bin, stF_len, stF_un, stF_pick, stF_load, stF_iadr, stF_box, stF_fadr, stF_store, stF_ext, stF_fld, stF_idx, stF_aadr, stF_app, stF_bldS, stF_slc, stF_slcA, stF_bld, stF_isnil, stF_mki, stF_mkf, stF_mkb, mapF_eq, evalF_eq, evalA, setAF, setA, setF_eq, putF_eq, lookF_eq, List.getD_cons_zero, List.getD_cons_succ, List.set_cons_zero, List.set_cons_succ, List.replicate, List.length_cons, List.length_nil, Nat.zero_add, Nat.reduceSub, Nat.reduceAdd, List.cons_append, List.nil_append, Option.getD, drop, Nat.beq, List.length_map, binV, binI, unV, if_true, Eng.asInt, Eng.part, cellsOf, toNat_cast, cast_nonneg, true_and, and_true, if_pos, giveOp, List.getElem?_cons_zero, List.getElem?_cons_succ, Bool.not_true, Bool.not_false, ofVal, eq_self, and_self, true_implies, dfF, touch, regF, quietF, pairOK, noCs, Go.Value.oneCell', decide_true, decide_false, Nat.mul_one, asBound, fullOf, Option.isSome_none, Option.isSome_some, Nat.zero_le, Bool.false_eq_true, false_implies, Int.cast_ofNat_Int, Int.reduceLT, Int.reduceLE, Int.reduceToNat, Nat.reduceMul, Int.le_refl, Eng.look, putAt, Nat.reduceEqDiff, reduceCtorEq, Nat.reduceBEq, if_false, List.all_cons, List.all_nil, tf_beq, ft_beq, lvSub, lvOK, isNone, width, solid, splice, List.take_zero, List.drop_zero, List.drop_nil, List.take_nil, List.drop_succ_cons, List.take_succ_cons, List.append_nil, beq_self_eq_true, Bool.and_true, Bool.true_and, Bool.and_self, ge_iff_le, gt_iff_lt, Nat.le_refl, Nat.reduceLeDiff, Nat.reduceLT, xf81, nilA, ai]
  refine W_call (args := [nilA, ai p]) rfl rfl hi rfl (W_run 60 ?_)
  have d : decide ((0 : Int) ≤ -1) = false := rfl
  simp only [go_some, go_none, go_zero, nxt_op, nxt_guard, nxt_skip, nxt_region, nxt_drawn, nxt_seq, nxt_block, nxt_scope, nxt_exit, nxt_blk, nxt_lp, nxt_cond, nxt_loop, nxt_ret, nxt_stop, nxt_nil, Eng.start, frG, frF, isCall, stp, exec1, exec1K, keyA, wantedA, stepF, stF_mv, stF_bin, stF_len, stF_un, stF_pick, stF_load, stF_iadr, stF_box, stF_fadr, stF_store, stF_ext, stF_fld, stF_idx, stF_aadr, stF_app, stF_bldS, stF_slc, stF_slcA, stF_bld, stF_isnil, stF_mki, stF_mkf, stF_mkb, mapF_eq, evalF_eq, evalA, setAF, setA, setF_eq, putF_eq, lookF_eq, List.getD_cons_zero, List.getD_cons_succ, List.set_cons_zero, List.set_cons_succ, List.replicate, List.length_cons, List.length_nil, Nat.zero_add, Nat.reduceSub, Nat.reduceAdd, List.cons_append, List.nil_append, Option.getD, drop, Nat.beq, List.length_map, binV, binI, unV, if_true, Eng.asInt, Eng.part, cellsOf, toNat_cast, cast_nonneg, true_and, and_true, if_pos, giveOp, List.getElem?_cons_zero, List.getElem?_cons_succ, Bool.not_true, Bool.not_false, ofVal, eq_self, and_self, true_implies, dfF, touch, regF, quietF, pairOK, noCs, Go.Value.oneCell', decide_true, decide_false, Nat.mul_one, asBound, fullOf, Option.isSome_none, Option.isSome_some, Nat.zero_le, Bool.false_eq_true, false_implies, Int.cast_ofNat_Int, Int.reduceLT, Int.reduceLE, Int.reduceToNat, Nat.reduceMul, Int.le_refl, Eng.look, putAt, Nat.reduceEqDiff, reduceCtorEq, Nat.reduceBEq, if_false, List.all_cons, List.all_nil, tf_beq, ft_beq, lvSub, lvOK, isNone, width, solid, splice, List.take_zero, List.drop_zero, List.drop_nil, List.take_nil, List.drop_succ_cons, List.take_succ_cons, List.append_nil, beq_self_eq_true, Bool.and_true, Bool.true_and, Bool.and_self, ge_iff_le, gt_iff_lt, Nat.le_refl, Nat.reduceLeDiff, Nat.reduceLT, ai, d]
  exact W_ret1 (WX_nil ⟨.inl rfl, _, rfl, rfl⟩)
theorem chkL_zero {m : Int} {l : List (Int × Int)} : ∀ (k i : Nat), (∀ j, i ≤ j → j < i + k → pairE m l j = 0) → chkL m l k i = 0
  | 0, _, _ => rfl
  | k + 1, i, h => by
    unfold chkL
    rw [if_pos (h i (Nat.le_refl _) (by omega))]
    exact chkL_zero k (i + 1) fun j a b => h j (by omega) (by omega)
def goodP (m : Int) (p : Int × Int) : Prop := 0 ≤ p.1 ∧ p.1 < p.2 ∧ p.2 < m
theorem prM_ok {m : Int} {x : Int × Int} (hm : 0 < m) (hx : 0 ≤ x.1 ∧ x.1 ≤ 255 ∧ 0 ≤ x.2 ∧ x.2 ≤ 255) (h : (prM m x).1 ≠ (prM m x).2) : goodP m (prM m x) := by
  obtain ⟨a1, a2⟩ := tmod_b (a := x.1) (n := m) hx.1 hm
  obtain ⟨b1, b2⟩ := tmod_b (a := x.2) (n := m) hx.2.2.1 hm
  unfold goodP
  unfold prM mn2 mx2 at *
  generalize x.1.tmod m = a at *
  generalize x.2.tmod m = b at *
  by_cases c1 : b < a <;> by_cases c2 : b > a <;> simp [c1, c2] at h ⊢ <;> omega
theorem mkL_good {m : Int} (hm : 0 < m) {E : List (Int × Int)} (hb : ∀ p, p ∈ E → 0 ≤ p.1 ∧ p.1 ≤ 255 ∧ 0 ≤ p.2 ∧ p.2 ≤ 255) : ∀ i, i ≤ E.length → (∀ p, p ∈ mkL m (E.take i) → goodP m p) ∧ (mkL m (E.take i)).Nodup
  | 0, _ => by simp [mkL]
  | i + 1, h => by
    obtain ⟨h1, h2⟩ := mkL_good hm hb i (by omega)
    rw [mkL_take h]
    unfold mkS
    split
    · rename_i hc
      refine ⟨fun p hp => ?_, ?_⟩
      · rcases List.mem_append.1 hp with q | q
        · exact h1 p q
        · rw [List.mem_singleton] at q
          subst q
          exact prM_ok hm (hb _ (getD_mem (by omega))) hc.1
      · rw [List.nodup_append]
        refine ⟨h2, by simp, fun a ha b hb2 e => ?_⟩
        rw [List.mem_singleton] at hb2
        subst e; subst hb2
        exact hc.2 ha
    · exact ⟨h1, h2⟩
theorem mem_take_ne {l : List (Int × Int)} (hd : l.Nodup) {j : Nat} (h : j < l.length) : l.getD j (0, 0) ∉ l.take j := by
  intro hm
  obtain ⟨k, hk, e⟩ := List.mem_iff_getElem.1 hm
  rw [List.length_take] at hk
  rw [List.getElem_take, List.getD_eq_getElem?_getD, List.getElem?_eq_getElem h] at e
  have := (List.getElem_inj hd).1 e
  omega
theorem chk_made {m : Int} (h1 : 1 ≤ m) (h7 : m ≤ 7) {E : List (Int × Int)} (hE : E.length ≤ 10) (hb : ∀ p, p ∈ E → 0 ≤ p.1 ∧ p.1 ≤ 255 ∧ 0 ≤ p.2 ∧ p.2 ≤ 255) : chkE m (mkL m E) = 0 := by
  obtain ⟨g1, g2⟩ := mkL_good (m := m) (by omega) hb E.length (Nat.le_refl _)
  have hl := mkL_len m E E.length (Nat.le_refl _)
  rw [List.take_length] at g1 g2 hl
  unfold chkE
  rw [if_neg (by omega), if_neg (by omega), if_neg (by omega)]
  refine chkL_zero _ 0 fun j _ hj => ?_
  have hj : j < (mkL m E).length := by omega
  obtain ⟨p0, p1, p2⟩ := g1 _ (getD_mem (d := (0, 0)) hj)
  have hmem := mem_take_ne g2 hj
  unfold pairE
  have hin : (inB m ((mkL m E).getD j (0, 0)).1 && inB m ((mkL m E).getD j (0, 0)).2) = true := by
    simp only [inB, Bool.and_eq_true, decide_eq_true_eq]; omega
  rw [if_pos hin, if_neg (by omega), if_neg (fun q => hmem (memD_iff.1 q))]
theorem noRef_qu (A N : Int) (E : List (Int × Int)) : noRefs [quA A N E, ai 1] = true := by
  have h : ∀ E : List (Int × Int), noRefs (E.flatMap fun p => [u8 p.1, u8 p.2]) = true := fun E => by
    induction E with
    | nil => rfl
    | cons p E ih => rw [List.flatMap_cons]; simpa [noRefs, noRef, u8] using ih
  simp [noRefs, noRef, quA, ai, u8]
  simpa [u8] using h E
theorem noRef_b1' {x : AV} {l : List (Int × Int)} (h : isP x l) (m : Int) : noRef (bkA m x) = true := by simp [noRefs, noRef, bkA, ai, h.ref]
theorem isP_mdv (l : List (Int × Int)) : isP (mdv l) l := by
  cases l with
  | nil => exact .inr ⟨rfl, rfl⟩
  | cons x t => exact .inl ⟨false, rfl⟩
end Go.Proofs.Ytimfijmkfdhlmaa

