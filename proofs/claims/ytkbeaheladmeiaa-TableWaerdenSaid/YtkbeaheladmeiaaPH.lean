/-
  The law's even table by numbers.
-/
import Derived.Test.YtkbeaheladmeiaaPF
set_option linter.unusedSimpArgs false
set_option linter.unusedVariables false
namespace Go.Proofs.Ytkbeaheladmeiaa
open Go Go.Proofs.Eng
set_option maxRecDepth 100000
set_option maxHeartbeats 4000000
structure EI (n : Nat) (S : List (List Int × Int)) (W : List (List Int)) : Prop where
  good : ∀ s, s ∈ S → s.1 ∈ plL n ∧ s.2 = 1
  eq : W = addS (zerT n) S
  sh : shT n S.length W
  ev : EvT n W S.length
  nn : ∀ r c, r < n → c < n → 0 ≤ cel W r c
theorem ei_zer {n : Nat} (h4 : n ≤ 4) : EI n [] (zerT n) where
  good := fun s h => by cases h
  eq := rfl
  sh := by simpa using zer_sh n
  ev := ev_zer h4
  nn := fun r c hr hc => by have := (zer_sh n).b (r := r) (c := c) hr hc; omega
theorem ei_add {n : Nat} (h1 : 1 ≤ n) (h4 : n ≤ 4) {S : List (List Int × Int)} {W : List (List Int)} (h : EI n S W) {p : List Int} (hp : p ∈ plL n) : EI n (S ++ [(p, 1)]) (addT W p 1) where
  good := fun s hs => by
    rw [List.mem_append, List.mem_singleton] at hs
    rcases hs with q | rfl
    · exact h.good s q
    · exact ⟨hp, rfl⟩
  eq := by unfold addS; rw [List.foldl_append, h.eq]; rfl
  sh := by
    have := shT_add h.sh (plL_len h1 h4 p hp) (z := 1) (d := 1) (by omega) (by omega)
    rw [List.length_append]
    exact ⟨this.len, this.row, fun r hr x hx => by have := this.cel r hr x hx; simp only [List.length_cons, List.length_nil]; omega⟩
  ev := by
    have := ev_add h.sh h1 h4 h.ev hp (z := 1)
    rw [List.length_append]
    exact ⟨fun r hr => by rw [this.row r hr]; simp, fun c hc => by rw [this.col c hc]; simp⟩
  nn := fun r c hr hc => by
    rw [cel_add h.sh (plL_len h1 h4 p hp) hr hc]
    have := h.nn r c hr hc
    split <;> omega
theorem ei_gT {n : Nat} (h1 : 1 ≤ n) (h4 : n ≤ 4) {S : List (List Int × Int)} {W : List (List Int)} (h : EI n S W) (hS : S.length ≤ 9) : gT n W where
  len := h.sh.len
  n1 := h1
  n4 := h4
  row := h.sh.row
  cel := fun R hR x hx => by
    obtain ⟨r, c, hr, hc, rfl⟩ := (flat_mem h.sh).1 (List.mem_flatten.2 ⟨R, hR, hx⟩)
    have := h.nn r c hr hc
    have := h.sh.b (r := r) (c := c) hr hc
    omega
theorem ein_1 {M : List (List Int)} {b : Int} (hs : shT 1 b M) (hb : b ≤ 1000) {p : List Int} (hp : okP 1 p) (x1 x2 x7 x9 x28 x29 x30 : AV) (K : List Fr) (Q : Out → Cfg → Prop)
    (hK : ∀ j0 j3 j10 j11 j12 j13 j14 j15 j16 j17 j18 j19 j20 j21 j22 j23 j24 j25 j26 j27 j31 j32 j33 j34 j35 j36 j37 j38 j39 j40 j44 j45 j46 j47 j48 j49 j50 j51 j52 j53 j54 j55 j56 j57 j58 j59 j60 : AV, W Try.prog (RelU Try.prog xf) 0 K ⟨(j0 :: x1 :: x2 :: j3 :: nilA :: (ai 0) :: (ai 1) :: x7 :: (.os 1011 1 1 1 0 1) :: x9 :: j10 :: j11 :: j12 :: j13 :: j14 :: j15 :: j16 :: j17 :: j18 :: j19 :: j20 :: j21 :: j22 :: j23 :: j24 :: j25 :: j26 :: j27 :: x28 :: x29 :: x30 :: j31 :: j32 :: j33 :: j34 :: j35 :: j36 :: j37 :: j38 :: j39 :: j40 :: (al false p) :: (ai 1) :: (ai 1) :: j44 :: j45 :: j46 :: j47 :: j48 :: j49 :: j50 :: j51 :: j52 :: j53 :: j54 :: j55 :: j56 :: j57 :: j58 :: j59 :: j60 :: []), [(1009, (1, some ⟨3, 1, (addR M p 1 0).map ai⟩)), (1011, (1, some ⟨37, 1, [.os 1009 1 1 1 0 1]⟩))]⟩ Q) :
    ∀ j0 j3 j10 j11 j12 j13 j14 j15 j16 j17 j18 j19 j20 j21 j22 j23 j24 j25 j26 j27 j31 j32 j33 j34 j35 j36 j37 j38 j39 j40 j44 j45 j46 j47 j48 j49 j50 j51 j52 j53 j54 j55 j56 j57 j58 j59 j60 : AV, W Try.prog (RelU Try.prog xf) 0 (.code (.loop xf12_L0) :: .blk 2 :: .stop :: K) ⟨(j0 :: x1 :: x2 :: j3 :: nilA :: (ai 0) :: (ai 1) :: x7 :: (.os 1011 1 1 1 0 1) :: x9 :: j10 :: j11 :: j12 :: j13 :: j14 :: j15 :: j16 :: j17 :: j18 :: j19 :: j20 :: j21 :: j22 :: j23 :: j24 :: j25 :: j26 :: j27 :: x28 :: x29 :: x30 :: j31 :: j32 :: j33 :: j34 :: j35 :: j36 :: j37 :: j38 :: j39 :: j40 :: (al false p) :: (ai 1) :: (ai 0) :: j44 :: j45 :: j46 :: j47 :: j48 :: j49 :: j50 :: j51 :: j52 :: j53 :: j54 :: j55 :: j56 :: j57 :: j58 :: j59 :: j60 :: []), [(1009, (1, some ⟨3, 1, (M.getD 0 []).map ai⟩)), (1011, (1, some ⟨37, 1, [.os 1009 1 1 1 0 1]⟩))]⟩ Q := by
  intro j0 j3 j10 j11 j12 j13 j14 j15 j16 j17 j18 j19 j20 j21 j22 j23 j24 j25 j26 j27 j31 j32 j33 j34 j35 j36 j37 j38 j39 j40 j44 j45 j46 j47 j48 j49 j50 j51 j52 j53 j54 j55 j56 j57 j58 j59 j60
  have hpl := hp.1
  have hc0 := hp.2.1 _ (getD_mem (d := 0) (l := p) (i := 0) (by omega))
  have l0 : (M.getD 0 []).length = 1 := hs.rowlen (by omega)
  have gp0 := get_al (l := p) (i := 0) (by omega)
  have gw0 : ((M.getD 0 []).map ai)[(p.getD 0 0).toNat]? = some (ai (cel M 0 (p.getD 0 0).toNat)) := get_al (by omega)
  have hcb0 := hs.b (r := 0) (c := (p.getD 0 0).toNat) (by omega) (by omega)
  have ws0 : IntKind.i64.wrap (cel M 0 (p.getD 0 0).toNat + 1) = cel M 0 (p.getD 0 0).toNat + 1 := wrap_id (by omega) (by omega)
  have st0 : ((M.getD 0 []).map ai).set (p.getD 0 0).toNat (.v (.int .i64 (cel M 0 (p.getD 0 0).toNat + 1))) = (addR M p 1 0).map ai := by unfold addR; rw [List.map_set]; rfl
  have w0 : IntKind.i64.wrap (0 + 1) = 1 := rfl
  generalize addR M p 1 0 = A0 at *
  generalize cel M 0 (p.getD 0 0).toNat = y0 at *
  generalize p.getD 0 0 = d0 at *
  have z0 := hc0.1
  have u0 : d0 < 1 := by have := hc0.2; omega
  generalize M.getD 0 [] = W0 at *
  refine W_loop (W_run 200 ?_)
  simp (maxSteps := 2000000) only [SA, Nat.reduceDiv, Nat.reduceSub, Nat.reduceAdd, Int.reduceLT, Int.reduceLE, Int.reduceToNat, Nat.reduceMul, Nat.reduceEqDiff, reduceCtorEq, Nat.reduceBEq, Nat.reduceLeDiff, Nat.reduceLT, xf12_L0, ai, al, hpl, gp0, gw0, z0, u0, l0, ws0, st0, w0]
  refine W_loop (W_run 200 ?_)
  simp (maxSteps := 2000000) only [SA, Nat.reduceDiv, Nat.reduceSub, Nat.reduceAdd, Int.reduceLT, Int.reduceLE, Int.reduceToNat, Nat.reduceMul, Nat.reduceEqDiff, reduceCtorEq, Nat.reduceBEq, Nat.reduceLeDiff, Nat.reduceLT, xf12_L0, ai, al]
  exact W_stop (hK _ _ _ _ _ _ _ _ _ _ _ _ _ _ _ _ _ _ _ _ _ _ _ _ _ _ _ _ _ _ _ _ _ _ _ _ _ _ _ _ _ _ _ _ _ _ _)
theorem eout_1 (Ps : List (List Int)) (hPs : Ps = plL 1) (Hs : List Int) (hH : Hs.length ≤ 8) (bH : ∀ x, x ∈ Hs → 0 ≤ x ∧ x ≤ 255) (bb : Bool) (x1 x2 x9 : AV) (K : List Fr) (Q : Out → Cfg → Prop)
    (hK : ∀ S M, S.length = Hs.length → EI 1 S M → ∀ j0 j3 j10 j11 j12 j13 j14 j15 j16 j17 j18 j19 j20 j21 j22 j23 j24 j25 j26 j27 j31 j32 j33 j34 j35 j36 j37 j38 j39 j40 j41 j42 j43 j44 j45 j46 j47 j48 j49 j50 j51 j52 j53 j54 j55 j56 j57 j58 j59 j60 : AV, W Try.prog (RelU Try.prog xf) 0 K ⟨(j0 :: x1 :: x2 :: j3 :: nilA :: (ai 0) :: (ai 1) :: (aT Ps) :: (.os 1011 1 1 1 0 1) :: x9 :: j10 :: j11 :: j12 :: j13 :: j14 :: j15 :: j16 :: j17 :: j18 :: j19 :: j20 :: j21 :: j22 :: j23 :: j24 :: j25 :: j26 :: j27 :: (.sl 1 bb (Hs.map u8)) :: (ai Hs.length) :: (ai Hs.length) :: j31 :: j32 :: j33 :: j34 :: j35 :: j36 :: j37 :: j38 :: j39 :: j40 :: j41 :: j42 :: j43 :: j44 :: j45 :: j46 :: j47 :: j48 :: j49 :: j50 :: j51 :: j52 :: j53 :: j54 :: j55 :: j56 :: j57 :: j58 :: j59 :: j60 :: []), [(1009, (1, some ⟨3, 1, (M.getD 0 []).map ai⟩)), (1011, (1, some ⟨37, 1, [.os 1009 1 1 1 0 1]⟩))]⟩ Q) :
    ∀ (k i : Nat), i + k = Hs.length → ∀ S M, S.length = i → EI 1 S M → ∀ j0 j3 j10 j11 j12 j13 j14 j15 j16 j17 j18 j19 j20 j21 j22 j23 j24 j25 j26 j27 j31 j32 j33 j34 j35 j36 j37 j38 j39 j40 j41 j42 j43 j44 j45 j46 j47 j48 j49 j50 j51 j52 j53 j54 j55 j56 j57 j58 j59 j60 : AV, W Try.prog (RelU Try.prog xf) 0 (.code (.loop xf12_L1) :: .blk 0 :: .stop :: K) ⟨(j0 :: x1 :: x2 :: j3 :: nilA :: (ai 0) :: (ai 1) :: (aT Ps) :: (.os 1011 1 1 1 0 1) :: x9 :: j10 :: j11 :: j12 :: j13 :: j14 :: j15 :: j16 :: j17 :: j18 :: j19 :: j20 :: j21 :: j22 :: j23 :: j24 :: j25 :: j26 :: j27 :: (.sl 1 bb (Hs.map u8)) :: (ai Hs.length) :: (ai i) :: j31 :: j32 :: j33 :: j34 :: j35 :: j36 :: j37 :: j38 :: j39 :: j40 :: j41 :: j42 :: j43 :: j44 :: j45 :: j46 :: j47 :: j48 :: j49 :: j50 :: j51 :: j52 :: j53 :: j54 :: j55 :: j56 :: j57 :: j58 :: j59 :: j60 :: []), [(1009, (1, some ⟨3, 1, (M.getD 0 []).map ai⟩)), (1011, (1, some ⟨37, 1, [.os 1009 1 1 1 0 1]⟩))]⟩ Q := by
  intro k
  induction k with
  | zero =>
    intro i hi S M hS hA j0 j3 j10 j11 j12 j13 j14 j15 j16 j17 j18 j19 j20 j21 j22 j23 j24 j25 j26 j27 j31 j32 j33 j34 j35 j36 j37 j38 j39 j40 j41 j42 j43 j44 j45 j46 j47 j48 j49 j50 j51 j52 j53 j54 j55 j56 j57 j58 j59 j60
    have : i = Hs.length := by omega
    subst this
    have h0 : decide (Hs.length < Hs.length) = false := by simp
    have hK := hK S M hS hA
    refine W_loop (W_run 80 ?_)
    simp (maxSteps := 2000000) only [SA, Nat.reduceDiv, Nat.reduceSub, Nat.reduceAdd, Int.reduceLT, Int.reduceLE, Int.reduceToNat, Nat.reduceMul, Nat.reduceEqDiff, reduceCtorEq, Nat.reduceBEq, Nat.reduceLeDiff, Nat.reduceLT, xf12_L1, ai, lt_cast, h0]
    exact W_stop (hK _ _ _ _ _ _ _ _ _ _ _ _ _ _ _ _ _ _ _ _ _ _ _ _ _ _ _ _ _ _ _ _ _ _ _ _ _ _ _ _ _ _ _ _ _ _ _ _ _ _)
  | succ k ih =>
    intro i hi S M hS hA j0 j3 j10 j11 j12 j13 j14 j15 j16 j17 j18 j19 j20 j21 j22 j23 j24 j25 j26 j27 j31 j32 j33 j34 j35 j36 j37 j38 j39 j40 j41 j42 j43 j44 j45 j46 j47 j48 j49 j50 j51 j52 j53 j54 j55 j56 j57 j58 j59 j60
    have h1 : i < Hs.length := by omega
    have h0 : decide (i < Hs.length) = true := decide_eq_true h1
    have hx := bH _ (getD_mem (d := 0) h1)
    have gH := get_u8 h1
    generalize Hs.getD i 0 = x at *
    have hPl : 1 ≤ Ps.length ∧ Ps.length ≤ 24 := by rw [hPs]; decide
    have wx : IntKind.i64.wrap x = x := wrap_id (by omega) (by omega)
    have zP : ((Ps.length : Int) = 0) = False := eq_false (by omega)
    obtain ⟨a1, a2⟩ := tmod_b (a := x) (n := Ps.length) hx.1 (by omega)
    have hgp := get_T (T := Ps) (i := (x.tmod Ps.length).toNat) (by omega)
    have hpm : Ps.getD (x.tmod Ps.length).toNat [] ∈ plL 1 := by rw [← hPs]; exact getD_mem (by omega)
    generalize Ps.getD (x.tmod Ps.length).toNat [] = p at *
    have hok := plL_len (by decide : 1 ≤ 1) (by decide : 1 ≤ 4) p hpm
    have hA2 := ei_add (by decide : 1 ≤ 1) (by decide : 1 ≤ 4) hA hpm
    have wi : IntKind.i64.wrap ((i : Int) + 1) = ((i + 1 : Nat) : Int) := by rw [wrap_id (by omega) (by omega)]; simp
    have hpl : p.length = 1 := hok.1
    have next := ih (i + 1) (by omega) (S ++ [(p, 1)]) _ (by simp [hS]) hA2
    have ag0 : (addT M p 1).getD 0 [] = addR M p 1 0 := add_get (by omega)
    rw [ag0] at next
    have hinn := ein_1 hA.sh (by omega) hok
    refine W_loop (W_run 200 ?_)
    simp (maxSteps := 2000000) only [SA, Nat.reduceDiv, Nat.reduceSub, Nat.reduceAdd, Int.reduceLT, Int.reduceLE, Int.reduceToNat, Nat.reduceMul, Nat.reduceEqDiff, reduceCtorEq, Nat.reduceBEq, Nat.reduceLeDiff, Nat.reduceLT, xf12_L1, ai, al, aT, u8, lt_cast, h0, gH, wx, zP, a1, a2, hgp, hpl, raw_conv, rawC, opA, argT, Option.elim]
    refine W_alone (hinn _ _ _ _ _ _ _ _ _ (fun j0 j3 j10 j11 j12 j13 j14 j15 j16 j17 j18 j19 j20 j21 j22 j23 j24 j25 j26 j27 j31 j32 j33 j34 j35 j36 j37 j38 j39 j40 j44 j45 j46 j47 j48 j49 j50 j51 j52 j53 j54 j55 j56 j57 j58 j59 j60 => W_run 80 ?_) _ _ _ _ _ _ _ _ _ _ _ _ _ _ _ _ _ _ _ _ _ _ _ _ _ _ _ _ _ _ _ _ _ _ _ _ _ _ _ _ _ _ _ _ _ _ _)
    simp (maxSteps := 2000000) only [SA, Nat.reduceDiv, Nat.reduceSub, Nat.reduceAdd, Int.reduceLT, Int.reduceLE, Int.reduceToNat, Nat.reduceMul, Nat.reduceEqDiff, reduceCtorEq, Nat.reduceBEq, Nat.reduceLeDiff, Nat.reduceLT, xf12_R0, ai, wi]
    exact next _ _ _ _ _ _ _ _ _ _ _ _ _ _ _ _ _ _ _ _ _ _ _ _ _ _ _ _ _ _ _ _ _ _ _ _ _ _ _ _ _ _ _ _ _ _ _ _ _ _
theorem ein_2 {M : List (List Int)} {b : Int} (hs : shT 2 b M) (hb : b ≤ 1000) {p : List Int} (hp : okP 2 p) (x1 x2 x7 x9 x28 x29 x30 : AV) (K : List Fr) (Q : Out → Cfg → Prop)
    (hK : ∀ j0 j3 j10 j11 j12 j13 j14 j15 j16 j17 j18 j19 j20 j21 j22 j23 j24 j25 j26 j27 j31 j32 j33 j34 j35 j36 j37 j38 j39 j40 j44 j45 j46 j47 j48 j49 j50 j51 j52 j53 j54 j55 j56 j57 j58 j59 j60 : AV, W Try.prog (RelU Try.prog xf) 0 K ⟨(j0 :: x1 :: x2 :: j3 :: nilA :: (ai 0) :: (ai 2) :: x7 :: (.os 1011 1 2 1 0 2) :: x9 :: j10 :: j11 :: j12 :: j13 :: j14 :: j15 :: j16 :: j17 :: j18 :: j19 :: j20 :: j21 :: j22 :: j23 :: j24 :: j25 :: j26 :: j27 :: x28 :: x29 :: x30 :: j31 :: j32 :: j33 :: j34 :: j35 :: j36 :: j37 :: j38 :: j39 :: j40 :: (al false p) :: (ai 2) :: (ai 2) :: j44 :: j45 :: j46 :: j47 :: j48 :: j49 :: j50 :: j51 :: j52 :: j53 :: j54 :: j55 :: j56 :: j57 :: j58 :: j59 :: j60 :: []), [(1009, (1, some ⟨3, 1, (addR M p 1 0).map ai⟩)), (1011, (1, some ⟨37, 1, [.os 1009 1 2 1 0 2, .os 101009 1 2 1 0 2]⟩)), (101009, (1, some ⟨3, 1, (addR M p 1 1).map ai⟩))]⟩ Q) :
    ∀ j0 j3 j10 j11 j12 j13 j14 j15 j16 j17 j18 j19 j20 j21 j22 j23 j24 j25 j26 j27 j31 j32 j33 j34 j35 j36 j37 j38 j39 j40 j44 j45 j46 j47 j48 j49 j50 j51 j52 j53 j54 j55 j56 j57 j58 j59 j60 : AV, W Try.prog (RelU Try.prog xf) 0 (.code (.loop xf12_L0) :: .blk 2 :: .stop :: K) ⟨(j0 :: x1 :: x2 :: j3 :: nilA :: (ai 0) :: (ai 2) :: x7 :: (.os 1011 1 2 1 0 2) :: x9 :: j10 :: j11 :: j12 :: j13 :: j14 :: j15 :: j16 :: j17 :: j18 :: j19 :: j20 :: j21 :: j22 :: j23 :: j24 :: j25 :: j26 :: j27 :: x28 :: x29 :: x30 :: j31 :: j32 :: j33 :: j34 :: j35 :: j36 :: j37 :: j38 :: j39 :: j40 :: (al false p) :: (ai 2) :: (ai 0) :: j44 :: j45 :: j46 :: j47 :: j48 :: j49 :: j50 :: j51 :: j52 :: j53 :: j54 :: j55 :: j56 :: j57 :: j58 :: j59 :: j60 :: []), [(1009, (1, some ⟨3, 1, (M.getD 0 []).map ai⟩)), (1011, (1, some ⟨37, 1, [.os 1009 1 2 1 0 2, .os 101009 1 2 1 0 2]⟩)), (101009, (1, some ⟨3, 1, (M.getD 1 []).map ai⟩))]⟩ Q := by
  intro j0 j3 j10 j11 j12 j13 j14 j15 j16 j17 j18 j19 j20 j21 j22 j23 j24 j25 j26 j27 j31 j32 j33 j34 j35 j36 j37 j38 j39 j40 j44 j45 j46 j47 j48 j49 j50 j51 j52 j53 j54 j55 j56 j57 j58 j59 j60
  have hpl := hp.1
  have hc0 := hp.2.1 _ (getD_mem (d := 0) (l := p) (i := 0) (by omega))
  have l0 : (M.getD 0 []).length = 2 := hs.rowlen (by omega)
  have gp0 := get_al (l := p) (i := 0) (by omega)
  have gw0 : ((M.getD 0 []).map ai)[(p.getD 0 0).toNat]? = some (ai (cel M 0 (p.getD 0 0).toNat)) := get_al (by omega)
  have hcb0 := hs.b (r := 0) (c := (p.getD 0 0).toNat) (by omega) (by omega)
  have ws0 : IntKind.i64.wrap (cel M 0 (p.getD 0 0).toNat + 1) = cel M 0 (p.getD 0 0).toNat + 1 := wrap_id (by omega) (by omega)
  have st0 : ((M.getD 0 []).map ai).set (p.getD 0 0).toNat (.v (.int .i64 (cel M 0 (p.getD 0 0).toNat + 1))) = (addR M p 1 0).map ai := by unfold addR; rw [List.map_set]; rfl
  have w0 : IntKind.i64.wrap (0 + 1) = 1 := rfl
  have hc1 := hp.2.1 _ (getD_mem (d := 0) (l := p) (i := 1) (by omega))
  have l1 : (M.getD 1 []).length = 2 := hs.rowlen (by omega)
  have gp1 := get_al (l := p) (i := 1) (by omega)
  have gw1 : ((M.getD 1 []).map ai)[(p.getD 1 0).toNat]? = some (ai (cel M 1 (p.getD 1 0).toNat)) := get_al (by omega)
  have hcb1 := hs.b (r := 1) (c := (p.getD 1 0).toNat) (by omega) (by omega)
  have ws1 : IntKind.i64.wrap (cel M 1 (p.getD 1 0).toNat + 1) = cel M 1 (p.getD 1 0).toNat + 1 := wrap_id (by omega) (by omega)
  have st1 : ((M.getD 1 []).map ai).set (p.getD 1 0).toNat (.v (.int .i64 (cel M 1 (p.getD 1 0).toNat + 1))) = (addR M p 1 1).map ai := by unfold addR; rw [List.map_set]; rfl
  have w1 : IntKind.i64.wrap (1 + 1) = 2 := rfl
  generalize addR M p 1 0 = A0 at *
  generalize cel M 0 (p.getD 0 0).toNat = y0 at *
  generalize p.getD 0 0 = d0 at *
  have z0 := hc0.1
  have u0 : d0 < 2 := by have := hc0.2; omega
  generalize addR M p 1 1 = A1 at *
  generalize cel M 1 (p.getD 1 0).toNat = y1 at *
  generalize p.getD 1 0 = d1 at *
  have z1 := hc1.1
  have u1 : d1 < 2 := by have := hc1.2; omega
  generalize M.getD 0 [] = W0 at *
  generalize M.getD 1 [] = W1 at *
  refine W_loop (W_run 200 ?_)
  simp (maxSteps := 2000000) only [SA, Nat.reduceDiv, Nat.reduceSub, Nat.reduceAdd, Int.reduceLT, Int.reduceLE, Int.reduceToNat, Nat.reduceMul, Nat.reduceEqDiff, reduceCtorEq, Nat.reduceBEq, Nat.reduceLeDiff, Nat.reduceLT, xf12_L0, ai, al, hpl, gp0, gw0, z0, u0, l0, ws0, st0, w0]
  refine W_loop (W_run 200 ?_)
  simp (maxSteps := 2000000) only [SA, Nat.reduceDiv, Nat.reduceSub, Nat.reduceAdd, Int.reduceLT, Int.reduceLE, Int.reduceToNat, Nat.reduceMul, Nat.reduceEqDiff, reduceCtorEq, Nat.reduceBEq, Nat.reduceLeDiff, Nat.reduceLT, xf12_L0, ai, al, hpl, gp1, gw1, z1, u1, l1, ws1, st1, w1]
  refine W_loop (W_run 200 ?_)
  simp (maxSteps := 2000000) only [SA, Nat.reduceDiv, Nat.reduceSub, Nat.reduceAdd, Int.reduceLT, Int.reduceLE, Int.reduceToNat, Nat.reduceMul, Nat.reduceEqDiff, reduceCtorEq, Nat.reduceBEq, Nat.reduceLeDiff, Nat.reduceLT, xf12_L0, ai, al]
  exact W_stop (hK _ _ _ _ _ _ _ _ _ _ _ _ _ _ _ _ _ _ _ _ _ _ _ _ _ _ _ _ _ _ _ _ _ _ _ _ _ _ _ _ _ _ _ _ _ _ _)
theorem eout_2 (Ps : List (List Int)) (hPs : Ps = plL 2) (Hs : List Int) (hH : Hs.length ≤ 8) (bH : ∀ x, x ∈ Hs → 0 ≤ x ∧ x ≤ 255) (bb : Bool) (x1 x2 x9 : AV) (K : List Fr) (Q : Out → Cfg → Prop)
    (hK : ∀ S M, S.length = Hs.length → EI 2 S M → ∀ j0 j3 j10 j11 j12 j13 j14 j15 j16 j17 j18 j19 j20 j21 j22 j23 j24 j25 j26 j27 j31 j32 j33 j34 j35 j36 j37 j38 j39 j40 j41 j42 j43 j44 j45 j46 j47 j48 j49 j50 j51 j52 j53 j54 j55 j56 j57 j58 j59 j60 : AV, W Try.prog (RelU Try.prog xf) 0 K ⟨(j0 :: x1 :: x2 :: j3 :: nilA :: (ai 0) :: (ai 2) :: (aT Ps) :: (.os 1011 1 2 1 0 2) :: x9 :: j10 :: j11 :: j12 :: j13 :: j14 :: j15 :: j16 :: j17 :: j18 :: j19 :: j20 :: j21 :: j22 :: j23 :: j24 :: j25 :: j26 :: j27 :: (.sl 1 bb (Hs.map u8)) :: (ai Hs.length) :: (ai Hs.length) :: j31 :: j32 :: j33 :: j34 :: j35 :: j36 :: j37 :: j38 :: j39 :: j40 :: j41 :: j42 :: j43 :: j44 :: j45 :: j46 :: j47 :: j48 :: j49 :: j50 :: j51 :: j52 :: j53 :: j54 :: j55 :: j56 :: j57 :: j58 :: j59 :: j60 :: []), [(1009, (1, some ⟨3, 1, (M.getD 0 []).map ai⟩)), (1011, (1, some ⟨37, 1, [.os 1009 1 2 1 0 2, .os 101009 1 2 1 0 2]⟩)), (101009, (1, some ⟨3, 1, (M.getD 1 []).map ai⟩))]⟩ Q) :
    ∀ (k i : Nat), i + k = Hs.length → ∀ S M, S.length = i → EI 2 S M → ∀ j0 j3 j10 j11 j12 j13 j14 j15 j16 j17 j18 j19 j20 j21 j22 j23 j24 j25 j26 j27 j31 j32 j33 j34 j35 j36 j37 j38 j39 j40 j41 j42 j43 j44 j45 j46 j47 j48 j49 j50 j51 j52 j53 j54 j55 j56 j57 j58 j59 j60 : AV, W Try.prog (RelU Try.prog xf) 0 (.code (.loop xf12_L1) :: .blk 0 :: .stop :: K) ⟨(j0 :: x1 :: x2 :: j3 :: nilA :: (ai 0) :: (ai 2) :: (aT Ps) :: (.os 1011 1 2 1 0 2) :: x9 :: j10 :: j11 :: j12 :: j13 :: j14 :: j15 :: j16 :: j17 :: j18 :: j19 :: j20 :: j21 :: j22 :: j23 :: j24 :: j25 :: j26 :: j27 :: (.sl 1 bb (Hs.map u8)) :: (ai Hs.length) :: (ai i) :: j31 :: j32 :: j33 :: j34 :: j35 :: j36 :: j37 :: j38 :: j39 :: j40 :: j41 :: j42 :: j43 :: j44 :: j45 :: j46 :: j47 :: j48 :: j49 :: j50 :: j51 :: j52 :: j53 :: j54 :: j55 :: j56 :: j57 :: j58 :: j59 :: j60 :: []), [(1009, (1, some ⟨3, 1, (M.getD 0 []).map ai⟩)), (1011, (1, some ⟨37, 1, [.os 1009 1 2 1 0 2, .os 101009 1 2 1 0 2]⟩)), (101009, (1, some ⟨3, 1, (M.getD 1 []).map ai⟩))]⟩ Q := by
  intro k
  induction k with
  | zero =>
    intro i hi S M hS hA j0 j3 j10 j11 j12 j13 j14 j15 j16 j17 j18 j19 j20 j21 j22 j23 j24 j25 j26 j27 j31 j32 j33 j34 j35 j36 j37 j38 j39 j40 j41 j42 j43 j44 j45 j46 j47 j48 j49 j50 j51 j52 j53 j54 j55 j56 j57 j58 j59 j60
    have : i = Hs.length := by omega
    subst this
    have h0 : decide (Hs.length < Hs.length) = false := by simp
    have hK := hK S M hS hA
    refine W_loop (W_run 80 ?_)
    simp (maxSteps := 2000000) only [SA, Nat.reduceDiv, Nat.reduceSub, Nat.reduceAdd, Int.reduceLT, Int.reduceLE, Int.reduceToNat, Nat.reduceMul, Nat.reduceEqDiff, reduceCtorEq, Nat.reduceBEq, Nat.reduceLeDiff, Nat.reduceLT, xf12_L1, ai, lt_cast, h0]
    exact W_stop (hK _ _ _ _ _ _ _ _ _ _ _ _ _ _ _ _ _ _ _ _ _ _ _ _ _ _ _ _ _ _ _ _ _ _ _ _ _ _ _ _ _ _ _ _ _ _ _ _ _ _)
  | succ k ih =>
    intro i hi S M hS hA j0 j3 j10 j11 j12 j13 j14 j15 j16 j17 j18 j19 j20 j21 j22 j23 j24 j25 j26 j27 j31 j32 j33 j34 j35 j36 j37 j38 j39 j40 j41 j42 j43 j44 j45 j46 j47 j48 j49 j50 j51 j52 j53 j54 j55 j56 j57 j58 j59 j60
    have h1 : i < Hs.length := by omega
    have h0 : decide (i < Hs.length) = true := decide_eq_true h1
    have hx := bH _ (getD_mem (d := 0) h1)
    have gH := get_u8 h1
    generalize Hs.getD i 0 = x at *
    have hPl : 1 ≤ Ps.length ∧ Ps.length ≤ 24 := by rw [hPs]; decide
    have wx : IntKind.i64.wrap x = x := wrap_id (by omega) (by omega)
    have zP : ((Ps.length : Int) = 0) = False := eq_false (by omega)
    obtain ⟨a1, a2⟩ := tmod_b (a := x) (n := Ps.length) hx.1 (by omega)
    have hgp := get_T (T := Ps) (i := (x.tmod Ps.length).toNat) (by omega)
    have hpm : Ps.getD (x.tmod Ps.length).toNat [] ∈ plL 2 := by rw [← hPs]; exact getD_mem (by omega)
    generalize Ps.getD (x.tmod Ps.length).toNat [] = p at *
    have hok := plL_len (by decide : 1 ≤ 2) (by decide : 2 ≤ 4) p hpm
    have hA2 := ei_add (by decide : 1 ≤ 2) (by decide : 2 ≤ 4) hA hpm
    have wi : IntKind.i64.wrap ((i : Int) + 1) = ((i + 1 : Nat) : Int) := by rw [wrap_id (by omega) (by omega)]; simp
    have hpl : p.length = 2 := hok.1
    have next := ih (i + 1) (by omega) (S ++ [(p, 1)]) _ (by simp [hS]) hA2
    have ag0 : (addT M p 1).getD 0 [] = addR M p 1 0 := add_get (by omega)
    have ag1 : (addT M p 1).getD 1 [] = addR M p 1 1 := add_get (by omega)
    rw [ag0, ag1] at next
    have hinn := ein_2 hA.sh (by omega) hok
    refine W_loop (W_run 200 ?_)
    simp (maxSteps := 2000000) only [SA, Nat.reduceDiv, Nat.reduceSub, Nat.reduceAdd, Int.reduceLT, Int.reduceLE, Int.reduceToNat, Nat.reduceMul, Nat.reduceEqDiff, reduceCtorEq, Nat.reduceBEq, Nat.reduceLeDiff, Nat.reduceLT, xf12_L1, ai, al, aT, u8, lt_cast, h0, gH, wx, zP, a1, a2, hgp, hpl, raw_conv, rawC, opA, argT, Option.elim]
    refine W_alone (hinn _ _ _ _ _ _ _ _ _ (fun j0 j3 j10 j11 j12 j13 j14 j15 j16 j17 j18 j19 j20 j21 j22 j23 j24 j25 j26 j27 j31 j32 j33 j34 j35 j36 j37 j38 j39 j40 j44 j45 j46 j47 j48 j49 j50 j51 j52 j53 j54 j55 j56 j57 j58 j59 j60 => W_run 80 ?_) _ _ _ _ _ _ _ _ _ _ _ _ _ _ _ _ _ _ _ _ _ _ _ _ _ _ _ _ _ _ _ _ _ _ _ _ _ _ _ _ _ _ _ _ _ _ _)
    simp (maxSteps := 2000000) only [SA, Nat.reduceDiv, Nat.reduceSub, Nat.reduceAdd, Int.reduceLT, Int.reduceLE, Int.reduceToNat, Nat.reduceMul, Nat.reduceEqDiff, reduceCtorEq, Nat.reduceBEq, Nat.reduceLeDiff, Nat.reduceLT, xf12_R0, ai, wi]
    exact next _ _ _ _ _ _ _ _ _ _ _ _ _ _ _ _ _ _ _ _ _ _ _ _ _ _ _ _ _ _ _ _ _ _ _ _ _ _ _ _ _ _ _ _ _ _ _ _ _ _
theorem ein_3 {M : List (List Int)} {b : Int} (hs : shT 3 b M) (hb : b ≤ 1000) {p : List Int} (hp : okP 3 p) (x1 x2 x7 x9 x28 x29 x30 : AV) (K : List Fr) (Q : Out → Cfg → Prop)
    (hK : ∀ j0 j3 j10 j11 j12 j13 j14 j15 j16 j17 j18 j19 j20 j21 j22 j23 j24 j25 j26 j27 j31 j32 j33 j34 j35 j36 j37 j38 j39 j40 j44 j45 j46 j47 j48 j49 j50 j51 j52 j53 j54 j55 j56 j57 j58 j59 j60 : AV, W Try.prog (RelU Try.prog xf) 0 K ⟨(j0 :: x1 :: x2 :: j3 :: nilA :: (ai 0) :: (ai 3) :: x7 :: (.os 1011 1 3 1 0 3) :: x9 :: j10 :: j11 :: j12 :: j13 :: j14 :: j15 :: j16 :: j17 :: j18 :: j19 :: j20 :: j21 :: j22 :: j23 :: j24 :: j25 :: j26 :: j27 :: x28 :: x29 :: x30 :: j31 :: j32 :: j33 :: j34 :: j35 :: j36 :: j37 :: j38 :: j39 :: j40 :: (al false p) :: (ai 3) :: (ai 3) :: j44 :: j45 :: j46 :: j47 :: j48 :: j49 :: j50 :: j51 :: j52 :: j53 :: j54 :: j55 :: j56 :: j57 :: j58 :: j59 :: j60 :: []), [(1009, (1, some ⟨3, 1, (addR M p 1 0).map ai⟩)), (1011, (1, some ⟨37, 1, [.os 1009 1 3 1 0 3, .os 101009 1 3 1 0 3, .os 201009 1 3 1 0 3]⟩)), (101009, (1, some ⟨3, 1, (addR M p 1 1).map ai⟩)), (201009, (1, some ⟨3, 1, (addR M p 1 2).map ai⟩))]⟩ Q) :
    ∀ j0 j3 j10 j11 j12 j13 j14 j15 j16 j17 j18 j19 j20 j21 j22 j23 j24 j25 j26 j27 j31 j32 j33 j34 j35 j36 j37 j38 j39 j40 j44 j45 j46 j47 j48 j49 j50 j51 j52 j53 j54 j55 j56 j57 j58 j59 j60 : AV, W Try.prog (RelU Try.prog xf) 0 (.code (.loop xf12_L0) :: .blk 2 :: .stop :: K) ⟨(j0 :: x1 :: x2 :: j3 :: nilA :: (ai 0) :: (ai 3) :: x7 :: (.os 1011 1 3 1 0 3) :: x9 :: j10 :: j11 :: j12 :: j13 :: j14 :: j15 :: j16 :: j17 :: j18 :: j19 :: j20 :: j21 :: j22 :: j23 :: j24 :: j25 :: j26 :: j27 :: x28 :: x29 :: x30 :: j31 :: j32 :: j33 :: j34 :: j35 :: j36 :: j37 :: j38 :: j39 :: j40 :: (al false p) :: (ai 3) :: (ai 0) :: j44 :: j45 :: j46 :: j47 :: j48 :: j49 :: j50 :: j51 :: j52 :: j53 :: j54 :: j55 :: j56 :: j57 :: j58 :: j59 :: j60 :: []), [(1009, (1, some ⟨3, 1, (M.getD 0 []).map ai⟩)), (1011, (1, some ⟨37, 1, [.os 1009 1 3 1 0 3, .os 101009 1 3 1 0 3, .os 201009 1 3 1 0 3]⟩)), (101009, (1, some ⟨3, 1, (M.getD 1 []).map ai⟩)), (201009, (1, some ⟨3, 1, (M.getD 2 []).map ai⟩))]⟩ Q := by
  intro j0 j3 j10 j11 j12 j13 j14 j15 j16 j17 j18 j19 j20 j21 j22 j23 j24 j25 j26 j27 j31 j32 j33 j34 j35 j36 j37 j38 j39 j40 j44 j45 j46 j47 j48 j49 j50 j51 j52 j53 j54 j55 j56 j57 j58 j59 j60
  have hpl := hp.1
  have hc0 := hp.2.1 _ (getD_mem (d := 0) (l := p) (i := 0) (by omega))
  have l0 : (M.getD 0 []).length = 3 := hs.rowlen (by omega)
  have gp0 := get_al (l := p) (i := 0) (by omega)
  have gw0 : ((M.getD 0 []).map ai)[(p.getD 0 0).toNat]? = some (ai (cel M 0 (p.getD 0 0).toNat)) := get_al (by omega)
  have hcb0 := hs.b (r := 0) (c := (p.getD 0 0).toNat) (by omega) (by omega)
  have ws0 : IntKind.i64.wrap (cel M 0 (p.getD 0 0).toNat + 1) = cel M 0 (p.getD 0 0).toNat + 1 := wrap_id (by omega) (by omega)
  have st0 : ((M.getD 0 []).map ai).set (p.getD 0 0).toNat (.v (.int .i64 (cel M 0 (p.getD 0 0).toNat + 1))) = (addR M p 1 0).map ai := by unfold addR; rw [List.map_set]; rfl
  have w0 : IntKind.i64.wrap (0 + 1) = 1 := rfl
  have hc1 := hp.2.1 _ (getD_mem (d := 0) (l := p) (i := 1) (by omega))
  have l1 : (M.getD 1 []).length = 3 := hs.rowlen (by omega)
  have gp1 := get_al (l := p) (i := 1) (by omega)
  have gw1 : ((M.getD 1 []).map ai)[(p.getD 1 0).toNat]? = some (ai (cel M 1 (p.getD 1 0).toNat)) := get_al (by omega)
  have hcb1 := hs.b (r := 1) (c := (p.getD 1 0).toNat) (by omega) (by omega)
  have ws1 : IntKind.i64.wrap (cel M 1 (p.getD 1 0).toNat + 1) = cel M 1 (p.getD 1 0).toNat + 1 := wrap_id (by omega) (by omega)
  have st1 : ((M.getD 1 []).map ai).set (p.getD 1 0).toNat (.v (.int .i64 (cel M 1 (p.getD 1 0).toNat + 1))) = (addR M p 1 1).map ai := by unfold addR; rw [List.map_set]; rfl
  have w1 : IntKind.i64.wrap (1 + 1) = 2 := rfl
  have hc2 := hp.2.1 _ (getD_mem (d := 0) (l := p) (i := 2) (by omega))
  have l2 : (M.getD 2 []).length = 3 := hs.rowlen (by omega)
  have gp2 := get_al (l := p) (i := 2) (by omega)
  have gw2 : ((M.getD 2 []).map ai)[(p.getD 2 0).toNat]? = some (ai (cel M 2 (p.getD 2 0).toNat)) := get_al (by omega)
  have hcb2 := hs.b (r := 2) (c := (p.getD 2 0).toNat) (by omega) (by omega)
  have ws2 : IntKind.i64.wrap (cel M 2 (p.getD 2 0).toNat + 1) = cel M 2 (p.getD 2 0).toNat + 1 := wrap_id (by omega) (by omega)
  have st2 : ((M.getD 2 []).map ai).set (p.getD 2 0).toNat (.v (.int .i64 (cel M 2 (p.getD 2 0).toNat + 1))) = (addR M p 1 2).map ai := by unfold addR; rw [List.map_set]; rfl
  have w2 : IntKind.i64.wrap (2 + 1) = 3 := rfl
  generalize addR M p 1 0 = A0 at *
  generalize cel M 0 (p.getD 0 0).toNat = y0 at *
  generalize p.getD 0 0 = d0 at *
  have z0 := hc0.1
  have u0 : d0 < 3 := by have := hc0.2; omega
  generalize addR M p 1 1 = A1 at *
  generalize cel M 1 (p.getD 1 0).toNat = y1 at *
  generalize p.getD 1 0 = d1 at *
  have z1 := hc1.1
  have u1 : d1 < 3 := by have := hc1.2; omega
  generalize addR M p 1 2 = A2 at *
  generalize cel M 2 (p.getD 2 0).toNat = y2 at *
  generalize p.getD 2 0 = d2 at *
  have z2 := hc2.1
  have u2 : d2 < 3 := by have := hc2.2; omega
  generalize M.getD 0 [] = W0 at *
  generalize M.getD 1 [] = W1 at *
  generalize M.getD 2 [] = W2 at *
  refine W_loop (W_run 200 ?_)
  simp (maxSteps := 2000000) only [SA, Nat.reduceDiv, Nat.reduceSub, Nat.reduceAdd, Int.reduceLT, Int.reduceLE, Int.reduceToNat, Nat.reduceMul, Nat.reduceEqDiff, reduceCtorEq, Nat.reduceBEq, Nat.reduceLeDiff, Nat.reduceLT, xf12_L0, ai, al, hpl, gp0, gw0, z0, u0, l0, ws0, st0, w0]
  refine W_loop (W_run 200 ?_)
  simp (maxSteps := 2000000) only [SA, Nat.reduceDiv, Nat.reduceSub, Nat.reduceAdd, Int.reduceLT, Int.reduceLE, Int.reduceToNat, Nat.reduceMul, Nat.reduceEqDiff, reduceCtorEq, Nat.reduceBEq, Nat.reduceLeDiff, Nat.reduceLT, xf12_L0, ai, al, hpl, gp1, gw1, z1, u1, l1, ws1, st1, w1]
  refine W_loop (W_run 200 ?_)
  simp (maxSteps := 2000000) only [SA, Nat.reduceDiv, Nat.reduceSub, Nat.reduceAdd, Int.reduceLT, Int.reduceLE, Int.reduceToNat, Nat.reduceMul, Nat.reduceEqDiff, reduceCtorEq, Nat.reduceBEq, Nat.reduceLeDiff, Nat.reduceLT, xf12_L0, ai, al, hpl, gp2, gw2, z2, u2, l2, ws2, st2, w2]
  refine W_loop (W_run 200 ?_)
  simp (maxSteps := 2000000) only [SA, Nat.reduceDiv, Nat.reduceSub, Nat.reduceAdd, Int.reduceLT, Int.reduceLE, Int.reduceToNat, Nat.reduceMul, Nat.reduceEqDiff, reduceCtorEq, Nat.reduceBEq, Nat.reduceLeDiff, Nat.reduceLT, xf12_L0, ai, al]
  exact W_stop (hK _ _ _ _ _ _ _ _ _ _ _ _ _ _ _ _ _ _ _ _ _ _ _ _ _ _ _ _ _ _ _ _ _ _ _ _ _ _ _ _ _ _ _ _ _ _ _)
theorem eout_3 (Ps : List (List Int)) (hPs : Ps = plL 3) (Hs : List Int) (hH : Hs.length ≤ 8) (bH : ∀ x, x ∈ Hs → 0 ≤ x ∧ x ≤ 255) (bb : Bool) (x1 x2 x9 : AV) (K : List Fr) (Q : Out → Cfg → Prop)
    (hK : ∀ S M, S.length = Hs.length → EI 3 S M → ∀ j0 j3 j10 j11 j12 j13 j14 j15 j16 j17 j18 j19 j20 j21 j22 j23 j24 j25 j26 j27 j31 j32 j33 j34 j35 j36 j37 j38 j39 j40 j41 j42 j43 j44 j45 j46 j47 j48 j49 j50 j51 j52 j53 j54 j55 j56 j57 j58 j59 j60 : AV, W Try.prog (RelU Try.prog xf) 0 K ⟨(j0 :: x1 :: x2 :: j3 :: nilA :: (ai 0) :: (ai 3) :: (aT Ps) :: (.os 1011 1 3 1 0 3) :: x9 :: j10 :: j11 :: j12 :: j13 :: j14 :: j15 :: j16 :: j17 :: j18 :: j19 :: j20 :: j21 :: j22 :: j23 :: j24 :: j25 :: j26 :: j27 :: (.sl 1 bb (Hs.map u8)) :: (ai Hs.length) :: (ai Hs.length) :: j31 :: j32 :: j33 :: j34 :: j35 :: j36 :: j37 :: j38 :: j39 :: j40 :: j41 :: j42 :: j43 :: j44 :: j45 :: j46 :: j47 :: j48 :: j49 :: j50 :: j51 :: j52 :: j53 :: j54 :: j55 :: j56 :: j57 :: j58 :: j59 :: j60 :: []), [(1009, (1, some ⟨3, 1, (M.getD 0 []).map ai⟩)), (1011, (1, some ⟨37, 1, [.os 1009 1 3 1 0 3, .os 101009 1 3 1 0 3, .os 201009 1 3 1 0 3]⟩)), (101009, (1, some ⟨3, 1, (M.getD 1 []).map ai⟩)), (201009, (1, some ⟨3, 1, (M.getD 2 []).map ai⟩))]⟩ Q) :
    ∀ (k i : Nat), i + k = Hs.length → ∀ S M, S.length = i → EI 3 S M → ∀ j0 j3 j10 j11 j12 j13 j14 j15 j16 j17 j18 j19 j20 j21 j22 j23 j24 j25 j26 j27 j31 j32 j33 j34 j35 j36 j37 j38 j39 j40 j41 j42 j43 j44 j45 j46 j47 j48 j49 j50 j51 j52 j53 j54 j55 j56 j57 j58 j59 j60 : AV, W Try.prog (RelU Try.prog xf) 0 (.code (.loop xf12_L1) :: .blk 0 :: .stop :: K) ⟨(j0 :: x1 :: x2 :: j3 :: nilA :: (ai 0) :: (ai 3) :: (aT Ps) :: (.os 1011 1 3 1 0 3) :: x9 :: j10 :: j11 :: j12 :: j13 :: j14 :: j15 :: j16 :: j17 :: j18 :: j19 :: j20 :: j21 :: j22 :: j23 :: j24 :: j25 :: j26 :: j27 :: (.sl 1 bb (Hs.map u8)) :: (ai Hs.length) :: (ai i) :: j31 :: j32 :: j33 :: j34 :: j35 :: j36 :: j37 :: j38 :: j39 :: j40 :: j41 :: j42 :: j43 :: j44 :: j45 :: j46 :: j47 :: j48 :: j49 :: j50 :: j51 :: j52 :: j53 :: j54 :: j55 :: j56 :: j57 :: j58 :: j59 :: j60 :: []), [(1009, (1, some ⟨3, 1, (M.getD 0 []).map ai⟩)), (1011, (1, some ⟨37, 1, [.os 1009 1 3 1 0 3, .os 101009 1 3 1 0 3, .os 201009 1 3 1 0 3]⟩)), (101009, (1, some ⟨3, 1, (M.getD 1 []).map ai⟩)), (201009, (1, some ⟨3, 1, (M.getD 2 []).map ai⟩))]⟩ Q := by
  intro k
  induction k with
  | zero =>
    intro i hi S M hS hA j0 j3 j10 j11 j12 j13 j14 j15 j16 j17 j18 j19 j20 j21 j22 j23 j24 j25 j26 j27 j31 j32 j33 j34 j35 j36 j37 j38 j39 j40 j41 j42 j43 j44 j45 j46 j47 j48 j49 j50 j51 j52 j53 j54 j55 j56 j57 j58 j59 j60
    have : i = Hs.length := by omega
    subst this
    have h0 : decide (Hs.length < Hs.length) = false := by simp
    have hK := hK S M hS hA
    refine W_loop (W_run 80 ?_)
    simp (maxSteps := 2000000) only [SA, Nat.reduceDiv, Nat.reduceSub, Nat.reduceAdd, Int.reduceLT, Int.reduceLE, Int.reduceToNat, Nat.reduceMul, Nat.reduceEqDiff, reduceCtorEq, Nat.reduceBEq, Nat.reduceLeDiff, Nat.reduceLT, xf12_L1, ai, lt_cast, h0]
    exact W_stop (hK _ _ _ _ _ _ _ _ _ _ _ _ _ _ _ _ _ _ _ _ _ _ _ _ _ _ _ _ _ _ _ _ _ _ _ _ _ _ _ _ _ _ _ _ _ _ _ _ _ _)
  | succ k ih =>
    intro i hi S M hS hA j0 j3 j10 j11 j12 j13 j14 j15 j16 j17 j18 j19 j20 j21 j22 j23 j24 j25 j26 j27 j31 j32 j33 j34 j35 j36 j37 j38 j39 j40 j41 j42 j43 j44 j45 j46 j47 j48 j49 j50 j51 j52 j53 j54 j55 j56 j57 j58 j59 j60
    have h1 : i < Hs.length := by omega
    have h0 : decide (i < Hs.length) = true := decide_eq_true h1
    have hx := bH _ (getD_mem (d := 0) h1)
    have gH := get_u8 h1
    generalize Hs.getD i 0 = x at *
    have hPl : 1 ≤ Ps.length ∧ Ps.length ≤ 24 := by rw [hPs]; decide
    have wx : IntKind.i64.wrap x = x := wrap_id (by omega) (by omega)
    have zP : ((Ps.length : Int) = 0) = False := eq_false (by omega)
    obtain ⟨a1, a2⟩ := tmod_b (a := x) (n := Ps.length) hx.1 (by omega)
    have hgp := get_T (T := Ps) (i := (x.tmod Ps.length).toNat) (by omega)
    have hpm : Ps.getD (x.tmod Ps.length).toNat [] ∈ plL 3 := by rw [← hPs]; exact getD_mem (by omega)
    generalize Ps.getD (x.tmod Ps.length).toNat [] = p at *
    have hok := plL_len (by decide : 1 ≤ 3) (by decide : 3 ≤ 4) p hpm
    have hA2 := ei_add (by decide : 1 ≤ 3) (by decide : 3 ≤ 4) hA hpm
    have wi : IntKind.i64.wrap ((i : Int) + 1) = ((i + 1 : Nat) : Int) := by rw [wrap_id (by omega) (by omega)]; simp
    have hpl : p.length = 3 := hok.1
    have next := ih (i + 1) (by omega) (S ++ [(p, 1)]) _ (by simp [hS]) hA2
    have ag0 : (addT M p 1).getD 0 [] = addR M p 1 0 := add_get (by omega)
    have ag1 : (addT M p 1).getD 1 [] = addR M p 1 1 := add_get (by omega)
    have ag2 : (addT M p 1).getD 2 [] = addR M p 1 2 := add_get (by omega)
    rw [ag0, ag1, ag2] at next
    have hinn := ein_3 hA.sh (by omega) hok
    refine W_loop (W_run 200 ?_)
    simp (maxSteps := 2000000) only [SA, Nat.reduceDiv, Nat.reduceSub, Nat.reduceAdd, Int.reduceLT, Int.reduceLE, Int.reduceToNat, Nat.reduceMul, Nat.reduceEqDiff, reduceCtorEq, Nat.reduceBEq, Nat.reduceLeDiff, Nat.reduceLT, xf12_L1, ai, al, aT, u8, lt_cast, h0, gH, wx, zP, a1, a2, hgp, hpl, raw_conv, rawC, opA, argT, Option.elim]
    refine W_alone (hinn _ _ _ _ _ _ _ _ _ (fun j0 j3 j10 j11 j12 j13 j14 j15 j16 j17 j18 j19 j20 j21 j22 j23 j24 j25 j26 j27 j31 j32 j33 j34 j35 j36 j37 j38 j39 j40 j44 j45 j46 j47 j48 j49 j50 j51 j52 j53 j54 j55 j56 j57 j58 j59 j60 => W_run 80 ?_) _ _ _ _ _ _ _ _ _ _ _ _ _ _ _ _ _ _ _ _ _ _ _ _ _ _ _ _ _ _ _ _ _ _ _ _ _ _ _ _ _ _ _ _ _ _ _)
    simp (maxSteps := 2000000) only [SA, Nat.reduceDiv, Nat.reduceSub, Nat.reduceAdd, Int.reduceLT, Int.reduceLE, Int.reduceToNat, Nat.reduceMul, Nat.reduceEqDiff, reduceCtorEq, Nat.reduceBEq, Nat.reduceLeDiff, Nat.reduceLT, xf12_R0, ai, wi]
    exact next _ _ _ _ _ _ _ _ _ _ _ _ _ _ _ _ _ _ _ _ _ _ _ _ _ _ _ _ _ _ _ _ _ _ _ _ _ _ _ _ _ _ _ _ _ _ _ _ _ _
theorem ein_4 {M : List (List Int)} {b : Int} (hs : shT 4 b M) (hb : b ≤ 1000) {p : List Int} (hp : okP 4 p) (x1 x2 x7 x9 x28 x29 x30 : AV) (K : List Fr) (Q : Out → Cfg → Prop)
    (hK : ∀ j0 j3 j10 j11 j12 j13 j14 j15 j16 j17 j18 j19 j20 j21 j22 j23 j24 j25 j26 j27 j31 j32 j33 j34 j35 j36 j37 j38 j39 j40 j44 j45 j46 j47 j48 j49 j50 j51 j52 j53 j54 j55 j56 j57 j58 j59 j60 : AV, W Try.prog (RelU Try.prog xf) 0 K ⟨(j0 :: x1 :: x2 :: j3 :: nilA :: (ai 0) :: (ai 4) :: x7 :: (.os 1011 1 4 1 0 4) :: x9 :: j10 :: j11 :: j12 :: j13 :: j14 :: j15 :: j16 :: j17 :: j18 :: j19 :: j20 :: j21 :: j22 :: j23 :: j24 :: j25 :: j26 :: j27 :: x28 :: x29 :: x30 :: j31 :: j32 :: j33 :: j34 :: j35 :: j36 :: j37 :: j38 :: j39 :: j40 :: (al false p) :: (ai 4) :: (ai 4) :: j44 :: j45 :: j46 :: j47 :: j48 :: j49 :: j50 :: j51 :: j52 :: j53 :: j54 :: j55 :: j56 :: j57 :: j58 :: j59 :: j60 :: []), [(1009, (1, some ⟨3, 1, (addR M p 1 0).map ai⟩)), (1011, (1, some ⟨37, 1, [.os 1009 1 4 1 0 4, .os 101009 1 4 1 0 4, .os 201009 1 4 1 0 4, .os 301009 1 4 1 0 4]⟩)), (101009, (1, some ⟨3, 1, (addR M p 1 1).map ai⟩)), (201009, (1, some ⟨3, 1, (addR M p 1 2).map ai⟩)), (301009, (1, some ⟨3, 1, (addR M p 1 3).map ai⟩))]⟩ Q) :
    ∀ j0 j3 j10 j11 j12 j13 j14 j15 j16 j17 j18 j19 j20 j21 j22 j23 j24 j25 j26 j27 j31 j32 j33 j34 j35 j36 j37 j38 j39 j40 j44 j45 j46 j47 j48 j49 j50 j51 j52 j53 j54 j55 j56 j57 j58 j59 j60 : AV, W Try.prog (RelU Try.prog xf) 0 (.code (.loop xf12_L0) :: .blk 2 :: .stop :: K) ⟨(j0 :: x1 :: x2 :: j3 :: nilA :: (ai 0) :: (ai 4) :: x7 :: (.os 1011 1 4 1 0 4) :: x9 :: j10 :: j11 :: j12 :: j13 :: j14 :: j15 :: j16 :: j17 :: j18 :: j19 :: j20 :: j21 :: j22 :: j23 :: j24 :: j25 :: j26 :: j27 :: x28 :: x29 :: x30 :: j31 :: j32 :: j33 :: j34 :: j35 :: j36 :: j37 :: j38 :: j39 :: j40 :: (al false p) :: (ai 4) :: (ai 0) :: j44 :: j45 :: j46 :: j47 :: j48 :: j49 :: j50 :: j51 :: j52 :: j53 :: j54 :: j55 :: j56 :: j57 :: j58 :: j59 :: j60 :: []), [(1009, (1, some ⟨3, 1, (M.getD 0 []).map ai⟩)), (1011, (1, some ⟨37, 1, [.os 1009 1 4 1 0 4, .os 101009 1 4 1 0 4, .os 201009 1 4 1 0 4, .os 301009 1 4 1 0 4]⟩)), (101009, (1, some ⟨3, 1, (M.getD 1 []).map ai⟩)), (201009, (1, some ⟨3, 1, (M.getD 2 []).map ai⟩)), (301009, (1, some ⟨3, 1, (M.getD 3 []).map ai⟩))]⟩ Q := by
  intro j0 j3 j10 j11 j12 j13 j14 j15 j16 j17 j18 j19 j20 j21 j22 j23 j24 j25 j26 j27 j31 j32 j33 j34 j35 j36 j37 j38 j39 j40 j44 j45 j46 j47 j48 j49 j50 j51 j52 j53 j54 j55 j56 j57 j58 j59 j60
  have hpl := hp.1
  have hc0 := hp.2.1 _ (getD_mem (d := 0) (l := p) (i := 0) (by omega))
  have l0 : (M.getD 0 []).length = 4 := hs.rowlen (by omega)
  have gp0 := get_al (l := p) (i := 0) (by omega)
  have gw0 : ((M.getD 0 []).map ai)[(p.getD 0 0).toNat]? = some (ai (cel M 0 (p.getD 0 0).toNat)) := get_al (by omega)
  have hcb0 := hs.b (r := 0) (c := (p.getD 0 0).toNat) (by omega) (by omega)
  have ws0 : IntKind.i64.wrap (cel M 0 (p.getD 0 0).toNat + 1) = cel M 0 (p.getD 0 0).toNat + 1 := wrap_id (by omega) (by omega)
  have st0 : ((M.getD 0 []).map ai).set (p.getD 0 0).toNat (.v (.int .i64 (cel M 0 (p.getD 0 0).toNat + 1))) = (addR M p 1 0).map ai := by unfold addR; rw [List.map_set]; rfl
  have w0 : IntKind.i64.wrap (0 + 1) = 1 := rfl
  have hc1 := hp.2.1 _ (getD_mem (d := 0) (l := p) (i := 1) (by omega))
  have l1 : (M.getD 1 []).length = 4 := hs.rowlen (by omega)
  have gp1 := get_al (l := p) (i := 1) (by omega)
  have gw1 : ((M.getD 1 []).map ai)[(p.getD 1 0).toNat]? = some (ai (cel M 1 (p.getD 1 0).toNat)) := get_al (by omega)
  have hcb1 := hs.b (r := 1) (c := (p.getD 1 0).toNat) (by omega) (by omega)
  have ws1 : IntKind.i64.wrap (cel M 1 (p.getD 1 0).toNat + 1) = cel M 1 (p.getD 1 0).toNat + 1 := wrap_id (by omega) (by omega)
  have st1 : ((M.getD 1 []).map ai).set (p.getD 1 0).toNat (.v (.int .i64 (cel M 1 (p.getD 1 0).toNat + 1))) = (addR M p 1 1).map ai := by unfold addR; rw [List.map_set]; rfl
  have w1 : IntKind.i64.wrap (1 + 1) = 2 := rfl
  have hc2 := hp.2.1 _ (getD_mem (d := 0) (l := p) (i := 2) (by omega))
  have l2 : (M.getD 2 []).length = 4 := hs.rowlen (by omega)
  have gp2 := get_al (l := p) (i := 2) (by omega)
  have gw2 : ((M.getD 2 []).map ai)[(p.getD 2 0).toNat]? = some (ai (cel M 2 (p.getD 2 0).toNat)) := get_al (by omega)
  have hcb2 := hs.b (r := 2) (c := (p.getD 2 0).toNat) (by omega) (by omega)
  have ws2 : IntKind.i64.wrap (cel M 2 (p.getD 2 0).toNat + 1) = cel M 2 (p.getD 2 0).toNat + 1 := wrap_id (by omega) (by omega)
  have st2 : ((M.getD 2 []).map ai).set (p.getD 2 0).toNat (.v (.int .i64 (cel M 2 (p.getD 2 0).toNat + 1))) = (addR M p 1 2).map ai := by unfold addR; rw [List.map_set]; rfl
  have w2 : IntKind.i64.wrap (2 + 1) = 3 := rfl
  have hc3 := hp.2.1 _ (getD_mem (d := 0) (l := p) (i := 3) (by omega))
  have l3 : (M.getD 3 []).length = 4 := hs.rowlen (by omega)
  have gp3 := get_al (l := p) (i := 3) (by omega)
  have gw3 : ((M.getD 3 []).map ai)[(p.getD 3 0).toNat]? = some (ai (cel M 3 (p.getD 3 0).toNat)) := get_al (by omega)
  have hcb3 := hs.b (r := 3) (c := (p.getD 3 0).toNat) (by omega) (by omega)
  have ws3 : IntKind.i64.wrap (cel M 3 (p.getD 3 0).toNat + 1) = cel M 3 (p.getD 3 0).toNat + 1 := wrap_id (by omega) (by omega)
  have st3 : ((M.getD 3 []).map ai).set (p.getD 3 0).toNat (.v (.int .i64 (cel M 3 (p.getD 3 0).toNat + 1))) = (addR M p 1 3).map ai := by unfold addR; rw [List.map_set]; rfl
  have w3 : IntKind.i64.wrap (3 + 1) = 4 := rfl
  generalize addR M p 1 0 = A0 at *
  generalize cel M 0 (p.getD 0 0).toNat = y0 at *
  generalize p.getD 0 0 = d0 at *
  have z0 := hc0.1
  have u0 : d0 < 4 := by have := hc0.2; omega
  generalize addR M p 1 1 = A1 at *
  generalize cel M 1 (p.getD 1 0).toNat = y1 at *
  generalize p.getD 1 0 = d1 at *
  have z1 := hc1.1
  have u1 : d1 < 4 := by have := hc1.2; omega
  generalize addR M p 1 2 = A2 at *
  generalize cel M 2 (p.getD 2 0).toNat = y2 at *
  generalize p.getD 2 0 = d2 at *
  have z2 := hc2.1
  have u2 : d2 < 4 := by have := hc2.2; omega
  generalize addR M p 1 3 = A3 at *
  generalize cel M 3 (p.getD 3 0).toNat = y3 at *
  generalize p.getD 3 0 = d3 at *
  have z3 := hc3.1
  have u3 : d3 < 4 := by have := hc3.2; omega
  generalize M.getD 0 [] = W0 at *
  generalize M.getD 1 [] = W1 at *
  generalize M.getD 2 [] = W2 at *
  generalize M.getD 3 [] = W3 at *
  refine W_loop (W_run 200 ?_)
  simp (maxSteps := 2000000) only [SA, Nat.reduceDiv, Nat.reduceSub, Nat.reduceAdd, Int.reduceLT, Int.reduceLE, Int.reduceToNat, Nat.reduceMul, Nat.reduceEqDiff, reduceCtorEq, Nat.reduceBEq, Nat.reduceLeDiff, Nat.reduceLT, xf12_L0, ai, al, hpl, gp0, gw0, z0, u0, l0, ws0, st0, w0]
  refine W_loop (W_run 200 ?_)
  simp (maxSteps := 2000000) only [SA, Nat.reduceDiv, Nat.reduceSub, Nat.reduceAdd, Int.reduceLT, Int.reduceLE, Int.reduceToNat, Nat.reduceMul, Nat.reduceEqDiff, reduceCtorEq, Nat.reduceBEq, Nat.reduceLeDiff, Nat.reduceLT, xf12_L0, ai, al, hpl, gp1, gw1, z1, u1, l1, ws1, st1, w1]
  refine W_loop (W_run 200 ?_)
  simp (maxSteps := 2000000) only [SA, Nat.reduceDiv, Nat.reduceSub, Nat.reduceAdd, Int.reduceLT, Int.reduceLE, Int.reduceToNat, Nat.reduceMul, Nat.reduceEqDiff, reduceCtorEq, Nat.reduceBEq, Nat.reduceLeDiff, Nat.reduceLT, xf12_L0, ai, al, hpl, gp2, gw2, z2, u2, l2, ws2, st2, w2]
  refine W_loop (W_run 200 ?_)
  simp (maxSteps := 2000000) only [SA, Nat.reduceDiv, Nat.reduceSub, Nat.reduceAdd, Int.reduceLT, Int.reduceLE, Int.reduceToNat, Nat.reduceMul, Nat.reduceEqDiff, reduceCtorEq, Nat.reduceBEq, Nat.reduceLeDiff, Nat.reduceLT, xf12_L0, ai, al, hpl, gp3, gw3, z3, u3, l3, ws3, st3, w3]
  refine W_loop (W_run 200 ?_)
  simp (maxSteps := 2000000) only [SA, Nat.reduceDiv, Nat.reduceSub, Nat.reduceAdd, Int.reduceLT, Int.reduceLE, Int.reduceToNat, Nat.reduceMul, Nat.reduceEqDiff, reduceCtorEq, Nat.reduceBEq, Nat.reduceLeDiff, Nat.reduceLT, xf12_L0, ai, al]
  exact W_stop (hK _ _ _ _ _ _ _ _ _ _ _ _ _ _ _ _ _ _ _ _ _ _ _ _ _ _ _ _ _ _ _ _ _ _ _ _ _ _ _ _ _ _ _ _ _ _ _)
theorem eout_4 (Ps : List (List Int)) (hPs : Ps = plL 4) (Hs : List Int) (hH : Hs.length ≤ 8) (bH : ∀ x, x ∈ Hs → 0 ≤ x ∧ x ≤ 255) (bb : Bool) (x1 x2 x9 : AV) (K : List Fr) (Q : Out → Cfg → Prop)
    (hK : ∀ S M, S.length = Hs.length → EI 4 S M → ∀ j0 j3 j10 j11 j12 j13 j14 j15 j16 j17 j18 j19 j20 j21 j22 j23 j24 j25 j26 j27 j31 j32 j33 j34 j35 j36 j37 j38 j39 j40 j41 j42 j43 j44 j45 j46 j47 j48 j49 j50 j51 j52 j53 j54 j55 j56 j57 j58 j59 j60 : AV, W Try.prog (RelU Try.prog xf) 0 K ⟨(j0 :: x1 :: x2 :: j3 :: nilA :: (ai 0) :: (ai 4) :: (aT Ps) :: (.os 1011 1 4 1 0 4) :: x9 :: j10 :: j11 :: j12 :: j13 :: j14 :: j15 :: j16 :: j17 :: j18 :: j19 :: j20 :: j21 :: j22 :: j23 :: j24 :: j25 :: j26 :: j27 :: (.sl 1 bb (Hs.map u8)) :: (ai Hs.length) :: (ai Hs.length) :: j31 :: j32 :: j33 :: j34 :: j35 :: j36 :: j37 :: j38 :: j39 :: j40 :: j41 :: j42 :: j43 :: j44 :: j45 :: j46 :: j47 :: j48 :: j49 :: j50 :: j51 :: j52 :: j53 :: j54 :: j55 :: j56 :: j57 :: j58 :: j59 :: j60 :: []), [(1009, (1, some ⟨3, 1, (M.getD 0 []).map ai⟩)), (1011, (1, some ⟨37, 1, [.os 1009 1 4 1 0 4, .os 101009 1 4 1 0 4, .os 201009 1 4 1 0 4, .os 301009 1 4 1 0 4]⟩)), (101009, (1, some ⟨3, 1, (M.getD 1 []).map ai⟩)), (201009, (1, some ⟨3, 1, (M.getD 2 []).map ai⟩)), (301009, (1, some ⟨3, 1, (M.getD 3 []).map ai⟩))]⟩ Q) :
    ∀ (k i : Nat), i + k = Hs.length → ∀ S M, S.length = i → EI 4 S M → ∀ j0 j3 j10 j11 j12 j13 j14 j15 j16 j17 j18 j19 j20 j21 j22 j23 j24 j25 j26 j27 j31 j32 j33 j34 j35 j36 j37 j38 j39 j40 j41 j42 j43 j44 j45 j46 j47 j48 j49 j50 j51 j52 j53 j54 j55 j56 j57 j58 j59 j60 : AV, W Try.prog (RelU Try.prog xf) 0 (.code (.loop xf12_L1) :: .blk 0 :: .stop :: K) ⟨(j0 :: x1 :: x2 :: j3 :: nilA :: (ai 0) :: (ai 4) :: (aT Ps) :: (.os 1011 1 4 1 0 4) :: x9 :: j10 :: j11 :: j12 :: j13 :: j14 :: j15 :: j16 :: j17 :: j18 :: j19 :: j20 :: j21 :: j22 :: j23 :: j24 :: j25 :: j26 :: j27 :: (.sl 1 bb (Hs.map u8)) :: (ai Hs.length) :: (ai i) :: j31 :: j32 :: j33 :: j34 :: j35 :: j36 :: j37 :: j38 :: j39 :: j40 :: j41 :: j42 :: j43 :: j44 :: j45 :: j46 :: j47 :: j48 :: j49 :: j50 :: j51 :: j52 :: j53 :: j54 :: j55 :: j56 :: j57 :: j58 :: j59 :: j60 :: []), [(1009, (1, some ⟨3, 1, (M.getD 0 []).map ai⟩)), (1011, (1, some ⟨37, 1, [.os 1009 1 4 1 0 4, .os 101009 1 4 1 0 4, .os 201009 1 4 1 0 4, .os 301009 1 4 1 0 4]⟩)), (101009, (1, some ⟨3, 1, (M.getD 1 []).map ai⟩)), (201009, (1, some ⟨3, 1, (M.getD 2 []).map ai⟩)), (301009, (1, some ⟨3, 1, (M.getD 3 []).map ai⟩))]⟩ Q := by
  intro k
  induction k with
  | zero =>
    intro i hi S M hS hA j0 j3 j10 j11 j12 j13 j14 j15 j16 j17 j18 j19 j20 j21 j22 j23 j24 j25 j26 j27 j31 j32 j33 j34 j35 j36 j37 j38 j39 j40 j41 j42 j43 j44 j45 j46 j47 j48 j49 j50 j51 j52 j53 j54 j55 j56 j57 j58 j59 j60
    have : i = Hs.length := by omega
    subst this
    have h0 : decide (Hs.length < Hs.length) = false := by simp
    have hK := hK S M hS hA
    refine W_loop (W_run 80 ?_)
    simp (maxSteps := 2000000) only [SA, Nat.reduceDiv, Nat.reduceSub, Nat.reduceAdd, Int.reduceLT, Int.reduceLE, Int.reduceToNat, Nat.reduceMul, Nat.reduceEqDiff, reduceCtorEq, Nat.reduceBEq, Nat.reduceLeDiff, Nat.reduceLT, xf12_L1, ai, lt_cast, h0]
    exact W_stop (hK _ _ _ _ _ _ _ _ _ _ _ _ _ _ _ _ _ _ _ _ _ _ _ _ _ _ _ _ _ _ _ _ _ _ _ _ _ _ _ _ _ _ _ _ _ _ _ _ _ _)
  | succ k ih =>
    intro i hi S M hS hA j0 j3 j10 j11 j12 j13 j14 j15 j16 j17 j18 j19 j20 j21 j22 j23 j24 j25 j26 j27 j31 j32 j33 j34 j35 j36 j37 j38 j39 j40 j41 j42 j43 j44 j45 j46 j47 j48 j49 j50 j51 j52 j53 j54 j55 j56 j57 j58 j59 j60
    have h1 : i < Hs.length := by omega
    have h0 : decide (i < Hs.length) = true := decide_eq_true h1
    have hx := bH _ (getD_mem (d := 0) h1)
    have gH := get_u8 h1
    generalize Hs.getD i 0 = x at *
    have hPl : 1 ≤ Ps.length ∧ Ps.length ≤ 24 := by rw [hPs]; decide
    have wx : IntKind.i64.wrap x = x := wrap_id (by omega) (by omega)
    have zP : ((Ps.length : Int) = 0) = False := eq_false (by omega)
    obtain ⟨a1, a2⟩ := tmod_b (a := x) (n := Ps.length) hx.1 (by omega)
    have hgp := get_T (T := Ps) (i := (x.tmod Ps.length).toNat) (by omega)
    have hpm : Ps.getD (x.tmod Ps.length).toNat [] ∈ plL 4 := by rw [← hPs]; exact getD_mem (by omega)
    generalize Ps.getD (x.tmod Ps.length).toNat [] = p at *
    have hok := plL_len (by decide : 1 ≤ 4) (by decide : 4 ≤ 4) p hpm
    have hA2 := ei_add (by decide : 1 ≤ 4) (by decide : 4 ≤ 4) hA hpm
    have wi : IntKind.i64.wrap ((i : Int) + 1) = ((i + 1 : Nat) : Int) := by rw [wrap_id (by omega) (by omega)]; simp
    have hpl : p.length = 4 := hok.1
    have next := ih (i + 1) (by omega) (S ++ [(p, 1)]) _ (by simp [hS]) hA2
    have ag0 : (addT M p 1).getD 0 [] = addR M p 1 0 := add_get (by omega)
    have ag1 : (addT M p 1).getD 1 [] = addR M p 1 1 := add_get (by omega)
    have ag2 : (addT M p 1).getD 2 [] = addR M p 1 2 := add_get (by omega)
    have ag3 : (addT M p 1).getD 3 [] = addR M p 1 3 := add_get (by omega)
    rw [ag0, ag1, ag2, ag3] at next
    have hinn := ein_4 hA.sh (by omega) hok
    refine W_loop (W_run 200 ?_)
    simp (maxSteps := 2000000) only [SA, Nat.reduceDiv, Nat.reduceSub, Nat.reduceAdd, Int.reduceLT, Int.reduceLE, Int.reduceToNat, Nat.reduceMul, Nat.reduceEqDiff, reduceCtorEq, Nat.reduceBEq, Nat.reduceLeDiff, Nat.reduceLT, xf12_L1, ai, al, aT, u8, lt_cast, h0, gH, wx, zP, a1, a2, hgp, hpl, raw_conv, rawC, opA, argT, Option.elim]
    refine W_alone (hinn _ _ _ _ _ _ _ _ _ (fun j0 j3 j10 j11 j12 j13 j14 j15 j16 j17 j18 j19 j20 j21 j22 j23 j24 j25 j26 j27 j31 j32 j33 j34 j35 j36 j37 j38 j39 j40 j44 j45 j46 j47 j48 j49 j50 j51 j52 j53 j54 j55 j56 j57 j58 j59 j60 => W_run 80 ?_) _ _ _ _ _ _ _ _ _ _ _ _ _ _ _ _ _ _ _ _ _ _ _ _ _ _ _ _ _ _ _ _ _ _ _ _ _ _ _ _ _ _ _ _ _ _ _)
    simp (maxSteps := 2000000) only [SA, Nat.reduceDiv, Nat.reduceSub, Nat.reduceAdd, Int.reduceLT, Int.reduceLE, Int.reduceToNat, Nat.reduceMul, Nat.reduceEqDiff, reduceCtorEq, Nat.reduceBEq, Nat.reduceLeDiff, Nat.reduceLT, xf12_R0, ai, wi]
    exact next _ _ _ _ _ _ _ _ _ _ _ _ _ _ _ _ _ _ _ _ _ _ _ _ _ _ _ _ _ _ _ _ _ _ _ _ _ _ _ _ _ _ _ _ _ _ _ _ _ _
end Go.Proofs.Ytkbeaheladmeiaa

set_option linter.unusedSimpArgs false
set_option linter.unusedVariables false
namespace Go.Proofs.Ytkbeaheladmeiaa
open Go Go.Proofs.Eng
set_option maxRecDepth 100000
set_option maxHeartbeats 4000000
theorem reM_1 {M : List (List Int)} {b : Int} (hs : shT 1 b M) : reify [(1009, (1, some ⟨3, 1, (M.getD 0 []).map ai⟩)), (1011, (1, some ⟨37, 1, [.os 1009 1 1 1 0 1]⟩))] 19 (.os 1011 1 1 1 0 1) = some (aT M) := by
  have hML : M = [M.getD 0 []] := by
    have hl := hs.len
    match M, hl with
    | [R0], _ => rfl
  have hr : ∀ (R : List Int) (k : Nat), R.length = 1 → Go.Proofs.Eng.look [(1009, (1, some ⟨3, 1, (M.getD 0 []).map ai⟩)), (1011, (1, some ⟨37, 1, [.os 1009 1 1 1 0 1]⟩))] k = (1, some ⟨3, 1, R.map ai⟩) → elemR (reify [(1009, (1, some ⟨3, 1, (M.getD 0 []).map ai⟩)), (1011, (1, some ⟨37, 1, [.os 1009 1 1 1 0 1]⟩))] 18) (.os k 1 1 1 0 1) = some (al false R) := fun R k h1 h2 => by
    have e : elemR (reify [(1009, (1, some ⟨3, 1, (M.getD 0 []).map ai⟩)), (1011, (1, some ⟨37, 1, [.os 1009 1 1 1 0 1]⟩))] 18) (.os k 1 1 1 0 1) = reify [(1009, (1, some ⟨3, 1, (M.getD 0 []).map ai⟩)), (1011, (1, some ⟨37, 1, [.os 1009 1 1 1 0 1]⟩))] 18 (.os k 1 1 1 0 1) := rfl
    rw [e]
    have := reify_os (n := 17) (η := [(1009, (1, some ⟨3, 1, (M.getD 0 []).map ai⟩)), (1011, (1, some ⟨37, 1, [.os 1009 1 1 1 0 1]⟩))]) (k := k) (g := 1) (e := 3) (s := 1) (l := R) (elem_ai _ 16) h2
    rw [h1] at this
    exact this
  have e : reify [(1009, (1, some ⟨3, 1, (M.getD 0 []).map ai⟩)), (1011, (1, some ⟨37, 1, [.os 1009 1 1 1 0 1]⟩))] 19 (.os 1011 1 1 1 0 1) = ([.os 1009 1 1 1 0 1].mapM (elemR (reify [(1009, (1, some ⟨3, 1, (M.getD 0 []).map ai⟩)), (1011, (1, some ⟨37, 1, [.os 1009 1 1 1 0 1]⟩))] 18))).map (AV.sl 1 false) := reify_osX (n := 18) rfl rfl
  rw [e, List.mapM_cons, hr (M.getD 0 []) 1009 (hs.rowlen (by omega)) rfl, List.mapM_nil]
  conv => rhs; rw [hML]
  rfl
theorem even_1 {a b e : Int} {D H : List Int} (hn : sz a = 1) (ha : 0 ≤ a ∧ a ≤ 255) (hb : 0 ≤ b ∧ b ≤ 255) (hD : D.length = 16) (hH : H.length = 8) (bH : ∀ x, x ∈ H → 0 ≤ x ∧ x ≤ 255) {most : Nat} (hm : most ≤ 8) :
    ∃ S M, S.length = (b.tmod (most + 1)).toNat ∧ EI 1 S M ∧ Runs Try.prog xf 12 [ldg a b e D H, ai most] (.tup [aT M, ai S.length]) := by
  have hl27 : (D.map u8 ++ H.map u8).length = 24 := by simp [hD, hH]
  have ht27 : List.take 24 (D.map u8 ++ H.map u8) = D.map u8 ++ H.map u8 := List.take_of_length_le (by rw [hl27]; omega)
  have hnr := noRef_ldg a b e D H
  have hsz : Runs Try.prog xf 37 [ldg a b e D H] (ai 1) := by
    have := size_run ha b e hD hH
    rw [hn] at this; exact this
  have wm : IntKind.i64.wrap ((most : Int) + 1) = (most : Int) + 1 := wrap_id (by omega) (by omega)
  have zm : ((most : Int) + 1 = 0) = False := eq_false (by omega)
  have wb : IntKind.i64.wrap b = b := wrap_id (by omega) (by omega)
  obtain ⟨c1, c2⟩ := tmod_b (a := b) (n := (most : Int) + 1) hb.1 (by omega)
  obtain ⟨cnt, hcnt⟩ : ∃ cnt : Nat, b.tmod ((most : Int) + 1) = (cnt : Int) := ⟨(b.tmod ((most : Int) + 1)).toNat, by omega⟩
  have hc8 : cnt ≤ 8 := by omega
  have hdr : List.drop 16 (D.map u8 ++ H.map u8) = H.map u8 := List.drop_left' (by simp [hD])
  have ht8 : List.take 8 (H.map u8) = H.map u8 := List.take_of_length_le (by simp [hH])
  have hch : Go.Proofs.Eng.chunkA false 1 (H.map u8) 8 = some (H.map u8) := by
    match H, hH with
    | [e0, e1, e2, e3, e4, e5, e6, e7], _ => rfl
  have hHl : (H.map u8).length = 8 := by rw [List.length_map]; exact hH
  have htk : List.take cnt (H.map u8) = (H.take cnt).map u8 := List.map_take.symm
  have hH2 : (H.take cnt).length = cnt := by rw [List.length_take]; omega
  have bH2 : ∀ x, x ∈ H.take cnt → 0 ≤ x ∧ x ≤ 255 := fun x hx => bH x (List.mem_of_mem_take hx)
  have hout := eout_1 (plL 1) rfl (H.take cnt) (by omega) bH2
  have hplT := noRef_T (plL 1)
  have hplr := pl_1
  have hei := ei_zer (n := 1) (by decide)
  have main : ∃ r, (∃ S M, S.length = cnt ∧ EI 1 S M ∧ r = .tup [aT M, ai S.length]) ∧ Runs Try.prog xf 12 [ldg a b e D H, ai most] r := by
    generalize hPs : plL 1 = Ps at *
    refine ofWE (fn := xf12) 20 (by kernel_rfl) (W_run 160 ?_)
    simp (maxSteps := 2000000) only [SA, Nat.reduceDiv, Nat.reduceSub, Nat.reduceAdd, Int.reduceLT, Int.reduceLE, Int.reduceToNat, Nat.reduceMul, Nat.reduceEqDiff, reduceCtorEq, Nat.reduceBEq, Nat.reduceLeDiff, Nat.reduceLT, xf12, ai, nilA, ldg, hl27, ht27, List.length_append, hD, hH]
    refine W_call (args := [ldg a b e D H]) rfl (noRefs_1 hnr) hsz rfl (W_run 160 ?_)
    simp (maxSteps := 2000000) only [SA, Nat.reduceDiv, Nat.reduceSub, Nat.reduceAdd, Int.reduceLT, Int.reduceLE, Int.reduceToNat, Nat.reduceMul, Nat.reduceEqDiff, reduceCtorEq, Nat.reduceBEq, Nat.reduceLeDiff, Nat.reduceLT, ai, nilA]
    refine W_call (args := [ai 1]) rfl rfl hplr hplT (W_run 160 ?_)
    simp (maxSteps := 2000000) only [SA, Nat.reduceDiv, Nat.reduceSub, Nat.reduceAdd, Int.reduceLT, Int.reduceLE, Int.reduceToNat, Nat.reduceMul, Nat.reduceEqDiff, reduceCtorEq, Nat.reduceBEq, Nat.reduceLeDiff, Nat.reduceLT, ai, nilA]
    refine W_callR (kb' := 1000) (args := [ai 1]) rfl emp_1 rfl (W_run 160 ?_)
    simp (maxSteps := 2000000) only [SA, Nat.reduceDiv, Nat.reduceSub, Nat.reduceAdd, Int.reduceLT, Int.reduceLE, Int.reduceToNat, Nat.reduceMul, Nat.reduceEqDiff, reduceCtorEq, Nat.reduceBEq, Nat.reduceLeDiff, Nat.reduceLT, ai, nilA, u8, wb, wm, zm, hcnt, hc8, hl27, hdr, ht8, hch, hHl, htk, hH2, raw_conv, rawC, opA, argT, Option.elim, List.length_append, hD, hH]
    generalize hHs : H.take cnt = Hs at *
    obtain rfl := hH2
    refine W_alone (hout _ _ _ _ _ _ (fun S M hSl hA j0 j3 j10 j11 j12 j13 j14 j15 j16 j17 j18 j19 j20 j21 j22 j23 j24 j25 j26 j27 j31 j32 j33 j34 j35 j36 j37 j38 j39 j40 j41 j42 j43 j44 j45 j46 j47 j48 j49 j50 j51 j52 j53 j54 j55 j56 j57 j58 j59 j60 => W_run 80 ?_) Hs.length 0 (by omega) [] (zerT 1) rfl hei _ _ _ _ _ _ _ _ _ _ _ _ _ _ _ _ _ _ _ _ _ _ _ _ _ _ _ _ _ _ _ _ _ _ _ _ _ _ _ _ _ _ _ _ _ _ _ _ _ _)
    have hre := reM_1 hA.sh
    simp (maxSteps := 2000000) only [SA, Nat.reduceDiv, Nat.reduceSub, Nat.reduceAdd, Int.reduceLT, Int.reduceLE, Int.reduceToNat, Nat.reduceMul, Nat.reduceEqDiff, reduceCtorEq, Nat.reduceBEq, Nat.reduceLeDiff, Nat.reduceLT, xf12_R1, ai]
    refine W_ret1 (WX_nil ⟨.inl rfl, _, rfl, .tup [aT M, ai S.length], ⟨S, M, hSl, hA, rfl⟩, ?_⟩)
    show ([.os 1011 1 1 1 0 1, ai Hs.length].mapM (reify _ 19)).map AV.tup = _
    rw [List.mapM_cons, hre, hSl]; rfl
  obtain ⟨r, ⟨S, M, h1, h2, rfl⟩, h3⟩ := main
  exact ⟨S, M, by rw [h1, hcnt]; rfl, h2, h3⟩
theorem reM_2 {M : List (List Int)} {b : Int} (hs : shT 2 b M) : reify [(1009, (1, some ⟨3, 1, (M.getD 0 []).map ai⟩)), (1011, (1, some ⟨37, 1, [.os 1009 1 2 1 0 2, .os 101009 1 2 1 0 2]⟩)), (101009, (1, some ⟨3, 1, (M.getD 1 []).map ai⟩))] 19 (.os 1011 1 2 1 0 2) = some (aT M) := by
  have hML : M = [M.getD 0 [], M.getD 1 []] := by
    have hl := hs.len
    match M, hl with
    | [R0, R1], _ => rfl
  have hr : ∀ (R : List Int) (k : Nat), R.length = 2 → Go.Proofs.Eng.look [(1009, (1, some ⟨3, 1, (M.getD 0 []).map ai⟩)), (1011, (1, some ⟨37, 1, [.os 1009 1 2 1 0 2, .os 101009 1 2 1 0 2]⟩)), (101009, (1, some ⟨3, 1, (M.getD 1 []).map ai⟩))] k = (1, some ⟨3, 1, R.map ai⟩) → elemR (reify [(1009, (1, some ⟨3, 1, (M.getD 0 []).map ai⟩)), (1011, (1, some ⟨37, 1, [.os 1009 1 2 1 0 2, .os 101009 1 2 1 0 2]⟩)), (101009, (1, some ⟨3, 1, (M.getD 1 []).map ai⟩))] 18) (.os k 1 2 1 0 2) = some (al false R) := fun R k h1 h2 => by
    have e : elemR (reify [(1009, (1, some ⟨3, 1, (M.getD 0 []).map ai⟩)), (1011, (1, some ⟨37, 1, [.os 1009 1 2 1 0 2, .os 101009 1 2 1 0 2]⟩)), (101009, (1, some ⟨3, 1, (M.getD 1 []).map ai⟩))] 18) (.os k 1 2 1 0 2) = reify [(1009, (1, some ⟨3, 1, (M.getD 0 []).map ai⟩)), (1011, (1, some ⟨37, 1, [.os 1009 1 2 1 0 2, .os 101009 1 2 1 0 2]⟩)), (101009, (1, some ⟨3, 1, (M.getD 1 []).map ai⟩))] 18 (.os k 1 2 1 0 2) := rfl
    rw [e]
    have := reify_os (n := 17) (η := [(1009, (1, some ⟨3, 1, (M.getD 0 []).map ai⟩)), (1011, (1, some ⟨37, 1, [.os 1009 1 2 1 0 2, .os 101009 1 2 1 0 2]⟩)), (101009, (1, some ⟨3, 1, (M.getD 1 []).map ai⟩))]) (k := k) (g := 1) (e := 3) (s := 1) (l := R) (elem_ai _ 16) h2
    rw [h1] at this
    exact this
  have e : reify [(1009, (1, some ⟨3, 1, (M.getD 0 []).map ai⟩)), (1011, (1, some ⟨37, 1, [.os 1009 1 2 1 0 2, .os 101009 1 2 1 0 2]⟩)), (101009, (1, some ⟨3, 1, (M.getD 1 []).map ai⟩))] 19 (.os 1011 1 2 1 0 2) = ([.os 1009 1 2 1 0 2, .os 101009 1 2 1 0 2].mapM (elemR (reify [(1009, (1, some ⟨3, 1, (M.getD 0 []).map ai⟩)), (1011, (1, some ⟨37, 1, [.os 1009 1 2 1 0 2, .os 101009 1 2 1 0 2]⟩)), (101009, (1, some ⟨3, 1, (M.getD 1 []).map ai⟩))] 18))).map (AV.sl 1 false) := reify_osX (n := 18) rfl rfl
  rw [e, List.mapM_cons, hr (M.getD 0 []) 1009 (hs.rowlen (by omega)) rfl, List.mapM_cons, hr (M.getD 1 []) 101009 (hs.rowlen (by omega)) rfl, List.mapM_nil]
  conv => rhs; rw [hML]
  rfl
theorem even_2 {a b e : Int} {D H : List Int} (hn : sz a = 2) (ha : 0 ≤ a ∧ a ≤ 255) (hb : 0 ≤ b ∧ b ≤ 255) (hD : D.length = 16) (hH : H.length = 8) (bH : ∀ x, x ∈ H → 0 ≤ x ∧ x ≤ 255) {most : Nat} (hm : most ≤ 8) :
    ∃ S M, S.length = (b.tmod (most + 1)).toNat ∧ EI 2 S M ∧ Runs Try.prog xf 12 [ldg a b e D H, ai most] (.tup [aT M, ai S.length]) := by
  have hl27 : (D.map u8 ++ H.map u8).length = 24 := by simp [hD, hH]
  have ht27 : List.take 24 (D.map u8 ++ H.map u8) = D.map u8 ++ H.map u8 := List.take_of_length_le (by rw [hl27]; omega)
  have hnr := noRef_ldg a b e D H
  have hsz : Runs Try.prog xf 37 [ldg a b e D H] (ai 2) := by
    have := size_run ha b e hD hH
    rw [hn] at this; exact this
  have wm : IntKind.i64.wrap ((most : Int) + 1) = (most : Int) + 1 := wrap_id (by omega) (by omega)
  have zm : ((most : Int) + 1 = 0) = False := eq_false (by omega)
  have wb : IntKind.i64.wrap b = b := wrap_id (by omega) (by omega)
  obtain ⟨c1, c2⟩ := tmod_b (a := b) (n := (most : Int) + 1) hb.1 (by omega)
  obtain ⟨cnt, hcnt⟩ : ∃ cnt : Nat, b.tmod ((most : Int) + 1) = (cnt : Int) := ⟨(b.tmod ((most : Int) + 1)).toNat, by omega⟩
  have hc8 : cnt ≤ 8 := by omega
  have hdr : List.drop 16 (D.map u8 ++ H.map u8) = H.map u8 := List.drop_left' (by simp [hD])
  have ht8 : List.take 8 (H.map u8) = H.map u8 := List.take_of_length_le (by simp [hH])
  have hch : Go.Proofs.Eng.chunkA false 1 (H.map u8) 8 = some (H.map u8) := by
    match H, hH with
    | [e0, e1, e2, e3, e4, e5, e6, e7], _ => rfl
  have hHl : (H.map u8).length = 8 := by rw [List.length_map]; exact hH
  have htk : List.take cnt (H.map u8) = (H.take cnt).map u8 := List.map_take.symm
  have hH2 : (H.take cnt).length = cnt := by rw [List.length_take]; omega
  have bH2 : ∀ x, x ∈ H.take cnt → 0 ≤ x ∧ x ≤ 255 := fun x hx => bH x (List.mem_of_mem_take hx)
  have hout := eout_2 (plL 2) rfl (H.take cnt) (by omega) bH2
  have hplT := noRef_T (plL 2)
  have hplr := pl_2
  have hei := ei_zer (n := 2) (by decide)
  have main : ∃ r, (∃ S M, S.length = cnt ∧ EI 2 S M ∧ r = .tup [aT M, ai S.length]) ∧ Runs Try.prog xf 12 [ldg a b e D H, ai most] r := by
    generalize hPs : plL 2 = Ps at *
    refine ofWE (fn := xf12) 20 (by kernel_rfl) (W_run 160 ?_)
    simp (maxSteps := 2000000) only [SA, Nat.reduceDiv, Nat.reduceSub, Nat.reduceAdd, Int.reduceLT, Int.reduceLE, Int.reduceToNat, Nat.reduceMul, Nat.reduceEqDiff, reduceCtorEq, Nat.reduceBEq, Nat.reduceLeDiff, Nat.reduceLT, xf12, ai, nilA, ldg, hl27, ht27, List.length_append, hD, hH]
    refine W_call (args := [ldg a b e D H]) rfl (noRefs_1 hnr) hsz rfl (W_run 160 ?_)
    simp (maxSteps := 2000000) only [SA, Nat.reduceDiv, Nat.reduceSub, Nat.reduceAdd, Int.reduceLT, Int.reduceLE, Int.reduceToNat, Nat.reduceMul, Nat.reduceEqDiff, reduceCtorEq, Nat.reduceBEq, Nat.reduceLeDiff, Nat.reduceLT, ai, nilA]
    refine W_call (args := [ai 2]) rfl rfl hplr hplT (W_run 160 ?_)
    simp (maxSteps := 2000000) only [SA, Nat.reduceDiv, Nat.reduceSub, Nat.reduceAdd, Int.reduceLT, Int.reduceLE, Int.reduceToNat, Nat.reduceMul, Nat.reduceEqDiff, reduceCtorEq, Nat.reduceBEq, Nat.reduceLeDiff, Nat.reduceLT, ai, nilA]
    refine W_callR (kb' := 1000) (args := [ai 2]) rfl emp_2 rfl (W_run 160 ?_)
    simp (maxSteps := 2000000) only [SA, Nat.reduceDiv, Nat.reduceSub, Nat.reduceAdd, Int.reduceLT, Int.reduceLE, Int.reduceToNat, Nat.reduceMul, Nat.reduceEqDiff, reduceCtorEq, Nat.reduceBEq, Nat.reduceLeDiff, Nat.reduceLT, ai, nilA, u8, wb, wm, zm, hcnt, hc8, hl27, hdr, ht8, hch, hHl, htk, hH2, raw_conv, rawC, opA, argT, Option.elim, List.length_append, hD, hH]
    generalize hHs : H.take cnt = Hs at *
    obtain rfl := hH2
    refine W_alone (hout _ _ _ _ _ _ (fun S M hSl hA j0 j3 j10 j11 j12 j13 j14 j15 j16 j17 j18 j19 j20 j21 j22 j23 j24 j25 j26 j27 j31 j32 j33 j34 j35 j36 j37 j38 j39 j40 j41 j42 j43 j44 j45 j46 j47 j48 j49 j50 j51 j52 j53 j54 j55 j56 j57 j58 j59 j60 => W_run 80 ?_) Hs.length 0 (by omega) [] (zerT 2) rfl hei _ _ _ _ _ _ _ _ _ _ _ _ _ _ _ _ _ _ _ _ _ _ _ _ _ _ _ _ _ _ _ _ _ _ _ _ _ _ _ _ _ _ _ _ _ _ _ _ _ _)
    have hre := reM_2 hA.sh
    simp (maxSteps := 2000000) only [SA, Nat.reduceDiv, Nat.reduceSub, Nat.reduceAdd, Int.reduceLT, Int.reduceLE, Int.reduceToNat, Nat.reduceMul, Nat.reduceEqDiff, reduceCtorEq, Nat.reduceBEq, Nat.reduceLeDiff, Nat.reduceLT, xf12_R1, ai]
    refine W_ret1 (WX_nil ⟨.inl rfl, _, rfl, .tup [aT M, ai S.length], ⟨S, M, hSl, hA, rfl⟩, ?_⟩)
    show ([.os 1011 1 2 1 0 2, ai Hs.length].mapM (reify _ 19)).map AV.tup = _
    rw [List.mapM_cons, hre, hSl]; rfl
  obtain ⟨r, ⟨S, M, h1, h2, rfl⟩, h3⟩ := main
  exact ⟨S, M, by rw [h1, hcnt]; rfl, h2, h3⟩
theorem reM_3 {M : List (List Int)} {b : Int} (hs : shT 3 b M) : reify [(1009, (1, some ⟨3, 1, (M.getD 0 []).map ai⟩)), (1011, (1, some ⟨37, 1, [.os 1009 1 3 1 0 3, .os 101009 1 3 1 0 3, .os 201009 1 3 1 0 3]⟩)), (101009, (1, some ⟨3, 1, (M.getD 1 []).map ai⟩)), (201009, (1, some ⟨3, 1, (M.getD 2 []).map ai⟩))] 19 (.os 1011 1 3 1 0 3) = some (aT M) := by
  have hML : M = [M.getD 0 [], M.getD 1 [], M.getD 2 []] := by
    have hl := hs.len
    match M, hl with
    | [R0, R1, R2], _ => rfl
  have hr : ∀ (R : List Int) (k : Nat), R.length = 3 → Go.Proofs.Eng.look [(1009, (1, some ⟨3, 1, (M.getD 0 []).map ai⟩)), (1011, (1, some ⟨37, 1, [.os 1009 1 3 1 0 3, .os 101009 1 3 1 0 3, .os 201009 1 3 1 0 3]⟩)), (101009, (1, some ⟨3, 1, (M.getD 1 []).map ai⟩)), (201009, (1, some ⟨3, 1, (M.getD 2 []).map ai⟩))] k = (1, some ⟨3, 1, R.map ai⟩) → elemR (reify [(1009, (1, some ⟨3, 1, (M.getD 0 []).map ai⟩)), (1011, (1, some ⟨37, 1, [.os 1009 1 3 1 0 3, .os 101009 1 3 1 0 3, .os 201009 1 3 1 0 3]⟩)), (101009, (1, some ⟨3, 1, (M.getD 1 []).map ai⟩)), (201009, (1, some ⟨3, 1, (M.getD 2 []).map ai⟩))] 18) (.os k 1 3 1 0 3) = some (al false R) := fun R k h1 h2 => by
    have e : elemR (reify [(1009, (1, some ⟨3, 1, (M.getD 0 []).map ai⟩)), (1011, (1, some ⟨37, 1, [.os 1009 1 3 1 0 3, .os 101009 1 3 1 0 3, .os 201009 1 3 1 0 3]⟩)), (101009, (1, some ⟨3, 1, (M.getD 1 []).map ai⟩)), (201009, (1, some ⟨3, 1, (M.getD 2 []).map ai⟩))] 18) (.os k 1 3 1 0 3) = reify [(1009, (1, some ⟨3, 1, (M.getD 0 []).map ai⟩)), (1011, (1, some ⟨37, 1, [.os 1009 1 3 1 0 3, .os 101009 1 3 1 0 3, .os 201009 1 3 1 0 3]⟩)), (101009, (1, some ⟨3, 1, (M.getD 1 []).map ai⟩)), (201009, (1, some ⟨3, 1, (M.getD 2 []).map ai⟩))] 18 (.os k 1 3 1 0 3) := rfl
    rw [e]
    have := reify_os (n := 17) (η := [(1009, (1, some ⟨3, 1, (M.getD 0 []).map ai⟩)), (1011, (1, some ⟨37, 1, [.os 1009 1 3 1 0 3, .os 101009 1 3 1 0 3, .os 201009 1 3 1 0 3]⟩)), (101009, (1, some ⟨3, 1, (M.getD 1 []).map ai⟩)), (201009, (1, some ⟨3, 1, (M.getD 2 []).map ai⟩))]) (k := k) (g := 1) (e := 3) (s := 1) (l := R) (elem_ai _ 16) h2
    rw [h1] at this
    exact this
  have e : reify [(1009, (1, some ⟨3, 1, (M.getD 0 []).map ai⟩)), (1011, (1, some ⟨37, 1, [.os 1009 1 3 1 0 3, .os 101009 1 3 1 0 3, .os 201009 1 3 1 0 3]⟩)), (101009, (1, some ⟨3, 1, (M.getD 1 []).map ai⟩)), (201009, (1, some ⟨3, 1, (M.getD 2 []).map ai⟩))] 19 (.os 1011 1 3 1 0 3) = ([.os 1009 1 3 1 0 3, .os 101009 1 3 1 0 3, .os 201009 1 3 1 0 3].mapM (elemR (reify [(1009, (1, some ⟨3, 1, (M.getD 0 []).map ai⟩)), (1011, (1, some ⟨37, 1, [.os 1009 1 3 1 0 3, .os 101009 1 3 1 0 3, .os 201009 1 3 1 0 3]⟩)), (101009, (1, some ⟨3, 1, (M.getD 1 []).map ai⟩)), (201009, (1, some ⟨3, 1, (M.getD 2 []).map ai⟩))] 18))).map (AV.sl 1 false) := reify_osX (n := 18) rfl rfl
  rw [e, List.mapM_cons, hr (M.getD 0 []) 1009 (hs.rowlen (by omega)) rfl, List.mapM_cons, hr (M.getD 1 []) 101009 (hs.rowlen (by omega)) rfl, List.mapM_cons, hr (M.getD 2 []) 201009 (hs.rowlen (by omega)) rfl, List.mapM_nil]
  conv => rhs; rw [hML]
  rfl
theorem even_3 {a b e : Int} {D H : List Int} (hn : sz a = 3) (ha : 0 ≤ a ∧ a ≤ 255) (hb : 0 ≤ b ∧ b ≤ 255) (hD : D.length = 16) (hH : H.length = 8) (bH : ∀ x, x ∈ H → 0 ≤ x ∧ x ≤ 255) {most : Nat} (hm : most ≤ 8) :
    ∃ S M, S.length = (b.tmod (most + 1)).toNat ∧ EI 3 S M ∧ Runs Try.prog xf 12 [ldg a b e D H, ai most] (.tup [aT M, ai S.length]) := by
  have hl27 : (D.map u8 ++ H.map u8).length = 24 := by simp [hD, hH]
  have ht27 : List.take 24 (D.map u8 ++ H.map u8) = D.map u8 ++ H.map u8 := List.take_of_length_le (by rw [hl27]; omega)
  have hnr := noRef_ldg a b e D H
  have hsz : Runs Try.prog xf 37 [ldg a b e D H] (ai 3) := by
    have := size_run ha b e hD hH
    rw [hn] at this; exact this
  have wm : IntKind.i64.wrap ((most : Int) + 1) = (most : Int) + 1 := wrap_id (by omega) (by omega)
  have zm : ((most : Int) + 1 = 0) = False := eq_false (by omega)
  have wb : IntKind.i64.wrap b = b := wrap_id (by omega) (by omega)
  obtain ⟨c1, c2⟩ := tmod_b (a := b) (n := (most : Int) + 1) hb.1 (by omega)
  obtain ⟨cnt, hcnt⟩ : ∃ cnt : Nat, b.tmod ((most : Int) + 1) = (cnt : Int) := ⟨(b.tmod ((most : Int) + 1)).toNat, by omega⟩
  have hc8 : cnt ≤ 8 := by omega
  have hdr : List.drop 16 (D.map u8 ++ H.map u8) = H.map u8 := List.drop_left' (by simp [hD])
  have ht8 : List.take 8 (H.map u8) = H.map u8 := List.take_of_length_le (by simp [hH])
  have hch : Go.Proofs.Eng.chunkA false 1 (H.map u8) 8 = some (H.map u8) := by
    match H, hH with
    | [e0, e1, e2, e3, e4, e5, e6, e7], _ => rfl
  have hHl : (H.map u8).length = 8 := by rw [List.length_map]; exact hH
  have htk : List.take cnt (H.map u8) = (H.take cnt).map u8 := List.map_take.symm
  have hH2 : (H.take cnt).length = cnt := by rw [List.length_take]; omega
  have bH2 : ∀ x, x ∈ H.take cnt → 0 ≤ x ∧ x ≤ 255 := fun x hx => bH x (List.mem_of_mem_take hx)
  have hout := eout_3 (plL 3) rfl (H.take cnt) (by omega) bH2
  have hplT := noRef_T (plL 3)
  have hplr := pl_3
  have hei := ei_zer (n := 3) (by decide)
  have main : ∃ r, (∃ S M, S.length = cnt ∧ EI 3 S M ∧ r = .tup [aT M, ai S.length]) ∧ Runs Try.prog xf 12 [ldg a b e D H, ai most] r := by
    generalize hPs : plL 3 = Ps at *
    refine ofWE (fn := xf12) 20 (by kernel_rfl) (W_run 160 ?_)
    simp (maxSteps := 2000000) only [SA, Nat.reduceDiv, Nat.reduceSub, Nat.reduceAdd, Int.reduceLT, Int.reduceLE, Int.reduceToNat, Nat.reduceMul, Nat.reduceEqDiff, reduceCtorEq, Nat.reduceBEq, Nat.reduceLeDiff, Nat.reduceLT, xf12, ai, nilA, ldg, hl27, ht27, List.length_append, hD, hH]
    refine W_call (args := [ldg a b e D H]) rfl (noRefs_1 hnr) hsz rfl (W_run 160 ?_)
    simp (maxSteps := 2000000) only [SA, Nat.reduceDiv, Nat.reduceSub, Nat.reduceAdd, Int.reduceLT, Int.reduceLE, Int.reduceToNat, Nat.reduceMul, Nat.reduceEqDiff, reduceCtorEq, Nat.reduceBEq, Nat.reduceLeDiff, Nat.reduceLT, ai, nilA]
    refine W_call (args := [ai 3]) rfl rfl hplr hplT (W_run 160 ?_)
    simp (maxSteps := 2000000) only [SA, Nat.reduceDiv, Nat.reduceSub, Nat.reduceAdd, Int.reduceLT, Int.reduceLE, Int.reduceToNat, Nat.reduceMul, Nat.reduceEqDiff, reduceCtorEq, Nat.reduceBEq, Nat.reduceLeDiff, Nat.reduceLT, ai, nilA]
    refine W_callR (kb' := 1000) (args := [ai 3]) rfl emp_3 rfl (W_run 160 ?_)
    simp (maxSteps := 2000000) only [SA, Nat.reduceDiv, Nat.reduceSub, Nat.reduceAdd, Int.reduceLT, Int.reduceLE, Int.reduceToNat, Nat.reduceMul, Nat.reduceEqDiff, reduceCtorEq, Nat.reduceBEq, Nat.reduceLeDiff, Nat.reduceLT, ai, nilA, u8, wb, wm, zm, hcnt, hc8, hl27, hdr, ht8, hch, hHl, htk, hH2, raw_conv, rawC, opA, argT, Option.elim, List.length_append, hD, hH]
    generalize hHs : H.take cnt = Hs at *
    obtain rfl := hH2
    refine W_alone (hout _ _ _ _ _ _ (fun S M hSl hA j0 j3 j10 j11 j12 j13 j14 j15 j16 j17 j18 j19 j20 j21 j22 j23 j24 j25 j26 j27 j31 j32 j33 j34 j35 j36 j37 j38 j39 j40 j41 j42 j43 j44 j45 j46 j47 j48 j49 j50 j51 j52 j53 j54 j55 j56 j57 j58 j59 j60 => W_run 80 ?_) Hs.length 0 (by omega) [] (zerT 3) rfl hei _ _ _ _ _ _ _ _ _ _ _ _ _ _ _ _ _ _ _ _ _ _ _ _ _ _ _ _ _ _ _ _ _ _ _ _ _ _ _ _ _ _ _ _ _ _ _ _ _ _)
    have hre := reM_3 hA.sh
    simp (maxSteps := 2000000) only [SA, Nat.reduceDiv, Nat.reduceSub, Nat.reduceAdd, Int.reduceLT, Int.reduceLE, Int.reduceToNat, Nat.reduceMul, Nat.reduceEqDiff, reduceCtorEq, Nat.reduceBEq, Nat.reduceLeDiff, Nat.reduceLT, xf12_R1, ai]
    refine W_ret1 (WX_nil ⟨.inl rfl, _, rfl, .tup [aT M, ai S.length], ⟨S, M, hSl, hA, rfl⟩, ?_⟩)
    show ([.os 1011 1 3 1 0 3, ai Hs.length].mapM (reify _ 19)).map AV.tup = _
    rw [List.mapM_cons, hre, hSl]; rfl
  obtain ⟨r, ⟨S, M, h1, h2, rfl⟩, h3⟩ := main
  exact ⟨S, M, by rw [h1, hcnt]; rfl, h2, h3⟩
theorem reM_4 {M : List (List Int)} {b : Int} (hs : shT 4 b M) : reify [(1009, (1, some ⟨3, 1, (M.getD 0 []).map ai⟩)), (1011, (1, some ⟨37, 1, [.os 1009 1 4 1 0 4, .os 101009 1 4 1 0 4, .os 201009 1 4 1 0 4, .os 301009 1 4 1 0 4]⟩)), (101009, (1, some ⟨3, 1, (M.getD 1 []).map ai⟩)), (201009, (1, some ⟨3, 1, (M.getD 2 []).map ai⟩)), (301009, (1, some ⟨3, 1, (M.getD 3 []).map ai⟩))] 19 (.os 1011 1 4 1 0 4) = some (aT M) := by
  have hML : M = [M.getD 0 [], M.getD 1 [], M.getD 2 [], M.getD 3 []] := by
    have hl := hs.len
    match M, hl with
    | [R0, R1, R2, R3], _ => rfl
  have hr : ∀ (R : List Int) (k : Nat), R.length = 4 → Go.Proofs.Eng.look [(1009, (1, some ⟨3, 1, (M.getD 0 []).map ai⟩)), (1011, (1, some ⟨37, 1, [.os 1009 1 4 1 0 4, .os 101009 1 4 1 0 4, .os 201009 1 4 1 0 4, .os 301009 1 4 1 0 4]⟩)), (101009, (1, some ⟨3, 1, (M.getD 1 []).map ai⟩)), (201009, (1, some ⟨3, 1, (M.getD 2 []).map ai⟩)), (301009, (1, some ⟨3, 1, (M.getD 3 []).map ai⟩))] k = (1, some ⟨3, 1, R.map ai⟩) → elemR (reify [(1009, (1, some ⟨3, 1, (M.getD 0 []).map ai⟩)), (1011, (1, some ⟨37, 1, [.os 1009 1 4 1 0 4, .os 101009 1 4 1 0 4, .os 201009 1 4 1 0 4, .os 301009 1 4 1 0 4]⟩)), (101009, (1, some ⟨3, 1, (M.getD 1 []).map ai⟩)), (201009, (1, some ⟨3, 1, (M.getD 2 []).map ai⟩)), (301009, (1, some ⟨3, 1, (M.getD 3 []).map ai⟩))] 18) (.os k 1 4 1 0 4) = some (al false R) := fun R k h1 h2 => by
    have e : elemR (reify [(1009, (1, some ⟨3, 1, (M.getD 0 []).map ai⟩)), (1011, (1, some ⟨37, 1, [.os 1009 1 4 1 0 4, .os 101009 1 4 1 0 4, .os 201009 1 4 1 0 4, .os 301009 1 4 1 0 4]⟩)), (101009, (1, some ⟨3, 1, (M.getD 1 []).map ai⟩)), (201009, (1, some ⟨3, 1, (M.getD 2 []).map ai⟩)), (301009, (1, some ⟨3, 1, (M.getD 3 []).map ai⟩))] 18) (.os k 1 4 1 0 4) = reify [(1009, (1, some ⟨3, 1, (M.getD 0 []).map ai⟩)), (1011, (1, some ⟨37, 1, [.os 1009 1 4 1 0 4, .os 101009 1 4 1 0 4, .os 201009 1 4 1 0 4, .os 301009 1 4 1 0 4]⟩)), (101009, (1, some ⟨3, 1, (M.getD 1 []).map ai⟩)), (201009, (1, some ⟨3, 1, (M.getD 2 []).map ai⟩)), (301009, (1, some ⟨3, 1, (M.getD 3 []).map ai⟩))] 18 (.os k 1 4 1 0 4) := rfl
    rw [e]
    have := reify_os (n := 17) (η := [(1009, (1, some ⟨3, 1, (M.getD 0 []).map ai⟩)), (1011, (1, some ⟨37, 1, [.os 1009 1 4 1 0 4, .os 101009 1 4 1 0 4, .os 201009 1 4 1 0 4, .os 301009 1 4 1 0 4]⟩)), (101009, (1, some ⟨3, 1, (M.getD 1 []).map ai⟩)), (201009, (1, some ⟨3, 1, (M.getD 2 []).map ai⟩)), (301009, (1, some ⟨3, 1, (M.getD 3 []).map ai⟩))]) (k := k) (g := 1) (e := 3) (s := 1) (l := R) (elem_ai _ 16) h2
    rw [h1] at this
    exact this
  have e : reify [(1009, (1, some ⟨3, 1, (M.getD 0 []).map ai⟩)), (1011, (1, some ⟨37, 1, [.os 1009 1 4 1 0 4, .os 101009 1 4 1 0 4, .os 201009 1 4 1 0 4, .os 301009 1 4 1 0 4]⟩)), (101009, (1, some ⟨3, 1, (M.getD 1 []).map ai⟩)), (201009, (1, some ⟨3, 1, (M.getD 2 []).map ai⟩)), (301009, (1, some ⟨3, 1, (M.getD 3 []).map ai⟩))] 19 (.os 1011 1 4 1 0 4) = ([.os 1009 1 4 1 0 4, .os 101009 1 4 1 0 4, .os 201009 1 4 1 0 4, .os 301009 1 4 1 0 4].mapM (elemR (reify [(1009, (1, some ⟨3, 1, (M.getD 0 []).map ai⟩)), (1011, (1, some ⟨37, 1, [.os 1009 1 4 1 0 4, .os 101009 1 4 1 0 4, .os 201009 1 4 1 0 4, .os 301009 1 4 1 0 4]⟩)), (101009, (1, some ⟨3, 1, (M.getD 1 []).map ai⟩)), (201009, (1, some ⟨3, 1, (M.getD 2 []).map ai⟩)), (301009, (1, some ⟨3, 1, (M.getD 3 []).map ai⟩))] 18))).map (AV.sl 1 false) := reify_osX (n := 18) rfl rfl
  rw [e, List.mapM_cons, hr (M.getD 0 []) 1009 (hs.rowlen (by omega)) rfl, List.mapM_cons, hr (M.getD 1 []) 101009 (hs.rowlen (by omega)) rfl, List.mapM_cons, hr (M.getD 2 []) 201009 (hs.rowlen (by omega)) rfl, List.mapM_cons, hr (M.getD 3 []) 301009 (hs.rowlen (by omega)) rfl, List.mapM_nil]
  conv => rhs; rw [hML]
  rfl
theorem even_4 {a b e : Int} {D H : List Int} (hn : sz a = 4) (ha : 0 ≤ a ∧ a ≤ 255) (hb : 0 ≤ b ∧ b ≤ 255) (hD : D.length = 16) (hH : H.length = 8) (bH : ∀ x, x ∈ H → 0 ≤ x ∧ x ≤ 255) {most : Nat} (hm : most ≤ 8) :
    ∃ S M, S.length = (b.tmod (most + 1)).toNat ∧ EI 4 S M ∧ Runs Try.prog xf 12 [ldg a b e D H, ai most] (.tup [aT M, ai S.length]) := by
  have hl27 : (D.map u8 ++ H.map u8).length = 24 := by simp [hD, hH]
  have ht27 : List.take 24 (D.map u8 ++ H.map u8) = D.map u8 ++ H.map u8 := List.take_of_length_le (by rw [hl27]; omega)
  have hnr := noRef_ldg a b e D H
  have hsz : Runs Try.prog xf 37 [ldg a b e D H] (ai 4) := by
    have := size_run ha b e hD hH
    rw [hn] at this; exact this
  have wm : IntKind.i64.wrap ((most : Int) + 1) = (most : Int) + 1 := wrap_id (by omega) (by omega)
  have zm : ((most : Int) + 1 = 0) = False := eq_false (by omega)
  have wb : IntKind.i64.wrap b = b := wrap_id (by omega) (by omega)
  obtain ⟨c1, c2⟩ := tmod_b (a := b) (n := (most : Int) + 1) hb.1 (by omega)
  obtain ⟨cnt, hcnt⟩ : ∃ cnt : Nat, b.tmod ((most : Int) + 1) = (cnt : Int) := ⟨(b.tmod ((most : Int) + 1)).toNat, by omega⟩
  have hc8 : cnt ≤ 8 := by omega
  have hdr : List.drop 16 (D.map u8 ++ H.map u8) = H.map u8 := List.drop_left' (by simp [hD])
  have ht8 : List.take 8 (H.map u8) = H.map u8 := List.take_of_length_le (by simp [hH])
  have hch : Go.Proofs.Eng.chunkA false 1 (H.map u8) 8 = some (H.map u8) := by
    match H, hH with
    | [e0, e1, e2, e3, e4, e5, e6, e7], _ => rfl
  have hHl : (H.map u8).length = 8 := by rw [List.length_map]; exact hH
  have htk : List.take cnt (H.map u8) = (H.take cnt).map u8 := List.map_take.symm
  have hH2 : (H.take cnt).length = cnt := by rw [List.length_take]; omega
  have bH2 : ∀ x, x ∈ H.take cnt → 0 ≤ x ∧ x ≤ 255 := fun x hx => bH x (List.mem_of_mem_take hx)
  have hout := eout_4 (plL 4) rfl (H.take cnt) (by omega) bH2
  have hplT := noRef_T (plL 4)
  have hplr := pl_4
  have hei := ei_zer (n := 4) (by decide)
  have main : ∃ r, (∃ S M, S.length = cnt ∧ EI 4 S M ∧ r = .tup [aT M, ai S.length]) ∧ Runs Try.prog xf 12 [ldg a b e D H, ai most] r := by
    generalize hPs : plL 4 = Ps at *
    refine ofWE (fn := xf12) 20 (by kernel_rfl) (W_run 160 ?_)
    simp (maxSteps := 2000000) only [SA, Nat.reduceDiv, Nat.reduceSub, Nat.reduceAdd, Int.reduceLT, Int.reduceLE, Int.reduceToNat, Nat.reduceMul, Nat.reduceEqDiff, reduceCtorEq, Nat.reduceBEq, Nat.reduceLeDiff, Nat.reduceLT, xf12, ai, nilA, ldg, hl27, ht27, List.length_append, hD, hH]
    refine W_call (args := [ldg a b e D H]) rfl (noRefs_1 hnr) hsz rfl (W_run 160 ?_)
    simp (maxSteps := 2000000) only [SA, Nat.reduceDiv, Nat.reduceSub, Nat.reduceAdd, Int.reduceLT, Int.reduceLE, Int.reduceToNat, Nat.reduceMul, Nat.reduceEqDiff, reduceCtorEq, Nat.reduceBEq, Nat.reduceLeDiff, Nat.reduceLT, ai, nilA]
    refine W_call (args := [ai 4]) rfl rfl hplr hplT (W_run 160 ?_)
    simp (maxSteps := 2000000) only [SA, Nat.reduceDiv, Nat.reduceSub, Nat.reduceAdd, Int.reduceLT, Int.reduceLE, Int.reduceToNat, Nat.reduceMul, Nat.reduceEqDiff, reduceCtorEq, Nat.reduceBEq, Nat.reduceLeDiff, Nat.reduceLT, ai, nilA]
    refine W_callR (kb' := 1000) (args := [ai 4]) rfl emp_4 rfl (W_run 160 ?_)
    simp (maxSteps := 2000000) only [SA, Nat.reduceDiv, Nat.reduceSub, Nat.reduceAdd, Int.reduceLT, Int.reduceLE, Int.reduceToNat, Nat.reduceMul, Nat.reduceEqDiff, reduceCtorEq, Nat.reduceBEq, Nat.reduceLeDiff, Nat.reduceLT, ai, nilA, u8, wb, wm, zm, hcnt, hc8, hl27, hdr, ht8, hch, hHl, htk, hH2, raw_conv, rawC, opA, argT, Option.elim, List.length_append, hD, hH]
    generalize hHs : H.take cnt = Hs at *
    obtain rfl := hH2
    refine W_alone (hout _ _ _ _ _ _ (fun S M hSl hA j0 j3 j10 j11 j12 j13 j14 j15 j16 j17 j18 j19 j20 j21 j22 j23 j24 j25 j26 j27 j31 j32 j33 j34 j35 j36 j37 j38 j39 j40 j41 j42 j43 j44 j45 j46 j47 j48 j49 j50 j51 j52 j53 j54 j55 j56 j57 j58 j59 j60 => W_run 80 ?_) Hs.length 0 (by omega) [] (zerT 4) rfl hei _ _ _ _ _ _ _ _ _ _ _ _ _ _ _ _ _ _ _ _ _ _ _ _ _ _ _ _ _ _ _ _ _ _ _ _ _ _ _ _ _ _ _ _ _ _ _ _ _ _)
    have hre := reM_4 hA.sh
    simp (maxSteps := 2000000) only [SA, Nat.reduceDiv, Nat.reduceSub, Nat.reduceAdd, Int.reduceLT, Int.reduceLE, Int.reduceToNat, Nat.reduceMul, Nat.reduceEqDiff, reduceCtorEq, Nat.reduceBEq, Nat.reduceLeDiff, Nat.reduceLT, xf12_R1, ai]
    refine W_ret1 (WX_nil ⟨.inl rfl, _, rfl, .tup [aT M, ai S.length], ⟨S, M, hSl, hA, rfl⟩, ?_⟩)
    show ([.os 1011 1 4 1 0 4, ai Hs.length].mapM (reify _ 19)).map AV.tup = _
    rw [List.mapM_cons, hre, hSl]; rfl
  obtain ⟨r, ⟨S, M, h1, h2, rfl⟩, h3⟩ := main
  exact ⟨S, M, by rw [h1, hcnt]; rfl, h2, h3⟩
end Go.Proofs.Ytkbeaheladmeiaa

set_option linter.unusedSimpArgs false
set_option linter.unusedVariables false
namespace Go.Proofs.Ytkbeaheladmeiaa
open Go Go.Proofs.Eng
set_option maxRecDepth 100000
set_option maxHeartbeats 4000000
/-- in how many ways some plans add up to a table -/
def csL : List (List Int) → List (List Int) → Int
  | [], T => if sumI (T.getD 0 []) = 0 then 1 else 0
  | p :: P, T => if sumI (T.getD 0 []) = 0 then 1 else sumI ((List.range ((mnF (nums T p)).toNat + 1)).map fun (t : Nat) => csL P (addT T p (-(t : Int))))
theorem gT_sub {n : Nat} {T : List (List Int)} (hg : gT n T) {p : List Int} (hp : okP n p) {t : Int} (h0 : 0 ≤ t) (ht : t ≤ mnF (nums T p)) : gT n (addT T p (-t)) := by
  have hs : shT n 9 T := ⟨hg.len, hg.row, fun r hr x hx => by have := hg.cel r hr x hx; omega⟩
  have ha := shT_add hs hp (z := -t) (d := t) (by omega) (by omega)
  refine ⟨ha.len, hg.n1, hg.n4, ha.row, fun R hR x hx => ?_⟩
  obtain ⟨r, c, hr, hc, rfl⟩ := (flat_mem ha).1 (List.mem_flatten.2 ⟨R, hR, hx⟩)
  have hb := hg.b hr hc
  rw [cel_add hs hp hr hc]
  split
  · rename_i e
    have e := of_decide_eq_true e
    have hm : cel T r (p.getD r 0).toNat ∈ nums T p := List.mem_map.2 ⟨r, List.mem_range.2 (by have := hp.1; omega), rfl⟩
    have := mnF_le hm
    rw [e] at this
    omega
  · omega
theorem sum_nn : ∀ (l : List Int), (∀ x, x ∈ l → 0 ≤ x) → 0 ≤ sumI l ∧ ∀ x, x ∈ l → x ≤ sumI l
  | [], _ => ⟨Int.le_refl _, fun x h => by cases h⟩
  | y :: l, h => by
    obtain ⟨h1, h2⟩ := sum_nn l fun x hx => h x (List.mem_cons_of_mem _ hx)
    have h0 := h y List.mem_cons_self
    rw [sumI_cons]
    refine ⟨by omega, fun x hx => ?_⟩
    rcases List.mem_cons.1 hx with rfl | q
    · omega
    · have := h2 x q; omega
/-- how great the least number at a plan can be -/
theorem mn_row {n : Nat} {T : List (List Int)} (hg : gT n T) {p : List Int} (hp : okP n p) : 0 ≤ mnF (nums T p) ∧ mnF (nums T p) ≤ sumI (T.getD 0 []) := by
  have h1 := hg.n1
  have hn := hp.1
  have hne : nums T p ≠ [] := fun e => by
    have h : p.length = 0 := by
      have := congrArg List.length e
      rw [nums_len] at this
      exact this
    omega
  have hc := hp.2.1 _ (getD_mem (d := 0) (l := p) (i := 0) (by omega))
  refine ⟨mnF_ge hne fun x hx => (nums_mem hg hp.2.1 (by omega) x hx).1, ?_⟩
  have hm : cel T 0 (p.getD 0 0).toNat ∈ nums T p := List.mem_map.2 ⟨0, List.mem_range.2 (by omega), rfl⟩
  have h2 := mnF_le hm
  have h3 := (sum_nn (T.getD 0 []) fun x hx => (hg.cel _ (getD_mem (by rw [hg.len]; omega)) x hx).1).2 (cel T 0 (p.getD 0 0).toNat) (getD_mem (by rw [hg.rowlen (by omega)]; omega))
  omega
/-- what Splits returns -/
def splV (n : Nat) (T : List (List Int)) : AV := if evB n T = true then (if 6 < sumI (T.getD 0 []) then .tup [ai 0, ai 15] else .tup [ai (csL (withP n T) T), ai 0]) else .tup [ai 0, ai 17]
end Go.Proofs.Ytkbeaheladmeiaa

set_option linter.unusedSimpArgs false
set_option linter.unusedVariables false
namespace Go.Proofs.Ytkbeaheladmeiaa
open Go Go.Proofs.Eng
set_option maxRecDepth 100000
set_option maxHeartbeats 4000000
theorem set_same {l : List Int} {i : Nat} : l.set i (l.getD i 0) = l := by
  apply List.ext_getElem?
  intro j
  rw [List.getElem?_set]
  split
  · rename_i e
    subst e
    split
    · rename_i h; exact (getD_at (d := 0) h).symm
    · rename_i h; exact (List.getElem?_eq_none (by omega)).symm
  · rfl
theorem range_get (T : List (List Int)) : (List.range T.length).map (fun r => T.getD r []) = T := by
  apply List.ext_getElem?
  intro j
  rw [List.getElem?_map]
  by_cases h : j < T.length
  · rw [List.getElem?_range h, getD_at (d := []) h]; rfl
  · rw [List.getElem?_eq_none (by rw [List.length_range]; omega), List.getElem?_eq_none (by omega)]; rfl
theorem addT_0 {T : List (List Int)} {p : List Int} (h : p.length = T.length) : addT T p 0 = T := by
  unfold addT addK
  rw [h]
  refine Eq.trans (List.map_congr_left fun r _ => ?_) (range_get T)
  unfold addR
  rw [Int.add_zero]
  exact set_same
theorem csL_0 (P : List (List Int)) {T : List (List Int)} (h : sumI (T.getD 0 []) = 0) : csL P T = 1 := by
  cases P <;> (rw [csL, if_pos h])
theorem mn_zero {n : Nat} {T : List (List Int)} (hg : gT n T) {q : List Int} (hq : okP n q) {r : Nat} (hr : r < n) (h : cel T r (q.getD r 0).toNat = 0) : mnF (nums T q) = 0 := by
  have h1 := (mn_row hg hq).1
  have hm : cel T r (q.getD r 0).toNat ∈ nums T q := List.mem_map.2 ⟨r, List.mem_range.2 (by rw [hq.1]; exact hr), rfl⟩
  have := mnF_le hm
  omega
theorem mn_wit {n : Nat} {T : List (List Int)} (hg : gT n T) {q : List Int} (hq : okP n q) : ∃ r, r < n ∧ cel T r (q.getD r 0).toNat = mnF (nums T q) := by
  have h1 := hg.n1
  have hne : nums T q ≠ [] := fun e => by
    have := congrArg List.length e
    rw [nums_len, hq.1] at this
    simp at this; omega
  obtain ⟨r, hr, h⟩ := List.mem_map.1 (mnF_mem hne)
  exact ⟨r, by have := List.mem_range.1 hr; rw [hq.1] at this; exact this, h⟩
theorem csL_filter {n : Nat} (keep : List Int → Bool) : ∀ (P : List (List Int)) (T : List (List Int)), gT n T → (∀ p, p ∈ P → okP n p) → (∀ p, p ∈ P → keep p = false → mnF (nums T p) = 0) → csL (P.filter keep) T = csL P T
  | [], _, _, _, _ => rfl
  | p :: P, T, hg, hP, hk => by
    have hp := hP p List.mem_cons_self
    have hP2 := fun q hq => hP q (List.mem_cons_of_mem _ hq)
    by_cases hz : sumI (T.getD 0 []) = 0
    · rw [csL_0 _ hz, csL_0 _ hz]
    · rw [List.filter_cons]
      cases hkp : keep p
      · rw [if_neg (by simp)]
        have ih := csL_filter keep P T hg hP2 fun q hq => hk q (List.mem_cons_of_mem _ hq)
        rw [ih, csL.eq_2, if_neg hz, hk p List.mem_cons_self hkp]
        show csL P T = sumI [csL P (addT T p (-((0 : Nat) : Int)))]
        have e : (-((0 : Nat) : Int)) = 0 := rfl
        rw [e, addT_0 (by rw [hp.1, hg.len])]
        show csL P T = 0 + csL P T
        omega
      · rw [if_pos rfl, csL.eq_2, csL.eq_2, if_neg hz, if_neg hz]
        congr 1
        refine List.map_congr_left fun t ht => ?_
        have ht := List.mem_range.1 ht
        have hms := mn_row hg hp
        have hg2 := gT_sub hg hp (t := (t : Int)) (by omega) (by omega)
        refine csL_filter keep P _ hg2 hP2 fun q hq hkq => ?_
        have h0 := hk q (List.mem_cons_of_mem _ hq) hkq
        obtain ⟨r, hr, hw⟩ := mn_wit hg (hP2 q hq)
        have hs : shT n 9 T := ⟨hg.len, hg.row, fun r hr x hx => by have := hg.cel r hr x hx; omega⟩
        have hcq := (hP2 q hq).2.1 _ (getD_mem (d := 0) (l := q) (i := r) (by rw [(hP2 q hq).1]; exact hr))
        have hc := cel_add hs hp (z := -(t : Int)) hr (c := (q.getD r 0).toNat) (by omega)
        have hb := hg2.b (r := r) (c := (q.getD r 0).toNat) hr (by omega)
        refine mn_zero hg2 (hP2 q hq) hr ?_
        rw [hw, h0] at hc
        split at hc <;> omega
theorem csL_within {n : Nat} {T : List (List Int)} (hg : gT n T) : csL (withP n T) T = csL (plL n) T := by
  rw [withP_eq hg]
  refine csL_filter _ _ T hg (plL_len hg.n1 hg.n4) fun p hp hk => ?_
  have hok := plL_len hg.n1 hg.n4 p hp
  rw [wgt_pos hg hok] at hk
  unfold posF at hk
  rw [List.all_eq_false] at hk
  obtain ⟨r, hr, h⟩ := hk
  have hr := List.mem_range.1 hr
  have hcp := hok.2.1 _ (getD_mem (d := 0) (l := p) (i := r) (by rw [hok.1]; exact hr))
  have hb := hg.b (r := r) (c := (p.getD r 0).toNat) hr (by omega)
  refine mn_zero hg hok hr ?_
  have : ¬ 0 < cel T r (p.getD r 0).toNat := fun q => h (by rw [decide_eq_true q]; exact Bool.or_true _)
  omega
end Go.Proofs.Ytkbeaheladmeiaa

