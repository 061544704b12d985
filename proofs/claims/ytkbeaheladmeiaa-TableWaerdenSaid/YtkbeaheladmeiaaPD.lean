/-
  Bytes as numbers; the law's table by numbers.
-/
import Derived.Test.YtkbeaheladmeiaaPC
set_option linter.unusedSimpArgs false
set_option linter.unusedVariables false
namespace Go.Proofs.Ytkbeaheladmeiaa
open Go Go.Proofs.Eng
set_option maxRecDepth 100000
set_option maxHeartbeats 2000000
def u8 (z : Int) : AV := .v (.int .u8 z)
theorem ofWE {f : Nat} {fn : XFunc} {args : List AV} {G : AV → Prop} (fuel : Nat) (hf : xf f = some fn)
    (h : W Try.prog (RelU Try.prog xf) 0 [.code fn.body] (Go.Proofs.Eng.start fn args []) fun o c => (o = .ret ∨ o = .normal) ∧ ∃ rs, fn.results.mapM (resOf Try.prog c) = some rs ∧ ∃ r, G r ∧ reify c.η fuel (retOf rs) = some r) : ∃ r, G r ∧ Runs Try.prog xf f args r := by
  obtain ⟨o, c, h1, ho, rs, h3, r, hg, h4⟩ := h
  exact ⟨r, hg, Runs.ofW fuel hf ⟨o, c, h1, ho, rs, h3, h4⟩⟩
theorem undT : pureRun Try.prog (underlying 5) = some (.int .u8) := by kernel_rfl
/-- a byte as a number -/
def rawC (x : AV) (fb : Option Res) : Option Res :=
  match x with
  | .v (.int .u8 z) => some (.val (.v (.int .i64 (IntKind.i64.wrap z))))
  | _ => fb
theorem raw_conv (dst : Nat) (c : Cfg) (x : Operand) (ty : TypeId) : stF_raw Try.prog dst c (.convert 5 3 x) ty = rawC (opA c.σ x) (rawX Try.prog dst c (.convert 5 3 x) ty) := by
  unfold rawC
  split
  · rename_i z hi
    have e1 := toVal_op hi
    unfold stF_raw
    rw [if_pos ⟨rfl, by simp [Op.operands, e1]⟩]
    have h3 : pureRun Try.prog (execOp (fun x => ((argT x).bind fun xa => toVal (evalF c.σ xa)).getD (.bool false)) { dst := none, op := .convert 5 3 x, type := ty, pos := "", after := #[], guard := none }) = some (.value (.int .i64 (IntKind.i64.wrap z))) := by
      simp only [execOp, e1, Option.getD_some, pureRun_bind, convert, undT, und1, Option.bind_some, Conv.intToInt, pureRun_pure]
    rw [h3]; rfl
  · rfl
theorem get_u8 {l : List Int} {i : Nat} (h : i < l.length) : (l.map u8)[i]? = some (u8 (l.getD i 0)) := by
  rw [List.getElem?_map, List.getElem?_eq_getElem h, List.getD_eq_getElem?_getD, List.getElem?_eq_getElem h]; rfl
/-- a ledger by numbers -/
def ldg (a b e : Int) (D H : List Int) : AV := .ag (u8 a :: u8 b :: u8 e :: (D.map u8 ++ H.map u8))
theorem noRef_ldg (a b e : Int) (D H : List Int) : noRef (ldg a b e D H) = true := noRefs_of fun x hx => by
  simp only [List.mem_cons, List.mem_append, List.mem_map] at hx
  rcases hx with rfl | rfl | rfl | h | h
  · rfl
  · rfl
  · rfl
  · obtain ⟨z, _, rfl⟩ := h; rfl
  · obtain ⟨z, _, rfl⟩ := h; rfl
/-- how many rows -/
def sz (a : Int) : Nat := (1 + a.tmod 4).toNat
theorem sz_b {a : Int} (ha : 0 ≤ a ∧ a ≤ 255) : (sz a : Int) = 1 + a.tmod 4 ∧ 1 ≤ sz a ∧ sz a ≤ 4 := by
  have := tmod_b (a := a) (n := 4) ha.1 (by omega)
  unfold sz; omega
theorem size_run {a : Int} (ha : 0 ≤ a ∧ a ≤ 255) (b e : Int) {D H : List Int} (hD : D.length = 16) (hH : H.length = 8) : Runs Try.prog xf 37 [ldg a b e D H] (ai (sz a)) := by
  have h1 := tmod_b (a := a) (n := 4) ha.1 (by omega)
  have hs := sz_b ha
  have wa : IntKind.i64.wrap a = a := wrap_id (by omega) (by omega)
  have w1 : IntKind.i64.wrap (1 + a.tmod 4) = (sz a : Int) := by rw [wrap_id (by omega) (by omega), hs.1]
  have z4 : ((4 : Int) = 0) = False := eq_false (by decide)
  refine Runs.ofW (fn := xf37) 20 (by kernel_rfl) (W_run 80 ?_)
  simp (maxSteps := 2000000) only [SA, Nat.reduceDiv, Nat.reduceSub, Nat.reduceAdd, Int.reduceLT, Int.reduceLE, Int.reduceToNat, Nat.reduceMul, Nat.reduceEqDiff, reduceCtorEq, Nat.reduceBEq, Nat.reduceLeDiff, Nat.reduceLT, xf37, ai, u8, ldg, wa, w1, z4, hD, hH, List.length_append, raw_conv, rawC, opA, argT, Option.elim]
  exact W_ret1 (WX_nil ⟨.inl rfl, _, rfl, rfl⟩)
def rv (g : Nat) (R : List Int) : AV := match R with | [] => nilA | x :: t => .os 41 (g + 1) (t.length + 1) 1 0 (t.length + 1)
def rr (g : Nat) (o : Option Ob) (R : List Int) : Nat × Option Ob := match R with | [] => (g, o) | x :: t => (g + 1, some ⟨3, 1, ai x :: t.map ai⟩)
def ov (O : List (List Int)) : AV := match O with | [] => nilA | x :: t => .os 46 1 (t.length + 1) 1 0 (t.length + 1)
def orw (O : List (List Int)) : Nat × Option Ob := match O with | [] => (0, none) | x :: t => (1, some ⟨37, 1, al false x :: t.map (al false)⟩)
theorem fr_in (a b e : Int) (he : 0 ≤ e ∧ e ≤ 255) (D H : List Int) (hD : D.length = 16) (hH : H.length = 8) (bD : ∀ x, x ∈ D → 0 ≤ x ∧ x ≤ 255) (n : Nat) (hn : n ≤ 4) (r : Nat) (hr : r < 4) (g : Nat) (o : Option Ob) (r46 : Nat × Option Ob) (x4 x11 : AV) (K : List Fr) (Q : Out → Cfg → Prop)
    (hK : ∀ (R : List Int), R.length = n → (∀ x, x ∈ R → 0 ≤ x ∧ x ≤ 9) → ∀ j0 j2 j7 j8 j9 j10 j13 j14 j17 j18 j19 j20 j21 j22 j23 j24 j25 j26 j27 j28 j29 j30 j31 j32 j33 j34 j35 j36 j37 j38 j39 j40 j41 j42 j43 j44 j45 j46 j47 j48 : AV, W Try.prog (RelU Try.prog xf) 0 K ⟨(j0 :: (.ptr (ldg a b e D H)) :: j2 :: (ai n) :: x4 :: (ai r) :: (rv g R) :: j7 :: j8 :: j9 :: j10 :: x11 :: (ai r) :: j13 :: j14 :: (ai n) :: (ai n) :: j17 :: j18 :: j19 :: j20 :: j21 :: j22 :: j23 :: j24 :: j25 :: j26 :: j27 :: j28 :: j29 :: j30 :: j31 :: j32 :: j33 :: j34 :: j35 :: j36 :: j37 :: j38 :: j39 :: j40 :: j41 :: j42 :: j43 :: j44 :: j45 :: j46 :: j47 :: j48 :: []), [(41, rr g o R), (46, r46)]⟩ Q) :
    ∀ (k c : Nat), c + k = n → ∀ (R : List Int), R.length = c → (∀ x, x ∈ R → 0 ≤ x ∧ x ≤ 9) → ∀ j0 j2 j7 j8 j9 j10 j13 j14 j17 j18 j19 j20 j21 j22 j23 j24 j25 j26 j27 j28 j29 j30 j31 j32 j33 j34 j35 j36 j37 j38 j39 j40 j41 j42 j43 j44 j45 j46 j47 j48 : AV, W Try.prog (RelU Try.prog xf) 0 (.code (.loop xf29_L0) :: .blk 2 :: .stop :: K) ⟨(j0 :: (.ptr (ldg a b e D H)) :: j2 :: (ai n) :: x4 :: (ai r) :: (rv g R) :: j7 :: j8 :: j9 :: j10 :: x11 :: (ai r) :: j13 :: j14 :: (ai n) :: (ai c) :: j17 :: j18 :: j19 :: j20 :: j21 :: j22 :: j23 :: j24 :: j25 :: j26 :: j27 :: j28 :: j29 :: j30 :: j31 :: j32 :: j33 :: j34 :: j35 :: j36 :: j37 :: j38 :: j39 :: j40 :: j41 :: j42 :: j43 :: j44 :: j45 :: j46 :: j47 :: j48 :: []), [(41, rr g o R), (46, r46)]⟩ Q := by
  intro k
  induction k with
  | zero =>
    intro c hc R hR hb j0 j2 j7 j8 j9 j10 j13 j14 j17 j18 j19 j20 j21 j22 j23 j24 j25 j26 j27 j28 j29 j30 j31 j32 j33 j34 j35 j36 j37 j38 j39 j40 j41 j42 j43 j44 j45 j46 j47 j48
    have : c = n := by omega
    subst this
    have h0 : decide (c < c) = false := by simp
    have hK := hK R hR hb
    generalize rv g R = w at *
    refine W_loop (W_run 80 ?_)
    simp (maxSteps := 2000000) only [SA, Nat.reduceDiv, Nat.reduceSub, Nat.reduceAdd, Int.reduceLT, Int.reduceLE, Int.reduceToNat, Nat.reduceMul, Nat.reduceEqDiff, reduceCtorEq, Nat.reduceBEq, Nat.reduceLeDiff, Nat.reduceLT, xf29_L0, ai, lt_cast, h0]
    exact W_stop (hK _ _ _ _ _ _ _ _ _ _ _ _ _ _ _ _ _ _ _ _ _ _ _ _ _ _ _ _ _ _ _ _ _ _ _ _ _ _ _ _)
  | succ k ih =>
    intro c hc R hR hb j0 j2 j7 j8 j9 j10 j13 j14 j17 j18 j19 j20 j21 j22 j23 j24 j25 j26 j27 j28 j29 j30 j31 j32 j33 j34 j35 j36 j37 j38 j39 j40 j41 j42 j43 j44 j45 j46 j47 j48
    have h1 : c < n := by omega
    have h0 : decide (c < n) = true := decide_eq_true h1
    have hi : 4 * r + c < D.length := by omega
    have hd := bD _ (getD_mem (d := 0) hi)
    have gD := get_u8 hi
    generalize D.getD (4 * r + c) 0 = d at *
    have wd : IntKind.i64.wrap d = d := wrap_id (by omega) (by omega)
    have w4 : IntKind.i64.wrap (4 * (r : Int)) = 4 * (r : Int) := wrap_id (by omega) (by omega)
    have w5 : IntKind.i64.wrap (4 * (r : Int) + (c : Int)) = ((4 * r + c : Nat) : Int) := by rw [wrap_id (by omega) (by omega)]; omega
    have i16 : ((4 * r + c : Nat) : Int) < 16 := by omega
    have wi : IntKind.i64.wrap ((c : Int) + 1) = ((c + 1 : Nat) : Int) := by rw [wrap_id (by omega) (by omega)]; simp
    have hT1 : List.take 16 (D.map u8 ++ H.map u8) = D.map u8 := List.take_left' (by simp [hD])
    have z2 : ((2 : Int) = 0) = False := eq_false (by decide)
    have z3 : ((3 : Int) = 0) = False := eq_false (by decide)
    have z10 : ((10 : Int) = 0) = False := eq_false (by decide)
    have z03 : Int.tdiv 0 3 = 0 := rfl
    have z010 : Int.tmod 0 10 = 0 := rfl
    have wz : IntKind.i64.wrap 0 = 0 := rfl
    have hq : 0 ≤ d.tdiv 3 ∧ d.tdiv 3 ≤ 255 := by rw [Int.tdiv_eq_ediv_of_nonneg hd.1]; omega
    have wq : IntKind.i64.wrap (d.tdiv 3) = d.tdiv 3 := wrap_id (by omega) (by omega)
    have hm := tmod_b (a := d.tdiv 3) (n := 10) hq.1 (by omega)
    generalize hqq : d.tdiv 3 = q at *
    generalize hv : q.tmod 10 = v at *
    have step : ∀ v : Int, 0 ≤ v ∧ v ≤ 9 → ∀ j0 j2 j7 j8 j9 j10 j13 j14 j17 j18 j19 j20 j21 j22 j23 j24 j25 j26 j27 j28 j29 j30 j31 j32 j33 j34 j35 j36 j37 j38 j39 j40 j41 j42 j43 j44 j45 j46 j47 j48 : AV, W Try.prog (RelU Try.prog xf) 0 (.code (.loop xf29_L0) :: .blk 2 :: .stop :: K) ⟨(j0 :: (.ptr (ldg a b e D H)) :: j2 :: (ai n) :: x4 :: (ai r) :: (rv g (R ++ [v])) :: j7 :: j8 :: j9 :: j10 :: x11 :: (ai r) :: j13 :: j14 :: (ai n) :: (ai ((c + 1 : Nat) : Int)) :: j17 :: j18 :: j19 :: j20 :: j21 :: j22 :: j23 :: j24 :: j25 :: j26 :: j27 :: j28 :: j29 :: j30 :: j31 :: j32 :: j33 :: j34 :: j35 :: j36 :: j37 :: j38 :: j39 :: j40 :: j41 :: j42 :: j43 :: j44 :: j45 :: j46 :: j47 :: j48 :: []), [(41, rr g o (R ++ [v])), (46, r46)]⟩ Q := fun v hv j0 j2 j7 j8 j9 j10 j13 j14 j17 j18 j19 j20 j21 j22 j23 j24 j25 j26 j27 j28 j29 j30 j31 j32 j33 j34 j35 j36 j37 j38 j39 j40 j41 j42 j43 j44 j45 j46 j47 j48 => ih (c + 1) (by omega) (R ++ [v]) (by simp [hR]) (fun x hx => by
      rw [List.mem_append, List.mem_singleton] at hx
      rcases hx with q | rfl
      · exact hb x q
      · exact hv) _ _ _ _ _ _ _ _ _ _ _ _ _ _ _ _ _ _ _ _ _ _ _ _ _ _ _ _ _ _ _ _ _ _ _ _ _ _ _ _
    have s1 := step v (by omega)
    have s2 := step 0 (by omega)
    refine W_loop (W_run 160 ?_)
    cases R with
    | nil =>
      simp only [rv, rr, List.nil_append, List.map_nil, List.length_nil] at s1 s2 ⊢
      cases c1 : (e.tmod 2 == 1) with
      | true =>
        cases c2 : decide (0 < d.tmod 3) with
        | true =>
          simp (maxSteps := 2000000) only [SA, Nat.reduceDiv, Nat.reduceSub, Nat.reduceAdd, Int.reduceLT, Int.reduceLE, Int.reduceToNat, Nat.reduceMul, Nat.reduceEqDiff, reduceCtorEq, Nat.reduceBEq, Nat.reduceLeDiff, Nat.reduceLT, xf29_L0, ai, u8, nilA, ldg, lt_cast, h0, i16, hT1, hD, hH, List.length_append, gD, wd, w4, w5, wi, z2, z3, z10, z03, z010, wz, wq, hqq, hv, c1, c2, raw_conv, rawC, opA, argT, Option.elim, Go.Proofs.Eng.elems, List.map_cons, List.map_nil]
          exact s2 _ _ _ _ _ _ _ _ _ _ _ _ _ _ _ _ _ _ _ _ _ _ _ _ _ _ _ _ _ _ _ _ _ _ _ _ _ _ _ _
        | false =>
          simp (maxSteps := 2000000) only [SA, Nat.reduceDiv, Nat.reduceSub, Nat.reduceAdd, Int.reduceLT, Int.reduceLE, Int.reduceToNat, Nat.reduceMul, Nat.reduceEqDiff, reduceCtorEq, Nat.reduceBEq, Nat.reduceLeDiff, Nat.reduceLT, xf29_L0, ai, u8, nilA, ldg, lt_cast, h0, i16, hT1, hD, hH, List.length_append, gD, wd, w4, w5, wi, z2, z3, z10, wq, hqq, hv, c1, c2, raw_conv, rawC, opA, argT, Option.elim, Go.Proofs.Eng.elems, List.map_cons, List.map_nil]
          exact s1 _ _ _ _ _ _ _ _ _ _ _ _ _ _ _ _ _ _ _ _ _ _ _ _ _ _ _ _ _ _ _ _ _ _ _ _ _ _ _ _
      | false =>
        simp (maxSteps := 2000000) only [SA, Nat.reduceDiv, Nat.reduceSub, Nat.reduceAdd, Int.reduceLT, Int.reduceLE, Int.reduceToNat, Nat.reduceMul, Nat.reduceEqDiff, reduceCtorEq, Nat.reduceBEq, Nat.reduceLeDiff, Nat.reduceLT, xf29_L0, ai, u8, nilA, ldg, lt_cast, h0, i16, hT1, hD, hH, List.length_append, gD, wd, w4, w5, wi, z2, z3, z10, wq, hqq, hv, c1, raw_conv, rawC, opA, argT, Option.elim, Go.Proofs.Eng.elems, List.map_cons, List.map_nil]
        exact s1 _ _ _ _ _ _ _ _ _ _ _ _ _ _ _ _ _ _ _ _ _ _ _ _ _ _ _ _ _ _ _ _ _ _ _ _ _ _ _ _
    | cons y t =>
      have ht : t.length + 1 = c := hR
      have q1 : (t.length + 1 + 1) * 8 ≤ 100000000000000 := by omega
      have q2 : t.length + 1 + 1 ≤ 100000000000000 := by omega
      have e2 : ∀ v : Int, (t ++ [v]).length = t.length + 1 := by simp
      simp only [rv, rr, List.cons_append, e2, List.map_append, List.map_cons, List.map_nil] at s1 s2 ⊢
      cases c1 : (e.tmod 2 == 1) with
      | true =>
        cases c2 : decide (0 < d.tmod 3) with
        | true =>
          simp (maxSteps := 2000000) only [SA, Nat.reduceDiv, Nat.reduceSub, Nat.reduceAdd, Int.reduceLT, Int.reduceLE, Int.reduceToNat, Nat.reduceMul, Nat.reduceEqDiff, reduceCtorEq, Nat.reduceBEq, Nat.reduceLeDiff, Nat.reduceLT, xf29_L0, ai, u8, nilA, ldg, lt_cast, h0, i16, hT1, hD, hH, List.length_append, gD, wd, w4, w5, wi, z2, z3, z10, z03, z010, wz, wq, hqq, hv, c1, c2, q1, q2, raw_conv, rawC, opA, argT, Option.elim, Go.Proofs.Eng.elems, List.map_cons, List.map_nil]
          exact s2 _ _ _ _ _ _ _ _ _ _ _ _ _ _ _ _ _ _ _ _ _ _ _ _ _ _ _ _ _ _ _ _ _ _ _ _ _ _ _ _
        | false =>
          simp (maxSteps := 2000000) only [SA, Nat.reduceDiv, Nat.reduceSub, Nat.reduceAdd, Int.reduceLT, Int.reduceLE, Int.reduceToNat, Nat.reduceMul, Nat.reduceEqDiff, reduceCtorEq, Nat.reduceBEq, Nat.reduceLeDiff, Nat.reduceLT, xf29_L0, ai, u8, nilA, ldg, lt_cast, h0, i16, hT1, hD, hH, List.length_append, gD, wd, w4, w5, wi, z2, z3, z10, wq, hqq, hv, c1, c2, q1, q2, raw_conv, rawC, opA, argT, Option.elim, Go.Proofs.Eng.elems, List.map_cons, List.map_nil]
          exact s1 _ _ _ _ _ _ _ _ _ _ _ _ _ _ _ _ _ _ _ _ _ _ _ _ _ _ _ _ _ _ _ _ _ _ _ _ _ _ _ _
      | false =>
        simp (maxSteps := 2000000) only [SA, Nat.reduceDiv, Nat.reduceSub, Nat.reduceAdd, Int.reduceLT, Int.reduceLE, Int.reduceToNat, Nat.reduceMul, Nat.reduceEqDiff, reduceCtorEq, Nat.reduceBEq, Nat.reduceLeDiff, Nat.reduceLT, xf29_L0, ai, u8, nilA, ldg, lt_cast, h0, i16, hT1, hD, hH, List.length_append, gD, wd, w4, w5, wi, z2, z3, z10, wq, hqq, hv, c1, q1, q2, raw_conv, rawC, opA, argT, Option.elim, Go.Proofs.Eng.elems, List.map_cons, List.map_nil]
        exact s1 _ _ _ _ _ _ _ _ _ _ _ _ _ _ _ _ _ _ _ _ _ _ _ _ _ _ _ _ _ _ _ _ _ _ _ _ _ _ _ _
theorem toData_other {k g v s : Nat} {xs : List AV} {k' a b c d e : Nat} (h : k' ≠ k) : toData k g v s xs (.os k' a b c d e) = .os k' a b c d e := by simp [toData, h]
theorem fr_out (a b e : Int) (he : 0 ≤ e ∧ e ≤ 255) (D H : List Int) (hD : D.length = 16) (hH : H.length = 8) (bD : ∀ x, x ∈ D → 0 ≤ x ∧ x ≤ 255) (n : Nat) (hn1 : 1 ≤ n) (hn : n ≤ 4) (K : List Fr) (Q : Out → Cfg → Prop)
    (hK : ∀ (O : List (List Int)), O.length = n → (∀ R, R ∈ O → R.length = n) → (∀ R, R ∈ O → ∀ x, x ∈ R → 0 ≤ x ∧ x ≤ 9) → ∀ (q41 : Nat × Option Ob), ∀ j0 j2 j5 j6 j7 j8 j9 j10 j13 j14 j15 j16 j17 j18 j19 j20 j21 j22 j23 j24 j25 j26 j27 j28 j29 j30 j31 j32 j33 j34 j35 j36 j37 j38 j39 j40 j41 j42 j43 j44 j45 j46 j47 j48 : AV, W Try.prog (RelU Try.prog xf) 0 K ⟨(j0 :: (.ptr (ldg a b e D H)) :: j2 :: (ai n) :: (ov O) :: j5 :: j6 :: j7 :: j8 :: j9 :: j10 :: (ai n) :: (ai n) :: j13 :: j14 :: j15 :: j16 :: j17 :: j18 :: j19 :: j20 :: j21 :: j22 :: j23 :: j24 :: j25 :: j26 :: j27 :: j28 :: j29 :: j30 :: j31 :: j32 :: j33 :: j34 :: j35 :: j36 :: j37 :: j38 :: j39 :: j40 :: j41 :: j42 :: j43 :: j44 :: j45 :: j46 :: j47 :: j48 :: []), [(41, q41), (46, orw O)]⟩ Q) :
    ∀ (k r : Nat), r + k = n → ∀ (O : List (List Int)), O.length = r → (∀ R, R ∈ O → R.length = n) → (∀ R, R ∈ O → ∀ x, x ∈ R → 0 ≤ x ∧ x ≤ 9) → ∀ (g : Nat) (o : Option Ob), ∀ j0 j2 j5 j6 j7 j8 j9 j10 j13 j14 j15 j16 j17 j18 j19 j20 j21 j22 j23 j24 j25 j26 j27 j28 j29 j30 j31 j32 j33 j34 j35 j36 j37 j38 j39 j40 j41 j42 j43 j44 j45 j46 j47 j48 : AV, W Try.prog (RelU Try.prog xf) 0 (.code (.loop xf29_L1) :: .blk 0 :: .stop :: K) ⟨(j0 :: (.ptr (ldg a b e D H)) :: j2 :: (ai n) :: (ov O) :: j5 :: j6 :: j7 :: j8 :: j9 :: j10 :: (ai n) :: (ai r) :: j13 :: j14 :: j15 :: j16 :: j17 :: j18 :: j19 :: j20 :: j21 :: j22 :: j23 :: j24 :: j25 :: j26 :: j27 :: j28 :: j29 :: j30 :: j31 :: j32 :: j33 :: j34 :: j35 :: j36 :: j37 :: j38 :: j39 :: j40 :: j41 :: j42 :: j43 :: j44 :: j45 :: j46 :: j47 :: j48 :: []), [(41, (g, o)), (46, orw O)]⟩ Q := by
  intro k
  induction k with
  | zero =>
    intro r hr O hO h1 h2 g o j0 j2 j5 j6 j7 j8 j9 j10 j13 j14 j15 j16 j17 j18 j19 j20 j21 j22 j23 j24 j25 j26 j27 j28 j29 j30 j31 j32 j33 j34 j35 j36 j37 j38 j39 j40 j41 j42 j43 j44 j45 j46 j47 j48
    have : r = n := by omega
    subst this
    have h0 : decide (r < r) = false := by simp
    have hK := hK O hO h1 h2 (g, o)
    generalize ov O = w at *
    refine W_loop (W_run 80 ?_)
    simp (maxSteps := 2000000) only [SA, Nat.reduceDiv, Nat.reduceSub, Nat.reduceAdd, Int.reduceLT, Int.reduceLE, Int.reduceToNat, Nat.reduceMul, Nat.reduceEqDiff, reduceCtorEq, Nat.reduceBEq, Nat.reduceLeDiff, Nat.reduceLT, xf29_L1, ai, lt_cast, h0]
    exact W_stop (hK _ _ _ _ _ _ _ _ _ _ _ _ _ _ _ _ _ _ _ _ _ _ _ _ _ _ _ _ _ _ _ _ _ _ _ _ _ _ _ _ _ _ _ _)
  | succ k ih =>
    intro r hr O hO h1 h2 g o j0 j2 j5 j6 j7 j8 j9 j10 j13 j14 j15 j16 j17 j18 j19 j20 j21 j22 j23 j24 j25 j26 j27 j28 j29 j30 j31 j32 j33 j34 j35 j36 j37 j38 j39 j40 j41 j42 j43 j44 j45 j46 j47 j48
    have hlt : r < n := by omega
    have h0 : decide (r < n) = true := decide_eq_true hlt
    have wi : IntKind.i64.wrap ((r : Int) + 1) = ((r + 1 : Nat) : Int) := by rw [wrap_id (by omega) (by omega)]; simp
    have next := fun (R : List Int) (hR : R.length = n) (hb : ∀ x, x ∈ R → 0 ≤ x ∧ x ≤ 9) => ih (r + 1) (by omega) (O ++ [R]) (by simp [hO]) (fun X hX => by
      rw [List.mem_append, List.mem_singleton] at hX
      rcases hX with q | rfl
      · exact h1 X q
      · exact hR) (fun X hX => by
      rw [List.mem_append, List.mem_singleton] at hX
      rcases hX with q | rfl
      · exact h2 X q
      · exact hb)
    have hin := fr_in a b e he D H hD hH bD n hn r (by omega) g o
    generalize hor : orw O = q46 at *
    generalize hov : ov O = w at *
    refine W_loop (W_run 160 ?_)
    simp (maxSteps := 2000000) only [SA, Nat.reduceDiv, Nat.reduceSub, Nat.reduceAdd, Int.reduceLT, Int.reduceLE, Int.reduceToNat, Nat.reduceMul, Nat.reduceEqDiff, reduceCtorEq, Nat.reduceBEq, Nat.reduceLeDiff, Nat.reduceLT, xf29_L1, ai, nilA, lt_cast, h0]
    refine W_alone (hin _ _ _ _ _ (fun R hR hb j0 j2 j7 j8 j9 j10 j13 j14 j17 j18 j19 j20 j21 j22 j23 j24 j25 j26 j27 j28 j29 j30 j31 j32 j33 j34 j35 j36 j37 j38 j39 j40 j41 j42 j43 j44 j45 j46 j47 j48 => ?_) n 0 (by omega) [] rfl (fun x hx => by cases hx) _ _ _ _ _ _ _ _ _ _ _ _ _ _ _ _ _ _ _ _ _ _ _ _ _ _ _ _ _ _ _ _ _ _ _ _ _ _ _ _)
    have next := next R hR hb
    have hRl : R ≠ [] := by intro q; rw [q] at hR; simp at hR; omega
    cases R with
    | nil => exact absurd rfl hRl
    | cons y t =>
      simp only [rv, rr]
      refine W_giveC (t := 6) (giveT_row (k := 41) (g := g + 1) (e := 3) (s := 1) (xs := (y :: t).map ai) (n := t.length + 1) rfl rfl (by simp)) (W_run 120 ?_)
      subst hor hov
      cases O with
      | nil =>
        simp only [ov, orw, List.nil_append, List.map_nil, List.length_nil] at next ⊢
        simp (maxSteps := 2000000) only [SA, Nat.reduceDiv, Nat.reduceSub, Nat.reduceAdd, Int.reduceLT, Int.reduceLE, Int.reduceToNat, Nat.reduceMul, Nat.reduceEqDiff, reduceCtorEq, Nat.reduceBEq, Nat.reduceLeDiff, Nat.reduceLT, xf29_R0, xf29_R1, ai, nilA, al, wi, toData_os, toData_v, toData_ptr, Go.Proofs.Eng.putAt, Go.Proofs.Eng.elems, List.map_cons, List.map_nil]
        exact next _ _ _ _ _ _ _ _ _ _ _ _ _ _ _ _ _ _ _ _ _ _ _ _ _ _ _ _ _ _ _ _ _ _ _ _ _ _ _ _ _ _ _ _ _ _
      | cons z O2 =>
        have hO2 : O2.length + 1 = r := hO
        have q1 : (O2.length + 1 + 1) * 24 ≤ 100000000000000 := by omega
        have q2 : O2.length + 1 + 1 ≤ 100000000000000 := by omega
        have e2 : (O2 ++ [y :: t]).length = O2.length + 1 := by simp
        have hto : ∀ (g v s : Nat) (xs : List AV) (a b c d e : Nat), toData 41 g v s xs (.os 46 a b c d e) = .os 46 a b c d e := fun _ _ _ _ _ _ _ _ _ => toData_other (by decide)
        simp only [ov, orw, List.cons_append, e2, List.map_append, List.map_cons, List.map_nil] at next ⊢
        simp (maxSteps := 2000000) only [SA, Nat.reduceDiv, Nat.reduceSub, Nat.reduceAdd, Int.reduceLT, Int.reduceLE, Int.reduceToNat, Nat.reduceMul, Nat.reduceEqDiff, reduceCtorEq, Nat.reduceBEq, Nat.reduceLeDiff, Nat.reduceLT, xf29_R0, xf29_R1, ai, nilA, al, wi, q1, q2, hto, toData_os, toData_v, toData_ptr, Go.Proofs.Eng.putAt, Go.Proofs.Eng.elems, List.map_cons, List.map_nil]
        exact next _ _ _ _ _ _ _ _ _ _ _ _ _ _ _ _ _ _ _ _ _ _ _ _ _ _ _ _ _ _ _ _ _ _ _ _ _ _ _ _ _ _ _ _ _ _
theorem named4146 (j : Nat) : Go.Proofs.Eng.look [] j = Go.Proofs.Eng.look [(41, (0, (none : Option Ob))), (46, (0, (none : Option Ob)))] j := by
  simp only [Go.Proofs.Eng.look]
  by_cases h : 41 = j
  · subst h; simp
  · by_cases h2 : 46 = j
    · subst h2; simp
    · simp [h, h2]
/-- the law's table by numbers is a good one -/
theorem free_run {a b e : Int} (ha : 0 ≤ a ∧ a ≤ 255) (he : 0 ≤ e ∧ e ≤ 255) {D H : List Int} (hD : D.length = 16) (hH : H.length = 8) (bD : ∀ x, x ∈ D → 0 ≤ x ∧ x ≤ 255) : ∃ T, gT (sz a) T ∧ Runs Try.prog xf 29 [ldg a b e D H] (aT T) := by
  have hs := sz_b ha
  have hl27 : (D.map u8 ++ H.map u8).length = 24 := by simp [hD, hH]
  have hsz := size_run ha b e hD hH
  have hnr := noRef_ldg a b e D H
  have ht27 : List.take 24 (D.map u8 ++ H.map u8) = D.map u8 ++ H.map u8 := List.take_of_length_le (by rw [hl27]; omega)
  have main : ∃ r, (∃ T, gT (sz a) T ∧ r = aT T) ∧ Runs Try.prog xf 29 [ldg a b e D H] r := by
    refine ofWE (fn := xf29) 20 (by kernel_rfl) (W_named named4146 (W_run 80 ?_))
    simp (maxSteps := 2000000) only [SA, Nat.reduceDiv, Nat.reduceSub, Nat.reduceAdd, Int.reduceLT, Int.reduceLE, Int.reduceToNat, Nat.reduceMul, Nat.reduceEqDiff, reduceCtorEq, Nat.reduceBEq, Nat.reduceLeDiff, Nat.reduceLT, xf29, ai, nilA, ldg, u8, hl27, ht27, List.length_append, hD, hH]
    refine W_call (args := [ldg a b e D H]) rfl (noRefs_1 hnr) hsz rfl (W_run 80 ?_)
    simp (maxSteps := 2000000) only [SA, Nat.reduceDiv, Nat.reduceSub, Nat.reduceAdd, Int.reduceLT, Int.reduceLE, Int.reduceToNat, Nat.reduceMul, Nat.reduceEqDiff, reduceCtorEq, Nat.reduceBEq, Nat.reduceLeDiff, Nat.reduceLT, ai, nilA, ldg, u8]
    refine W_alone (fr_out a b e he D H hD hH bD (sz a) hs.2.1 hs.2.2 _ _ (fun O hO h1 h2 q41 j0 j2 j5 j6 j7 j8 j9 j10 j13 j14 j15 j16 j17 j18 j19 j20 j21 j22 j23 j24 j25 j26 j27 j28 j29 j30 j31 j32 j33 j34 j35 j36 j37 j38 j39 j40 j41 j42 j43 j44 j45 j46 j47 j48 => W_run 80 ?_) (sz a) 0 (by omega) [] rfl (fun R hR => by cases hR) (fun R hR => by cases hR) 0 none _ _ _ _ _ _ _ _ _ _ _ _ _ _ _ _ _ _ _ _ _ _ _ _ _ _ _ _ _ _ _ _ _ _ _ _ _ _ _ _ _ _ _ _)
    cases O with
    | nil => simp at hO; omega
    | cons z O2 =>
      simp only [ov, orw]
      simp (maxSteps := 2000000) only [SA, Nat.reduceDiv, Nat.reduceSub, Nat.reduceAdd, Int.reduceLT, Int.reduceLE, Int.reduceToNat, Nat.reduceMul, Nat.reduceEqDiff, reduceCtorEq, Nat.reduceBEq, Nat.reduceLeDiff, Nat.reduceLT, xf29_R2, ai]
      exact W_ret1 (WX_nil ⟨.inl rfl, _, rfl, aT (z :: O2), ⟨z :: O2, ⟨hO, hs.2.1, hs.2.2, h1, h2⟩, rfl⟩, reify_TT (l := z :: O2) (g := 1) (e := 37) rfl⟩)
  obtain ⟨r, ⟨T, h1, rfl⟩, h2⟩ := main
  exact ⟨T, h1, h2⟩
end Go.Proofs.Ytkbeaheladmeiaa

