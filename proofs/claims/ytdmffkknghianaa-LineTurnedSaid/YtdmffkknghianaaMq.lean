/-
  Bytes as numbers; the law's text by numbers.
-/
import Derived.Test.YtdmffkknghianaaGC
set_option linter.unusedSimpArgs false
set_option linter.unusedVariables false
namespace Go.Proofs.Ytdmffkknghianaa
open Go Go.Proofs.Eng
set_option maxRecDepth 100000
set_option maxHeartbeats 4000000
def u8 (z : Int) : AV := .v (.int .u8 z)
theorem ofWE {f : Nat} {fn : XFunc} {args : List AV} {G : AV → Prop} (fuel : Nat) (hf : xf f = some fn)
    (h : W Try.prog (RelU Try.prog xf) 0 [.code fn.body] (Go.Proofs.Eng.start fn args []) fun o c => (o = .ret ∨ o = .normal) ∧ ∃ rs, fn.results.mapM (resOf Try.prog c) = some rs ∧ ∃ r, G r ∧ reify c.η fuel (retOf rs) = some r) : ∃ r, G r ∧ Runs Try.prog xf f args r := by
  obtain ⟨o, c, h1, ho, rs, h3, r, hg, h4⟩ := h
  exact ⟨r, hg, Runs.ofW fuel hf ⟨o, c, h1, ho, rs, h3, h4⟩⟩
theorem undT : pureRun Try.prog (underlying 5) = some (.int .u8) := by kernel_rfl
/-- a byte as a number -/
def rawC (x : AV) (fb : Option Res) : Option Res :=
  match x with
  | .v (.int .u8 z) => some (.val (.v (.int .i64 (IntKind.i64.wrap z))))
  | _ => fb
theorem raw_conv (dst : Nat) (c : Cfg) (x : Operand) (ty : TypeId) : stF_raw Try.prog dst c (.convert 5 3 x) ty = rawC (opA c.σ x) (rawX Try.prog dst c (.convert 5 3 x) ty) := by
  unfold rawC
  split
  · rename_i z hi
    have e1 := toVal_op hi
    unfold stF_raw
    rw [if_pos ⟨rfl, by simp [Op.operands, e1]⟩]
    have h3 : pureRun Try.prog (execOp (fun x => ((argT x).bind fun xa => toVal (evalF c.σ xa)).getD (.bool false)) { dst := none, op := .convert 5 3 x, type := ty, pos := "", after := #[], guard := none }) = some (.value (.int .i64 (IntKind.i64.wrap z))) := by
      simp only [execOp, e1, Option.getD_some, pureRun_bind, convert, undT, und1, Option.bind_some, Conv.intToInt, pureRun_pure]
    rw [h3]; rfl
  · rfl
theorem get_u8 {l : List Int} {i : Nat} (h : i < l.length) : (l.map u8)[i]? = some (u8 (l.getD i 0)) := by
  rw [List.getElem?_map, List.getElem?_eq_getElem h, List.getD_eq_getElem?_getD, List.getElem?_eq_getElem h]; rfl

theorem chunk_b {n : Nat} {t : List Int} (ht : t.length = n) (h : n = 7 ∨ n = 10) : chunkA false 1 (t.map u8) n = some (t.map u8) := by
  rcases h with rfl | rfl
  · match t, ht with
    | [a, b, c, d, e, f, g], _ => rfl
  · match t, ht with
    | [a, b, c, d, e, f, g, h, i, j], _ => rfl
def gal (a b e : Int) (H : List Int) : AV := .ag (u8 a :: u8 b :: u8 e :: H.map u8)
def hvL (L : List Int) : AV := match L with | [] => nilA | x :: t => .os 49 1 (x :: t).length 1 0 (x :: t).length
def hrL (L : List Int) : Nat × Option Ob := match L with | [] => (0, none) | x :: t => (1, some ⟨3, 1, (x :: t).map ai⟩)
def hpL (V : Int) (L : List Int) : Heap := [(4, (1, some ⟨27, 2, [.ag [ai 0, nilA]]⟩)), (5, (1, some ⟨27, 2, [.ag [ai V, hvL L]]⟩)), (49, hrL L)]
theorem mk_loop (V lg : Int) (hV : 1 ≤ V ∧ V ≤ 40) (hlg : 1 ≤ lg ∧ lg ≤ 40) (H : List Int) (hH : H.length = 10) (bH : ∀ x, x ∈ H → 0 ≤ x ∧ x ≤ 255) (cnt : Nat) (hc : cnt ≤ 10) (g : Bool) (x0 x1 x2 : AV) (K : List Fr) (Q : Out → Cfg → Prop)
    (hK : ∀ L : List Int, L.length = cnt → (∀ x, x ∈ L → 1 ≤ x ∧ x ≤ V) → ∀ j3 j7 j8 j9 j10 j11 j12 j13 j14 j15 j16 j17 j18 j19 j20 j21 j22 j23 j24 j25 j26 j27 j28 j29 j30 j31 j35 j36 j37 j38 j39 j40 j41 j42 j43 j44 j45 j46 j47 j48 j49 j50 j51 j52 : AV, W Try.prog (RelU Try.prog xf) 0 K ⟨(x0 :: x1 :: x2 :: j3 :: (.o 4 1 1 0 0) :: (.o 5 1 1 0 0) :: (ai lg) :: j7 :: j8 :: j9 :: j10 :: j11 :: j12 :: j13 :: j14 :: j15 :: j16 :: j17 :: j18 :: j19 :: j20 :: j21 :: j22 :: j23 :: j24 :: j25 :: j26 :: j27 :: j28 :: j29 :: j30 :: j31 :: (.sl 1 g ((H.take cnt).map u8)) :: (ai cnt) :: (ai cnt) :: j35 :: j36 :: j37 :: j38 :: j39 :: j40 :: j41 :: j42 :: j43 :: j44 :: j45 :: j46 :: j47 :: j48 :: j49 :: j50 :: j51 :: j52 :: []), hpL V L⟩ Q) :
    ∀ (m k : Nat), k + m = cnt → ∀ L : List Int, L.length = k → (∀ x, x ∈ L → 1 ≤ x ∧ x ≤ V) → ∀ j3 j7 j8 j9 j10 j11 j12 j13 j14 j15 j16 j17 j18 j19 j20 j21 j22 j23 j24 j25 j26 j27 j28 j29 j30 j31 j35 j36 j37 j38 j39 j40 j41 j42 j43 j44 j45 j46 j47 j48 j49 j50 j51 j52 : AV, W Try.prog (RelU Try.prog xf) 0 (.code (.loop xf12_L0) :: .blk 0 :: .stop :: K) ⟨(x0 :: x1 :: x2 :: j3 :: (.o 4 1 1 0 0) :: (.o 5 1 1 0 0) :: (ai lg) :: j7 :: j8 :: j9 :: j10 :: j11 :: j12 :: j13 :: j14 :: j15 :: j16 :: j17 :: j18 :: j19 :: j20 :: j21 :: j22 :: j23 :: j24 :: j25 :: j26 :: j27 :: j28 :: j29 :: j30 :: j31 :: (.sl 1 g ((H.take cnt).map u8)) :: (ai cnt) :: (ai k) :: j35 :: j36 :: j37 :: j38 :: j39 :: j40 :: j41 :: j42 :: j43 :: j44 :: j45 :: j46 :: j47 :: j48 :: j49 :: j50 :: j51 :: j52 :: []), hpL V L⟩ Q := by
  have htl : (H.take cnt).length = cnt := by rw [List.length_take]; omega
  intro m
  induction m with
  | zero =>
    intro k hk L hL hx j3 j7 j8 j9 j10 j11 j12 j13 j14 j15 j16 j17 j18 j19 j20 j21 j22 j23 j24 j25 j26 j27 j28 j29 j30 j31 j35 j36 j37 j38 j39 j40 j41 j42 j43 j44 j45 j46 j47 j48 j49 j50 j51 j52
    have ek : k = cnt := by omega
    have h0 : decide (k < cnt) = false := decide_eq_false (by omega)
    refine W_loop (W_run 80 ?_)
    simp (maxSteps := 2000000) only [SA, Nat.reduceDiv, Nat.reduceSub, Nat.reduceAdd, Int.reduceLT, Int.reduceLE, Int.reduceToNat, Nat.reduceMul, Nat.reduceEqDiff, reduceCtorEq, Nat.reduceBEq, Nat.reduceLeDiff, Nat.reduceLT, xf12_L0, ai, lt_cast, h0]
    rw [ek]
    exact W_stop (hK L (by omega) hx _ _ _ _ _ _ _ _ _ _ _ _ _ _ _ _ _ _ _ _ _ _ _ _ _ _ _ _ _ _ _ _ _ _ _ _ _ _ _ _ _ _ _ _)
  | succ m ih =>
    intro k hk L hL hx j3 j7 j8 j9 j10 j11 j12 j13 j14 j15 j16 j17 j18 j19 j20 j21 j22 j23 j24 j25 j26 j27 j28 j29 j30 j31 j35 j36 j37 j38 j39 j40 j41 j42 j43 j44 j45 j46 j47 j48 j49 j50 j51 j52
    have h1 : k < cnt := by omega
    have h0 : decide (k < cnt) = true := decide_eq_true h1
    have h2 : k < (H.take cnt).length := by omega
    have hz := bH _ (List.mem_of_mem_take (getD_in (d := 0) h2))
    have gH := get_u8 h2
    generalize (H.take cnt).getD k 0 = z at *
    have wz : IntKind.i64.wrap z = z := wrap_id (by omega) (by omega)
    have hmn : 1 ≤ mn2 lg V ∧ mn2 lg V ≤ V := by unfold mn2; split <;> omega
    obtain ⟨t1, t2⟩ := tmod_b (a := z) (n := mn2 lg V) hz.1 (by omega)
    have zn : (mn2 lg V = 0) = False := eq_false (by omega)
    have w1 : IntKind.i64.wrap (1 + z.tmod (mn2 lg V)) = 1 + z.tmod (mn2 lg V) := wrap_id (by omega) (by omega)
    have wi : IntKind.i64.wrap ((k : Int) + 1) = ((k + 1 : Nat) : Int) := by rw [wrap_id (by omega) (by omega)]; simp
    generalize hv : 1 + z.tmod (mn2 lg V) = v at *
    have next := ih (k + 1) (by omega) (L ++ [v]) (by simp [hL]) (fun x hx2 => by
      rw [List.mem_append, List.mem_singleton] at hx2
      rcases hx2 with q | rfl
      · exact hx x q
      · omega)
    refine W_loop (W_run 160 ?_)
    cases L with
    | nil =>
      simp only [hpL, hvL, hrL, List.nil_append, List.map_cons, List.map_nil] at next ⊢
      simp (maxSteps := 2000000) only [SA, Nat.reduceDiv, Nat.reduceSub, Nat.reduceAdd, Int.reduceLT, Int.reduceLE, Int.reduceToNat, Nat.reduceMul, Nat.reduceEqDiff, reduceCtorEq, Nat.reduceBEq, Nat.reduceLeDiff, Nat.reduceLT, xf12_L0, ai, u8, nilA, lt_cast, h0, gH, wz, w1, zn, hv, wi, raw_conv, rawC, raw_min, rawK, opA, argT, Option.elim, Go.Proofs.Eng.elems, Go.Proofs.Eng.fillA, List.map_cons, List.map_nil, List.length_append, Int.toNat_natCast]
      exact next _ _ _ _ _ _ _ _ _ _ _ _ _ _ _ _ _ _ _ _ _ _ _ _ _ _ _ _ _ _ _ _ _ _ _ _ _ _ _ _ _ _ _ _
    | cons x t =>
      have q1 : (t.length + 1 + 1) * 8 ≤ 100000000000000 := by simp only [List.length_cons] at hL; omega
      have q2 : t.length + 1 + 1 ≤ 100000000000000 := by simp only [List.length_cons] at hL; omega
      have e2 : (x :: (t ++ [v])).length = t.length + 1 + 1 := by simp
      simp only [hpL, hvL, hrL, List.cons_append, e2, List.map_cons, List.map_append, List.map_nil] at next ⊢
      simp (maxSteps := 2000000) only [SA, Nat.reduceDiv, Nat.reduceSub, Nat.reduceAdd, Int.reduceLT, Int.reduceLE, Int.reduceToNat, Nat.reduceMul, Nat.reduceEqDiff, reduceCtorEq, Nat.reduceBEq, Nat.reduceLeDiff, Nat.reduceLT, xf12_L0, ai, u8, nilA, lt_cast, h0, gH, wz, w1, zn, hv, wi, q1, q2, raw_conv, rawC, raw_min, rawK, opA, argT, Option.elim, Go.Proofs.Eng.elems, Go.Proofs.Eng.fillA, List.map_cons, List.map_nil, List.length_append, Int.toNat_natCast]
      exact next _ _ _ _ _ _ _ _ _ _ _ _ _ _ _ _ _ _ _ _ _ _ _ _ _ _ _ _ _ _ _ _ _ _ _ _ _ _ _ _ _ _ _ _
def GM (m : Int) (r : AV) : Prop := ∃ V w, r = tx false V w ∧ gX V w ∧ (w.length : Int) ≤ m
theorem named_m (V : Int) (j : Nat) : Go.Proofs.Eng.look [(4, (1, some (Ob.mk 27 2 [.ag [ai 0, nilA]]))), (5, (1, some (Ob.mk 27 2 [.ag [ai V, nilA]])))] j = Go.Proofs.Eng.look (hpL V []) j := by
  simp only [Go.Proofs.Eng.look, hpL, hvL, hrL]
  by_cases h6 : 4 = j
  · simp [h6]
  · by_cases h7 : 5 = j
    · subst h7; simp
    · by_cases h47 : 49 = j
      · subst h47; simp
      · simp [h6, h7, h47]
theorem gal_made {a b e m : Int} {H : List Int} (hm : 1 ≤ m ∧ m ≤ 10) (ha : 0 ≤ a ∧ a ≤ 255) (hb : 0 ≤ b ∧ b ≤ 255) (he : 0 ≤ e ∧ e ≤ 255) (hH : H.length = 10) (bH : ∀ x, x ∈ H → 0 ≤ x ∧ x ≤ 255) :
    ∃ r, GM m r ∧ Runs Try.prog xf 12 [gal a b e H, ai m] r := by
  refine ofWE (fn := xf12) 20 (by kernel_rfl) (W_run 120 ?_)
  have wa : IntKind.i64.wrap a = a := wrap_id (by omega) (by omega)
  have wb : IntKind.i64.wrap b = b := wrap_id (by omega) (by omega)
  obtain ⟨t1, t2⟩ := tmod_b (a := b) (n := m) hb.1 (by omega)
  obtain ⟨u1, u2⟩ := tmod_b (a := a) (n := 40) ha.1 (by omega)
  have zm : (m = 0) = False := eq_false (by omega)
  have z40 : ((40 : Int) = 0) = False := eq_false (by omega)
  have z3 : ((3 : Int) = 0) = False := eq_false (by omega)
  have z2 : ((2 : Int) = 0) = False := eq_false (by omega)
  obtain ⟨cnt, hcnt⟩ : ∃ cnt : Nat, 1 + b.tmod m = (cnt : Int) := ⟨(1 + b.tmod m).toNat, by omega⟩
  have w1 : IntKind.i64.wrap (1 + b.tmod m) = (cnt : Int) := by rw [wrap_id (by omega) (by omega), hcnt]
  obtain ⟨V, hV⟩ : ∃ V : Int, 1 + a.tmod 40 = V := ⟨_, rfl⟩
  have w2 : IntKind.i64.wrap (1 + a.tmod 40) = V := by rw [wrap_id (by omega) (by omega), hV]
  have hV1 : 1 ≤ V ∧ V ≤ 40 := by omega
  have hd : 0 ≤ V.tdiv 2 ∧ V.tdiv 2 ≤ 20 := by rw [Int.tdiv_eq_ediv_of_nonneg (by omega)]; omega
  have w3 : IntKind.i64.wrap (V.tdiv 2) = V.tdiv 2 := wrap_id (by omega) (by omega)
  have w4 : IntKind.i64.wrap (1 + V.tdiv 2) = 1 + V.tdiv 2 := wrap_id (by omega) (by omega)
  obtain ⟨s1, s2⟩ := tmod_b (a := e) (n := 3) he.1 (by omega)
  have hlen : (H.map u8).length = 10 := by simp [hH]
  have hc10 : cnt ≤ 10 := by omega
  have cnn : (0 : Int) ≤ cnt := by omega
  have c10 : (cnt : Int) ≤ 10 := by omega
  unfold gal
  have htk : (H.map u8).take 10 = H.map u8 := List.take_of_length_le (by simp [hH])
  have htc : (H.map u8).take cnt = (H.take cnt).map u8 := by rw [List.map_take]
  have hch := chunk_b (n := 10) hH (.inr rfl)
  have htl : ((H.take cnt).map u8).length = cnt := by rw [List.length_map, List.length_take]; omega
  generalize hGG : H.map u8 = G at hlen htk htc hch ⊢
  simp (maxSteps := 2000000) only [SA, Nat.reduceDiv, Nat.reduceSub, Nat.reduceAdd, Int.reduceLT, Int.reduceLE, Int.reduceToNat, Nat.reduceMul, Nat.reduceEqDiff, reduceCtorEq, Nat.reduceBEq, Nat.reduceLeDiff, Nat.reduceLT, xf12, ai, u8, nilA, hlen, wa, wb, zm, z40, z3, w1, w2, raw_conv, rawC, opA, argT, Option.elim, Go.Proofs.Eng.fillA, List.map_cons, List.map_nil]
  subst hGG
  have fin : ∀ (lg : Int) (g : Bool) (x0 x1 x2 : AV) (L : List Int), L.length = cnt → (∀ x, x ∈ L → 1 ≤ x ∧ x ≤ V) → ∀ j3 j7 j8 j9 j10 j11 j12 j13 j14 j15 j16 j17 j18 j19 j20 j21 j22 j23 j24 j25 j26 j27 j28 j29 j30 j31 j35 j36 j37 j38 j39 j40 j41 j42 j43 j44 j45 j46 j47 j48 j49 j50 j51 j52 : AV, W Try.prog (RelU Try.prog xf) 0 [.code xf12_R0] ⟨(x0 :: x1 :: x2 :: j3 :: (.o 4 1 1 0 0) :: (.o 5 1 1 0 0) :: (ai lg) :: j7 :: j8 :: j9 :: j10 :: j11 :: j12 :: j13 :: j14 :: j15 :: j16 :: j17 :: j18 :: j19 :: j20 :: j21 :: j22 :: j23 :: j24 :: j25 :: j26 :: j27 :: j28 :: j29 :: j30 :: j31 :: (.sl 1 g ((H.take cnt).map u8)) :: (ai cnt) :: (ai cnt) :: j35 :: j36 :: j37 :: j38 :: j39 :: j40 :: j41 :: j42 :: j43 :: j44 :: j45 :: j46 :: j47 :: j48 :: j49 :: j50 :: j51 :: j52 :: []), hpL V L⟩ fun o c => (o = .ret ∨ o = .normal) ∧ ∃ rs, xf12.results.mapM (resOf Try.prog c) = some rs ∧ ∃ r, GM m r ∧ reify c.η 20 (retOf rs) = some r := by
    intro lg g x0 x1 x2 L hL hx j3 j7 j8 j9 j10 j11 j12 j13 j14 j15 j16 j17 j18 j19 j20 j21 j22 j23 j24 j25 j26 j27 j28 j29 j30 j31 j35 j36 j37 j38 j39 j40 j41 j42 j43 j44 j45 j46 j47 j48 j49 j50 j51 j52
    have hGX : gX V L := ⟨hV1, by omega, by omega, hx⟩
    cases L with
    | nil => simp at hL; omega
    | cons x t =>
      simp only [hpL, hvL, hrL]
      refine W_run 160 ?_
      simp (maxSteps := 2000000) only [SA, Nat.reduceDiv, Nat.reduceSub, Nat.reduceAdd, Int.reduceLT, Int.reduceLE, Int.reduceToNat, Nat.reduceMul, Nat.reduceEqDiff, reduceCtorEq, Nat.reduceBEq, Nat.reduceLeDiff, Nat.reduceLT, xf12_R0, ai, nilA]
      refine W_ret1 (WX_nil ⟨.inl rfl, _, rfl, tx false V (x :: t), ⟨V, x :: t, rfl, hGX, by rw [hL]; omega⟩, ?_⟩)
      have h : ∀ η : Heap, Go.Proofs.Eng.look η 49 = (1, some ⟨3, 1, (x :: t).map ai⟩) → reify η 19 (.os 49 1 (x :: t).length 1 0 (x :: t).length) = some (al false (x :: t)) := fun η hη => reify_os (elem_ai η 17) hη
      show ([ai V, AV.os 49 1 (x :: t).length 1 0 (x :: t).length].mapM (reify _ 19)).map AV.ag = _
      rw [List.mapM_cons, List.mapM_cons, h _ rfl]; rfl
  by_cases hs : 0 < e.tmod 3
  · have d : decide (0 < e.tmod 3) = true := decide_eq_true hs
    simp (maxSteps := 2000000) only [SA, Nat.reduceDiv, Nat.reduceSub, Nat.reduceAdd, Int.reduceLT, Int.reduceLE, Int.reduceToNat, Nat.reduceMul, Nat.reduceEqDiff, reduceCtorEq, Nat.reduceBEq, Nat.reduceLeDiff, Nat.reduceLT, d, ai, u8, nilA, hlen, wb, zm, z2, w1, w3, w4, raw_conv, rawC, opA, argT, Option.elim, hch, htk, htc, htl, cnn, c10, hc10, Int.toNat_natCast]
    refine W_alone (W_named (named_m V) (mk_loop V (1 + V.tdiv 2) hV1 (by omega) H hH bH cnt hc10 _ _ _ _ _ _ (fun L hL hx j3 j7 j8 j9 j10 j11 j12 j13 j14 j15 j16 j17 j18 j19 j20 j21 j22 j23 j24 j25 j26 j27 j28 j29 j30 j31 j35 j36 j37 j38 j39 j40 j41 j42 j43 j44 j45 j46 j47 j48 j49 j50 j51 j52 => fin _ _ _ _ _ L hL hx _ _ _ _ _ _ _ _ _ _ _ _ _ _ _ _ _ _ _ _ _ _ _ _ _ _ _ _ _ _ _ _ _ _ _ _ _ _ _ _ _ _ _ _) cnt 0 (by omega) [] rfl (fun x hx => by cases hx) _ _ _ _ _ _ _ _ _ _ _ _ _ _ _ _ _ _ _ _ _ _ _ _ _ _ _ _ _ _ _ _ _ _ _ _ _ _ _ _ _ _ _ _))
  · have d : decide (0 < e.tmod 3) = false := decide_eq_false hs
    simp (maxSteps := 2000000) only [SA, Nat.reduceDiv, Nat.reduceSub, Nat.reduceAdd, Int.reduceLT, Int.reduceLE, Int.reduceToNat, Nat.reduceMul, Nat.reduceEqDiff, reduceCtorEq, Nat.reduceBEq, Nat.reduceLeDiff, Nat.reduceLT, d, ai, u8, nilA, hlen, wb, zm, w1, raw_conv, rawC, opA, argT, Option.elim, hch, htk, htc, htl, cnn, c10, hc10, Int.toNat_natCast]
    refine W_alone (W_named (named_m V) (mk_loop V V hV1 (by omega) H hH bH cnt hc10 _ _ _ _ _ _ (fun L hL hx j3 j7 j8 j9 j10 j11 j12 j13 j14 j15 j16 j17 j18 j19 j20 j21 j22 j23 j24 j25 j26 j27 j28 j29 j30 j31 j35 j36 j37 j38 j39 j40 j41 j42 j43 j44 j45 j46 j47 j48 j49 j50 j51 j52 => fin _ _ _ _ _ L hL hx _ _ _ _ _ _ _ _ _ _ _ _ _ _ _ _ _ _ _ _ _ _ _ _ _ _ _ _ _ _ _ _ _ _ _ _ _ _ _ _ _ _ _ _) cnt 0 (by omega) [] rfl (fun x hx => by cases hx) _ _ _ _ _ _ _ _ _ _ _ _ _ _ _ _ _ _ _ _ _ _ _ _ _ _ _ _ _ _ _ _ _ _ _ _ _ _ _ _ _ _ _ _))
end Go.Proofs.Ytdmffkknghianaa

