/-
  Lists made new: clones, prices, lines that run over, full lines.
-/
import Derived.Test.YtdmffkknghianaaGF
set_option linter.unusedSimpArgs false
set_option linter.unusedVariables false
namespace Go.Proofs.Ytdmffkknghianaa
open Go Go.Proofs.Eng
set_option maxRecDepth 100000
set_option maxHeartbeats 4000000
theorem RunsN.ofW {P : Program} {xf : Nat → Option XFunc} {f : Nat} {fn : XFunc} {args : List AV} {r : AV} (hf : xf f = some fn)
    (h : W P (RelU P xf) 0 [.code fn.body] (Go.Proofs.Eng.start fn args []) fun o c => (o = .ret ∨ o = .normal) ∧ ∃ rs, fn.results.mapM (resOf P c) = some rs ∧ reifyN c.η (retOf rs) = some r) : RunsN P xf f args r := by
  obtain ⟨o, c, ⟨o1, c1, h1, ⟨rfl, rfl⟩, _⟩, ho, rs, h3, h4⟩ := h
  exact RunsN.of hf h1 ho h3 h4
theorem rowN_ints {η : Heap} {k g e n : Nat} {l : List Int} (hn : n = l.length) (hk : Go.Proofs.Eng.look η k = (g, some ⟨e, 1, l.map ai⟩)) : rowN η (.os k g n 1 0 n) = some (al false l) := by
  subst hn
  have ht : List.take l.length (l.map ai) = l.map ai := List.take_of_length_le (by simp)
  simp only [rowN, hk]
  rw [if_pos]
  · simp [al, ht]
  · refine ⟨trivial, by simp, trivial, by simp, ?_⟩
    rw [List.drop_zero, ht, List.all_eq_true]
    intro x hx
    obtain ⟨z, _, rfl⟩ := List.mem_map.1 hx
    rfl
theorem reifyN_tup {η : Heap} {k g e n : Nat} {l : List Int} {z : Int} (hn : n = l.length) (hk : Go.Proofs.Eng.look η k = (g, some ⟨e, 1, l.map ai⟩)) : reifyN η (.tup [.os k g n 1 0 n, ai z]) = some (.tup [al false l, ai z]) := by
  show ([AV.os k g n 1 0 n, ai z].mapM (rowN η)).map AV.tup = _
  rw [List.mapM_cons, rowN_ints hn hk]; rfl
theorem clone2_run (f : Bool) (l : List Int) (hn : l.length ≤ 100) (η : Heap) (hη : Go.Proofs.Eng.look η 2005 = (0, none)) :
    RunsR Try.prog xf 2000 23 [al f l] η (.os 2005 1 l.length 1 0 l.length) (Go.Proofs.Eng.putAt η 2005 (1, some ⟨3, 1, l.map ai⟩)) := by
  have q1 : l.length * 8 ≤ 100000000000000 := by omega
  have q2 : l.length ≤ 100000000000000 := by omega
  refine RunsR.ofW (fn := xf23) (by kernel_rfl) (W_run 80 ?_)
  simp (maxSteps := 2000000) only [SA, Nat.reduceDiv, Nat.reduceSub, Nat.reduceAdd, Int.reduceLT, Int.reduceLE, Int.reduceToNat, Nat.reduceMul, Nat.reduceEqDiff, reduceCtorEq, Nat.reduceBEq, Nat.reduceLeDiff, Nat.reduceLT, xf23, ai, al, nilA, hη, q1, q2, look_putAt, putAt_twice, Go.Proofs.Eng.elems, List.map_cons, List.map_nil, List.nil_append, Nat.add_zero]
  exact W_ret1 (WX_nil ⟨.inl rfl, _, rfl, rfl, rfl⟩)
theorem col0R_loop (a b c d e : Nat → Int) (l : List Nat) (hn : l.length ≤ 1000) (K : List Fr) (Q : Out → Cfg → Prop)
    (hK : ∀ E : List Int, E = l.map a → ∀ r7 : Nat × Option Ob, ∀ j2 j3 j6 j7 j8 j12 j13 j14 j15 j16 j17 j18 j19 j20 j21 j22 : AV, W Try.prog (RelU Try.prog xf) 1000 K ⟨((rw5 a b c d e l) :: (ai 0) :: j2 :: j3 :: nilA :: (.os 1008 1 E.length 1 0 E.length) :: j6 :: j7 :: j8 :: (rw5 a b c d e l) :: (ai l.length) :: (ai l.length) :: j12 :: j13 :: j14 :: j15 :: j16 :: j17 :: j18 :: j19 :: j20 :: j21 :: j22 :: []), [(1007, r7), (1008, (1, some ⟨3, 1, E.map ai⟩))]⟩ Q) :
    ∀ (m k : Nat), k + m = l.length → ∀ E : List Int, E = (l.take k).map a → ∀ (g7 : Nat) (o7 : Option Ob), ∀ j2 j3 j6 j7 j8 j12 j13 j14 j15 j16 j17 j18 j19 j20 j21 j22 : AV, W Try.prog (RelU Try.prog xf) 1000 (.code (.loop xf49_L0) :: .blk 0 :: .stop :: K) ⟨((rw5 a b c d e l) :: (ai 0) :: j2 :: j3 :: nilA :: (.os 1008 1 E.length 1 0 E.length) :: j6 :: j7 :: j8 :: (rw5 a b c d e l) :: (ai l.length) :: (ai k) :: j12 :: j13 :: j14 :: j15 :: j16 :: j17 :: j18 :: j19 :: j20 :: j21 :: j22 :: []), [(1007, (g7, o7)), (1008, (1, some ⟨3, 1, E.map ai⟩))]⟩ Q := by
  intro m
  induction m with
  | zero =>
    intro k hk E hE g7 o7 j2 j3 j6 j7 j8 j12 j13 j14 j15 j16 j17 j18 j19 j20 j21 j22
    have ek : k = l.length := by omega
    have h0 : decide (k < l.length) = false := decide_eq_false (by omega)
    refine W_loop (W_run 80 ?_)
    simp (maxSteps := 2000000) only [SA, Nat.reduceDiv, Nat.reduceSub, Nat.reduceAdd, Int.reduceLT, Int.reduceLE, Int.reduceToNat, Nat.reduceMul, Nat.reduceEqDiff, reduceCtorEq, Nat.reduceBEq, Nat.reduceLeDiff, Nat.reduceLT, xf49_L0, ai, rw5, lt_cast, h0]
    rw [ek]
    exact W_stop (hK E (by rw [hE, List.take_of_length_le (by omega)]) _ _ _ _ _ _ _ _ _ _ _ _ _ _ _ _ _)
  | succ m ih =>
    intro k hk E hE g7 o7 j2 j3 j6 j7 j8 j12 j13 j14 j15 j16 j17 j18 j19 j20 j21 j22
    have h1 : k < l.length := by omega
    have h0 : decide (k < l.length) = true := decide_eq_true h1
    have wi : IntKind.i64.wrap ((k : Int) + 1) = ((k + 1 : Nat) : Int) := by rw [wrap_id (by omega) (by omega)]; simp
    have hgt : (l.map fun i => kn (a i) (b i) (c i) (d i) (e i))[k]? = some (.ag [.v (.int .i64 (a (l.getD k 0))), .v (.int .i64 (b (l.getD k 0))), .v (.int .i64 (c (l.getD k 0))), .v (.int .i64 (d (l.getD k 0))), .v (.int .i64 (e (l.getD k 0)))]) := by
      rw [List.getElem?_map, getD_at (d := 0) h1]; rfl
    have hlen : E.length ≤ 1000 := by rw [hE, List.length_map, List.length_take]; omega
    have q1 : (E.length + 1) * 8 ≤ 100000000000000 := by omega
    have q2 : E.length + 1 ≤ 100000000000000 := by omega
    have next := ih (k + 1) (by omega) (E ++ [a (l.getD k 0)]) (by rw [hE, take_snoc (d := 0) h1, List.map_append]; rfl)
    rw [List.length_append, List.map_append] at next
    refine W_loop (W_run 80 ?_)
    simp (maxSteps := 2000000) only [SA, Nat.reduceDiv, Nat.reduceSub, Nat.reduceAdd, Int.reduceLT, Int.reduceLE, Int.reduceToNat, Nat.reduceMul, Nat.reduceEqDiff, reduceCtorEq, Nat.reduceBEq, Nat.reduceLeDiff, Nat.reduceLT, xf49_L0, ai, rw5, lt_cast, h0, hgt, wi, q1, q2, Go.Proofs.Eng.elems, List.map_cons, List.map_nil]
    exact next _ _ _ _ _ _ _ _ _ _ _ _ _ _ _ _ _ _
theorem named57R {q : Nat × Option Ob} (j : Nat) : Go.Proofs.Eng.look [(1008, q)] j = Go.Proofs.Eng.look [(1007, (0, (none : Option Ob))), (1008, q)] j := by
  simp only [Go.Proofs.Eng.look]
  by_cases h : 1007 = j
  · subst h; simp
  · simp [h]
theorem col0_R (a b c d e : Nat → Int) (l : List Nat) (hn : l.length ≤ 1000) {n : Nat} (hnn : (l.map a).length = n) : ∃ η', (∃ r7, η' = [(1007, r7), (1008, (1, some ⟨3, 1, (l.map a).map ai⟩))]) ∧ RunsR Try.prog xf 1000 49 [rw5 a b c d e l, ai 0] [] (.os 1008 1 n 1 0 n) η' := by
  refine ofRE (fn := xf49) (by kernel_rfl) (W_run 80 ?_)
  simp (maxSteps := 2000000) only [SA, Nat.reduceDiv, Nat.reduceSub, Nat.reduceAdd, Int.reduceLT, Int.reduceLE, Int.reduceToNat, Nat.reduceMul, Nat.reduceEqDiff, reduceCtorEq, Nat.reduceBEq, Nat.reduceLeDiff, Nat.reduceLT, xf49, ai, rw5, List.map_nil]
  refine W_alone (W_named named57R (col0R_loop a b c d e l hn _ _ (fun E hE r7 j2 j3 j6 j7 j8 j12 j13 j14 j15 j16 j17 j18 j19 j20 j21 j22 => W_run 80 ?_) l.length 0 (by omega) [] rfl _ _ _ _ _ _ _ _ _ _ _ _ _ _ _ _ _ _))
  simp (maxSteps := 2000000) only [SA, Nat.reduceDiv, Nat.reduceSub, Nat.reduceAdd, Int.reduceLT, Int.reduceLE, Int.reduceToNat, Nat.reduceMul, Nat.reduceEqDiff, reduceCtorEq, Nat.reduceBEq, Nat.reduceLeDiff, Nat.reduceLT, xf49_R0, ai]
  subst hE
  rw [hnn]
  exact W_ret1 (WX_nil ⟨.inl rfl, _, rfl, rfl, r7, rfl⟩)
theorem prices_N {V : Int} {w : List Int} (hg : gX V w) (f : Bool) {D : Nat → Int} {S : Nat → Nat} (hB : Back (pf w) V w.length D S) : RunsN Try.prog xf 17 [tx f V w] (.tup [al false (pl D w.length), ai 0]) := by
  obtain ⟨L, C, N, hA⟩ := Ahead.ex hg.pos
  have n10 := hg.n10
  have n00 : ((0 : Int) != 0) = false := rfl
  have q1 : w.length ≤ w.length + 1 := by omega
  obtain ⟨η', ⟨r7, rfl⟩, hcol⟩ := col0_R D (iS S) L C (iS N) (List.range w.length) (by rw [List.length_range]; omega) (n := w.length) (by simp)
  have hcl : ((List.range w.length).map D).length = w.length := by simp
  refine RunsN.ofW (fn := xf17) (by kernel_rfl) (W_run 80 ?_)
  simp (maxSteps := 2000000) only [SA, Nat.reduceDiv, Nat.reduceSub, Nat.reduceAdd, Int.reduceLT, Int.reduceLE, Int.reduceToNat, Nat.reduceMul, Nat.reduceEqDiff, reduceCtorEq, Nat.reduceBEq, Nat.reduceLeDiff, Nat.reduceLT, xf17, ai, al, tx]
  refine W_call (args := [tx f V w]) rfl (noRefs_1 (noRef_tx _ _ _)) (check_run hg f) rfl (W_run 8 ?_)
  simp (maxSteps := 2000000) only [SA, Nat.reduceDiv, Nat.reduceSub, Nat.reduceAdd, Int.reduceLT, Int.reduceLE, Int.reduceToNat, Nat.reduceMul, Nat.reduceEqDiff, reduceCtorEq, Nat.reduceBEq, Nat.reduceLeDiff, Nat.reduceLT, ai, al, tx, n00]
  refine W_frF [.none, .none, .none, .none, .none, .any, .none, .none] (by kernel_rfl) (W_run 80 ?_)
  simp (maxSteps := 2000000) only [SA, Nat.reduceDiv, Nat.reduceSub, Nat.reduceAdd, Int.reduceLT, Int.reduceLE, Int.reduceToNat, Nat.reduceMul, Nat.reduceEqDiff, reduceCtorEq, Nat.reduceBEq, Nat.reduceLeDiff, Nat.reduceLT, ai, al, tx]
  refine W_call (args := [tx f V w]) rfl (noRefs_1 (noRef_tx _ _ _)) (places_run hg f hB hA) (noRef_R5 _ _ _ _ _ _) (W_run 80 ?_)
  simp (maxSteps := 2000000) only [SA, Nat.reduceDiv, Nat.reduceSub, Nat.reduceAdd, Int.reduceLT, Int.reduceLE, Int.reduceToNat, Nat.reduceMul, Nat.reduceEqDiff, reduceCtorEq, Nat.reduceBEq, Nat.reduceLeDiff, Nat.reduceLT, ai, al, tx]
  refine W_call (args := [tx f V w]) rfl (noRefs_1 (noRef_tx _ _ _)) (last_run V w f) rfl (W_run 80 ?_)
  simp (maxSteps := 2000000) only [SA, Nat.reduceDiv, Nat.reduceSub, Nat.reduceAdd, Int.reduceLT, Int.reduceLE, Int.reduceToNat, Nat.reduceMul, Nat.reduceEqDiff, reduceCtorEq, Nat.reduceBEq, Nat.reduceLeDiff, Nat.reduceLT, ai, al, tx, R5_len, R5_take, q1]
  refine W_callR (kb' := 1000) (args := [rw5 D (iS S) L C (iS N) (List.range w.length), ai 0]) rfl hcol rfl (W_run 80 ?_)
  simp (maxSteps := 2000000) only [SA, Nat.reduceDiv, Nat.reduceSub, Nat.reduceAdd, Int.reduceLT, Int.reduceLE, Int.reduceToNat, Nat.reduceMul, Nat.reduceEqDiff, reduceCtorEq, Nat.reduceBEq, Nat.reduceLeDiff, Nat.reduceLT, ai, al]
  exact W_ret1 (WX_nil ⟨.inl rfl, _, rfl, reifyN_tup (l := (List.range w.length).map D) (by simp) rfl⟩)
theorem ro_loopR (V : Int) (w : List Int) (hg : gX V w) (f : Bool) (x0 : AV) (K : List Fr) (Q : Out → Cfg → Prop)
    (E0 : List Nat) (l0 b0 : Nat) (hR : ∀ (E : List Nat) (l b : Nat) (E' : List Nat) (l' : Nat), True)
    (hK : ∀ (E' : List Nat) (l' b : Nat), Ro (pf w) V w.length E0 l0 b0 E' l' → ∀ (r9 r10 : Nat × Option Ob), ∀ j4 j5 j9 j10 j11 j12 j13 j14 j15 j16 j17 j18 j19 j20 j21 j22 j23 j24 j25 j26 j27 j28 j29 j30 j31 j32 j33 j34 j35 j36 j37 j38 j39 j40 j41 j42 j43 j44 j45 j46 j47 j48 j49 j50 j51 : AV, WX Try.prog (RelU Try.prog xf) 1000 K .ret ⟨(x0 :: (.os 2005 1 E'.length 1 0 E'.length) :: (ai l') :: (.ptr (tx f V w)) :: j4 :: j5 :: (.os 2005 1 E'.length 1 0 E'.length) :: (ai l') :: (ai b) :: j9 :: j10 :: j11 :: j12 :: j13 :: j14 :: j15 :: j16 :: j17 :: j18 :: j19 :: j20 :: j21 :: j22 :: j23 :: j24 :: j25 :: j26 :: j27 :: j28 :: j29 :: j30 :: j31 :: j32 :: j33 :: j34 :: j35 :: j36 :: j37 :: j38 :: j39 :: j40 :: j41 :: j42 :: j43 :: j44 :: j45 :: j46 :: j47 :: j48 :: j49 :: j50 :: j51 :: []), [(1009, r9), (1010, r10), (2005, (1, some ⟨3, 1, (nl E').map ai⟩))]⟩ Q) :
    ∀ (m b : Nat), w.length - b ≤ m → ∀ (E : List Nat) (l : Nat), E.length ≤ w.length + 1 → l ≤ b → Asc w.length E l b → (∀ E' l', Ro (pf w) V w.length E l b E' l' → Ro (pf w) V w.length E0 l0 b0 E' l') → ∀ (g9 : Nat) (o9 : Option Ob) (g10 : Nat) (o10 : Option Ob), ∀ j4 j5 j9 j10 j11 j12 j13 j14 j15 j16 j17 j18 j19 j20 j21 j22 j23 j24 j25 j26 j27 j28 j29 j30 j31 j32 j33 j34 j35 j36 j37 j38 j39 j40 j41 j42 j43 j44 j45 j46 j47 j48 j49 j50 j51 : AV, W Try.prog (RelU Try.prog xf) 1000 (.code (.loop xf53_L0) :: .blk 0 :: .stop :: K) ⟨(x0 :: (.os 2005 1 E.length 1 0 E.length) :: (ai l) :: (.ptr (tx f V w)) :: j4 :: j5 :: nilA :: (ai 0) :: (ai b) :: j9 :: j10 :: j11 :: j12 :: j13 :: j14 :: j15 :: j16 :: j17 :: j18 :: j19 :: j20 :: j21 :: j22 :: j23 :: j24 :: j25 :: j26 :: j27 :: j28 :: j29 :: j30 :: j31 :: j32 :: j33 :: j34 :: j35 :: j36 :: j37 :: j38 :: j39 :: j40 :: j41 :: j42 :: j43 :: j44 :: j45 :: j46 :: j47 :: j48 :: j49 :: j50 :: j51 :: []), [(1009, (g9, o9)), (1010, (g10, o10)), (2005, (1, some ⟨3, 1, (nl E).map ai⟩))]⟩ Q := by
  have n10 := hg.n10
  intro m
  induction m with
  | zero => intro b hm E l hEl hlb hA; have := hA.first; have := hA.le l (Nat.le_refl _) hA.lt; omega
  | succ m ih =>
    intro b hm E l hEl hlb hA himp g9 o9 g10 o10 j4 j5 j9 j10 j11 j12 j13 j14 j15 j16 j17 j18 j19 j20 j21 j22 j23 j24 j25 j26 j27 j28 j29 j30 j31 j32 j33 j34 j35 j36 j37 j38 j39 j40 j41 j42 j43 j44 j45 j46 j47 j48 j49 j50 j51
    have hl := hA.lt
    have hbe := hA.first
    have hen := hA.le l (Nat.le_refl _) hl
    obtain ⟨e, hk⟩ := Kp.ex hg.pos (i := b) _ (E.getD l 0) (Nat.le_refl _) hbe hen
    have hkr := kept_run hg f hen hk
    have hgt := get_nl hl
    have hnl := nl_len E
    have wi : IntKind.i64.wrap ((l : Int) + 1) = ((l + 1 : Nat) : Int) := by rw [wrap_id (by omega) (by omega)]; simp
    have llt : (l : Int) < E.length := by omega
    have lnn : (0 : Int) ≤ l := by omega
    generalize hx : E.getD l 0 = x at *
    refine W_loop (W_run 160 ?_)
    simp (maxSteps := 2000000) only [SA, Nat.reduceDiv, Nat.reduceSub, Nat.reduceAdd, Int.reduceLT, Int.reduceLE, Int.reduceToNat, Nat.reduceMul, Nat.reduceEqDiff, reduceCtorEq, Nat.reduceBEq, Nat.reduceLeDiff, Nat.reduceLT, xf53_L0, ai, al, tx, hgt, hnl, llt, lnn, List.length_map, Int.toNat_natCast, Go.Proofs.Eng.fillA, List.map_cons, List.map_nil]
    refine W_call (args := [tx f V w, spn b x]) rfl (noRefs_2 (noRef_tx _ _ _) rfl) hkr rfl (W_run 160 ?_)
    by_cases hex : e = x
    · have d : ((e : Int) == x) = true := by simp [hex]
      have hro := himp E l (.stop E l b hl (by rw [hx]; exact hbe) (by rw [hx]; exact hen) (by rw [hx, ← hex]; exact hk.ok))
      simp (maxSteps := 2000000) only [SA, Nat.reduceDiv, Nat.reduceSub, Nat.reduceAdd, Int.reduceLT, Int.reduceLE, Int.reduceToNat, Nat.reduceMul, Nat.reduceEqDiff, reduceCtorEq, Nat.reduceBEq, Nat.reduceLeDiff, Nat.reduceLT, ai, al, tx, spn, shA, raw_eqs, rawP, opA, argT, Option.elim, d, List.map_cons, List.map_nil]
      exact W_ret1 (WX_pop (hK E l b hro _ _ _ _ _ _ _ _ _ _ _ _ _ _ _ _ _ _ _ _ _ _ _ _ _ _ _ _ _ _ _ _ _ _ _ _ _ _ _ _ _ _ _ _ _ _ _))
    · have hlt : e < x := by have := hk.hi; omega
      have d : ((e : Int) == x) = false := by rw [beq_eq_false_iff_ne]; omega
      have hset : ((nl E).map ai).set l (.v (.int .i64 (e : Nat))) = (nl (E.set l e)).map ai := by unfold nl; rw [List.map_set, List.map_set]; rfl
      have hsl : (E.set l e).length = E.length := List.length_set
      have hA2 := hA.next (e := e) (by rw [hx]; exact hlt)
      have himp2 : ∀ E' l', Ro (pf w) V w.length (ext w.length (E.set l e) (l + 1)) (l + 1) e E' l' → Ro (pf w) V w.length E0 l0 b0 E' l' := fun E' l' h => himp E' l' (.go E l b e E' l' hl (by rw [hx]; exact hen) (by rw [hx]; exact hk) (by rw [hx]; exact hlt) h)
      have hke := hk.lo
      by_cases hc : l + 1 = E.length
      · have d2 : (((l + 1 : Nat) : Int) == (E.length : Int)) = true := by rw [hc]; simp
        have hext : ext w.length (E.set l e) (l + 1) = E.set l e ++ [w.length] := by unfold ext; rw [if_pos (by omega)]
        rw [hext] at hA2 himp2
        have next := ih e (by omega) (E.set l e ++ [w.length]) (l + 1) (by rw [List.length_append, hsl]; simp; omega) (by omega) hA2 himp2
        rw [List.length_append, hsl, show (nl (E.set l e ++ [w.length])).map ai = (nl (E.set l e)).map ai ++ [ai (w.length : Nat)] by unfold nl; simp] at next
        have q1 : (E.length + 1) * 8 ≤ 100000000000000 := by omega
        have q2 : E.length + 1 ≤ 100000000000000 := by omega
        have hsl2 : ((nl (E.set l e)).map ai).length = E.length := by unfold nl; simp
        simp (maxSteps := 2000000) only [SA, Nat.reduceDiv, Nat.reduceSub, Nat.reduceAdd, Int.reduceLT, Int.reduceLE, Int.reduceToNat, Nat.reduceMul, Nat.reduceEqDiff, reduceCtorEq, Nat.reduceBEq, Nat.reduceLeDiff, Nat.reduceLT, ai, al, tx, spn, shA, raw_eqs, rawP, opA, argT, Option.elim, d, d2, wi, hgt, hnl, llt, lnn, hset, List.length_map, Int.toNat_natCast, List.map_cons, List.map_nil]
        refine W_call (args := [tx f V w]) rfl (noRefs_1 (noRef_tx _ _ _)) (last_run V w f) rfl (W_run 160 ?_)
        simp (maxSteps := 2000000) only [SA, Nat.reduceDiv, Nat.reduceSub, Nat.reduceAdd, Int.reduceLT, Int.reduceLE, Int.reduceToNat, Nat.reduceMul, Nat.reduceEqDiff, reduceCtorEq, Nat.reduceBEq, Nat.reduceLeDiff, Nat.reduceLT, ai, al, tx, q1, q2, hsl2, Go.Proofs.Eng.elems, List.map_cons, List.map_nil]
        exact next _ _ _ _ _ _ _ _ _ _ _ _ _ _ _ _ _ _ _ _ _ _ _ _ _ _ _ _ _ _ _ _ _ _ _ _ _ _ _ _ _ _ _ _ _ _ _ _ _
      · have d2 : (((l + 1 : Nat) : Int) == (E.length : Int)) = false := by rw [beq_eq_false_iff_ne]; omega
        have hext : ext w.length (E.set l e) (l + 1) = E.set l e := by unfold ext; rw [if_neg (by omega)]
        rw [hext] at hA2 himp2
        have next := ih e (by omega) (E.set l e) (l + 1) (by omega) (by omega) hA2 himp2
        rw [hsl] at next
        simp (maxSteps := 2000000) only [SA, Nat.reduceDiv, Nat.reduceSub, Nat.reduceAdd, Int.reduceLT, Int.reduceLE, Int.reduceToNat, Nat.reduceMul, Nat.reduceEqDiff, reduceCtorEq, Nat.reduceBEq, Nat.reduceLeDiff, Nat.reduceLT, ai, al, tx, spn, shA, raw_eqs, rawP, opA, argT, Option.elim, d, d2, wi, hgt, hnl, llt, lnn, hset, List.length_map, Int.toNat_natCast, List.map_cons, List.map_nil]
        exact next _ _ _ _ _ _ _ _ _ _ _ _ _ _ _ _ _ _ _ _ _ _ _ _ _ _ _ _ _ _ _ _ _ _ _ _ _ _ _ _ _ _ _ _ _ _ _ _ _
theorem named910R {q : Nat × Option Ob} (j : Nat) : Go.Proofs.Eng.look [(2005, q)] j = Go.Proofs.Eng.look [(1009, (0, (none : Option Ob))), (1010, (0, (none : Option Ob))), (2005, q)] j := by
  simp only [Go.Proofs.Eng.look]
  by_cases h : 1009 = j
  · subst h; simp
  · by_cases h2 : 1010 = j
    · subst h2; simp
    · simp [h, h2]
/-- .. as a row made new, from the first line on -/
theorem over_R {V : Int} {w : List Int} (hg : gX V w) (f g : Bool) {E : List Nat} (hEl : E.length ≤ w.length) (hA : Asc w.length E 0 0) :
    ∃ E' l' η', Ro (pf w) V w.length E 0 0 E' l' ∧ (∃ r9 r10, η' = [(1009, r9), (1010, r10), (2005, (1, some ⟨3, 1, (nl E').map ai⟩))]) ∧ RunsR Try.prog xf 1000 53 [tx f V w, al g (nl E), ai 0] [] (.tup [.os 2005 1 E'.length 1 0 E'.length, ai (l' : Nat)]) η' := by
  have n10 := hg.n10
  have hnl := nl_len E
  have hl := hA.lt
  have hcl := clone2_run g (nl E) (by omega) [] rfl
  rw [hnl] at hcl
  have hL := fun K Q hK => ro_loopR V w hg f (tx f V w) K Q E 0 0 (fun _ _ _ _ _ => trivial) hK _ 0 (Nat.le_refl _) E 0 (by omega) (Nat.le_refl _) hA (fun _ _ h => h)
  have key : W Try.prog (RelU Try.prog xf) 1000 [.code xf53.body] (Go.Proofs.Eng.start xf53 [tx f V w, al g (nl E), ai 0] []) fun o c => (o = .ret ∨ o = .normal) ∧ ∃ E' l', Ro (pf w) V w.length E 0 0 E' l' ∧ (∃ r9 r10, c.η = [(1009, r9), (1010, r10), (2005, (1, some ⟨3, 1, (nl E').map ai⟩))]) ∧ xf53.results.mapM (resOf Try.prog c) = some [.os 2005 1 E'.length 1 0 E'.length, ai (l' : Nat)] := by
    refine W_run 120 ?_
    simp (maxSteps := 2000000) only [SA, Nat.reduceDiv, Nat.reduceSub, Nat.reduceAdd, Int.reduceLT, Int.reduceLE, Int.reduceToNat, Nat.reduceMul, Nat.reduceEqDiff, reduceCtorEq, Nat.reduceBEq, Nat.reduceLeDiff, Nat.reduceLT, xf53, ai, al, tx]
    refine W_callR (kb' := 2000) (args := [al g (nl E)]) rfl hcl rfl (W_run 120 ?_)
    have d : decide ((0 : Int) < 0) = false := rfl
    simp (maxSteps := 2000000) only [SA, Nat.reduceDiv, Nat.reduceSub, Nat.reduceAdd, Int.reduceLT, Int.reduceLE, Int.reduceToNat, Nat.reduceMul, Nat.reduceEqDiff, reduceCtorEq, Nat.reduceBEq, Nat.reduceLeDiff, Nat.reduceLT, ai, al, tx, d, Go.Proofs.Eng.putAt]
    refine W_alone (W_named named910R (hL _ _ (fun E' l' b hro r9 r10 j4 j5 j9 j10 j11 j12 j13 j14 j15 j16 j17 j18 j19 j20 j21 j22 j23 j24 j25 j26 j27 j28 j29 j30 j31 j32 j33 j34 j35 j36 j37 j38 j39 j40 j41 j42 j43 j44 j45 j46 j47 j48 j49 j50 j51 => ?_) _ _ _ _ _ _ _ _ _ _ _ _ _ _ _ _ _ _ _ _ _ _ _ _ _ _ _ _ _ _ _ _ _ _ _ _ _ _ _ _ _ _ _ _ _ _ _ _ _))
    exact WX_pop (WX_nil ⟨.inl rfl, E', l', hro, ⟨r9, r10, rfl⟩, rfl⟩)
  obtain ⟨o, c, h1, ho, E', l', hro, ⟨r9, r10, hη⟩, h3⟩ := key
  exact ⟨E', l', c.η, hro, ⟨r9, r10, hη⟩, RunsR.ofW (fn := xf53) (by kernel_rfl) ⟨o, c, h1, ho, _, h3, rfl, rfl⟩⟩
theorem full_N {V : Int} {w : List Int} (hg : gX V w) (f : Bool) {F : List Nat} (hF : Gd (pf w) V w.length 0 F) : RunsN Try.prog xf 29 [tx f V w] (.tup [al false (nl F), ai 0]) := by
  have n1 := hg.n1
  have n00 : ((0 : Int) != 0) = false := rfl
  have hA : Asc w.length [w.length] 0 0 := by
    refine ⟨by simp, by simp; omega, fun i h1 h2 => by simp at h2, fun i h1 h2 => ?_⟩
    have : i = 0 := by simp at h2; omega
    subst this; simp
  obtain ⟨E', l', η', hro, ⟨r9, r10, rfl⟩, hrun⟩ := over_R hg f true (E := [w.length]) (by simp; omega) hA
  have hG : Gd (pf w) V w.length 0 E' := ro_gd hro ⟨[], rfl, rfl, PreG.nil _ _ _⟩ (by omega)
  have e := hG.uniq hg.pos hF
  subst e
  refine RunsN.ofW (fn := xf29) (by kernel_rfl) (W_run 80 ?_)
  simp (maxSteps := 2000000) only [SA, Nat.reduceDiv, Nat.reduceSub, Nat.reduceAdd, Int.reduceLT, Int.reduceLE, Int.reduceToNat, Nat.reduceMul, Nat.reduceEqDiff, reduceCtorEq, Nat.reduceBEq, Nat.reduceLeDiff, Nat.reduceLT, xf29, ai, al, tx]
  refine W_call (args := [tx f V w]) rfl (noRefs_1 (noRef_tx _ _ _)) (check_run hg f) rfl (W_run 8 ?_)
  simp (maxSteps := 2000000) only [SA, Nat.reduceDiv, Nat.reduceSub, Nat.reduceAdd, Int.reduceLT, Int.reduceLE, Int.reduceToNat, Nat.reduceMul, Nat.reduceEqDiff, reduceCtorEq, Nat.reduceBEq, Nat.reduceLeDiff, Nat.reduceLT, ai, al, tx, n00]
  refine W_frF [.none, .none, .none, .none, .any, .none, .none, .none, .none, .none] (by kernel_rfl) (W_run 80 ?_)
  simp (maxSteps := 2000000) only [SA, Nat.reduceDiv, Nat.reduceSub, Nat.reduceAdd, Int.reduceLT, Int.reduceLE, Int.reduceToNat, Nat.reduceMul, Nat.reduceEqDiff, reduceCtorEq, Nat.reduceBEq, Nat.reduceLeDiff, Nat.reduceLT, ai, al, tx]
  refine W_call (args := [tx f V w]) rfl (noRefs_1 (noRef_tx _ _ _)) (last_run V w f) rfl (W_run 80 ?_)
  simp (maxSteps := 2000000) only [SA, Nat.reduceDiv, Nat.reduceSub, Nat.reduceAdd, Int.reduceLT, Int.reduceLE, Int.reduceToNat, Nat.reduceMul, Nat.reduceEqDiff, reduceCtorEq, Nat.reduceBEq, Nat.reduceLeDiff, Nat.reduceLT, ai, al, tx, List.map_cons, List.map_nil]
  refine W_callR (kb' := 1000) (args := [tx f V w, al true (nl [w.length]), ai 0]) rfl hrun rfl (W_run 80 ?_)
  simp (maxSteps := 2000000) only [SA, Nat.reduceDiv, Nat.reduceSub, Nat.reduceAdd, Int.reduceLT, Int.reduceLE, Int.reduceToNat, Nat.reduceMul, Nat.reduceEqDiff, reduceCtorEq, Nat.reduceBEq, Nat.reduceLeDiff, Nat.reduceLT, ai, al, tx]
  exact W_ret1 (WX_nil ⟨.inl rfl, _, rfl, reifyN_tup (l := nl E') (by rw [nl_len]) rfl⟩)
end Go.Proofs.Ytdmffkknghianaa

