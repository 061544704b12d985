/-
  Package line: First, Least, Count, Prices, Starts.
-/
import Derived.Test.YtdmffkknghianaaMf
set_option linter.unusedSimpArgs false
set_option linter.unusedVariables false
namespace Go.Proofs.Ytdmffkknghianaa
open Go Go.Proofs.Eng
set_option maxRecDepth 100000
set_option maxHeartbeats 4000000
theorem noRef_R5 (m : Nat) (a b c d e : Nat → Int) : noRef (.sl 5 false (R5 m a b c d e)) = true := noRefs_of fun x hx => by unfold R5 at hx; obtain ⟨z, _, rfl⟩ := List.mem_map.1 hx; rfl
theorem R5_at0 (m : Nat) (a b c d e : Nat → Int) : (R5 (m + 1) a b c d e)[0]? = some (.ag [.v (.int .i64 (a 0)), .v (.int .i64 (b 0)), .v (.int .i64 (c 0)), .v (.int .i64 (d 0)), .v (.int .i64 (e 0))]) := R5_get a b c d e (by omega)
def rw5 (a b c d e : Nat → Int) (l : List Nat) : AV := .sl 5 false (l.map fun i => kn (a i) (b i) (c i) (d i) (e i))
theorem noRef_rw5 (a b c d e : Nat → Int) (l : List Nat) : noRef (rw5 a b c d e l) = true := noRefs_of fun x hx => by obtain ⟨z, _, rfl⟩ := List.mem_map.1 hx; rfl
theorem named57 {q : Nat × Option Ob} (j : Nat) : Go.Proofs.Eng.look [(8, q)] j = Go.Proofs.Eng.look [(7, (0, (none : Option Ob))), (8, q)] j := named78 j
theorem col0_loop (a b c d e : Nat → Int) (l : List Nat) (hn : l.length ≤ 1000) (K : List Fr) (Q : Out → Cfg → Prop)
    (hK : ∀ E : List Int, E = l.map a → ∀ r7 : Nat × Option Ob, ∀ j2 j3 j6 j7 j8 j12 j13 j14 j15 j16 j17 j18 j19 j20 j21 j22 : AV, W Try.prog (RelU Try.prog xf) 0 K ⟨((rw5 a b c d e l) :: (ai 0) :: j2 :: j3 :: nilA :: (.os 8 1 E.length 1 0 E.length) :: j6 :: j7 :: j8 :: (rw5 a b c d e l) :: (ai l.length) :: (ai l.length) :: j12 :: j13 :: j14 :: j15 :: j16 :: j17 :: j18 :: j19 :: j20 :: j21 :: j22 :: []), [(7, r7), (8, (1, some ⟨3, 1, E.map ai⟩))]⟩ Q) :
    ∀ (m k : Nat), k + m = l.length → ∀ E : List Int, E = (l.take k).map a → ∀ (g7 : Nat) (o7 : Option Ob), ∀ j2 j3 j6 j7 j8 j12 j13 j14 j15 j16 j17 j18 j19 j20 j21 j22 : AV, W Try.prog (RelU Try.prog xf) 0 (.code (.loop xf49_L0) :: .blk 0 :: .stop :: K) ⟨((rw5 a b c d e l) :: (ai 0) :: j2 :: j3 :: nilA :: (.os 8 1 E.length 1 0 E.length) :: j6 :: j7 :: j8 :: (rw5 a b c d e l) :: (ai l.length) :: (ai k) :: j12 :: j13 :: j14 :: j15 :: j16 :: j17 :: j18 :: j19 :: j20 :: j21 :: j22 :: []), [(7, (g7, o7)), (8, (1, some ⟨3, 1, E.map ai⟩))]⟩ Q := by
  intro m
  induction m with
  | zero =>
    intro k hk E hE g7 o7 j2 j3 j6 j7 j8 j12 j13 j14 j15 j16 j17 j18 j19 j20 j21 j22
    have ek : k = l.length := by omega
    have h0 : decide (k < l.length) = false := decide_eq_false (by omega)
    refine W_loop (W_run 80 ?_)
    simp (maxSteps := 2000000) only [SA, Nat.reduceDiv, Nat.reduceSub, Nat.reduceAdd, Int.reduceLT, Int.reduceLE, Int.reduceToNat, Nat.reduceMul, Nat.reduceEqDiff, reduceCtorEq, Nat.reduceBEq, Nat.reduceLeDiff, Nat.reduceLT, xf49_L0, ai, rw5, lt_cast, h0]
    rw [ek]
    exact W_stop (hK E (by rw [hE, List.take_of_length_le (by omega)]) _ _ _ _ _ _ _ _ _ _ _ _ _ _ _ _ _)
  | succ m ih =>
    intro k hk E hE g7 o7 j2 j3 j6 j7 j8 j12 j13 j14 j15 j16 j17 j18 j19 j20 j21 j22
    have h1 : k < l.length := by omega
    have h0 : decide (k < l.length) = true := decide_eq_true h1
    have wi : IntKind.i64.wrap ((k : Int) + 1) = ((k + 1 : Nat) : Int) := by rw [wrap_id (by omega) (by omega)]; simp
    have hgt : (l.map fun i => kn (a i) (b i) (c i) (d i) (e i))[k]? = some (.ag [.v (.int .i64 (a (l.getD k 0))), .v (.int .i64 (b (l.getD k 0))), .v (.int .i64 (c (l.getD k 0))), .v (.int .i64 (d (l.getD k 0))), .v (.int .i64 (e (l.getD k 0)))]) := by
      rw [List.getElem?_map, getD_at (d := 0) h1]; rfl
    have hlen : E.length ≤ 1000 := by rw [hE, List.length_map, List.length_take]; omega
    have q1 : (E.length + 1) * 8 ≤ 100000000000000 := by omega
    have q2 : E.length + 1 ≤ 100000000000000 := by omega
    have next := ih (k + 1) (by omega) (E ++ [a (l.getD k 0)]) (by rw [hE, take_snoc (d := 0) h1, List.map_append]; rfl)
    rw [List.length_append, List.map_append] at next
    refine W_loop (W_run 80 ?_)
    simp (maxSteps := 2000000) only [SA, Nat.reduceDiv, Nat.reduceSub, Nat.reduceAdd, Int.reduceLT, Int.reduceLE, Int.reduceToNat, Nat.reduceMul, Nat.reduceEqDiff, reduceCtorEq, Nat.reduceBEq, Nat.reduceLeDiff, Nat.reduceLT, xf49_L0, ai, rw5, lt_cast, h0, hgt, wi, q1, q2, Go.Proofs.Eng.elems, List.map_cons, List.map_nil]
    exact next _ _ _ _ _ _ _ _ _ _ _ _ _ _ _ _ _ _
theorem col0_run (a b c d e : Nat → Int) (l : List Nat) (hn : l.length ≤ 1000) : Runs Try.prog xf 49 [rw5 a b c d e l, ai 0] (al false (l.map a)) := by
  refine Runs.ofW (fn := xf49) 20 (by kernel_rfl) (W_run 80 ?_)
  simp (maxSteps := 2000000) only [SA, Nat.reduceDiv, Nat.reduceSub, Nat.reduceAdd, Int.reduceLT, Int.reduceLE, Int.reduceToNat, Nat.reduceMul, Nat.reduceEqDiff, reduceCtorEq, Nat.reduceBEq, Nat.reduceLeDiff, Nat.reduceLT, xf49, ai, rw5, List.map_nil]
  refine W_alone (W_named named57 (col0_loop a b c d e l hn _ _ (fun E hE r7 j2 j3 j6 j7 j8 j12 j13 j14 j15 j16 j17 j18 j19 j20 j21 j22 => W_run 80 ?_) l.length 0 (by omega) [] rfl _ _ _ _ _ _ _ _ _ _ _ _ _ _ _ _ _ _))
  simp (maxSteps := 2000000) only [SA, Nat.reduceDiv, Nat.reduceSub, Nat.reduceAdd, Int.reduceLT, Int.reduceLE, Int.reduceToNat, Nat.reduceMul, Nat.reduceEqDiff, reduceCtorEq, Nat.reduceBEq, Nat.reduceLeDiff, Nat.reduceLT, xf49_R0, ai]
  subst hE
  have h := reify_ints (η := [(7, r7), (8, (1, some ⟨3, 1, (l.map a).map ai⟩))]) (k := 8) (g := 1) (e := 3) (l := l.map a) rfl
  exact W_ret1 (WX_nil ⟨.inl rfl, _, rfl, h⟩)
theorem col1_loop (a b c d e : Nat → Int) (l : List Nat) (hn : l.length ≤ 1000) (K : List Fr) (Q : Out → Cfg → Prop)
    (hK : ∀ E : List Int, E = l.map b → ∀ r7 : Nat × Option Ob, ∀ j2 j3 j6 j7 j8 j12 j13 j14 j15 j16 j17 j18 j19 j20 j21 j22 : AV, W Try.prog (RelU Try.prog xf) 0 K ⟨((rw5 a b c d e l) :: (ai 1) :: j2 :: j3 :: nilA :: (.os 8 1 E.length 1 0 E.length) :: j6 :: j7 :: j8 :: (rw5 a b c d e l) :: (ai l.length) :: (ai l.length) :: j12 :: j13 :: j14 :: j15 :: j16 :: j17 :: j18 :: j19 :: j20 :: j21 :: j22 :: []), [(7, r7), (8, (1, some ⟨3, 1, E.map ai⟩))]⟩ Q) :
    ∀ (m k : Nat), k + m = l.length → ∀ E : List Int, E = (l.take k).map b → ∀ (g7 : Nat) (o7 : Option Ob), ∀ j2 j3 j6 j7 j8 j12 j13 j14 j15 j16 j17 j18 j19 j20 j21 j22 : AV, W Try.prog (RelU Try.prog xf) 0 (.code (.loop xf49_L0) :: .blk 0 :: .stop :: K) ⟨((rw5 a b c d e l) :: (ai 1) :: j2 :: j3 :: nilA :: (.os 8 1 E.length 1 0 E.length) :: j6 :: j7 :: j8 :: (rw5 a b c d e l) :: (ai l.length) :: (ai k) :: j12 :: j13 :: j14 :: j15 :: j16 :: j17 :: j18 :: j19 :: j20 :: j21 :: j22 :: []), [(7, (g7, o7)), (8, (1, some ⟨3, 1, E.map ai⟩))]⟩ Q := by
  intro m
  induction m with
  | zero =>
    intro k hk E hE g7 o7 j2 j3 j6 j7 j8 j12 j13 j14 j15 j16 j17 j18 j19 j20 j21 j22
    have ek : k = l.length := by omega
    have h0 : decide (k < l.length) = false := decide_eq_false (by omega)
    refine W_loop (W_run 80 ?_)
    simp (maxSteps := 2000000) only [SA, Nat.reduceDiv, Nat.reduceSub, Nat.reduceAdd, Int.reduceLT, Int.reduceLE, Int.reduceToNat, Nat.reduceMul, Nat.reduceEqDiff, reduceCtorEq, Nat.reduceBEq, Nat.reduceLeDiff, Nat.reduceLT, xf49_L0, ai, rw5, lt_cast, h0]
    rw [ek]
    exact W_stop (hK E (by rw [hE, List.take_of_length_le (by omega)]) _ _ _ _ _ _ _ _ _ _ _ _ _ _ _ _ _)
  | succ m ih =>
    intro k hk E hE g7 o7 j2 j3 j6 j7 j8 j12 j13 j14 j15 j16 j17 j18 j19 j20 j21 j22
    have h1 : k < l.length := by omega
    have h0 : decide (k < l.length) = true := decide_eq_true h1
    have wi : IntKind.i64.wrap ((k : Int) + 1) = ((k + 1 : Nat) : Int) := by rw [wrap_id (by omega) (by omega)]; simp
    have hgt : (l.map fun i => kn (a i) (b i) (c i) (d i) (e i))[k]? = some (.ag [.v (.int .i64 (a (l.getD k 0))), .v (.int .i64 (b (l.getD k 0))), .v (.int .i64 (c (l.getD k 0))), .v (.int .i64 (d (l.getD k 0))), .v (.int .i64 (e (l.getD k 0)))]) := by
      rw [List.getElem?_map, getD_at (d := 0) h1]; rfl
    have hlen : E.length ≤ 1000 := by rw [hE, List.length_map, List.length_take]; omega
    have q1 : (E.length + 1) * 8 ≤ 100000000000000 := by omega
    have q2 : E.length + 1 ≤ 100000000000000 := by omega
    have next := ih (k + 1) (by omega) (E ++ [b (l.getD k 0)]) (by rw [hE, take_snoc (d := 0) h1, List.map_append]; rfl)
    rw [List.length_append, List.map_append] at next
    refine W_loop (W_run 80 ?_)
    simp (maxSteps := 2000000) only [SA, Nat.reduceDiv, Nat.reduceSub, Nat.reduceAdd, Int.reduceLT, Int.reduceLE, Int.reduceToNat, Nat.reduceMul, Nat.reduceEqDiff, reduceCtorEq, Nat.reduceBEq, Nat.reduceLeDiff, Nat.reduceLT, xf49_L0, ai, rw5, lt_cast, h0, hgt, wi, q1, q2, Go.Proofs.Eng.elems, List.map_cons, List.map_nil]
    exact next _ _ _ _ _ _ _ _ _ _ _ _ _ _ _ _ _ _
theorem col1_run (a b c d e : Nat → Int) (l : List Nat) (hn : l.length ≤ 1000) : Runs Try.prog xf 49 [rw5 a b c d e l, ai 1] (al false (l.map b)) := by
  refine Runs.ofW (fn := xf49) 20 (by kernel_rfl) (W_run 80 ?_)
  simp (maxSteps := 2000000) only [SA, Nat.reduceDiv, Nat.reduceSub, Nat.reduceAdd, Int.reduceLT, Int.reduceLE, Int.reduceToNat, Nat.reduceMul, Nat.reduceEqDiff, reduceCtorEq, Nat.reduceBEq, Nat.reduceLeDiff, Nat.reduceLT, xf49, ai, rw5, List.map_nil]
  refine W_alone (W_named named57 (col1_loop a b c d e l hn _ _ (fun E hE r7 j2 j3 j6 j7 j8 j12 j13 j14 j15 j16 j17 j18 j19 j20 j21 j22 => W_run 80 ?_) l.length 0 (by omega) [] rfl _ _ _ _ _ _ _ _ _ _ _ _ _ _ _ _ _ _))
  simp (maxSteps := 2000000) only [SA, Nat.reduceDiv, Nat.reduceSub, Nat.reduceAdd, Int.reduceLT, Int.reduceLE, Int.reduceToNat, Nat.reduceMul, Nat.reduceEqDiff, reduceCtorEq, Nat.reduceBEq, Nat.reduceLeDiff, Nat.reduceLT, xf49_R0, ai]
  subst hE
  have h := reify_ints (η := [(7, r7), (8, (1, some ⟨3, 1, (l.map b).map ai⟩))]) (k := 8) (g := 1) (e := 3) (l := l.map b) rfl
  exact W_ret1 (WX_nil ⟨.inl rfl, _, rfl, h⟩)
theorem R5_take (m : Nat) (a b c d e : Nat → Int) : (R5 (m + 1) a b c d e).take m = (List.range m).map fun i => kn (a i) (b i) (c i) (d i) (e i) := by
  unfold R5; rw [← List.map_take, List.take_range, Nat.min_eq_left (Nat.le_succ m)]
theorem R5_drop (m : Nat) (a b c d e : Nat → Int) : (R5 (m + 1) a b c d e).drop 1 = (List.range' 1 m).map fun i => kn (a i) (b i) (c i) (d i) (e i) := by
  unfold R5; rw [← List.map_drop, List.range_eq_range', List.range'_succ]; rfl
def priL (D : Nat → Int) (n : Nat) : List Int := (List.range n).map D
def stL (S : Nat → Nat) (n : Nat) : List Int := (List.range' 1 n).map (iS S)
theorem reify_nl (η : Heap) (f : Bool) (l : List Int) (z : Int) : reify η 20 (.tup [al f l, ai z]) = some (.tup [al f l, ai z]) := by
  show ([al f l, ai z].mapM (reify η 19)).map AV.tup = _
  rw [List.mapM_cons, List.mapM_cons, reify_al]; rfl
theorem reify_tupos {η : Heap} {k g e n : Nat} {l : List Int} {z : Int} (hn : n = l.length) (hk : Go.Proofs.Eng.look η k = (g, some ⟨e, 1, l.map ai⟩)) : reify η 20 (.tup [.os k g n 1 0 n, ai z]) = some (.tup [al false l, ai z]) := by
  subst hn
  have h : reify η 19 (.os k g l.length 1 0 l.length) = some (al false l) := reify_os (elem_ai η 17) hk
  show ([AV.os k g l.length 1 0 l.length, ai z].mapM (reify η 19)).map AV.tup = _
  rw [List.mapM_cons, h]; rfl
theorem noRef_t2 {x y : AV} (h : noRef x = true) (h2 : noRef y = true) : noRef (.tup [x, y]) = true := noRefs_2 h h2
section
variable {V : Int} {w : List Int} {D L C : Nat → Int} {S N : Nat → Nat}
theorem prices_run (hg : gX V w) (f : Bool) (hB : Back (pf w) V w.length D S) : Runs Try.prog xf 17 [tx f V w] (.tup [al false (priL D w.length), ai 0]) := by
  obtain ⟨L, C, N, hA⟩ := Ahead.ex hg.pos
  have n10 := hg.n10
  have n00 : ((0 : Int) != 0) = false := rfl
  have q1 : w.length ≤ w.length + 1 := by omega
  refine Runs.ofW (fn := xf17) 20 (by kernel_rfl) (W_run 80 ?_)
  simp (maxSteps := 2000000) only [SA, Nat.reduceDiv, Nat.reduceSub, Nat.reduceAdd, Int.reduceLT, Int.reduceLE, Int.reduceToNat, Nat.reduceMul, Nat.reduceEqDiff, reduceCtorEq, Nat.reduceBEq, Nat.reduceLeDiff, Nat.reduceLT, xf17, ai, al, tx]
  refine W_call (args := [tx f V w]) rfl (noRefs_1 (noRef_tx _ _ _)) (check_run hg f) rfl (W_run 80 ?_)
  simp (maxSteps := 2000000) only [SA, Nat.reduceDiv, Nat.reduceSub, Nat.reduceAdd, Int.reduceLT, Int.reduceLE, Int.reduceToNat, Nat.reduceMul, Nat.reduceEqDiff, reduceCtorEq, Nat.reduceBEq, Nat.reduceLeDiff, Nat.reduceLT, ai, al, tx, n00]
  refine W_call (args := [tx f V w]) rfl (noRefs_1 (noRef_tx _ _ _)) (places_run hg f hB hA) (noRef_R5 _ _ _ _ _ _) (W_run 80 ?_)
  simp (maxSteps := 2000000) only [SA, Nat.reduceDiv, Nat.reduceSub, Nat.reduceAdd, Int.reduceLT, Int.reduceLE, Int.reduceToNat, Nat.reduceMul, Nat.reduceEqDiff, reduceCtorEq, Nat.reduceBEq, Nat.reduceLeDiff, Nat.reduceLT, ai, al, tx]
  refine W_call (args := [tx f V w]) rfl (noRefs_1 (noRef_tx _ _ _)) (last_run V w f) rfl (W_run 80 ?_)
  simp (maxSteps := 2000000) only [SA, Nat.reduceDiv, Nat.reduceSub, Nat.reduceAdd, Int.reduceLT, Int.reduceLE, Int.reduceToNat, Nat.reduceMul, Nat.reduceEqDiff, reduceCtorEq, Nat.reduceBEq, Nat.reduceLeDiff, Nat.reduceLT, ai, al, tx, R5_len, R5_take, q1]
  refine W_call (args := [rw5 D (iS S) L C (iS N) (List.range w.length), ai 0]) rfl (noRefs_2 (noRef_rw5 _ _ _ _ _ _) rfl) (col0_run _ _ _ _ _ _ (by rw [List.length_range]; omega)) (noRef_al _ _) (W_run 80 ?_)
  simp (maxSteps := 2000000) only [SA, Nat.reduceDiv, Nat.reduceSub, Nat.reduceAdd, Int.reduceLT, Int.reduceLE, Int.reduceToNat, Nat.reduceMul, Nat.reduceEqDiff, reduceCtorEq, Nat.reduceBEq, Nat.reduceLeDiff, Nat.reduceLT, ai, al]
  exact W_ret1 (WX_nil ⟨.inl rfl, _, rfl, reify_nl _ _ _ _⟩)
theorem starts_run (hg : gX V w) (f : Bool) (hB : Back (pf w) V w.length D S) : Runs Try.prog xf 26 [tx f V w] (.tup [al false (stL S w.length), ai 0]) := by
  obtain ⟨L, C, N, hA⟩ := Ahead.ex hg.pos
  have n10 := hg.n10
  have n00 : ((0 : Int) != 0) = false := rfl
  have q1 : 1 ≤ w.length + 1 := by omega
  have q2 : w.length + 1 ≤ w.length + 1 := Nat.le_refl _
  have tk : ∀ a b c d e : Nat → Int, (R5 (w.length + 1) a b c d e).take (w.length + 1) = R5 (w.length + 1) a b c d e := fun a b c d e => List.take_of_length_le (by rw [R5_len]; exact Nat.le_refl _)
  refine Runs.ofW (fn := xf26) 20 (by kernel_rfl) (W_run 80 ?_)
  simp (maxSteps := 2000000) only [SA, Nat.reduceDiv, Nat.reduceSub, Nat.reduceAdd, Int.reduceLT, Int.reduceLE, Int.reduceToNat, Nat.reduceMul, Nat.reduceEqDiff, reduceCtorEq, Nat.reduceBEq, Nat.reduceLeDiff, Nat.reduceLT, xf26, ai, al, tx]
  refine W_call (args := [tx f V w]) rfl (noRefs_1 (noRef_tx _ _ _)) (check_run hg f) rfl (W_run 80 ?_)
  simp (maxSteps := 2000000) only [SA, Nat.reduceDiv, Nat.reduceSub, Nat.reduceAdd, Int.reduceLT, Int.reduceLE, Int.reduceToNat, Nat.reduceMul, Nat.reduceEqDiff, reduceCtorEq, Nat.reduceBEq, Nat.reduceLeDiff, Nat.reduceLT, ai, al, tx, n00]
  refine W_call (args := [tx f V w]) rfl (noRefs_1 (noRef_tx _ _ _)) (places_run hg f hB hA) (noRef_R5 _ _ _ _ _ _) (W_run 80 ?_)
  simp (maxSteps := 2000000) only [SA, Nat.reduceDiv, Nat.reduceSub, Nat.reduceAdd, Int.reduceLT, Int.reduceLE, Int.reduceToNat, Nat.reduceMul, Nat.reduceEqDiff, reduceCtorEq, Nat.reduceBEq, Nat.reduceLeDiff, Nat.reduceLT, ai, al, tx, R5_len, R5_drop, q1, q2, tk]
  refine W_call (args := [rw5 D (iS S) L C (iS N) (List.range' 1 w.length), ai 1]) rfl (noRefs_2 (noRef_rw5 _ _ _ _ _ _) rfl) (col1_run _ _ _ _ _ _ (by rw [List.length_range']; omega)) (noRef_al _ _) (W_run 80 ?_)
  simp (maxSteps := 2000000) only [SA, Nat.reduceDiv, Nat.reduceSub, Nat.reduceAdd, Int.reduceLT, Int.reduceLE, Int.reduceToNat, Nat.reduceMul, Nat.reduceEqDiff, reduceCtorEq, Nat.reduceBEq, Nat.reduceLeDiff, Nat.reduceLT, ai, al]
  exact W_ret1 (WX_nil ⟨.inl rfl, _, rfl, reify_nl _ _ _ _⟩)
theorem least_run (hg : gX V w) (f : Bool) (hA : Ahead (pf w) V w.length L C N) : Runs Try.prog xf 15 [tx f V w] (.tup [ai (L 0), ai 0]) := by
  obtain ⟨D, S, hB⟩ := Back.ex hg.pos w.length (Nat.le_refl _)
  have n00 : ((0 : Int) != 0) = false := rfl
  refine Runs.ofW (fn := xf15) 20 (by kernel_rfl) (W_run 80 ?_)
  simp (maxSteps := 2000000) only [SA, Nat.reduceDiv, Nat.reduceSub, Nat.reduceAdd, Int.reduceLT, Int.reduceLE, Int.reduceToNat, Nat.reduceMul, Nat.reduceEqDiff, reduceCtorEq, Nat.reduceBEq, Nat.reduceLeDiff, Nat.reduceLT, xf15, ai, al, tx]
  refine W_call (args := [tx f V w]) rfl (noRefs_1 (noRef_tx _ _ _)) (check_run hg f) rfl (W_run 80 ?_)
  simp (maxSteps := 2000000) only [SA, Nat.reduceDiv, Nat.reduceSub, Nat.reduceAdd, Int.reduceLT, Int.reduceLE, Int.reduceToNat, Nat.reduceMul, Nat.reduceEqDiff, reduceCtorEq, Nat.reduceBEq, Nat.reduceLeDiff, Nat.reduceLT, ai, al, tx, n00]
  refine W_call (args := [tx f V w]) rfl (noRefs_1 (noRef_tx _ _ _)) (places_run hg f hB hA) (noRef_R5 _ _ _ _ _ _) (W_run 80 ?_)
  simp (maxSteps := 2000000) only [SA, Nat.reduceDiv, Nat.reduceSub, Nat.reduceAdd, Int.reduceLT, Int.reduceLE, Int.reduceToNat, Nat.reduceMul, Nat.reduceEqDiff, reduceCtorEq, Nat.reduceBEq, Nat.reduceLeDiff, Nat.reduceLT, ai, al, tx, R5_at0]
  exact W_ret1 (WX_nil ⟨.inl rfl, _, rfl, rfl⟩)
theorem count_run (hg : gX V w) (f : Bool) (hA : Ahead (pf w) V w.length L C N) : Runs Try.prog xf 16 [tx f V w] (.tup [ai (C 0), ai 0]) := by
  obtain ⟨D, S, hB⟩ := Back.ex hg.pos w.length (Nat.le_refl _)
  have n00 : ((0 : Int) != 0) = false := rfl
  refine Runs.ofW (fn := xf16) 20 (by kernel_rfl) (W_run 80 ?_)
  simp (maxSteps := 2000000) only [SA, Nat.reduceDiv, Nat.reduceSub, Nat.reduceAdd, Int.reduceLT, Int.reduceLE, Int.reduceToNat, Nat.reduceMul, Nat.reduceEqDiff, reduceCtorEq, Nat.reduceBEq, Nat.reduceLeDiff, Nat.reduceLT, xf16, ai, al, tx]
  refine W_call (args := [tx f V w]) rfl (noRefs_1 (noRef_tx _ _ _)) (check_run hg f) rfl (W_run 80 ?_)
  simp (maxSteps := 2000000) only [SA, Nat.reduceDiv, Nat.reduceSub, Nat.reduceAdd, Int.reduceLT, Int.reduceLE, Int.reduceToNat, Nat.reduceMul, Nat.reduceEqDiff, reduceCtorEq, Nat.reduceBEq, Nat.reduceLeDiff, Nat.reduceLT, ai, al, tx, n00]
  refine W_call (args := [tx f V w]) rfl (noRefs_1 (noRef_tx _ _ _)) (places_run hg f hB hA) (noRef_R5 _ _ _ _ _ _) (W_run 80 ?_)
  simp (maxSteps := 2000000) only [SA, Nat.reduceDiv, Nat.reduceSub, Nat.reduceAdd, Int.reduceLT, Int.reduceLE, Int.reduceToNat, Nat.reduceMul, Nat.reduceEqDiff, reduceCtorEq, Nat.reduceBEq, Nat.reduceLeDiff, Nat.reduceLT, ai, al, tx, R5_at0]
  exact W_ret1 (WX_nil ⟨.inl rfl, _, rfl, rfl⟩)
end
/-- the way by the first lines -/
def way (N : Nat → Nat) (n : Nat) : Nat → Nat → List Nat
  | 0, _ => []
  | k + 1, p => if p = n then [] else N p :: way N n k (N p)
def nl (l : List Nat) : List Int := l.map fun (x : Nat) => (x : Int)
theorem fst_loop (V : Int) (w : List Int) (hg : gX V w) (f : Bool) (D L C : Nat → Int) (S N : Nat → Nat) (hA : Ahead (pf w) V w.length L C N) (x4 : AV) (K : List Fr) (Q : Out → Cfg → Prop)
    (hK : ∀ E : List Nat, E = way N w.length w.length 0 → ∀ j8 j9 j10 j11 j12 j13 j14 j15 j16 j17 j18 j19 j20 j21 j22 j23 j24 j25 j26 j27 j28 j29 : AV, W Try.prog (RelU Try.prog xf) 0 K ⟨((tx f V w) :: (.ptr (tx f V w)) :: nilA :: (ai 0) :: x4 :: (.sl 5 false (R5 (w.length + 1) D (iS S) L C (iS N))) :: (.os 15 1 E.length 1 0 E.length) :: (ai w.length) :: j8 :: j9 :: j10 :: j11 :: j12 :: j13 :: j14 :: j15 :: j16 :: j17 :: j18 :: j19 :: j20 :: j21 :: j22 :: j23 :: j24 :: j25 :: j26 :: j27 :: j28 :: j29 :: []), [(15, (1, some ⟨3, 1, (nl E).map ai⟩))]⟩ Q) :
    ∀ (m p : Nat), w.length - p ≤ m → p ≤ w.length → ∀ E : List Nat, E.length ≤ p → E ++ way N w.length m p = way N w.length w.length 0 → ∀ j8 j9 j10 j11 j12 j13 j14 j15 j16 j17 j18 j19 j20 j21 j22 j23 j24 j25 j26 j27 j28 j29 : AV, W Try.prog (RelU Try.prog xf) 0 (.code (.loop xf14_L0) :: .blk 0 :: .stop :: K) ⟨((tx f V w) :: (.ptr (tx f V w)) :: nilA :: (ai 0) :: x4 :: (.sl 5 false (R5 (w.length + 1) D (iS S) L C (iS N))) :: (.os 15 1 E.length 1 0 E.length) :: (ai p) :: j8 :: j9 :: j10 :: j11 :: j12 :: j13 :: j14 :: j15 :: j16 :: j17 :: j18 :: j19 :: j20 :: j21 :: j22 :: j23 :: j24 :: j25 :: j26 :: j27 :: j28 :: j29 :: []), [(15, (1, some ⟨3, 1, (nl E).map ai⟩))]⟩ Q := by
  have n10 := hg.n10
  have fin : ∀ (p : Nat), p = w.length → ∀ E : List Nat, E = way N w.length w.length 0 → ∀ j8 j9 j10 j11 j12 j13 j14 j15 j16 j17 j18 j19 j20 j21 j22 j23 j24 j25 j26 j27 j28 j29 : AV, W Try.prog (RelU Try.prog xf) 0 (.code (.loop xf14_L0) :: .blk 0 :: .stop :: K) ⟨((tx f V w) :: (.ptr (tx f V w)) :: nilA :: (ai 0) :: x4 :: (.sl 5 false (R5 (w.length + 1) D (iS S) L C (iS N))) :: (.os 15 1 E.length 1 0 E.length) :: (ai p) :: j8 :: j9 :: j10 :: j11 :: j12 :: j13 :: j14 :: j15 :: j16 :: j17 :: j18 :: j19 :: j20 :: j21 :: j22 :: j23 :: j24 :: j25 :: j26 :: j27 :: j28 :: j29 :: []), [(15, (1, some ⟨3, 1, (nl E).map ai⟩))]⟩ Q := by
    intro p hp E hE j8 j9 j10 j11 j12 j13 j14 j15 j16 j17 j18 j19 j20 j21 j22 j23 j24 j25 j26 j27 j28 j29
    have h0 : ((p : Int) != (w.length : Int)) = false := by rw [hp]; simp
    refine W_loop (W_run 80 ?_)
    simp (maxSteps := 2000000) only [SA, Nat.reduceDiv, Nat.reduceSub, Nat.reduceAdd, Int.reduceLT, Int.reduceLE, Int.reduceToNat, Nat.reduceMul, Nat.reduceEqDiff, reduceCtorEq, Nat.reduceBEq, Nat.reduceLeDiff, Nat.reduceLT, xf14_L0, ai, al, tx]
    refine W_call (args := [tx f V w]) rfl (noRefs_1 (noRef_tx _ _ _)) (last_run V w f) rfl (W_run 80 ?_)
    simp (maxSteps := 2000000) only [SA, Nat.reduceDiv, Nat.reduceSub, Nat.reduceAdd, Int.reduceLT, Int.reduceLE, Int.reduceToNat, Nat.reduceMul, Nat.reduceEqDiff, reduceCtorEq, Nat.reduceBEq, Nat.reduceLeDiff, Nat.reduceLT, ai, al, tx, h0]
    rw [hp]
    exact W_stop (hK E hE _ _ _ _ _ _ _ _ _ _ _ _ _ _ _ _ _ _ _ _ _ _)
  intro m
  induction m with
  | zero =>
    intro p hm hp E hl hE j8 j9 j10 j11 j12 j13 j14 j15 j16 j17 j18 j19 j20 j21 j22 j23 j24 j25 j26 j27 j28 j29
    rw [way, List.append_nil] at hE
    exact fin p (by omega) E hE _ _ _ _ _ _ _ _ _ _ _ _ _ _ _ _ _ _ _ _ _ _
  | succ m ih =>
    intro p hm hp E hl hE j8 j9 j10 j11 j12 j13 j14 j15 j16 j17 j18 j19 j20 j21 j22 j23 j24 j25 j26 j27 j28 j29
    by_cases hpn : p = w.length
    · rw [way, if_pos hpn, List.append_nil] at hE
      exact fin p hpn E hE _ _ _ _ _ _ _ _ _ _ _ _ _ _ _ _ _ _ _ _ _ _
    · rw [way, if_neg hpn] at hE
      obtain ⟨_, sN, _⟩ := hA.st p (by omega)
      obtain ⟨N1, N2, N3⟩ := sN.mem
      have h0 : ((p : Int) != (w.length : Int)) = true := by rw [bne_iff_ne]; omega
      have hgt : ∀ a b c d e : Nat → Int, (R5 (w.length + 1) a b c d e)[p]? = _ := fun a b c d e => R5_get a b c d e (by omega)
      have hlen : (nl E).length = E.length := by unfold nl; rw [List.length_map]
      have q1 : (E.length + 1) * 8 ≤ 100000000000000 := by omega
      have q2 : E.length + 1 ≤ 100000000000000 := by omega
      have next := ih (N p) (by omega) N2 (E ++ [N p]) (by rw [List.length_append]; simp; omega) (by rw [List.append_assoc]; exact hE)
      rw [List.length_append, show (nl (E ++ [N p])).map ai = (nl E).map ai ++ [ai (N p : Nat)] by unfold nl; simp] at next
      refine W_loop (W_run 80 ?_)
      simp (maxSteps := 2000000) only [SA, Nat.reduceDiv, Nat.reduceSub, Nat.reduceAdd, Int.reduceLT, Int.reduceLE, Int.reduceToNat, Nat.reduceMul, Nat.reduceEqDiff, reduceCtorEq, Nat.reduceBEq, Nat.reduceLeDiff, Nat.reduceLT, xf14_L0, ai, al, tx]
      refine W_call (args := [tx f V w]) rfl (noRefs_1 (noRef_tx _ _ _)) (last_run V w f) rfl (W_run 80 ?_)
      simp (maxSteps := 2000000) only [SA, Nat.reduceDiv, Nat.reduceSub, Nat.reduceAdd, Int.reduceLT, Int.reduceLE, Int.reduceToNat, Nat.reduceMul, Nat.reduceEqDiff, reduceCtorEq, Nat.reduceBEq, Nat.reduceLeDiff, Nat.reduceLT, ai, al, tx, h0, hgt, iS, hlen, q1, q2, Go.Proofs.Eng.elems, List.map_cons, List.map_nil, Int.toNat_natCast]
      exact next _ _ _ _ _ _ _ _ _ _ _ _ _ _ _ _ _ _ _ _ _ _
theorem first_run {V : Int} {w : List Int} (hg : gX V w) (f : Bool) {L C : Nat → Int} {N : Nat → Nat} (hA : Ahead (pf w) V w.length L C N) : Runs Try.prog xf 14 [tx f V w] (.tup [al false (nl (way N w.length w.length 0)), ai 0]) := by
  obtain ⟨D, S, hB⟩ := Back.ex hg.pos w.length (Nat.le_refl _)
  have n00 : ((0 : Int) != 0) = false := rfl
  refine Runs.ofW (fn := xf14) 20 (by kernel_rfl) (W_run 80 ?_)
  simp (maxSteps := 2000000) only [SA, Nat.reduceDiv, Nat.reduceSub, Nat.reduceAdd, Int.reduceLT, Int.reduceLE, Int.reduceToNat, Nat.reduceMul, Nat.reduceEqDiff, reduceCtorEq, Nat.reduceBEq, Nat.reduceLeDiff, Nat.reduceLT, xf14, ai, al, tx]
  refine W_call (args := [tx f V w]) rfl (noRefs_1 (noRef_tx _ _ _)) (check_run hg f) rfl (W_run 80 ?_)
  simp (maxSteps := 2000000) only [SA, Nat.reduceDiv, Nat.reduceSub, Nat.reduceAdd, Int.reduceLT, Int.reduceLE, Int.reduceToNat, Nat.reduceMul, Nat.reduceEqDiff, reduceCtorEq, Nat.reduceBEq, Nat.reduceLeDiff, Nat.reduceLT, ai, al, tx, n00]
  refine W_call (args := [tx f V w]) rfl (noRefs_1 (noRef_tx _ _ _)) (places_run hg f hB hA) (noRef_R5 _ _ _ _ _ _) (W_run 80 ?_)
  simp (maxSteps := 2000000) only [SA, Nat.reduceDiv, Nat.reduceSub, Nat.reduceAdd, Int.reduceLT, Int.reduceLE, Int.reduceToNat, Nat.reduceMul, Nat.reduceEqDiff, reduceCtorEq, Nat.reduceBEq, Nat.reduceLeDiff, Nat.reduceLT, ai, al, tx, List.map_nil]
  refine W_alone (fst_loop V w hg f D L C S N hA _ _ _ (fun E hE j8 j9 j10 j11 j12 j13 j14 j15 j16 j17 j18 j19 j20 j21 j22 j23 j24 j25 j26 j27 j28 j29 => W_run 80 ?_) w.length 0 (by omega) (Nat.zero_le _) [] (Nat.le_refl _) rfl _ _ _ _ _ _ _ _ _ _ _ _ _ _ _ _ _ _ _ _ _ _)
  simp (maxSteps := 2000000) only [SA, Nat.reduceDiv, Nat.reduceSub, Nat.reduceAdd, Int.reduceLT, Int.reduceLE, Int.reduceToNat, Nat.reduceMul, Nat.reduceEqDiff, reduceCtorEq, Nat.reduceBEq, Nat.reduceLeDiff, Nat.reduceLT, xf14_R0, ai]
  subst hE
  exact W_ret1 (WX_nil ⟨.inl rfl, _, rfl, reify_tupos (l := nl (way N w.length w.length 0)) (by unfold nl; rw [List.length_map]) rfl⟩)
end Go.Proofs.Ytdmffkknghianaa

