/-
  Package line: First, Least, Count, Prices, Starts.
-/
import Derived.Test.YtdmffkknghianaaGB
set_option linter.unusedSimpArgs false
set_option linter.unusedVariables false
namespace Go.Proofs.Ytdmffkknghianaa
open Go Go.Proofs.Eng
set_option maxRecDepth 100000
set_option maxHeartbeats 4000000
theorem noRef_R5 (m : Nat) (a b c d e : Nat → Int) : noRef (.sl 5 false (R5 m a b c d e)) = true := noRefs_of fun x hx => by unfold R5 at hx; obtain ⟨z, _, rfl⟩ := List.mem_map.1 hx; rfl
theorem R5_at0 (m : Nat) (a b c d e : Nat → Int) : (R5 (m + 1) a b c d e)[0]? = some (.ag [.v (.int .i64 (a 0)), .v (.int .i64 (b 0)), .v (.int .i64 (c 0)), .v (.int .i64 (d 0)), .v (.int .i64 (e 0))]) := R5_get a b c d e (by omega)
def rw5 (a b c d e : Nat → Int) (l : List Nat) : AV := .sl 5 false (l.map fun i => kn (a i) (b i) (c i) (d i) (e i))
theorem noRef_rw5 (a b c d e : Nat → Int) (l : List Nat) : noRef (rw5 a b c d e l) = true := noRefs_of fun x hx => by obtain ⟨z, _, rfl⟩ := List.mem_map.1 hx; rfl
theorem named57 {q : Nat × Option Ob} (j : Nat) : Go.Proofs.Eng.look [(8, q)] j = Go.Proofs.Eng.look [(7, (0, (none : Option Ob))), (8, q)] j := named78 j
theorem col0_loop (a b c d e : Nat → Int) (l : List Nat) (hn : l.length ≤ 1000) (K : List Fr) (Q : Out → Cfg → Prop)
    (hK : ∀ E : List Int, E = l.map a → ∀ r7 : Nat × Option Ob, ∀ j2 j3 j6 j7 j8 j12 j13 j14 j15 j16 j17 j18 j19 j20 j21 j22 : AV, W Try.prog (RelU Try.prog xf) 0 K ⟨((rw5 a b c d e l) :: (ai 0) :: j2 :: j3 :: nilA :: (.os 8 1 E.length 1 0 E.length) :: j6 :: j7 :: j8 :: (rw5 a b c d e l) :: (ai l.length) :: (ai l.length) :: j12 :: j13 :: j14 :: j15 :: j16 :: j17 :: j18 :: j19 :: j20 :: j21 :: j22 :: []), [(7, r7), (8, (1, some ⟨3, 1, E.map ai⟩))]⟩ Q) :
    ∀ (m k : Nat), k + m = l.length → ∀ E : List Int, E = (l.take k).map a → ∀ (g7 : Nat) (o7 : Option Ob), ∀ j2 j3 j6 j7 j8 j12 j13 j14 j15 j16 j17 j18 j19 j20 j21 j22 : AV, W Try.prog (RelU Try.prog xf) 0 (.code (.loop xf49_L0) :: .blk 0 :: .stop :: K) ⟨((rw5 a b c d e l) :: (ai 0) :: j2 :: j3 :: nilA :: (.os 8 1 E.length 1 0 E.length) :: j6 :: j7 :: j8 :: (rw5 a b c d e l) :: (ai l.length) :: (ai k) :: j12 :: j13 :: j14 :: j15 :: j16 :: j17 :: j18 :: j19 :: j20 :: j21 :: j22 :: []), [(7, (g7, o7)), (8, (1, some ⟨3, 1, E.map ai⟩))]⟩ Q := by
  intro m
  induction m with
  | zero =>
    intro k hk E hE g7 o7 j2 j3 j6 j7 j8 j12 j13 j14 j15 j16 j17 j18 j19 j20 j21 j22
    have ek : k = l.length := by omega
    have h0 : decide (k < l.length) = false := decide_eq_false (by omega)
    refine W_loop (W_run 80 ?_)
    simp (maxSteps := 2000000) only [SA, Nat.reduceDiv, Nat.reduceSub, Nat.reduceAdd, Int.reduceLT, Int.reduceLE, Int.reduceToNat, Nat.reduceMul, Nat.reduceEqDiff, reduceCtorEq, Nat.reduceBEq, Nat.reduceLeDiff, Nat.reduceLT, xf49_L0, ai, rw5, lt_cast, h0]
    rw [ek]
    exact W_stop (hK E (by rw [hE, List.take_of_length_le (by omega)]) _ _ _ _ _ _ _ _ _ _ _ _ _ _ _ _ _)
  | succ m ih =>
    intro k hk E hE g7 o7 j2 j3 j6 j7 j8 j12 j13 j14 j15 j16 j17 j18 j19 j20 j21 j22
    have h1 : k < l.length := by omega
    have h0 : decide (k < l.length) = true := decide_eq_true h1
    have wi : IntKind.i64.wrap ((k : Int) + 1) = ((k + 1 : Nat) : Int) := by rw [wrap_id (by omega) (by omega)]; simp
    have hgt : (l.map fun i => kn (a i) (b i) (c i) (d i) (e i))[k]? = some (.ag [.v (.int .i64 (a (l.getD k 0))), .v (.int .i64 (b (l.getD k 0))), .v (.int .i64 (c (l.getD k 0))), .v (.int .i64 (d (l.getD k 0))), .v (.int .i64 (e (l.getD k 0)))]) := by
      rw [List.getElem?_map, getD_at (d := 0) h1]; rfl
    have hlen : E.length ≤ 1000 := by rw [hE, List.length_map, List.length_take]; omega
    have q1 : (E.length + 1) * 8 ≤ 100000000000000 := by omega
    have q2 : E.length + 1 ≤ 100000000000000 := by omega
    have next := ih (k + 1) (by omega) (E ++ [a (l.getD k 0)]) (by rw [hE, take_snoc (d := 0) h1, List.map_append]; rfl)
    rw [List.length_append, List.map_append] at next
    refine W_loop (W_run 80 ?_)
    simp (maxSteps := 2000000) only [SA, Nat.reduceDiv, Nat.reduceSub, Nat.reduceAdd, Int.reduceLT, Int.reduceLE, Int.reduceToNat, Nat.reduceMul, Nat.reduceEqDiff, reduceCtorEq, Nat.reduceBEq, Nat.reduceLeDiff, Nat.reduceLT, xf49_L0, ai, rw5, lt_cast, h0, hgt, wi, q1, q2, Go.Proofs.Eng.elems, List.map_cons, List.map_nil]
    exact next _ _ _ _ _ _ _ _ _ _ _ _ _ _ _ _ _ _
theorem col0_run (a b c d e : Nat → Int) (l : List Nat) (hn : l.length ≤ 1000) : Runs Try.prog xf 49 [rw5 a b c d e l, ai 0] (al false (l.map a)) := by
  refine Runs.ofW (fn := xf49) 20 (by kernel_rfl) (W_run 80 ?_)
  simp (maxSteps := 2000000) only [SA, Nat.reduceDiv, Nat.reduceSub, Nat.reduceAdd, Int.reduceLT, Int.reduceLE, Int.reduceToNat, Nat.reduceMul, Nat.reduceEqDiff, reduceCtorEq, Nat.reduceBEq, Nat.reduceLeDiff, Nat.reduceLT, xf49, ai, rw5, List.map_nil]
  refine W_alone (W_named named57 (col0_loop a b c d e l hn _ _ (fun E hE r7 j2 j3 j6 j7 j8 j12 j13 j14 j15 j16 j17 j18 j19 j20 j21 j22 => W_run 80 ?_) l.length 0 (by omega) [] rfl _ _ _ _ _ _ _ _ _ _ _ _ _ _ _ _ _ _))
  simp (maxSteps := 2000000) only [SA, Nat.reduceDiv, Nat.reduceSub, Nat.reduceAdd, Int.reduceLT, Int.reduceLE, Int.reduceToNat, Nat.reduceMul, Nat.reduceEqDiff, reduceCtorEq, Nat.reduceBEq, Nat.reduceLeDiff, Nat.reduceLT, xf49_R0, ai]
  subst hE
  have h := reify_ints (η := [(7, r7), (8, (1, some ⟨3, 1, (l.map a).map ai⟩))]) (k := 8) (g := 1) (e := 3) (l := l.map a) rfl
  exact W_ret1 (WX_nil ⟨.inl rfl, _, rfl, h⟩)
theorem col1_loop (a b c d e : Nat → Int) (l : List Nat) (hn : l.length ≤ 1000) (K : List Fr) (Q : Out → Cfg → Prop)
    (hK : ∀ E : List Int, E = l.map b → ∀ r7 : Nat × Option Ob, ∀ j2 j3 j6 j7 j8 j12 j13 j14 j15 j16 j17 j18 j19 j20 j21 j22 : AV, W Try.prog (RelU Try.prog xf) 0 K ⟨((rw5 a b c d e l) :: (ai 1) :: j2 :: j3 :: nilA :: (.os 8 1 E.length 1 0 E.length) :: j6 :: j7 :: j8 :: (rw5 a b c d e l) :: (ai l.length) :: (ai l.length) :: j12 :: j13 :: j14 :: j15 :: j16 :: j17 :: j18 :: j19 :: j20 :: j21 :: j22 :: []), [(7, r7), (8, (1, some ⟨3, 1, E.map ai⟩))]⟩ Q) :
    ∀ (m k : Nat), k + m = l.length → ∀ E : List Int, E = (l.take k).map b → ∀ (g7 : Nat) (o7 : Option Ob), ∀ j2 j3 j6 j7 j8 j12 j13 j14 j15 j16 j17 j18 j19 j20 j21 j22 : AV, W Try.prog (RelU Try.prog xf) 0 (.code (.loop xf49_L0) :: .blk 0 :: .stop :: K) ⟨((rw5 a b c d e l) :: (ai 1) :: j2 :: j3 :: nilA :: (.os 8 1 E.length 1 0 E.length) :: j6 :: j7 :: j8 :: (rw5 a b c d e l) :: (ai l.length) :: (ai k) :: j12 :: j13 :: j14 :: j15 :: j16 :: j17 :: j18 :: j19 :: j20 :: j21 :: j22 :: []), [(7, (g7, o7)), (8, (1, some ⟨3, 1, E.map ai⟩))]⟩ Q := by
  intro m
  induction m with
  | zero =>
    intro k hk E hE g7 o7 j2 j3 j6 j7 j8 j12 j13 j14 j15 j16 j17 j18 j19 j20 j21 j22
    have ek : k = l.length := by omega
    have h0 : decide (k < l.length) = false := decide_eq_false (by omega)
    refine W_loop (W_run 80 ?_)
    simp (maxSteps := 2000000) only [SA, Nat.reduceDiv, Nat.reduceSub, Nat.reduceAdd, Int.reduceLT, Int.reduceLE, Int.reduceToNat, Nat.reduceMul, Nat.reduceEqDiff, reduceCtorEq, Nat.reduceBEq, Nat.reduceLeDiff, Nat.reduceLT, xf49_L0, ai, rw5, lt_cast, h0]
    rw [ek]
    exact W_stop (hK E (by rw [hE, List.take_of_length_le (by omega)]) _ _ _ _ _ _ _ _ _ _ _ _ _ _ _ _ _)
  | succ m ih =>
    intro k hk E hE g7 o7 j2 j3 j6 j7 j8 j12 j13 j14 j15 j16 j17 j18 j19 j20 j21 j22
    have h1 : k < l.length := by omega
    have h0 : decide (k < l.length) = true := decide_eq_true h1
    have wi : IntKind.i64.wrap ((k : Int) + 1) = ((k + 1 : Nat) : Int) := by rw [wrap_id (by omega) (by omega)]; simp
    have hgt : (l.map fun i => kn (a i) (b i) (c i) (d i) (e i))[k]? = some (.ag [.v (.int .i64 (a (l.getD k 0))), .v (.int .i64 (b (l.getD k 0))), .v (.int .i64 (c (l.getD k 0))), .v (.int .i64 (d (l.getD k 0))), .v (.int .i64 (e (l.getD k 0)))]) := by
      rw [List.getElem?_map, getD_at (d := 0) h1]; rfl
    have hlen : E.length ≤ 1000 := by rw [hE, List.length_map, List.length_take]; omega
    have q1 : (E.length + 1) * 8 ≤ 100000000000000 := by omega
    have q2 : E.length + 1 ≤ 100000000000000 := by omega
    have next := ih (k + 1) (by omega) (E ++ [b (l.getD k 0)]) (by rw [hE, take_snoc (d := 0) h1, List.map_append]; rfl)
    rw [List.length_append, List.map_append] at next
    refine W_loop (W_run 80 ?_)
    simp (maxSteps := 2000000) only [SA, Nat.reduceDiv, Nat.reduceSub, Nat.reduceAdd, Int.reduceLT, Int.reduceLE, Int.reduceToNat, Nat.reduceMul, Nat.reduceEqDiff, reduceCtorEq, Nat.reduceBEq, Nat.reduceLeDiff, Nat.reduceLT, xf49_L0, ai, rw5, lt_cast, h0, hgt, wi, q1, q2, Go.Proofs.Eng.elems, List.map_cons, List.map_nil]
    exact next _ _ _ _ _ _ _ _ _ _ _ _ _ _ _ _ _ _
theorem col1_run (a b c d e : Nat → Int) (l : List Nat) (hn : l.length ≤ 1000) : Runs Try.prog xf 49 [rw5 a b c d e l, ai 1] (al false (l.map b)) := by
  refine Runs.ofW (fn := xf49) 20 (by kernel_rfl) (W_run 80 ?_)
  simp (maxSteps := 2000000) only [SA, Nat.reduceDiv, Nat.reduceSub, Nat.reduceAdd, Int.reduceLT, Int.reduceLE, Int.reduceToNat, Nat.reduceMul, Nat.reduceEqDiff, reduceCtorEq, Nat.reduceBEq, Nat.reduceLeDiff, Nat.reduceLT, xf49, ai, rw5, List.map_nil]
  refine W_alone (W_named named57 (col1_loop a b c d e l hn _ _ (fun E hE r7 j2 j3 j6 j7 j8 j12 j13 j14 j15 j16 j17 j18 j19 j20 j21 j22 => W_run 80 ?_) l.length 0 (by omega) [] rfl _ _ _ _ _ _ _ _ _ _ _ _ _ _ _ _ _ _))
  simp (maxSteps := 2000000) only [SA, Nat.reduceDiv, Nat.reduceSub, Nat.reduceAdd, Int.reduceLT, Int.reduceLE, Int.reduceToNat, Nat.reduceMul, Nat.reduceEqDiff, reduceCtorEq, Nat.reduceBEq, Nat.reduceLeDiff, Nat.reduceLT, xf49_R0, ai]
  subst hE
  have h := reify_ints (η := [(7, r7), (8, (1, some ⟨3, 1, (l.map b).map ai⟩))]) (k := 8) (g := 1) (e := 3) (l := l.map b) rfl
  exact W_ret1 (WX_nil ⟨.inl rfl, _, rfl, h⟩)
theorem R5_take (m : Nat) (a b c d e : Nat → Int) : (R5 (m + 1) a b c d e).take m = (List.range m).map fun i => kn (a i) (b i) (c i) (d i) (e i) := by
  unfold R5; rw [← List.map_take, List.take_range, Nat.min_eq_left (Nat.le_succ m)]
theorem R5_drop (m : Nat) (a b c d e : Nat → Int) : (R5 (m + 1) a b c d e).drop 1 = (List.range' 1 m).map fun i => kn (a i) (b i) (c i) (d i) (e i) := by
  unfold R5; rw [← List.map_drop, List.range_eq_range', List.range'_succ]; rfl
def priL (D : Nat → Int) (n : Nat) : List Int := (List.range n).map D
def stL (S : Nat → Nat) (n : Nat) : List Int := (List.range' 1 n).map (iS S)
theorem reify_nl (η : Heap) (f : Bool) (l : List Int) (z : Int) : reify η 20 (.tup [al f l, ai z]) = some (.tup [al f l, ai z]) := by
  show ([al f l, ai z].mapM (reify η 19)).map AV.tup = _
  rw [List.mapM_cons, List.mapM_cons, reify_al]; rfl
theorem reify_tupos {η : Heap} {k g e n : Nat} {l : List Int} {z : Int} (hn : n = l.length) (hk : Go.Proofs.Eng.look η k = (g, some ⟨e, 1, l.map ai⟩)) : reify η 20 (.tup [.os k g n 1 0 n, ai z]) = some (.tup [al false l, ai z]) := by
  subst hn
  have h : reify η 19 (.os k g l.length 1 0 l.length) = some (al false l) := reify_os (elem_ai η 17) hk
  show ([AV.os k g l.length 1 0 l.length, ai z].mapM (reify η 19)).map AV.tup = _
  rw [List.mapM_cons, h]; rfl
theorem noRef_t2 {x y : AV} (h : noRef x = true) (h2 : noRef y = true) : noRef (.tup [x, y]) = true := noRefs_2 h h2
section
variable {V : Int} {w : List Int} {D L C : Nat → Int} {S N : Nat → Nat}
theorem prices_run (hg : gX V w) (f : Bool) (hB : Back (pf w) V w.length D S) : Runs Try.prog xf 17 [tx f V w] (.tup [al false (priL D w.length), ai 0]) := by
  obtain ⟨L, C, N, hA⟩ := Ahead.ex hg.pos
  have n10 := hg.n10
  have n00 : ((0 : Int) != 0) = false := rfl
  have q1 : w.length ≤ w.length + 1 := by omega
  refine Runs.ofW (fn := xf17) 20 (by kernel_rfl) (W_run 80 ?_)
  simp (maxSteps := 2000000) only [SA, Nat.reduceDiv, Nat.reduceSub, Nat.reduceAdd, Int.reduceLT, Int.reduceLE, Int.reduceToNat, Nat.reduceMul, Nat.reduceEqDiff, reduceCtorEq, Nat.reduceBEq, Nat.reduceLeDiff, Nat.reduceLT, xf17, ai, al, tx]
  refine W_call (args := [tx f V w]) rfl (noRefs_1 (noRef_tx _ _ _)) (check_run hg f) rfl (W_run 80 ?_)
  simp (maxSteps := 2000000) only [SA, Nat.reduceDiv, Nat.reduceSub, Nat.reduceAdd, Int.reduceLT, Int.reduceLE, Int.reduceToNat, Nat.reduceMul, Nat.reduceEqDiff, reduceCtorEq, Nat.reduceBEq, Nat.reduceLeDiff, Nat.reduceLT, ai, al, tx, n00]
  refine W_call (args := [tx f V w]) rfl (noRefs_1 (noRef_tx _ _ _)) (places_run hg f hB hA) (noRef_R5 _ _ _ _ _ _) (W_run 80 ?_)
  simp (maxSteps := 2000000) only [SA, Nat.reduceDiv, Nat.reduceSub, Nat.reduceAdd, Int.reduceLT, Int.reduceLE, Int.reduceToNat, Nat.reduceMul, Nat.reduceEqDiff, reduceCtorEq, Nat.reduceBEq, Nat.reduceLeDiff, Nat.reduceLT, ai, al, tx]
  refine W_call (args := [tx f V w]) rfl (noRefs_1 (noRef_tx _ _ _)) (last_run V w f) rfl (W_run 80 ?_)
  simp (maxSteps := 2000000) only [SA, Nat.reduceDiv, Nat.reduceSub, Nat.reduceAdd, Int.reduceLT, Int.reduceLE, Int.reduceToNat, Nat.reduceMul, Nat.reduceEqDiff, reduceCtorEq, Nat.reduceBEq, Nat.reduceLeDiff, Nat.reduceLT, ai, al, tx, R5_len, R5_take, q1]
  refine W_call (args := [rw5 D (iS S) L C (iS N) (List.range w.length), ai 0]) rfl (noRefs_2 (noRef_rw5 _ _ _ _ _ _) rfl) (col0_run _ _ _ _ _ _ (by rw [List.length_range]; omega)) (noRef_al _ _) (W_run 80 ?_)
  simp (maxSteps := 2000000) only [SA, Nat.reduceDiv, Nat.reduceSub, Nat.reduceAdd, Int.reduceLT, Int.reduceLE, Int.reduceToNat, Nat.reduceMul, Nat.reduceEqDiff, reduceCtorEq, Nat.reduceBEq, Nat.reduceLeDiff, Nat.reduceLT, ai, al]
  exact W_ret1 (WX_nil ⟨.inl rfl, _, rfl, reify_nl _ _ _ _⟩)
theorem starts_run (hg : gX V w) (f : Bool) (hB : Back (pf w) V w.length D S) : Runs Try.prog xf 26 [tx f V w] (.tup [al false (stL S w.length), ai 0]) := by
  obtain ⟨L, C, N, hA⟩ := Ahead.ex hg.pos
  have n10 := hg.n10
  have n00 : ((0 : Int) != 0) = false := rfl
  have q1 : 1 ≤ w.length + 1 := by omega
  have q2 : w.length + 1 ≤ w.length + 1 := Nat.le_refl _
  have tk : ∀ a b c d e : Nat → Int, (R5 (w.length + 1) a b c d e).take (w.length + 1) = R5 (w.length + 1) a b c d e := fun a b c d e => List.take_of_length_le (by rw [R5_len]; exact Nat.le_refl _)
  refine Runs.ofW (fn := xf26) 20 (by kernel_rfl) (W_run 80 ?_)
  simp (maxSteps := 2000000) only [SA, Nat.reduceDiv, Nat.reduceSub, Nat.reduceAdd, Int.reduceLT, Int.reduceLE, Int.reduceToNat, Nat.reduceMul, Nat.reduceEqDiff, reduceCtorEq, Nat.reduceBEq, Nat.reduceLeDiff, Nat.reduceLT, xf26, ai, al, tx]
  refine W_call (args := [tx f V w]) rfl (noRefs_1 (noRef_tx _ _ _)) (check_run hg f) rfl (W_run 80 ?_)
  simp (maxSteps := 2000000) only [SA, Nat.reduceDiv, Nat.reduceSub, Nat.reduceAdd, Int.reduceLT, Int.reduceLE, Int.reduceToNat, Nat.reduceMul, Nat.reduceEqDiff, reduceCtorEq, Nat.reduceBEq, Nat.reduceLeDiff, Nat.reduceLT, ai, al, tx, n00]
  refine W_call (args := [tx f V w]) rfl (noRefs_1 (noRef_tx _ _ _)) (places_run hg f hB hA) (noRef_R5 _ _ _ _ _ _) (W_run 80 ?_)
  simp (maxSteps := 2000000) only [SA, Nat.reduceDiv, Nat.reduceSub, Nat.reduceAdd, Int.reduceLT, Int.reduceLE, Int.reduceToNat, Nat.reduceMul, Nat.reduceEqDiff, reduceCtorEq, Nat.reduceBEq, Nat.reduceLeDiff, Nat.reduceLT, ai, al, tx, R5_len, R5_drop, q1, q2, tk]
  refine W_call (args := [rw5 D (iS S) L C (iS N) (List.range' 1 w.length), ai 1]) rfl (noRefs_2 (noRef_rw5 _ _ _ _ _ _) rfl) (col1_run _ _ _ _ _ _ (by rw [List.length_range']; omega)) (noRef_al _ _) (W_run 80 ?_)
  simp (maxSteps := 2000000) only [SA, Nat.reduceDiv, Nat.reduceSub, Nat.reduceAdd, Int.reduceLT, Int.reduceLE, Int.reduceToNat, Nat.reduceMul, Nat.reduceEqDiff, reduceCtorEq, Nat.reduceBEq, Nat.reduceLeDiff, Nat.reduceLT, ai, al]
  exact W_ret1 (WX_nil ⟨.inl rfl, _, rfl, reify_nl _ _ _ _⟩)
theorem least_run (hg : gX V w) (f : Bool) (hA : Ahead (pf w) V w.length L C N) : Runs Try.prog xf 15 [tx f V w] (.tup [ai (L 0), ai 0]) := by
  obtain ⟨D, S, hB⟩ := Back.ex hg.pos w.length (Nat.le_refl _)
  have n00 : ((0 : Int) != 0) = false := rfl
  refine Runs.ofW (fn := xf15) 20 (by kernel_rfl) (W_run 80 ?_)
  simp (maxSteps := 2000000) only [SA, Nat.reduceDiv, Nat.reduceSub, Nat.reduceAdd, Int.reduceLT, Int.reduceLE, Int.reduceToNat, Nat.reduceMul, Nat.reduceEqDiff, reduceCtorEq, Nat.reduceBEq, Nat.reduceLeDiff, Nat.reduceLT, xf15, ai, al, tx]
  refine W_call (args := [tx f V w]) rfl (noRefs_1 (noRef_tx _ _ _)) (check_run hg f) rfl (W_run 80 ?_)
  simp (maxSteps := 2000000) only [SA, Nat.reduceDiv, Nat.reduceSub, Nat.reduceAdd, Int.reduceLT, Int.reduceLE, Int.reduceToNat, Nat.reduceMul, Nat.reduceEqDiff, reduceCtorEq, Nat.reduceBEq, Nat.reduceLeDiff, Nat.reduceLT, ai, al, tx, n00]
  refine W_call (args := [tx f V w]) rfl (noRefs_1 (noRef_tx _ _ _)) (places_run hg f hB hA) (noRef_R5 _ _ _ _ _ _) (W_run 80 ?_)
  simp (maxSteps := 2000000) only [SA, Nat.reduceDiv, Nat.reduceSub, Nat.reduceAdd, Int.reduceLT, Int.reduceLE, Int.reduceToNat, Nat.reduceMul, Nat.reduceEqDiff, reduceCtorEq, Nat.reduceBEq, Nat.reduceLeDiff, Nat.reduceLT, ai, al, tx, R5_at0]
  exact W_ret1 (WX_nil ⟨.inl rfl, _, rfl, rfl⟩)
theorem count_run (hg : gX V w) (f : Bool) (hA : Ahead (pf w) V w.length L C N) : Runs Try.prog xf 16 [tx f V w] (.tup [ai (C 0), ai 0]) := by
  obtain ⟨D, S, hB⟩ := Back.ex hg.pos w.length (Nat.le_refl _)
  have n00 : ((0 : Int) != 0) = false := rfl
  refine Runs.ofW (fn := xf16) 20 (by kernel_rfl) (W_run 80 ?_)
  simp (maxSteps := 2000000) only [SA, Nat.reduceDiv, Nat.reduceSub, Nat.reduceAdd, Int.reduceLT, Int.reduceLE, Int.reduceToNat, Nat.reduceMul, Nat.reduceEqDiff, reduceCtorEq, Nat.reduceBEq, Nat.reduceLeDiff, Nat.reduceLT, xf16, ai, al, tx]
  refine W_call (args := [tx f V w]) rfl (noRefs_1 (noRef_tx _ _ _)) (check_run hg f) rfl (W_run 80 ?_)
  simp (maxSteps := 2000000) only [SA, Nat.reduceDiv, Nat.reduceSub, Nat.reduceAdd, Int.reduceLT, Int.reduceLE, Int.reduceToNat, Nat.reduceMul, Nat.reduceEqDiff, reduceCtorEq, Nat.reduceBEq, Nat.reduceLeDiff, Nat.reduceLT, ai, al, tx, n00]
  refine W_call (args := [tx f V w]) rfl (noRefs_1 (noRef_tx _ _ _)) (places_run hg f hB hA) (noRef_R5 _ _ _ _ _ _) (W_run 80 ?_)
  simp (maxSteps := 2000000) only [SA, Nat.reduceDiv, Nat.reduceSub, Nat.reduceAdd, Int.reduceLT, Int.reduceLE, Int.reduceToNat, Nat.reduceMul, Nat.reduceEqDiff, reduceCtorEq, Nat.reduceBEq, Nat.reduceLeDiff, Nat.reduceLT, ai, al, tx, R5_at0]
  exact W_ret1 (WX_nil ⟨.inl rfl, _, rfl, rfl⟩)
end
/-- the way by the first lines -/
def way (N : Nat → Nat) (n : Nat) : Nat → Nat → List Nat
  | 0, _ => []
  | k + 1, p => if p = n then [] else N p :: way N n k (N p)
def nl (l : List Nat) : List Int := l.map fun (x : Nat) => (x : Int)
theorem fst_loop (V : Int) (w : List Int) (hg : gX V w) (f : Bool) (D L C : Nat → Int) (S N : Nat → Nat) (hA : Ahead (pf w) V w.length L C N) (x4 : AV) (K : List Fr) (Q : Out → Cfg → Prop)
    (hK : ∀ E : List Nat, E = way N w.length w.length 0 → ∀ j8 j9 j10 j11 j12 j13 j14 j15 j16 j17 j18 j19 j20 j21 j22 j23 j24 j25 j26 j27 j28 j29 : AV, W Try.prog (RelU Try.prog xf) 0 K ⟨((tx f V w) :: (.ptr (tx f V w)) :: nilA :: (ai 0) :: x4 :: (.sl 5 false (R5 (w.length + 1) D (iS S) L C (iS N))) :: (.os 15 1 E.length 1 0 E.length) :: (ai w.length) :: j8 :: j9 :: j10 :: j11 :: j12 :: j13 :: j14 :: j15 :: j16 :: j17 :: j18 :: j19 :: j20 :: j21 :: j22 :: j23 :: j24 :: j25 :: j26 :: j27 :: j28 :: j29 :: []), [(15, (1, some ⟨3, 1, (nl E).map ai⟩))]⟩ Q) :
    ∀ (m p : Nat), w.length - p ≤ m → p ≤ w.length → ∀ E : List Nat, E.length ≤ p → E ++ way N w.length m p = way N w.length w.length 0 → ∀ j8 j9 j10 j11 j12 j13 j14 j15 j16 j17 j18 j19 j20 j21 j22 j23 j24 j25 j26 j27 j28 j29 : AV, W Try.prog (RelU Try.prog xf) 0 (.code (.loop xf14_L0) :: .blk 0 :: .stop :: K) ⟨((tx f V w) :: (.ptr (tx f V w)) :: nilA :: (ai 0) :: x4 :: (.sl 5 false (R5 (w.length + 1) D (iS S) L C (iS N))) :: (.os 15 1 E.length 1 0 E.length) :: (ai p) :: j8 :: j9 :: j10 :: j11 :: j12 :: j13 :: j14 :: j15 :: j16 :: j17 :: j18 :: j19 :: j20 :: j21 :: j22 :: j23 :: j24 :: j25 :: j26 :: j27 :: j28 :: j29 :: []), [(15, (1, some ⟨3, 1, (nl E).map ai⟩))]⟩ Q := by
  have n10 := hg.n10
  have fin : ∀ (p : Nat), p = w.length → ∀ E : List Nat, E = way N w.length w.length 0 → ∀ j8 j9 j10 j11 j12 j13 j14 j15 j16 j17 j18 j19 j20 j21 j22 j23 j24 j25 j26 j27 j28 j29 : AV, W Try.prog (RelU Try.prog xf) 0 (.code (.loop xf14_L0) :: .blk 0 :: .stop :: K) ⟨((tx f V w) :: (.ptr (tx f V w)) :: nilA :: (ai 0) :: x4 :: (.sl 5 false (R5 (w.length + 1) D (iS S) L C (iS N))) :: (.os 15 1 E.length 1 0 E.length) :: (ai p) :: j8 :: j9 :: j10 :: j11 :: j12 :: j13 :: j14 :: j15 :: j16 :: j17 :: j18 :: j19 :: j20 :: j21 :: j22 :: j23 :: j24 :: j25 :: j26 :: j27 :: j28 :: j29 :: []), [(15, (1, some ⟨3, 1, (nl E).map ai⟩))]⟩ Q := by
    intro p hp E hE j8 j9 j10 j11 j12 j13 j14 j15 j16 j17 j18 j19 j20 j21 j22 j23 j24 j25 j26 j27 j28 j29
    have h0 : ((p : Int) != (w.length : Int)) = false := by rw [hp]; simp
    refine W_loop (W_run 80 ?_)
    simp (maxSteps := 2000000) only [SA, Nat.reduceDiv, Nat.reduceSub, Nat.reduceAdd, Int.reduceLT, Int.reduceLE, Int.reduceToNat, Nat.reduceMul, Nat.reduceEqDiff, reduceCtorEq, Nat.reduceBEq, Nat.reduceLeDiff, Nat.reduceLT, xf14_L0, ai, al, tx]
    refine W_call (args := [tx f V w]) rfl (noRefs_1 (noRef_tx _ _ _)) (last_run V w f) rfl (W_run 80 ?_)
    simp (maxSteps := 2000000) only [SA, Nat.reduceDiv, Nat.reduceSub, Nat.reduceAdd, Int.reduceLT, Int.reduceLE, Int.reduceToNat, Nat.reduceMul, Nat.reduceEqDiff, reduceCtorEq, Nat.reduceBEq, Nat.reduceLeDiff, Nat.reduceLT, ai, al, tx, h0]
    rw [hp]
    exact W_stop (hK E hE _ _ _ _ _ _ _ _ _ _ _ _ _ _ _ _ _ _ _ _ _ _)
  intro m
  induction m with
  | zero =>
    intro p hm hp E hl hE j8 j9 j10 j11 j12 j13 j14 j15 j16 j17 j18 j19 j20 j21 j22 j23 j24 j25 j26 j27 j28 j29
    rw [way, List.append_nil] at hE
    exact fin p (by omega) E hE _ _ _ _ _ _ _ _ _ _ _ _ _ _ _ _ _ _ _ _ _ _
  | succ m ih =>
    intro p hm hp E hl hE j8 j9 j10 j11 j12 j13 j14 j15 j16 j17 j18 j19 j20 j21 j22 j23 j24 j25 j26 j27 j28 j29
    by_cases hpn : p = w.length
    · rw [way, if_pos hpn, List.append_nil] at hE
      exact fin p hpn E hE _ _ _ _ _ _ _ _ _ _ _ _ _ _ _ _ _ _ _ _ _ _
    · rw [way, if_neg hpn] at hE
      obtain ⟨_, sN, _⟩ := hA.st p (by omega)
      obtain ⟨N1, N2, N3⟩ := sN.mem
      have h0 : ((p : Int) != (w.length : Int)) = true := by rw [bne_iff_ne]; omega
      have hgt : ∀ a b c d e : Nat → Int, (R5 (w.length + 1) a b c d e)[p]? = _ := fun a b c d e => R5_get a b c d e (by omega)
      have hlen : (nl E).length = E.length := by unfold nl; rw [List.length_map]
      have q1 : (E.length + 1) * 8 ≤ 100000000000000 := by omega
      have q2 : E.length + 1 ≤ 100000000000000 := by omega
      have next := ih (N p) (by omega) N2 (E ++ [N p]) (by rw [List.length_append]; simp; omega) (by rw [List.append_assoc]; exact hE)
      rw [List.length_append, show (nl (E ++ [N p])).map ai = (nl E).map ai ++ [ai (N p : Nat)] by unfold nl; simp] at next
      refine W_loop (W_run 80 ?_)
      simp (maxSteps := 2000000) only [SA, Nat.reduceDiv, Nat.reduceSub, Nat.reduceAdd, Int.reduceLT, Int.reduceLE, Int.reduceToNat, Nat.reduceMul, Nat.reduceEqDiff, reduceCtorEq, Nat.reduceBEq, Nat.reduceLeDiff, Nat.reduceLT, xf14_L0, ai, al, tx]
      refine W_call (args := [tx f V w]) rfl (noRefs_1 (noRef_tx _ _ _)) (last_run V w f) rfl (W_run 80 ?_)
      simp (maxSteps := 2000000) only [SA, Nat.reduceDiv, Nat.reduceSub, Nat.reduceAdd, Int.reduceLT, Int.reduceLE, Int.reduceToNat, Nat.reduceMul, Nat.reduceEqDiff, reduceCtorEq, Nat.reduceBEq, Nat.reduceLeDiff, Nat.reduceLT, ai, al, tx, h0, hgt, iS, hlen, q1, q2, Go.Proofs.Eng.elems, List.map_cons, List.map_nil, Int.toNat_natCast]
      exact next _ _ _ _ _ _ _ _ _ _ _ _ _ _ _ _ _ _ _ _ _ _
theorem first_run {V : Int} {w : List Int} (hg : gX V w) (f : Bool) {L C : Nat → Int} {N : Nat → Nat} (hA : Ahead (pf w) V w.length L C N) : Runs Try.prog xf 14 [tx f V w] (.tup [al false (nl (way N w.length w.length 0)), ai 0]) := by
  obtain ⟨D, S, hB⟩ := Back.ex hg.pos w.length (Nat.le_refl _)
  have n00 : ((0 : Int) != 0) = false := rfl
  refine Runs.ofW (fn := xf14) 20 (by kernel_rfl) (W_run 80 ?_)
  simp (maxSteps := 2000000) only [SA, Nat.reduceDiv, Nat.reduceSub, Nat.reduceAdd, Int.reduceLT, Int.reduceLE, Int.reduceToNat, Nat.reduceMul, Nat.reduceEqDiff, reduceCtorEq, Nat.reduceBEq, Nat.reduceLeDiff, Nat.reduceLT, xf14, ai, al, tx]
  refine W_call (args := [tx f V w]) rfl (noRefs_1 (noRef_tx _ _ _)) (check_run hg f) rfl (W_run 80 ?_)
  simp (maxSteps := 2000000) only [SA, Nat.reduceDiv, Nat.reduceSub, Nat.reduceAdd, Int.reduceLT, Int.reduceLE, Int.reduceToNat, Nat.reduceMul, Nat.reduceEqDiff, reduceCtorEq, Nat.reduceBEq, Nat.reduceLeDiff, Nat.reduceLT, ai, al, tx, n00]
  refine W_call (args := [tx f V w]) rfl (noRefs_1 (noRef_tx _ _ _)) (places_run hg f hB hA) (noRef_R5 _ _ _ _ _ _) (W_run 80 ?_)
  simp (maxSteps := 2000000) only [SA, Nat.reduceDiv, Nat.reduceSub, Nat.reduceAdd, Int.reduceLT, Int.reduceLE, Int.reduceToNat, Nat.reduceMul, Nat.reduceEqDiff, reduceCtorEq, Nat.reduceBEq, Nat.reduceLeDiff, Nat.reduceLT, ai, al, tx, List.map_nil]
  refine W_alone (fst_loop V w hg f D L C S N hA _ _ _ (fun E hE j8 j9 j10 j11 j12 j13 j14 j15 j16 j17 j18 j19 j20 j21 j22 j23 j24 j25 j26 j27 j28 j29 => W_run 80 ?_) w.length 0 (by omega) (Nat.zero_le _) [] (Nat.le_refl _) rfl _ _ _ _ _ _ _ _ _ _ _ _ _ _ _ _ _ _ _ _ _ _)
  simp (maxSteps := 2000000) only [SA, Nat.reduceDiv, Nat.reduceSub, Nat.reduceAdd, Int.reduceLT, Int.reduceLE, Int.reduceToNat, Nat.reduceMul, Nat.reduceEqDiff, reduceCtorEq, Nat.reduceBEq, Nat.reduceLeDiff, Nat.reduceLT, xf14_R0, ai]
  subst hE
  exact W_ret1 (WX_nil ⟨.inl rfl, _, rfl, reify_tupos (l := nl (way N w.length w.length 0)) (by unfold nl; rw [List.length_map]) rfl⟩)
end Go.Proofs.Ytdmffkknghianaa

set_option linter.unusedSimpArgs false
set_option linter.unusedVariables false
namespace Go.Proofs.Ytdmffkknghianaa
open Go Go.Proofs.Eng
set_option maxRecDepth 100000
set_option maxHeartbeats 4000000
/-- what is wrong with ends -/
def eE (n : Nat) : Nat → List Nat → Int
  | b, [] => if b = n then 0 else 5
  | b, e :: t => if e < 1 ∨ n < e then 2 else if e ≤ b then 7 else eE n e t
def spE : Nat → List Nat → List (Nat × Nat)
  | _, [] => []
  | b, e :: t => (b, e) :: spE e t
def shP (p : Nat × Nat) : AV := spn p.1 p.2
def spR (l : List (Nat × Nat)) : AV := .sl 2 false (l.map shP)
theorem noRef_spR (l : List (Nat × Nat)) : noRef (spR l) = true := noRefs_of fun x hx => by obtain ⟨z, _, rfl⟩ := List.mem_map.1 hx; rfl
theorem elem_shP (η : List (Nat × (Nat × Option Ob))) (n : Nat) (p : Nat × Nat) : elemR (reify η (n + 1)) (shP p) = some (shP p) := rfl
def fE (q : Nat → Int) (V : Int) (n : Nat) (E : List Nat) : Int := if eE n 0 E = 0 then (if (spE 0 E).all (fun p => fit q V p.1 p.2) = true then 0 else 15) else eE n 0 E
theorem spE_len : ∀ (E : List Nat) (b : Nat), (spE b E).length = E.length
  | [], _ => rfl
  | e :: t, b => by rw [spE, List.length_cons, spE_len t e, List.length_cons]
theorem spE_ok {n : Nat} : ∀ (E : List Nat) (b : Nat), eE n b E = 0 → ∀ p, p ∈ spE b E → p.1 < p.2 ∧ p.2 ≤ n
  | [], _, _, p, hp => by simp [spE] at hp
  | e :: t, b, h, p, hp => by
    rw [eE] at h
    split at h
    · omega
    · split at h
      · omega
      · rw [spE] at hp
        rcases List.mem_cons.1 hp with rfl | hp
        · exact ⟨by simp only; omega, by simp only; omega⟩
        · exact spE_ok t e h p hp
theorem eE_nn (n : Nat) : ∀ (E : List Nat) (b : Nat), 0 ≤ eE n b E ∧ eE n b E ≤ 15
  | [], b => by rw [eE]; split <;> omega
  | e :: t, b => by
    rw [eE]
    split
    · omega
    · split
      · omega
      · exact eE_nn n t e
theorem get_nl {E : List Nat} {k : Nat} (h : k < E.length) : ((nl E).map ai)[k]? = some (ai (E.getD k 0 : Nat)) := by
  unfold nl
  rw [List.map_map, List.getElem?_map, getD_at (d := 0) h]; rfl
theorem nl_len (E : List Nat) : (nl E).length = E.length := by unfold nl; rw [List.length_map]
theorem named18 {q : Nat × Option Ob} (j : Nat) : Go.Proofs.Eng.look [(18, q)] j = Go.Proofs.Eng.look [(12, (0, (none : Option Ob))), (18, q)] j := by
  simp only [Go.Proofs.Eng.look]
  by_cases h : 12 = j
  · subst h; simp
  · simp [h]
theorem spa_loop (V : Int) (w : List Int) (f g : Bool) (E : List Nat) (hn : w.length ≤ 10) (hE : E.length ≤ 100) (x6 : AV) (K : List Fr) (Q : Out → Cfg → Prop)
    (hK : ∀ (l : List (Nat × Nat)) (b : Nat), l = spE 0 E → eE w.length 0 E = (if b = w.length then 0 else 5) → ∀ j3 j9 j10 j11 j12 j13 j14 j15 j16 j17 j18 j22 j23 j24 j25 j26 j27 j28 j29 j30 j31 j32 j33 j34 j35 j36 j37 j38 j39 j40 j41 j42 j43 j44 j45 j46 j47 j48 j49 j50 j51 j52 j53 j54 j55 j56 j57 j58 j59 : AV, W Try.prog (RelU Try.prog xf) 0 K ⟨((tx f V w) :: (al g (nl E)) :: (.ptr (tx f V w)) :: j3 :: nilA :: (ai 0) :: x6 :: (.os 18 1 l.length 2 0 l.length) :: (ai b) :: j9 :: j10 :: j11 :: j12 :: j13 :: j14 :: j15 :: j16 :: j17 :: j18 :: (al g (nl E)) :: (ai E.length) :: (ai E.length) :: j22 :: j23 :: j24 :: j25 :: j26 :: j27 :: j28 :: j29 :: j30 :: j31 :: j32 :: j33 :: j34 :: j35 :: j36 :: j37 :: j38 :: j39 :: j40 :: j41 :: j42 :: j43 :: j44 :: j45 :: j46 :: j47 :: j48 :: j49 :: j50 :: j51 :: j52 :: j53 :: j54 :: j55 :: j56 :: j57 :: j58 :: j59 :: []), [(18, (1, some ⟨77, 2, l.map shP⟩))]⟩ Q)
    (hR : eE w.length 0 E ≠ 0 → ∀ (l : List (Nat × Nat)) (b k : Nat), ∀ j3 j9 j10 j11 j12 j13 j14 j15 j16 j17 j18 j22 j23 j24 j25 j26 j27 j28 j29 j30 j31 j32 j33 j34 j35 j36 j37 j38 j39 j40 j41 j42 j43 j44 j45 j46 j47 j48 j49 j50 j51 j52 j53 j54 j55 j56 j57 j58 j59 : AV, WX Try.prog (RelU Try.prog xf) 0 K .ret ⟨((tx f V w) :: (al g (nl E)) :: (.ptr (tx f V w)) :: j3 :: nilA :: (ai (eE w.length 0 E)) :: x6 :: (.os 18 1 l.length 2 0 l.length) :: (ai b) :: j9 :: j10 :: j11 :: j12 :: j13 :: j14 :: j15 :: j16 :: j17 :: j18 :: (al g (nl E)) :: (ai E.length) :: (ai k) :: j22 :: j23 :: j24 :: j25 :: j26 :: j27 :: j28 :: j29 :: j30 :: j31 :: j32 :: j33 :: j34 :: j35 :: j36 :: j37 :: j38 :: j39 :: j40 :: j41 :: j42 :: j43 :: j44 :: j45 :: j46 :: j47 :: j48 :: j49 :: j50 :: j51 :: j52 :: j53 :: j54 :: j55 :: j56 :: j57 :: j58 :: j59 :: []), [(18, (1, some ⟨77, 2, l.map shP⟩))]⟩ Q) :
    ∀ (m k : Nat), k + m = E.length → ∀ (l : List (Nat × Nat)) (b : Nat), l.length ≤ k → spE 0 E = l ++ spE b (E.drop k) → eE w.length 0 E = eE w.length b (E.drop k) → ∀ j3 j9 j10 j11 j12 j13 j14 j15 j16 j17 j18 j22 j23 j24 j25 j26 j27 j28 j29 j30 j31 j32 j33 j34 j35 j36 j37 j38 j39 j40 j41 j42 j43 j44 j45 j46 j47 j48 j49 j50 j51 j52 j53 j54 j55 j56 j57 j58 j59 : AV, W Try.prog (RelU Try.prog xf) 0 (.code (.loop xf57_L0) :: .blk 0 :: .stop :: K) ⟨((tx f V w) :: (al g (nl E)) :: (.ptr (tx f V w)) :: j3 :: nilA :: (ai 0) :: x6 :: (.os 18 1 l.length 2 0 l.length) :: (ai b) :: j9 :: j10 :: j11 :: j12 :: j13 :: j14 :: j15 :: j16 :: j17 :: j18 :: (al g (nl E)) :: (ai E.length) :: (ai k) :: j22 :: j23 :: j24 :: j25 :: j26 :: j27 :: j28 :: j29 :: j30 :: j31 :: j32 :: j33 :: j34 :: j35 :: j36 :: j37 :: j38 :: j39 :: j40 :: j41 :: j42 :: j43 :: j44 :: j45 :: j46 :: j47 :: j48 :: j49 :: j50 :: j51 :: j52 :: j53 :: j54 :: j55 :: j56 :: j57 :: j58 :: j59 :: []), [(18, (1, some ⟨77, 2, l.map shP⟩))]⟩ Q := by
  have hnl := nl_len E
  intro m
  induction m with
  | zero =>
    intro k hk l b hl h1 h2 j3 j9 j10 j11 j12 j13 j14 j15 j16 j17 j18 j22 j23 j24 j25 j26 j27 j28 j29 j30 j31 j32 j33 j34 j35 j36 j37 j38 j39 j40 j41 j42 j43 j44 j45 j46 j47 j48 j49 j50 j51 j52 j53 j54 j55 j56 j57 j58 j59
    have ek : k = E.length := by omega
    have h0 : decide (k < E.length) = false := decide_eq_false (by omega)
    rw [ek, List.drop_length] at h1 h2
    rw [spE, List.append_nil] at h1
    rw [eE] at h2
    refine W_loop (W_run 80 ?_)
    simp (maxSteps := 2000000) only [SA, Nat.reduceDiv, Nat.reduceSub, Nat.reduceAdd, Int.reduceLT, Int.reduceLE, Int.reduceToNat, Nat.reduceMul, Nat.reduceEqDiff, reduceCtorEq, Nat.reduceBEq, Nat.reduceLeDiff, Nat.reduceLT, xf57_L0, ai, al, tx, lt_cast, h0, hnl]
    rw [ek]
    exact W_stop (hK l b h1.symm h2 _ _ _ _ _ _ _ _ _ _ _ _ _ _ _ _ _ _ _ _ _ _ _ _ _ _ _ _ _ _ _ _ _ _ _ _ _ _ _ _ _ _ _ _ _ _ _ _ _)
  | succ m ih =>
    intro k hk l b hl h1 h2 j3 j9 j10 j11 j12 j13 j14 j15 j16 j17 j18 j22 j23 j24 j25 j26 j27 j28 j29 j30 j31 j32 j33 j34 j35 j36 j37 j38 j39 j40 j41 j42 j43 j44 j45 j46 j47 j48 j49 j50 j51 j52 j53 j54 j55 j56 j57 j58 j59
    have hk1 : k < E.length := by omega
    have h0 : decide (k < E.length) = true := decide_eq_true hk1
    have hgt := get_nl hk1
    have wi : IntKind.i64.wrap ((k : Int) + 1) = ((k + 1 : Nat) : Int) := by rw [wrap_id (by omega) (by omega)]; simp
    rw [drop_at (d := 0) hk1, spE] at h1
    rw [drop_at (d := 0) hk1, eE] at h2
    generalize E.getD k 0 = e at *
    by_cases c1 : e < 1
    · have d1 : decide ((e : Int) < 1) = true := decide_eq_true (by omega)
      rw [if_pos (.inl c1)] at h2
      refine W_loop (W_run 80 ?_)
      simp (maxSteps := 2000000) only [SA, Nat.reduceDiv, Nat.reduceSub, Nat.reduceAdd, Int.reduceLT, Int.reduceLE, Int.reduceToNat, Nat.reduceMul, Nat.reduceEqDiff, reduceCtorEq, Nat.reduceBEq, Nat.reduceLeDiff, Nat.reduceLT, xf57_L0, ai, al, tx, lt_cast, h0, hgt, d1]
      have := hR (by rw [h2]; decide) l b k
      rw [h2] at this
      exact W_ret1 (WX_pop (this _ _ _ _ _ _ _ _ _ _ _ _ _ _ _ _ _ _ _ _ _ _ _ _ _ _ _ _ _ _ _ _ _ _ _ _ _ _ _ _ _ _ _ _ _ _ _ _ _))
    · have d1 : decide ((e : Int) < 1) = false := decide_eq_false (by omega)
      by_cases c2 : w.length < e
      · have d2 : decide (((w.length : Nat) : Int) < (e : Int)) = true := decide_eq_true (by omega)
        rw [if_pos (.inr c2)] at h2
        refine W_loop (W_run 80 ?_)
        simp (maxSteps := 2000000) only [SA, Nat.reduceDiv, Nat.reduceSub, Nat.reduceAdd, Int.reduceLT, Int.reduceLE, Int.reduceToNat, Nat.reduceMul, Nat.reduceEqDiff, reduceCtorEq, Nat.reduceBEq, Nat.reduceLeDiff, Nat.reduceLT, xf57_L0, ai, al, tx, lt_cast, h0, hgt, d1]
        refine W_call (args := [tx f V w]) rfl (noRefs_1 (noRef_tx _ _ _)) (last_run V w f) rfl (W_run 80 ?_)
        simp (maxSteps := 2000000) only [SA, Nat.reduceDiv, Nat.reduceSub, Nat.reduceAdd, Int.reduceLT, Int.reduceLE, Int.reduceToNat, Nat.reduceMul, Nat.reduceEqDiff, reduceCtorEq, Nat.reduceBEq, Nat.reduceLeDiff, Nat.reduceLT, ai, al, tx, lt_cast, c2, decide_true]
        have := hR (by rw [h2]; decide) l b k
        rw [h2] at this
        exact W_ret1 (WX_pop (this _ _ _ _ _ _ _ _ _ _ _ _ _ _ _ _ _ _ _ _ _ _ _ _ _ _ _ _ _ _ _ _ _ _ _ _ _ _ _ _ _ _ _ _ _ _ _ _ _))
      · have d2 : decide (w.length < e) = false := decide_eq_false c2
        rw [if_neg (by omega)] at h2
        by_cases c3 : e ≤ b
        · have d3 : decide (e ≤ b) = true := decide_eq_true c3
          have d3' : decide ((e : Int) ≤ (b : Int)) = true := decide_eq_true (by omega)
          rw [if_pos c3] at h2
          refine W_loop (W_run 80 ?_)
          simp (maxSteps := 2000000) only [SA, Nat.reduceDiv, Nat.reduceSub, Nat.reduceAdd, Int.reduceLT, Int.reduceLE, Int.reduceToNat, Nat.reduceMul, Nat.reduceEqDiff, reduceCtorEq, Nat.reduceBEq, Nat.reduceLeDiff, Nat.reduceLT, xf57_L0, ai, al, tx, lt_cast, h0, hgt, d1]
          refine W_call (args := [tx f V w]) rfl (noRefs_1 (noRef_tx _ _ _)) (last_run V w f) rfl (W_run 80 ?_)
          simp (maxSteps := 2000000) only [SA, Nat.reduceDiv, Nat.reduceSub, Nat.reduceAdd, Int.reduceLT, Int.reduceLE, Int.reduceToNat, Nat.reduceMul, Nat.reduceEqDiff, reduceCtorEq, Nat.reduceBEq, Nat.reduceLeDiff, Nat.reduceLT, ai, al, tx, lt_cast, d2, d3, d3']
          have := hR (by rw [h2]; decide) l b k
          rw [h2] at this
          exact W_ret1 (WX_pop (this _ _ _ _ _ _ _ _ _ _ _ _ _ _ _ _ _ _ _ _ _ _ _ _ _ _ _ _ _ _ _ _ _ _ _ _ _ _ _ _ _ _ _ _ _ _ _ _ _))
        · have d3 : decide (e ≤ b) = false := decide_eq_false c3
          have d3' : decide ((e : Int) ≤ (b : Int)) = false := decide_eq_false (by omega)
          rw [if_neg c3] at h2
          have q1 : (l.length + 1) * 16 ≤ 100000000000000 := by omega
          have q2 : l.length + 1 ≤ 100000000000000 := by omega
          have next := ih (k + 1) (by omega) (l ++ [(b, e)]) e (by rw [List.length_append]; simp; omega) (by rw [h1, List.append_assoc]; rfl) h2
          rw [List.length_append, List.map_append] at next
          refine W_loop (W_run 80 ?_)
          simp (maxSteps := 2000000) only [SA, Nat.reduceDiv, Nat.reduceSub, Nat.reduceAdd, Int.reduceLT, Int.reduceLE, Int.reduceToNat, Nat.reduceMul, Nat.reduceEqDiff, reduceCtorEq, Nat.reduceBEq, Nat.reduceLeDiff, Nat.reduceLT, xf57_L0, ai, al, tx, lt_cast, h0, hgt, d1]
          refine W_call (args := [tx f V w]) rfl (noRefs_1 (noRef_tx _ _ _)) (last_run V w f) rfl (W_run 80 ?_)
          simp (maxSteps := 2000000) only [SA, Nat.reduceDiv, Nat.reduceSub, Nat.reduceAdd, Int.reduceLT, Int.reduceLE, Int.reduceToNat, Nat.reduceMul, Nat.reduceEqDiff, reduceCtorEq, Nat.reduceBEq, Nat.reduceLeDiff, Nat.reduceLT, ai, al, tx, lt_cast, d2, d3, d3', wi, q1, q2, Go.Proofs.Eng.fillA, Go.Proofs.Eng.elems, List.map_cons, List.map_nil]
          exact next _ _ _ _ _ _ _ _ _ _ _ _ _ _ _ _ _ _ _ _ _ _ _ _ _ _ _ _ _ _ _ _ _ _ _ _ _ _ _ _ _ _ _ _ _ _ _ _ _
theorem spb_loop (V : Int) (w : List Int) (hg : gX V w) (f g : Bool) (E : List Nat) (x6 : AV) (l : List (Nat × Nat)) (hl : l.length ≤ 100) (hok : ∀ p, p ∈ l → p.1 < p.2 ∧ p.2 ≤ w.length) (K : List Fr) (Q : Out → Cfg → Prop)
    (hK : l.all (fun p => fit (pf w) V p.1 p.2) = true → ∀ r12 : Nat × Option Ob, ∀ j3 j8 j9 j10 j11 j12 j13 j14 j15 j16 j17 j18 j19 j20 j21 j22 j23 j24 j25 j26 j27 j28 j29 j30 j31 j32 j33 j34 j35 j36 j37 j38 j39 j40 j41 j42 j43 j44 j45 j46 j47 j51 j52 j53 j54 j55 j56 j57 j58 j59 : AV, W Try.prog (RelU Try.prog xf) 0 K ⟨((tx f V w) :: (al g (nl E)) :: (.ptr (tx f V w)) :: j3 :: nilA :: (ai 0) :: x6 :: (.os 18 1 l.length 2 0 l.length) :: j8 :: j9 :: j10 :: j11 :: j12 :: j13 :: j14 :: j15 :: j16 :: j17 :: j18 :: j19 :: j20 :: j21 :: j22 :: j23 :: j24 :: j25 :: j26 :: j27 :: j28 :: j29 :: j30 :: j31 :: j32 :: j33 :: j34 :: j35 :: j36 :: j37 :: j38 :: j39 :: j40 :: j41 :: j42 :: j43 :: j44 :: j45 :: j46 :: j47 :: (.os 18 1 l.length 2 0 l.length) :: (ai l.length) :: (ai l.length) :: j51 :: j52 :: j53 :: j54 :: j55 :: j56 :: j57 :: j58 :: j59 :: []), [(12, r12), (18, (1, some ⟨77, 2, l.map shP⟩))]⟩ Q)
    (hR : l.all (fun p => fit (pf w) V p.1 p.2) = false → ∀ (k : Nat) (r12 : Nat × Option Ob), ∀ j3 j8 j9 j10 j11 j12 j13 j14 j15 j16 j17 j18 j19 j20 j21 j22 j23 j24 j25 j26 j27 j28 j29 j30 j31 j32 j33 j34 j35 j36 j37 j38 j39 j40 j41 j42 j43 j44 j45 j46 j47 j51 j52 j53 j54 j55 j56 j57 j58 j59 : AV, WX Try.prog (RelU Try.prog xf) 0 K .ret ⟨((tx f V w) :: (al g (nl E)) :: (.ptr (tx f V w)) :: j3 :: nilA :: (ai 15) :: x6 :: (.os 18 1 l.length 2 0 l.length) :: j8 :: j9 :: j10 :: j11 :: j12 :: j13 :: j14 :: j15 :: j16 :: j17 :: j18 :: j19 :: j20 :: j21 :: j22 :: j23 :: j24 :: j25 :: j26 :: j27 :: j28 :: j29 :: j30 :: j31 :: j32 :: j33 :: j34 :: j35 :: j36 :: j37 :: j38 :: j39 :: j40 :: j41 :: j42 :: j43 :: j44 :: j45 :: j46 :: j47 :: (.os 18 1 l.length 2 0 l.length) :: (ai l.length) :: (ai k) :: j51 :: j52 :: j53 :: j54 :: j55 :: j56 :: j57 :: j58 :: j59 :: []), [(12, r12), (18, (1, some ⟨77, 2, l.map shP⟩))]⟩ Q) :
    ∀ (m k : Nat), k + m = l.length → l.all (fun p => fit (pf w) V p.1 p.2) = (l.drop k).all (fun p => fit (pf w) V p.1 p.2) → ∀ (g12 : Nat) (o12 : Option Ob), ∀ j3 j8 j9 j10 j11 j12 j13 j14 j15 j16 j17 j18 j19 j20 j21 j22 j23 j24 j25 j26 j27 j28 j29 j30 j31 j32 j33 j34 j35 j36 j37 j38 j39 j40 j41 j42 j43 j44 j45 j46 j47 j51 j52 j53 j54 j55 j56 j57 j58 j59 : AV, W Try.prog (RelU Try.prog xf) 0 (.code (.loop xf57_L1) :: .blk 2 :: .stop :: K) ⟨((tx f V w) :: (al g (nl E)) :: (.ptr (tx f V w)) :: j3 :: nilA :: (ai 0) :: x6 :: (.os 18 1 l.length 2 0 l.length) :: j8 :: j9 :: j10 :: j11 :: j12 :: j13 :: j14 :: j15 :: j16 :: j17 :: j18 :: j19 :: j20 :: j21 :: j22 :: j23 :: j24 :: j25 :: j26 :: j27 :: j28 :: j29 :: j30 :: j31 :: j32 :: j33 :: j34 :: j35 :: j36 :: j37 :: j38 :: j39 :: j40 :: j41 :: j42 :: j43 :: j44 :: j45 :: j46 :: j47 :: (.os 18 1 l.length 2 0 l.length) :: (ai l.length) :: (ai k) :: j51 :: j52 :: j53 :: j54 :: j55 :: j56 :: j57 :: j58 :: j59 :: []), [(12, (g12, o12)), (18, (1, some ⟨77, 2, l.map shP⟩))]⟩ Q := by
  intro m
  induction m with
  | zero =>
    intro k hk h1 g12 o12 j3 j8 j9 j10 j11 j12 j13 j14 j15 j16 j17 j18 j19 j20 j21 j22 j23 j24 j25 j26 j27 j28 j29 j30 j31 j32 j33 j34 j35 j36 j37 j38 j39 j40 j41 j42 j43 j44 j45 j46 j47 j51 j52 j53 j54 j55 j56 j57 j58 j59
    have ek : k = l.length := by omega
    have h0 : decide (k < l.length) = false := decide_eq_false (by omega)
    rw [ek, List.drop_length, List.all_nil] at h1
    refine W_loop (W_run 80 ?_)
    simp (maxSteps := 2000000) only [SA, Nat.reduceDiv, Nat.reduceSub, Nat.reduceAdd, Int.reduceLT, Int.reduceLE, Int.reduceToNat, Nat.reduceMul, Nat.reduceEqDiff, reduceCtorEq, Nat.reduceBEq, Nat.reduceLeDiff, Nat.reduceLT, xf57_L1, ai, al, tx, lt_cast, h0]
    rw [ek]
    exact W_stop (hK h1 _ _ _ _ _ _ _ _ _ _ _ _ _ _ _ _ _ _ _ _ _ _ _ _ _ _ _ _ _ _ _ _ _ _ _ _ _ _ _ _ _ _ _ _ _ _ _ _ _ _ _)
  | succ m ih =>
    intro k hk h1 g12 o12 j3 j8 j9 j10 j11 j12 j13 j14 j15 j16 j17 j18 j19 j20 j21 j22 j23 j24 j25 j26 j27 j28 j29 j30 j31 j32 j33 j34 j35 j36 j37 j38 j39 j40 j41 j42 j43 j44 j45 j46 j47 j51 j52 j53 j54 j55 j56 j57 j58 j59
    have hk1 : k < l.length := by omega
    have h0 : decide (k < l.length) = true := decide_eq_true hk1
    have hgt : (l.map shP)[k]? = some (.ag [ai ((l.getD k (0, 0)).1 : Nat), ai ((l.getD k (0, 0)).2 : Nat)]) := by rw [List.getElem?_map, getD_at (d := (0, 0)) hk1]; rfl
    have wi : IntKind.i64.wrap ((k : Int) + 1) = ((k + 1 : Nat) : Int) := by rw [wrap_id (by omega) (by omega)]; simp
    have hin := hok _ (getD_in (d := (0, 0)) hk1)
    have klt : (k : Int) < l.length := by omega
    have knn : (0 : Int) ≤ k := by omega
    rw [drop_at (d := (0, 0)) hk1, List.all_cons] at h1
    generalize l.getD k (0, 0) = p at *
    have hfit := fits_run hg f hin.1 hin.2
    refine W_loop (W_run 80 ?_)
    simp (maxSteps := 2000000) only [SA, Nat.reduceDiv, Nat.reduceSub, Nat.reduceAdd, Int.reduceLT, Int.reduceLE, Int.reduceToNat, Nat.reduceMul, Nat.reduceEqDiff, reduceCtorEq, Nat.reduceBEq, Nat.reduceLeDiff, Nat.reduceLT, xf57_L1, ai, al, tx, lt_cast, h0, hgt, klt, knn, List.length_map, Int.toNat_natCast, List.map_cons, List.map_nil]
    refine W_call (args := [tx f V w, spn p.1 p.2]) rfl (noRefs_2 (noRef_tx _ _ _) rfl) hfit rfl (W_run 80 ?_)
    cases hf : fit (pf w) V p.1 p.2 with
    | true =>
      rw [hf, Bool.true_and] at h1
      simp (maxSteps := 2000000) only [SA, Nat.reduceDiv, Nat.reduceSub, Nat.reduceAdd, Int.reduceLT, Int.reduceLE, Int.reduceToNat, Nat.reduceMul, Nat.reduceEqDiff, reduceCtorEq, Nat.reduceBEq, Nat.reduceLeDiff, Nat.reduceLT, ai, ab, al, tx, wi]
      exact ih (k + 1) (by omega) h1 _ _ _ _ _ _ _ _ _ _ _ _ _ _ _ _ _ _ _ _ _ _ _ _ _ _ _ _ _ _ _ _ _ _ _ _ _ _ _ _ _ _ _ _ _ _ _ _ _ _ _ _
    | false =>
      rw [hf, Bool.false_and] at h1
      simp (maxSteps := 2000000) only [SA, Nat.reduceDiv, Nat.reduceSub, Nat.reduceAdd, Int.reduceLT, Int.reduceLE, Int.reduceToNat, Nat.reduceMul, Nat.reduceEqDiff, reduceCtorEq, Nat.reduceBEq, Nat.reduceLeDiff, Nat.reduceLT, ai, ab, al, tx, wi]
      exact W_ret1 (WX_pop (hR h1 k _ _ _ _ _ _ _ _ _ _ _ _ _ _ _ _ _ _ _ _ _ _ _ _ _ _ _ _ _ _ _ _ _ _ _ _ _ _ _ _ _ _ _ _ _ _ _ _ _ _ _))
def spanR (q : Nat → Int) (V : Int) (n : Nat) (E : List Nat) : AV := if fE q V n E = 0 then .tup [spR (spE 0 E), ai 0] else .tup [nilA, ai (fE q V n E)]
theorem spansOf_run {V : Int} {w : List Int} (hg : gX V w) (f g : Bool) {E : List Nat} (hE : E.length ≤ 100) : Runs Try.prog xf 57 [tx f V w, al g (nl E)] (spanR (pf w) V w.length E) := by
  have n10 := hg.n10
  have n00 : ((0 : Int) != 0) = false := rfl
  have hnl := nl_len E
  refine Runs.ofW (fn := xf57) 20 (by kernel_rfl) (W_run 80 ?_)
  simp (maxSteps := 2000000) only [SA, Nat.reduceDiv, Nat.reduceSub, Nat.reduceAdd, Int.reduceLT, Int.reduceLE, Int.reduceToNat, Nat.reduceMul, Nat.reduceEqDiff, reduceCtorEq, Nat.reduceBEq, Nat.reduceLeDiff, Nat.reduceLT, xf57, ai, al, tx]
  refine W_call (args := [tx f V w]) rfl (noRefs_1 (noRef_tx _ _ _)) (check_run hg f) rfl (W_run 80 ?_)
  simp (maxSteps := 2000000) only [SA, Nat.reduceDiv, Nat.reduceSub, Nat.reduceAdd, Int.reduceLT, Int.reduceLE, Int.reduceToNat, Nat.reduceMul, Nat.reduceEqDiff, reduceCtorEq, Nat.reduceBEq, Nat.reduceLeDiff, Nat.reduceLT, ai, al, tx, n00, hnl, List.map_nil]
  unfold spanR fE
  refine W_alone (spa_loop V w f g E n10 hE _ _ _ (fun l b hl hb j3 j9 j10 j11 j12 j13 j14 j15 j16 j17 j18 j22 j23 j24 j25 j26 j27 j28 j29 j30 j31 j32 j33 j34 j35 j36 j37 j38 j39 j40 j41 j42 j43 j44 j45 j46 j47 j48 j49 j50 j51 j52 j53 j54 j55 j56 j57 j58 j59 => W_run 80 ?_) (fun hne l b k j3 j9 j10 j11 j12 j13 j14 j15 j16 j17 j18 j22 j23 j24 j25 j26 j27 j28 j29 j30 j31 j32 j33 j34 j35 j36 j37 j38 j39 j40 j41 j42 j43 j44 j45 j46 j47 j48 j49 j50 j51 j52 j53 j54 j55 j56 j57 j58 j59 => ?_) E.length 0 (by omega) [] 0 (Nat.le_refl _) rfl rfl _ _ _ _ _ _ _ _ _ _ _ _ _ _ _ _ _ _ _ _ _ _ _ _ _ _ _ _ _ _ _ _ _ _ _ _ _ _ _ _ _ _ _ _ _ _ _ _ _)
  · have hll : l.length = E.length := by rw [hl, spE_len]
    simp (maxSteps := 2000000) only [SA, Nat.reduceDiv, Nat.reduceSub, Nat.reduceAdd, Int.reduceLT, Int.reduceLE, Int.reduceToNat, Nat.reduceMul, Nat.reduceEqDiff, reduceCtorEq, Nat.reduceBEq, Nat.reduceLeDiff, Nat.reduceLT, xf57_R1, ai, al, tx]
    refine W_call (args := [tx f V w]) rfl (noRefs_1 (noRef_tx _ _ _)) (last_run V w f) rfl (W_run 80 ?_)
    by_cases hbn : b = w.length
    · rw [if_pos hbn] at hb
      have d1 : ((b : Int) != (w.length : Int)) = false := by rw [hbn]; simp
      rw [hb, if_pos rfl]
      simp (maxSteps := 2000000) only [SA, Nat.reduceDiv, Nat.reduceSub, Nat.reduceAdd, Int.reduceLT, Int.reduceLE, Int.reduceToNat, Nat.reduceMul, Nat.reduceEqDiff, reduceCtorEq, Nat.reduceBEq, Nat.reduceLeDiff, Nat.reduceLT, ai, al, tx, d1]
      subst hl
      refine W_alone (W_named named18 (spb_loop V w hg f g E _ (spE 0 E) (by omega) (spE_ok E 0 hb) _ _ (fun h r12 j3 j8 j9 j10 j11 j12 j13 j14 j15 j16 j17 j18 j19 j20 j21 j22 j23 j24 j25 j26 j27 j28 j29 j30 j31 j32 j33 j34 j35 j36 j37 j38 j39 j40 j41 j42 j43 j44 j45 j46 j47 j51 j52 j53 j54 j55 j56 j57 j58 j59 => W_run 80 ?_) (fun h k r12 j3 j8 j9 j10 j11 j12 j13 j14 j15 j16 j17 j18 j19 j20 j21 j22 j23 j24 j25 j26 j27 j28 j29 j30 j31 j32 j33 j34 j35 j36 j37 j38 j39 j40 j41 j42 j43 j44 j45 j46 j47 j51 j52 j53 j54 j55 j56 j57 j58 j59 => ?_) (spE 0 E).length 0 (by omega) rfl _ _ _ _ _ _ _ _ _ _ _ _ _ _ _ _ _ _ _ _ _ _ _ _ _ _ _ _ _ _ _ _ _ _ _ _ _ _ _ _ _ _ _ _ _ _ _ _ _ _ _ _))
      · rw [h, if_pos rfl, if_pos rfl]
        simp (maxSteps := 2000000) only [SA, Nat.reduceDiv, Nat.reduceSub, Nat.reduceAdd, Int.reduceLT, Int.reduceLE, Int.reduceToNat, Nat.reduceMul, Nat.reduceEqDiff, reduceCtorEq, Nat.reduceBEq, Nat.reduceLeDiff, Nat.reduceLT, xf57_R0, ai, al, tx]
        refine W_ret1 (WX_nil ⟨.inl rfl, _, rfl, ?_⟩)
        show ([AV.os 18 1 (spE 0 E).length 2 0 (spE 0 E).length, ai 0].mapM (reify _ 19)).map AV.tup = _
        rw [List.mapM_cons, reify_os (fun p => elem_shP _ 17 p) rfl]; rfl
      · rw [h, if_neg (by simp)]
        exact WX_pop (WX_nil ⟨.inl rfl, _, rfl, rfl⟩)
    · rw [if_neg hbn] at hb
      have d1 : ((b : Int) != (w.length : Int)) = true := by rw [bne_iff_ne]; omega
      rw [hb]
      simp (maxSteps := 2000000) only [SA, Nat.reduceDiv, Nat.reduceSub, Nat.reduceAdd, Int.reduceLT, Int.reduceLE, Int.reduceToNat, Nat.reduceMul, Nat.reduceEqDiff, reduceCtorEq, Nat.reduceBEq, Nat.reduceLeDiff, Nat.reduceLT, ai, al, tx, d1]
      exact W_ret1 (WX_pop (WX_nil ⟨.inl rfl, _, rfl, rfl⟩))
  · rw [if_neg hne, if_neg hne]
    exact WX_pop (WX_nil ⟨.inl rfl, _, rfl, rfl⟩)
def pl (p : Nat → Int) (n : Nat) : List Int := (List.range n).map p
theorem pl_len (p : Nat → Int) (n : Nat) : (pl p n).length = n := by unfold pl; simp
theorem get_pl {p : Nat → Int} {n k : Nat} (h : k < n) : ((pl p n).map ai)[k]? = some (ai (p k)) := by
  unfold pl
  rw [List.map_map, List.getElem?_map, List.getElem?_range h]; rfl
end Go.Proofs.Ytdmffkknghianaa

set_option linter.unusedSimpArgs false
set_option linter.unusedVariables false
namespace Go.Proofs.Ytdmffkknghianaa
open Go Go.Proofs.Eng
set_option maxRecDepth 100000
set_option maxHeartbeats 4000000
theorem noRef_spanR (q : Nat → Int) (V : Int) (n : Nat) (E : List Nat) : noRef (spanR q V n E) = true := by
  unfold spanR
  split
  · exact noRef_t2 (noRef_spR _) rfl
  · rfl
theorem fits2_run {V : Int} {w : List Int} (hg : gX V w) (f g : Bool) {E : List Nat} (hE : E.length ≤ 100) : Runs Try.prog xf 35 [tx f V w, al g (nl E)] (ai (fE (pf w) V w.length E)) := by
  have hs := spansOf_run hg f g hE
  have hn := noRef_spanR (pf w) V w.length E
  refine Runs.ofW (fn := xf35) 20 (by kernel_rfl) (W_run 80 ?_)
  simp (maxSteps := 2000000) only [SA, Nat.reduceDiv, Nat.reduceSub, Nat.reduceAdd, Int.reduceLT, Int.reduceLE, Int.reduceToNat, Nat.reduceMul, Nat.reduceEqDiff, reduceCtorEq, Nat.reduceBEq, Nat.reduceLeDiff, Nat.reduceLT, xf35, ai, al, tx]
  refine W_call (args := [tx f V w, al g (nl E)]) rfl (noRefs_2 (noRef_tx _ _ _) (noRef_al _ _)) hs hn (W_run 80 ?_)
  unfold spanR
  by_cases h : fE (pf w) V w.length E = 0
  · rw [if_pos h, h]
    simp (maxSteps := 2000000) only [SA, Nat.reduceDiv, Nat.reduceSub, Nat.reduceAdd, Int.reduceLT, Int.reduceLE, Int.reduceToNat, Nat.reduceMul, Nat.reduceEqDiff, reduceCtorEq, Nat.reduceBEq, Nat.reduceLeDiff, Nat.reduceLT, ai, al, spR]
    exact W_ret1 (WX_nil ⟨.inl rfl, _, rfl, rfl⟩)
  · rw [if_neg h]
    simp (maxSteps := 2000000) only [SA, Nat.reduceDiv, Nat.reduceSub, Nat.reduceAdd, Int.reduceLT, Int.reduceLE, Int.reduceToNat, Nat.reduceMul, Nat.reduceEqDiff, reduceCtorEq, Nat.reduceBEq, Nat.reduceLeDiff, Nat.reduceLT, ai, al, spR]
    exact W_ret1 (WX_nil ⟨.inl rfl, _, rfl, rfl⟩)
def lftL (q : Nat → Int) (V : Int) (E : List Nat) : List Int := (spE 0 E).map fun p => lf q V p.1 p.2
def cstL (q : Nat → Int) (V : Int) (n : Nat) (E : List Nat) : Int := sumI ((spE 0 E).map fun p => cst q V n p.1 p.2)
theorem named1020 {q : Nat × Option Ob} (j : Nat) : Go.Proofs.Eng.look [(20, q)] j = Go.Proofs.Eng.look [(10, (0, (none : Option Ob))), (20, q)] j := by
  simp only [Go.Proofs.Eng.look]
  by_cases h : 10 = j
  · subst h; simp
  · simp [h]
theorem lft_loop (V : Int) (w : List Int) (hg : gX V w) (f : Bool) (x1 x11 : AV) (l : List (Nat × Nat)) (hl : l.length ≤ 100) (hok : ∀ p, p ∈ l → p.1 < p.2 ∧ p.2 ≤ w.length) (K : List Fr) (Q : Out → Cfg → Prop)
    (hK : ∀ R : List Int, R = l.map (fun p => lf (pf w) V p.1 p.2) → ∀ r10 : Nat × Option Ob, ∀ j3 j9 j10 j12 j13 j14 j15 j16 j17 j18 j19 j20 j24 j25 j26 j27 j28 j29 j30 j31 j32 j33 j34 : AV, W Try.prog (RelU Try.prog xf) 0 K ⟨((tx f V w) :: x1 :: (.ptr (tx f V w)) :: j3 :: nilA :: (ai 0) :: (spR l) :: (ai 0) :: (.os 20 1 R.length 1 0 R.length) :: j9 :: j10 :: x11 :: j12 :: j13 :: j14 :: j15 :: j16 :: j17 :: j18 :: j19 :: j20 :: (spR l) :: (ai l.length) :: (ai l.length) :: j24 :: j25 :: j26 :: j27 :: j28 :: j29 :: j30 :: j31 :: j32 :: j33 :: j34 :: []), [(10, r10), (20, (1, some ⟨3, 1, R.map ai⟩))]⟩ Q) :
    ∀ (m k : Nat), k + m = l.length → ∀ R : List Int, R = (l.take k).map (fun p => lf (pf w) V p.1 p.2) → ∀ (g10 : Nat) (o10 : Option Ob), ∀ j3 j9 j10 j12 j13 j14 j15 j16 j17 j18 j19 j20 j24 j25 j26 j27 j28 j29 j30 j31 j32 j33 j34 : AV, W Try.prog (RelU Try.prog xf) 0 (.code (.loop xf37_L0) :: .blk 0 :: .stop :: K) ⟨((tx f V w) :: x1 :: (.ptr (tx f V w)) :: j3 :: nilA :: (ai 0) :: (spR l) :: (ai 0) :: (.os 20 1 R.length 1 0 R.length) :: j9 :: j10 :: x11 :: j12 :: j13 :: j14 :: j15 :: j16 :: j17 :: j18 :: j19 :: j20 :: (spR l) :: (ai l.length) :: (ai k) :: j24 :: j25 :: j26 :: j27 :: j28 :: j29 :: j30 :: j31 :: j32 :: j33 :: j34 :: []), [(10, (g10, o10)), (20, (1, some ⟨3, 1, R.map ai⟩))]⟩ Q := by
  intro m
  induction m with
  | zero =>
    intro k hk R hR g10 o10 j3 j9 j10 j12 j13 j14 j15 j16 j17 j18 j19 j20 j24 j25 j26 j27 j28 j29 j30 j31 j32 j33 j34
    have ek : k = l.length := by omega
    have h0 : decide (k < l.length) = false := decide_eq_false (by omega)
    refine W_loop (W_run 80 ?_)
    simp (maxSteps := 2000000) only [SA, Nat.reduceDiv, Nat.reduceSub, Nat.reduceAdd, Int.reduceLT, Int.reduceLE, Int.reduceToNat, Nat.reduceMul, Nat.reduceEqDiff, reduceCtorEq, Nat.reduceBEq, Nat.reduceLeDiff, Nat.reduceLT, xf37_L0, ai, al, tx, spR, lt_cast, h0]
    rw [ek]
    exact W_stop (hK R (by rw [hR, List.take_of_length_le (by omega)]) _ _ _ _ _ _ _ _ _ _ _ _ _ _ _ _ _ _ _ _ _ _ _ _)
  | succ m ih =>
    intro k hk R hR g10 o10 j3 j9 j10 j12 j13 j14 j15 j16 j17 j18 j19 j20 j24 j25 j26 j27 j28 j29 j30 j31 j32 j33 j34
    have hk1 : k < l.length := by omega
    have h0 : decide (k < l.length) = true := decide_eq_true hk1
    have hgt : (l.map shP)[k]? = some (.ag [ai ((l.getD k (0, 0)).1 : Nat), ai ((l.getD k (0, 0)).2 : Nat)]) := by rw [List.getElem?_map, getD_at (d := (0, 0)) hk1]; rfl
    have wi : IntKind.i64.wrap ((k : Int) + 1) = ((k + 1 : Nat) : Int) := by rw [wrap_id (by omega) (by omega)]; simp
    have hin := hok _ (getD_in (d := (0, 0)) hk1)
    have hlen : R.length = k := by rw [hR, List.length_map, List.length_take]; omega
    have next := ih (k + 1) (by omega) (R ++ [lf (pf w) V (l.getD k (0, 0)).1 (l.getD k (0, 0)).2]) (by rw [take_snoc (d := (0, 0)) hk1, List.map_append, hR]; rfl)
    generalize l.getD k (0, 0) = p at *
    have hlf := left_run hg f hin.1 hin.2
    have q1 : (R.length + 1) * 8 ≤ 100000000000000 := by omega
    have q2 : R.length + 1 ≤ 100000000000000 := by omega
    rw [List.length_append, List.map_append] at next
    refine W_loop (W_run 80 ?_)
    simp (maxSteps := 2000000) only [SA, Nat.reduceDiv, Nat.reduceSub, Nat.reduceAdd, Int.reduceLT, Int.reduceLE, Int.reduceToNat, Nat.reduceMul, Nat.reduceEqDiff, reduceCtorEq, Nat.reduceBEq, Nat.reduceLeDiff, Nat.reduceLT, xf37_L0, ai, al, tx, spR, lt_cast, h0, hgt, List.map_cons, List.map_nil]
    refine W_call (args := [tx f V w, spn p.1 p.2]) rfl (noRefs_2 (noRef_tx _ _ _) rfl) hlf rfl (W_run 80 ?_)
    simp (maxSteps := 2000000) only [SA, Nat.reduceDiv, Nat.reduceSub, Nat.reduceAdd, Int.reduceLT, Int.reduceLE, Int.reduceToNat, Nat.reduceMul, Nat.reduceEqDiff, reduceCtorEq, Nat.reduceBEq, Nat.reduceLeDiff, Nat.reduceLT, ai, al, tx, wi, spR, q1, q2, Go.Proofs.Eng.elems, List.map_cons, List.map_nil]
    exact next _ _ _ _ _ _ _ _ _ _ _ _ _ _ _ _ _ _ _ _ _ _ _ _ _
def leftR (q : Nat → Int) (V : Int) (n : Nat) (E : List Nat) : AV := if fE q V n E = 0 then .tup [al false (lftL q V E), ai 0] else .tup [nilA, ai (fE q V n E)]
theorem noRef_leftR (q : Nat → Int) (V : Int) (n : Nat) (E : List Nat) : noRef (leftR q V n E) = true := by
  unfold leftR
  split
  · exact noRef_t2 (noRef_al _ _) rfl
  · rfl
theorem fE_ok {q : Nat → Int} {V : Int} {n : Nat} {E : List Nat} (h : fE q V n E = 0) : eE n 0 E = 0 ∧ (spE 0 E).all (fun p => fit q V p.1 p.2) = true := by
  unfold fE at h
  split at h
  · rename_i h2
    split at h
    · exact ⟨h2, by assumption⟩
    · omega
  · rename_i h2
    exact (h2 h).elim
theorem left2_run {V : Int} {w : List Int} (hg : gX V w) (f g : Bool) {E : List Nat} (hE : E.length ≤ 100) : Runs Try.prog xf 37 [tx f V w, al g (nl E)] (leftR (pf w) V w.length E) := by
  have hs := spansOf_run hg f g hE
  have hn := noRef_spanR (pf w) V w.length E
  have n00 : ((0 : Int) != 0) = false := rfl
  refine Runs.ofW (fn := xf37) 20 (by kernel_rfl) (W_run 80 ?_)
  simp (maxSteps := 2000000) only [SA, Nat.reduceDiv, Nat.reduceSub, Nat.reduceAdd, Int.reduceLT, Int.reduceLE, Int.reduceToNat, Nat.reduceMul, Nat.reduceEqDiff, reduceCtorEq, Nat.reduceBEq, Nat.reduceLeDiff, Nat.reduceLT, xf37, ai, al, tx]
  refine W_call (args := [tx f V w, al g (nl E)]) rfl (noRefs_2 (noRef_tx _ _ _) (noRef_al _ _)) hs hn (W_run 80 ?_)
  unfold spanR leftR lftL
  by_cases h : fE (pf w) V w.length E = 0
  · obtain ⟨h1, h2⟩ := fE_ok h
    have hsl := spE_len E 0
    rw [if_pos h, if_pos h]
    simp (maxSteps := 2000000) only [SA, Nat.reduceDiv, Nat.reduceSub, Nat.reduceAdd, Int.reduceLT, Int.reduceLE, Int.reduceToNat, Nat.reduceMul, Nat.reduceEqDiff, reduceCtorEq, Nat.reduceBEq, Nat.reduceLeDiff, Nat.reduceLT, ai, al, tx, spR, n00, List.map_nil]
    refine W_alone (W_named named1020 (lft_loop V w hg f _ _ (spE 0 E) (by omega) (spE_ok E 0 h1) _ _ (fun R hR r10 j3 j9 j10 j12 j13 j14 j15 j16 j17 j18 j19 j20 j24 j25 j26 j27 j28 j29 j30 j31 j32 j33 j34 => W_run 80 ?_) (spE 0 E).length 0 (by omega) [] rfl _ _ _ _ _ _ _ _ _ _ _ _ _ _ _ _ _ _ _ _ _ _ _ _ _))
    simp (maxSteps := 2000000) only [SA, Nat.reduceDiv, Nat.reduceSub, Nat.reduceAdd, Int.reduceLT, Int.reduceLE, Int.reduceToNat, Nat.reduceMul, Nat.reduceEqDiff, reduceCtorEq, Nat.reduceBEq, Nat.reduceLeDiff, Nat.reduceLT, xf37_R0, ai, al, tx, spR]
    subst hR
    generalize hl : ((spE 0 E).map fun p => lf (pf w) V p.1 p.2) = l
    have h := reify_tupos (η := [(10, r10), (20, (1, some ⟨3, 1, l.map ai⟩))]) (k := 20) (g := 1) (e := 3) (z := 0) (n := l.length) (l := l) rfl rfl
    exact W_ret1 (WX_nil ⟨.inl rfl, _, rfl, h⟩)
  · have n1 : (fE (pf w) V w.length E != 0) = true := by rw [bne_iff_ne]; exact h
    rw [if_neg h, if_neg h]
    simp (maxSteps := 2000000) only [SA, Nat.reduceDiv, Nat.reduceSub, Nat.reduceAdd, Int.reduceLT, Int.reduceLE, Int.reduceToNat, Nat.reduceMul, Nat.reduceEqDiff, reduceCtorEq, Nat.reduceBEq, Nat.reduceLeDiff, Nat.reduceLT, ai, al, tx, nilA, n1]
    exact W_ret1 (WX_pop (WX_nil ⟨.inl rfl, _, rfl, rfl⟩))
/-! ### what ends cost -/
theorem cst_sum {V : Int} {w : List Int} (hg : gX V w) {l : List (Nat × Nat)} (hok : ∀ p, p ∈ l → p.1 < p.2 ∧ p.2 ≤ w.length) (k : Nat) : 0 ≤ sumI ((l.take k).map fun p => cst (pf w) V w.length p.1 p.2) ∧ sumI ((l.take k).map fun p => cst (pf w) V w.length p.1 p.2) ≤ 168100 * k := by
  have h := sumI_b (b := 168100) (by omega) (l := (l.take k).map fun p => cst (pf w) V w.length p.1 p.2) fun x hx => by
    obtain ⟨p, hp, rfl⟩ := List.mem_map.1 hx
    have := hok p (List.mem_of_mem_take hp)
    have := cst_b hg this.1 this.2
    omega
  rw [List.length_map, List.length_take] at h
  omega
theorem cst_loop (V : Int) (w : List Int) (hg : gX V w) (f : Bool) (x1 x11 : AV) (l : List (Nat × Nat)) (hl : l.length ≤ 100) (hok : ∀ p, p ∈ l → p.1 < p.2 ∧ p.2 ≤ w.length) (K : List Fr) (Q : Out → Cfg → Prop)
    (hK : ∀ s : Int, s = sumI (l.map (fun p => cst (pf w) V w.length p.1 p.2)) → ∀ r10 : Nat × Option Ob, ∀ j3 j9 j10 j12 j13 j14 j15 j16 j17 j18 j19 j23 j24 j25 j26 j27 j28 j29 j30 j31 j32 : AV, W Try.prog (RelU Try.prog xf) 0 K ⟨((tx f V w) :: x1 :: (.ptr (tx f V w)) :: j3 :: (ai 0) :: (ai 0) :: (spR l) :: (ai 0) :: (ai s) :: j9 :: j10 :: x11 :: j12 :: j13 :: j14 :: j15 :: j16 :: j17 :: j18 :: j19 :: (spR l) :: (ai l.length) :: (ai l.length) :: j23 :: j24 :: j25 :: j26 :: j27 :: j28 :: j29 :: j30 :: j31 :: j32 :: []), [(10, r10)]⟩ Q) :
    ∀ (m k : Nat), k + m = l.length → ∀ s : Int, s = sumI ((l.take k).map (fun p => cst (pf w) V w.length p.1 p.2)) → ∀ (g10 : Nat) (o10 : Option Ob), ∀ j3 j9 j10 j12 j13 j14 j15 j16 j17 j18 j19 j23 j24 j25 j26 j27 j28 j29 j30 j31 j32 : AV, W Try.prog (RelU Try.prog xf) 0 (.code (.loop xf38_L0) :: .blk 0 :: .stop :: K) ⟨((tx f V w) :: x1 :: (.ptr (tx f V w)) :: j3 :: (ai 0) :: (ai 0) :: (spR l) :: (ai 0) :: (ai s) :: j9 :: j10 :: x11 :: j12 :: j13 :: j14 :: j15 :: j16 :: j17 :: j18 :: j19 :: (spR l) :: (ai l.length) :: (ai k) :: j23 :: j24 :: j25 :: j26 :: j27 :: j28 :: j29 :: j30 :: j31 :: j32 :: []), [(10, (g10, o10))]⟩ Q := by
  intro m
  induction m with
  | zero =>
    intro k hk s hs g10 o10 j3 j9 j10 j12 j13 j14 j15 j16 j17 j18 j19 j23 j24 j25 j26 j27 j28 j29 j30 j31 j32
    have ek : k = l.length := by omega
    have h0 : decide (k < l.length) = false := decide_eq_false (by omega)
    refine W_loop (W_run 80 ?_)
    simp (maxSteps := 2000000) only [SA, Nat.reduceDiv, Nat.reduceSub, Nat.reduceAdd, Int.reduceLT, Int.reduceLE, Int.reduceToNat, Nat.reduceMul, Nat.reduceEqDiff, reduceCtorEq, Nat.reduceBEq, Nat.reduceLeDiff, Nat.reduceLT, xf38_L0, ai, al, tx, spR, lt_cast, h0]
    rw [ek]
    exact W_stop (hK s (by rw [hs, List.take_of_length_le (by omega)]) _ _ _ _ _ _ _ _ _ _ _ _ _ _ _ _ _ _ _ _ _ _)
  | succ m ih =>
    intro k hk s hs g10 o10 j3 j9 j10 j12 j13 j14 j15 j16 j17 j18 j19 j23 j24 j25 j26 j27 j28 j29 j30 j31 j32
    have hk1 : k < l.length := by omega
    have h0 : decide (k < l.length) = true := decide_eq_true hk1
    have hgt : (l.map shP)[k]? = some (.ag [ai ((l.getD k (0, 0)).1 : Nat), ai ((l.getD k (0, 0)).2 : Nat)]) := by rw [List.getElem?_map, getD_at (d := (0, 0)) hk1]; rfl
    have wi : IntKind.i64.wrap ((k : Int) + 1) = ((k + 1 : Nat) : Int) := by rw [wrap_id (by omega) (by omega)]; simp
    have hin := hok _ (getD_in (d := (0, 0)) hk1)
    have hb := cst_sum hg hok k
    rw [← hs] at hb
    have next := ih (k + 1) (by omega) (s + cst (pf w) V w.length (l.getD k (0, 0)).1 (l.getD k (0, 0)).2) (by rw [take_snoc (d := (0, 0)) hk1, List.map_append, List.map_cons, List.map_nil, sumI_snoc, ← hs])
    generalize l.getD k (0, 0) = p at *
    have hlf := cost_run hg f hin.1 hin.2
    have hc := cst_b hg hin.1 hin.2
    have ws : IntKind.i64.wrap (s + cst (pf w) V w.length p.1 p.2) = s + cst (pf w) V w.length p.1 p.2 := wrap_id (by omega) (by omega)
    refine W_loop (W_run 80 ?_)
    simp (maxSteps := 2000000) only [SA, Nat.reduceDiv, Nat.reduceSub, Nat.reduceAdd, Int.reduceLT, Int.reduceLE, Int.reduceToNat, Nat.reduceMul, Nat.reduceEqDiff, reduceCtorEq, Nat.reduceBEq, Nat.reduceLeDiff, Nat.reduceLT, xf38_L0, ai, al, tx, spR, lt_cast, h0, hgt, List.map_cons, List.map_nil]
    refine W_call (args := [tx f V w, spn p.1 p.2]) rfl (noRefs_2 (noRef_tx _ _ _) rfl) hlf rfl (W_run 80 ?_)
    simp (maxSteps := 2000000) only [SA, Nat.reduceDiv, Nat.reduceSub, Nat.reduceAdd, Int.reduceLT, Int.reduceLE, Int.reduceToNat, Nat.reduceMul, Nat.reduceEqDiff, reduceCtorEq, Nat.reduceBEq, Nat.reduceLeDiff, Nat.reduceLT, ai, al, tx, wi, spR, ws]
    exact next _ _ _ _ _ _ _ _ _ _ _ _ _ _ _ _ _ _ _ _ _ _ _
def costR (q : Nat → Int) (V : Int) (n : Nat) (E : List Nat) : AV := if fE q V n E = 0 then .tup [ai (cstL q V n E), ai 0] else .tup [ai 0, ai (fE q V n E)]
theorem noRef_costR (q : Nat → Int) (V : Int) (n : Nat) (E : List Nat) : noRef (costR q V n E) = true := by
  unfold costR
  split <;> rfl
theorem named10 (j : Nat) : Go.Proofs.Eng.look [] j = Go.Proofs.Eng.look [(10, (0, (none : Option Ob)))] j := by
  simp only [Go.Proofs.Eng.look]
  by_cases h : 10 = j
  · subst h; simp
  · simp [h]
theorem cost2_run {V : Int} {w : List Int} (hg : gX V w) (f g : Bool) {E : List Nat} (hE : E.length ≤ 100) : Runs Try.prog xf 38 [tx f V w, al g (nl E)] (costR (pf w) V w.length E) := by
  have hs := spansOf_run hg f g hE
  have hn := noRef_spanR (pf w) V w.length E
  have n00 : ((0 : Int) != 0) = false := rfl
  refine Runs.ofW (fn := xf38) 20 (by kernel_rfl) (W_run 80 ?_)
  simp (maxSteps := 2000000) only [SA, Nat.reduceDiv, Nat.reduceSub, Nat.reduceAdd, Int.reduceLT, Int.reduceLE, Int.reduceToNat, Nat.reduceMul, Nat.reduceEqDiff, reduceCtorEq, Nat.reduceBEq, Nat.reduceLeDiff, Nat.reduceLT, xf38, ai, al, tx]
  refine W_call (args := [tx f V w, al g (nl E)]) rfl (noRefs_2 (noRef_tx _ _ _) (noRef_al _ _)) hs hn (W_run 80 ?_)
  unfold spanR costR cstL
  by_cases h : fE (pf w) V w.length E = 0
  · obtain ⟨h1, h2⟩ := fE_ok h
    have hsl := spE_len E 0
    rw [if_pos h, if_pos h]
    simp (maxSteps := 2000000) only [SA, Nat.reduceDiv, Nat.reduceSub, Nat.reduceAdd, Int.reduceLT, Int.reduceLE, Int.reduceToNat, Nat.reduceMul, Nat.reduceEqDiff, reduceCtorEq, Nat.reduceBEq, Nat.reduceLeDiff, Nat.reduceLT, ai, al, tx, spR, n00, List.map_nil]
    refine W_alone (W_named named10 (cst_loop V w hg f _ _ (spE 0 E) (by omega) (spE_ok E 0 h1) _ _ (fun s hs r10 j3 j9 j10 j12 j13 j14 j15 j16 j17 j18 j19 j23 j24 j25 j26 j27 j28 j29 j30 j31 j32 => W_run 80 ?_) (spE 0 E).length 0 (by omega) 0 rfl _ _ _ _ _ _ _ _ _ _ _ _ _ _ _ _ _ _ _ _ _ _ _))
    simp (maxSteps := 2000000) only [SA, Nat.reduceDiv, Nat.reduceSub, Nat.reduceAdd, Int.reduceLT, Int.reduceLE, Int.reduceToNat, Nat.reduceMul, Nat.reduceEqDiff, reduceCtorEq, Nat.reduceBEq, Nat.reduceLeDiff, Nat.reduceLT, xf38_R0, ai, al, tx, spR]
    subst hs
    exact W_ret1 (WX_nil ⟨.inl rfl, _, rfl, rfl⟩)
  · have n1 : (fE (pf w) V w.length E != 0) = true := by rw [bne_iff_ne]; exact h
    rw [if_neg h, if_neg h]
    simp (maxSteps := 2000000) only [SA, Nat.reduceDiv, Nat.reduceSub, Nat.reduceAdd, Int.reduceLT, Int.reduceLE, Int.reduceToNat, Nat.reduceMul, Nat.reduceEqDiff, reduceCtorEq, Nat.reduceBEq, Nat.reduceLeDiff, Nat.reduceLT, ai, al, tx, nilA, n1]
    exact W_ret1 (WX_pop (WX_nil ⟨.inl rfl, _, rfl, rfl⟩))
end Go.Proofs.Ytdmffkknghianaa

