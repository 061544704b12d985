/-
  The law's helpers: left, same, list, prices; slices.IsSorted.
-/
import Derived.Test.YtdmffkknghianaaMq
set_option linter.unusedSimpArgs false
set_option linter.unusedVariables false
namespace Go.Proofs.Ytdmffkknghianaa
open Go Go.Proofs.Eng
set_option maxRecDepth 100000
set_option maxHeartbeats 4000000
theorem lleft_loop (V : Int) (w : List Int) (hg : gX V w) (i j : Nat) (hij : i ≤ j) (hj : j ≤ w.length) (f g : Bool) (K : List Fr) (Q : Out → Cfg → Prop)
    (hK : ∀ j4 j5 j8 j9 j10 j11 j12 j13 j17 j18 j19 j20 j21 j22 j23 j24 j25 j26 j27 j28 : AV, W Try.prog (RelU Try.prog xf) 0 K ⟨((tx f V w) :: (ai i) :: (ai j) :: (.ptr (tx f V w)) :: j4 :: j5 :: (ai 0) :: (ai (-1 + (pf w j - pf w i))) :: j8 :: j9 :: j10 :: j11 :: j12 :: j13 :: (al g ((w.take j).drop i)) :: (ai (((w.take j).drop i).length)) :: (ai (((w.take j).drop i).length)) :: j17 :: j18 :: j19 :: j20 :: j21 :: j22 :: j23 :: j24 :: j25 :: j26 :: j27 :: j28 :: []), []⟩ Q) :
    ∀ (m k : Nat), i + k + m = j → ∀ j4 j5 j8 j9 j10 j11 j12 j13 j17 j18 j19 j20 j21 j22 j23 j24 j25 j26 j27 j28 : AV, W Try.prog (RelU Try.prog xf) 0 (.code (.loop xf36_L0) :: .blk 0 :: .stop :: K) ⟨((tx f V w) :: (ai i) :: (ai j) :: (.ptr (tx f V w)) :: j4 :: j5 :: (ai 0) :: (ai (-1 + (pf w (i + k) - pf w i))) :: j8 :: j9 :: j10 :: j11 :: j12 :: j13 :: (al g ((w.take j).drop i)) :: (ai (((w.take j).drop i).length)) :: (ai k) :: j17 :: j18 :: j19 :: j20 :: j21 :: j22 :: j23 :: j24 :: j25 :: j26 :: j27 :: j28 :: []), []⟩ Q := by
  have hl := seg_len (b := i) hj
  intro m
  induction m with
  | zero =>
    intro k hk j4 j5 j8 j9 j10 j11 j12 j13 j17 j18 j19 j20 j21 j22 j23 j24 j25 j26 j27 j28
    have h0 : decide (k < ((w.take j).drop i).length) = false := decide_eq_false (by omega)
    have e : k = ((w.take j).drop i).length := by omega
    rw [show i + k = j by omega]
    refine W_loop (W_run 80 ?_)
    simp (maxSteps := 2000000) only [SA, Nat.reduceDiv, Nat.reduceSub, Nat.reduceAdd, Int.reduceLT, Int.reduceLE, Int.reduceToNat, Nat.reduceMul, Nat.reduceEqDiff, reduceCtorEq, Nat.reduceBEq, Nat.reduceLeDiff, Nat.reduceLT, xf36_L0, ai, al, tx, lt_cast, h0]
    rw [e]
    exact W_stop (hK _ _ _ _ _ _ _ _ _ _ _ _ _ _ _ _ _ _ _ _)
  | succ m ih =>
    intro k hk j4 j5 j8 j9 j10 j11 j12 j13 j17 j18 j19 j20 j21 j22 j23 j24 j25 j26 j27 j28
    have h1 : k < ((w.take j).drop i).length := by omega
    have h0 : decide (k < ((w.take j).drop i).length) = true := decide_eq_true h1
    have hgt : (((w.take j).drop i).map ai)[k]? = some (ai (((w.take j).drop i).getD k 0)) := by rw [List.getElem?_map, getD_at h1]; rfl
    have hc := hg.cel _ (getD_in (d := 0) (l := w) (i := i + k) (by omega))
    have hs := seg_get (w := w) (b := i) hj (k := k) (by omega)
    have hp := pf_seg (w := w) (i := i) (k := k) hj (by omega)
    have p1 := hg.pb (i + k) (by omega)
    have p2 := hg.pb i (by omega)
    have := hg.n10
    have := hg.W1
    have q1 := hg.pos.le (i := i) (j := i + k) (by omega) (by omega)
    have wi : IntKind.i64.wrap ((k : Int) + 1) = ((k + 1 : Nat) : Int) := by rw [wrap_id (by omega) (by omega)]; simp
    have w1 : IntKind.i64.wrap (((w.take j).drop i).getD k 0 + 1) = ((w.take j).drop i).getD k 0 + 1 := wrap_id (by omega) (by omega)
    have we : IntKind.i64.wrap (-1 + (pf w (i + k) - pf w i) + (((w.take j).drop i).getD k 0 + 1)) = -1 + (pf w (i + (k + 1)) - pf w i) := by
      rw [wrap_id (by omega) (by omega), ← Nat.add_assoc, hp]; omega
    refine W_loop (W_run 80 ?_)
    simp (maxSteps := 2000000) only [SA, Nat.reduceDiv, Nat.reduceSub, Nat.reduceAdd, Int.reduceLT, Int.reduceLE, Int.reduceToNat, Nat.reduceMul, Nat.reduceEqDiff, reduceCtorEq, Nat.reduceBEq, Nat.reduceLeDiff, Nat.reduceLT, xf36_L0, ai, al, tx, lt_cast, h0, hgt, wi, w1, we]
    exact ih (k + 1) (by omega) _ _ _ _ _ _ _ _ _ _ _ _ _ _ _ _ _ _ _ _
theorem lleft_run {V : Int} {w : List Int} (hg : gX V w) (f : Bool) {i j : Nat} (hij : i < j) (hj : j ≤ w.length) : Runs Try.prog xf 36 [tx f V w, ai i, ai j] (ai (lf (pf w) V i j)) := by
  have b1 : i ≤ j := by omega
  have hl := seg_len (b := i) hj
  have b := hg.lb b1 hj
  have p2 := hg.W1
  have e3 : IntKind.i64.wrap (V - (-1 + (pf w j - pf w i))) = lf (pf w) V i j := by
    have : V - (-1 + (pf w j - pf w i)) = lf (pf w) V i j := by unfold lf; omega
    rw [this, wrap_id (by omega) (by omega)]
  have e0 : (-1 : Int) = -1 + (pf w (i + 0) - pf w i) := by simp
  refine Runs.ofW (fn := xf36) 20 (by kernel_rfl) (W_run 80 ?_)
  simp (maxSteps := 2000000) only [SA, Nat.reduceDiv, Nat.reduceSub, Nat.reduceAdd, Int.reduceLT, Int.reduceLE, Int.reduceToNat, Nat.reduceMul, Nat.reduceEqDiff, reduceCtorEq, Nat.reduceBEq, Nat.reduceLeDiff, Nat.reduceLT, xf36, ai, al, tx, b1, hj, seg_drop]
  rw [show (AV.v (Value.int .i64 (-1))) = ai (-1 + (pf w (i + 0) - pf w i)) by rw [← e0]; rfl]
  refine W_alone (lleft_loop V w hg i j b1 hj f _ _ _ (fun j4 j5 j8 j9 j10 j11 j12 j13 j17 j18 j19 j20 j21 j22 j23 j24 j25 j26 j27 j28 => W_run 80 ?_) (j - i) 0 (by omega) _ _ _ _ _ _ _ _ _ _ _ _ _ _ _ _ _ _ _ _)
  simp (maxSteps := 2000000) only [SA, Nat.reduceDiv, Nat.reduceSub, Nat.reduceAdd, Int.reduceLT, Int.reduceLE, Int.reduceToNat, Nat.reduceMul, Nat.reduceEqDiff, reduceCtorEq, Nat.reduceBEq, Nat.reduceLeDiff, Nat.reduceLT, xf36_R0, ai, tx, al, e3]
  exact W_ret1 (WX_nil ⟨.inl rfl, _, rfl, rfl⟩)
theorem list_run (f : Bool) (l : List Int) : Runs Try.prog xf 40 [al f l] (al f l) := by
  refine Runs.ofW (fn := xf40) 20 (by kernel_rfl) (W_run 80 ?_)
  simp (maxSteps := 2000000) only [SA, Nat.reduceDiv, Nat.reduceSub, Nat.reduceAdd, Int.reduceLT, Int.reduceLE, Int.reduceToNat, Nat.reduceMul, Nat.reduceEqDiff, reduceCtorEq, Nat.reduceBEq, Nat.reduceLeDiff, Nat.reduceLT, xf40, al]
  exact W_ret1 (WX_nil ⟨.inl rfl, _, rfl, reify_al _ _ _ _⟩)
theorem same_loop (f g : Bool) (a b : List Int) (hab : a.length = b.length) (hn : a.length ≤ 100) (K : List Fr) (Q : Out → Cfg → Prop)
    (hK : a = b → ∀ j2 j3 j6 j7 j8 j9 j10 j11 j12 j13 j14 j15 j16 j17 j18 j19 j20 j21 j22 j23 j24 j25 : AV, W Try.prog (RelU Try.prog xf) 0 K ⟨((al f a) :: (al g b) :: j2 :: j3 :: (ab false) :: (ai a.length) :: j6 :: j7 :: j8 :: j9 :: j10 :: j11 :: j12 :: j13 :: j14 :: j15 :: j16 :: j17 :: j18 :: j19 :: j20 :: j21 :: j22 :: j23 :: j24 :: j25 :: []), []⟩ Q)
    (hR : a ≠ b → ∀ (i : Nat), ∀ j2 j3 j6 j7 j8 j9 j10 j11 j12 j13 j14 j15 j16 j17 j18 j19 j20 j21 j22 j23 j24 j25 : AV, WX Try.prog (RelU Try.prog xf) 0 K .ret ⟨((al f a) :: (al g b) :: j2 :: j3 :: (ab false) :: (ai i) :: j6 :: j7 :: j8 :: j9 :: j10 :: j11 :: j12 :: j13 :: j14 :: j15 :: j16 :: j17 :: j18 :: j19 :: j20 :: j21 :: j22 :: j23 :: j24 :: j25 :: []), []⟩ Q) :
    ∀ (k i : Nat), i + k = a.length → a.take i = b.take i → ∀ j2 j3 j6 j7 j8 j9 j10 j11 j12 j13 j14 j15 j16 j17 j18 j19 j20 j21 j22 j23 j24 j25 : AV, W Try.prog (RelU Try.prog xf) 0 (.code (.loop xf20_L0) :: .blk 0 :: .stop :: K) ⟨((al f a) :: (al g b) :: j2 :: j3 :: (ab false) :: (ai i) :: j6 :: j7 :: j8 :: j9 :: j10 :: j11 :: j12 :: j13 :: j14 :: j15 :: j16 :: j17 :: j18 :: j19 :: j20 :: j21 :: j22 :: j23 :: j24 :: j25 :: []), []⟩ Q := by
  intro k
  induction k with
  | zero =>
    intro i hi ht j2 j3 j6 j7 j8 j9 j10 j11 j12 j13 j14 j15 j16 j17 j18 j19 j20 j21 j22 j23 j24 j25
    have : i = a.length := by omega
    subst this
    have h0 : decide (a.length < a.length) = false := by simp
    have he : a = b := by rw [List.take_of_length_le (by omega), List.take_of_length_le (by omega)] at ht; exact ht
    refine W_loop (W_run 80 ?_)
    simp (maxSteps := 2000000) only [SA, Nat.reduceDiv, Nat.reduceSub, Nat.reduceAdd, Int.reduceLT, Int.reduceLE, Int.reduceToNat, Nat.reduceMul, Nat.reduceEqDiff, reduceCtorEq, Nat.reduceBEq, Nat.reduceLeDiff, Nat.reduceLT, xf20_L0, ai, al, lt_cast, h0]
    exact W_stop (hK he _ _ _ _ _ _ _ _ _ _ _ _ _ _ _ _ _ _ _ _ _ _)
  | succ k ih =>
    intro i hi ht j2 j3 j6 j7 j8 j9 j10 j11 j12 j13 j14 j15 j16 j17 j18 j19 j20 j21 j22 j23 j24 j25
    have h1 : i < a.length := by omega
    have h2 : i < b.length := by omega
    have h0 : decide (i < a.length) = true := decide_eq_true h1
    have ga : (a.map ai)[i]? = some (ai (a.getD i 0)) := by rw [List.getElem?_map, getD_at h1]; rfl
    have gb : (b.map ai)[i]? = some (ai (b.getD i 0)) := by rw [List.getElem?_map, getD_at h2]; rfl
    have wi : IntKind.i64.wrap ((i : Int) + 1) = ((i + 1 : Nat) : Int) := by rw [wrap_id (by omega) (by omega)]; simp
    refine W_loop (W_run 80 ?_)
    by_cases he : a.getD i 0 = b.getD i 0
    · have d : (a.getD i 0 != b.getD i 0) = false := by rw [he]; simp
      simp (maxSteps := 2000000) only [SA, Nat.reduceDiv, Nat.reduceSub, Nat.reduceAdd, Int.reduceLT, Int.reduceLE, Int.reduceToNat, Nat.reduceMul, Nat.reduceEqDiff, reduceCtorEq, Nat.reduceBEq, Nat.reduceLeDiff, Nat.reduceLT, xf20_L0, ai, al, lt_cast, h0, ga, gb, d, wi]
      exact ih (i + 1) (by omega) (by rw [take_snoc (d := 0) h1, take_snoc (d := 0) h2, ht, he]) _ _ _ _ _ _ _ _ _ _ _ _ _ _ _ _ _ _ _ _ _ _
    · have d : (a.getD i 0 != b.getD i 0) = true := by rw [bne_iff_ne]; exact he
      simp (maxSteps := 2000000) only [SA, Nat.reduceDiv, Nat.reduceSub, Nat.reduceAdd, Int.reduceLT, Int.reduceLE, Int.reduceToNat, Nat.reduceMul, Nat.reduceEqDiff, reduceCtorEq, Nat.reduceBEq, Nat.reduceLeDiff, Nat.reduceLT, xf20_L0, ai, al, lt_cast, h0, ga, gb, d]
      exact W_ret1 (WX_pop (hR (fun e => he (by rw [e])) i _ _ _ _ _ _ _ _ _ _ _ _ _ _ _ _ _ _ _ _ _ _))
theorem same_run (f g : Bool) (a b : List Int) (hn : a.length ≤ 100) : Runs Try.prog xf 20 [al f a, al g b] (ab (decide (a = b))) := by
  refine Runs.ofW (fn := xf20) 20 (by kernel_rfl) (W_run 80 ?_)
  by_cases hl : a.length = b.length
  · have d : ((a.length : Int) != (b.length : Int)) = false := by rw [hl]; simp
    simp (maxSteps := 2000000) only [SA, Nat.reduceDiv, Nat.reduceSub, Nat.reduceAdd, Int.reduceLT, Int.reduceLE, Int.reduceToNat, Nat.reduceMul, Nat.reduceEqDiff, reduceCtorEq, Nat.reduceBEq, Nat.reduceLeDiff, Nat.reduceLT, xf20, ai, al, d]
    refine W_alone (same_loop f g a b hl hn _ _ (fun he j2 j3 j6 j7 j8 j9 j10 j11 j12 j13 j14 j15 j16 j17 j18 j19 j20 j21 j22 j23 j24 j25 => W_run 80 ?_) (fun he i j2 j3 j6 j7 j8 j9 j10 j11 j12 j13 j14 j15 j16 j17 j18 j19 j20 j21 j22 j23 j24 j25 => ?_) a.length 0 (by omega) rfl _ _ _ _ _ _ _ _ _ _ _ _ _ _ _ _ _ _ _ _ _ _)
    · rw [decide_eq_true he]
      simp (maxSteps := 2000000) only [SA, Nat.reduceDiv, Nat.reduceSub, Nat.reduceAdd, Int.reduceLT, Int.reduceLE, Int.reduceToNat, Nat.reduceMul, Nat.reduceEqDiff, reduceCtorEq, Nat.reduceBEq, Nat.reduceLeDiff, Nat.reduceLT, xf20_R0, ai]
      exact W_ret1 (WX_nil ⟨.inl rfl, _, rfl, rfl⟩)
    · rw [decide_eq_false he]
      exact WX_pop (WX_nil ⟨.inl rfl, _, rfl, rfl⟩)
  · have d : ((a.length : Int) != (b.length : Int)) = true := by rw [bne_iff_ne]; omega
    rw [decide_eq_false (fun e => hl (by rw [e]))]
    simp (maxSteps := 2000000) only [SA, Nat.reduceDiv, Nat.reduceSub, Nat.reduceAdd, Int.reduceLT, Int.reduceLE, Int.reduceToNat, Nat.reduceMul, Nat.reduceEqDiff, reduceCtorEq, Nat.reduceBEq, Nat.reduceLeDiff, Nat.reduceLT, xf20, ai, al, d]
    exact W_ret1 (WX_pop (WX_nil ⟨.inl rfl, _, rfl, rfl⟩))
theorem less_run (x y : Int) : Runs Try.prog xf 52 [ai x, ai y] (ab (decide (x < y))) := by
  have h : (x != x) = false := by simp
  have hn : ∀ x : Int, Runs Try.prog xf 64 [ai x] (ab false) := fun x => by
    have h : (x != x) = false := by simp
    refine Runs.ofW (fn := xf64) 20 (by kernel_rfl) (W_run 80 ?_)
    simp (maxSteps := 2000000) only [SA, Nat.reduceDiv, Nat.reduceSub, Nat.reduceAdd, Int.reduceLT, Int.reduceLE, Int.reduceToNat, Nat.reduceMul, Nat.reduceEqDiff, reduceCtorEq, Nat.reduceBEq, Nat.reduceLeDiff, Nat.reduceLT, xf64, ai, ab, h]
    exact W_ret1 (WX_nil ⟨.inl rfl, _, rfl, rfl⟩)
  refine Runs.ofW (fn := xf52) 20 (by kernel_rfl) (W_run 80 ?_)
  simp (maxSteps := 2000000) only [SA, Nat.reduceDiv, Nat.reduceSub, Nat.reduceAdd, Int.reduceLT, Int.reduceLE, Int.reduceToNat, Nat.reduceMul, Nat.reduceEqDiff, reduceCtorEq, Nat.reduceBEq, Nat.reduceLeDiff, Nat.reduceLT, xf52, ai, ab]
  refine W_call (args := [ai x]) rfl rfl (hn x) rfl (W_run 80 ?_)
  simp (maxSteps := 2000000) only [SA, Nat.reduceDiv, Nat.reduceSub, Nat.reduceAdd, Int.reduceLT, Int.reduceLE, Int.reduceToNat, Nat.reduceMul, Nat.reduceEqDiff, reduceCtorEq, Nat.reduceBEq, Nat.reduceLeDiff, Nat.reduceLT, ai, ab]
  exact W_ret1 (WX_nil ⟨.inl rfl, _, rfl, rfl⟩)
theorem iss_loop (f : Bool) (l : List Int) (hn : l.length ≤ 100) (hs : ∀ i, i + 1 < l.length → l.getD i 0 ≤ l.getD (i + 1) 0) (K : List Fr) (Q : Out → Cfg → Prop)
    (hK : ∀ j1 j4 j5 j6 j7 j8 j9 j10 j11 j12 j13 j14 j15 j16 j17 j18 j19 j20 : AV, W Try.prog (RelU Try.prog xf) 0 K ⟨((al f l) :: j1 :: (ab false) :: (ai 0) :: j4 :: j5 :: j6 :: j7 :: j8 :: j9 :: j10 :: j11 :: j12 :: j13 :: j14 :: j15 :: j16 :: j17 :: j18 :: j19 :: j20 :: []), []⟩ Q) :
    ∀ (k : Nat), k < l.length → ∀ j1 j4 j5 j6 j7 j8 j9 j10 j11 j12 j13 j14 j15 j16 j17 j18 j19 j20 : AV, W Try.prog (RelU Try.prog xf) 0 (.code (.loop xf27_L0) :: .blk 0 :: .stop :: K) ⟨((al f l) :: j1 :: (ab false) :: (ai (k : Nat)) :: j4 :: j5 :: j6 :: j7 :: j8 :: j9 :: j10 :: j11 :: j12 :: j13 :: j14 :: j15 :: j16 :: j17 :: j18 :: j19 :: j20 :: []), []⟩ Q := by
  intro k
  induction k with
  | zero =>
    intro hk j1 j4 j5 j6 j7 j8 j9 j10 j11 j12 j13 j14 j15 j16 j17 j18 j19 j20
    have h0 : decide ((0 : Int) < ((0 : Nat) : Int)) = false := rfl
    refine W_loop (W_run 80 ?_)
    simp (maxSteps := 2000000) only [SA, Nat.reduceDiv, Nat.reduceSub, Nat.reduceAdd, Int.reduceLT, Int.reduceLE, Int.reduceToNat, Nat.reduceMul, Nat.reduceEqDiff, reduceCtorEq, Nat.reduceBEq, Nat.reduceLeDiff, Nat.reduceLT, xf27_L0, ai, al, h0]
    exact W_stop (hK _ _ _ _ _ _ _ _ _ _ _ _ _ _ _ _ _ _)
  | succ k ih =>
    intro hk j1 j4 j5 j6 j7 j8 j9 j10 j11 j12 j13 j14 j15 j16 j17 j18 j19 j20
    have h0 : decide ((0 : Int) < ((k + 1 : Nat) : Int)) = true := decide_eq_true (by omega)
    have ga : (l.map ai)[k + 1]? = some (ai (l.getD (k + 1) 0)) := by rw [List.getElem?_map, getD_at hk]; rfl
    have gb : (l.map ai)[k]? = some (ai (l.getD k 0)) := by rw [List.getElem?_map, getD_at (by omega)]; rfl
    have wi : IntKind.i64.wrap (((k + 1 : Nat) : Int) - 1) = (k : Int) := by rw [wrap_id (by omega) (by omega)]; omega
    have d : decide (l.getD (k + 1) 0 < l.getD k 0) = false := decide_eq_false (by have := hs k hk; omega)
    have hc := less_run (l.getD (k + 1) 0) (l.getD k 0)
    rw [d] at hc
    have e1 : (((k + 1 : Nat) : Int)).toNat = k + 1 := by omega
    have e2 : (0 : Int) ≤ ((k + 1 : Nat) : Int) := by omega
    refine W_loop (W_run 80 ?_)
    simp (maxSteps := 2000000) only [SA, Nat.reduceDiv, Nat.reduceSub, Nat.reduceAdd, Int.reduceLT, Int.reduceLE, Int.reduceToNat, Nat.reduceMul, Nat.reduceEqDiff, reduceCtorEq, Nat.reduceBEq, Nat.reduceLeDiff, Nat.reduceLT, xf27_L0, ai, al, h0, ga, gb, wi, e1, e2, Int.toNat_natCast]
    refine W_call (args := [ai (l.getD (k + 1) 0), ai (l.getD k 0)]) rfl rfl hc rfl (W_run 80 ?_)
    simp (maxSteps := 2000000) only [SA, Nat.reduceDiv, Nat.reduceSub, Nat.reduceAdd, Int.reduceLT, Int.reduceLE, Int.reduceToNat, Nat.reduceMul, Nat.reduceEqDiff, reduceCtorEq, Nat.reduceBEq, Nat.reduceLeDiff, Nat.reduceLT, ai, ab, al, wi]
    exact ih (by omega) _ _ _ _ _ _ _ _ _ _ _ _ _ _ _ _ _ _
theorem iss_run (f : Bool) {l : List Int} (h1 : 1 ≤ l.length) (hn : l.length ≤ 100) (hs : ∀ i, i + 1 < l.length → l.getD i 0 ≤ l.getD (i + 1) 0) : Runs Try.prog xf 27 [al f l] (ab true) := by
  have wi : IntKind.i64.wrap ((l.length : Int) - 1) = ((l.length - 1 : Nat) : Int) := by rw [wrap_id (by omega) (by omega)]; omega
  refine Runs.ofW (fn := xf27) 20 (by kernel_rfl) (W_run 80 ?_)
  simp (maxSteps := 2000000) only [SA, Nat.reduceDiv, Nat.reduceSub, Nat.reduceAdd, Int.reduceLT, Int.reduceLE, Int.reduceToNat, Nat.reduceMul, Nat.reduceEqDiff, reduceCtorEq, Nat.reduceBEq, Nat.reduceLeDiff, Nat.reduceLT, xf27, ai, al, wi]
  refine W_alone (iss_loop f l hn hs _ _ (fun j1 j4 j5 j6 j7 j8 j9 j10 j11 j12 j13 j14 j15 j16 j17 j18 j19 j20 => W_run 80 ?_) (l.length - 1) (by omega) _ _ _ _ _ _ _ _ _ _ _ _ _ _ _ _ _ _)
  simp (maxSteps := 2000000) only [SA, Nat.reduceDiv, Nat.reduceSub, Nat.reduceAdd, Int.reduceLT, Int.reduceLE, Int.reduceToNat, Nat.reduceMul, Nat.reduceEqDiff, reduceCtorEq, Nat.reduceBEq, Nat.reduceLeDiff, Nat.reduceLT, xf27_R0, ai]
  exact W_ret1 (WX_nil ⟨.inl rfl, _, rfl, rfl⟩)
end Go.Proofs.Ytdmffkknghianaa

