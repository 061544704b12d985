/-
  What is known of places: lookBack.
-/
import Derived.Test.YtdmffkknghianaaMd
set_option linter.unusedSimpArgs false
set_option linter.unusedVariables false
namespace Go.Proofs.Ytdmffkknghianaa
open Go Go.Proofs.Eng
set_option maxRecDepth 100000
set_option maxHeartbeats 4000000
theorem W_callvL {P : Program} {R : Rel} {kb : Nat} {k : List Fr} {c : Cfg} {Q : Out → Cfg → Prop} {l : Option Lv} {f d fuel : Nat} {x : XArg} {caps : List AV} {xs : List XArg} {args args' : List AV} {r : AV} (hx : evalA c.σ x = .fn f caps) (hc : callable P f = true) (ha : xs.map (evalA c.σ) ++ caps = args)
    (hm : args.mapM (reify c.η fuel) = some args') (hr : R.p f args' r) (hs : scal r = true) (hl : limOK l .read = true) (h : W P R kb k ⟨c.σ.set d r, c.η⟩ Q) : W P R kb (.op l ⟨some d, .callv x xs, none⟩ :: k) c Q := by
  subst ha
  exact W_op (.look c (d := 0) f fuel _ args' r rfl (by simp only [Go.Proofs.Eng.step, hx, hc, if_true]) hm hr hs) hl h
theorem fk64 (η : Heap) (d : Nat) : freeK η 64 d = match (lookF η d).2 with
  | some _ => freeK η 63 (d + 100000)
  | none => d := rfl
/-- what is known of places: rows of five numbers -/
def kn (a b c d e : Int) : AV := .ag [ai a, ai b, ai c, ai d, ai e]
def R5 (m : Nat) (a b c d e : Nat → Int) : List AV := (List.range m).map fun i => kn (a i) (b i) (c i) (d i) (e i)
def up (a : Nat → Int) (i : Nat) (x : Int) : Nat → Int := fun k => if k = i then x else a k
theorem R5_len (m : Nat) (a b c d e : Nat → Int) : (R5 m a b c d e).length = m := by unfold R5; simp
theorem R5_get {m : Nat} (a b c d e : Nat → Int) {i : Nat} (h : i < m) : (R5 m a b c d e)[i]? = some (.ag [.v (.int .i64 (a i)), .v (.int .i64 (b i)), .v (.int .i64 (c i)), .v (.int .i64 (d i)), .v (.int .i64 (e i))]) := by
  unfold R5; rw [List.getElem?_map, List.getElem?_range h]; rfl
theorem R5_set (m : Nat) (a b c d e : Nat → Int) (i : Nat) (x1 x2 x3 x4 x5 : Int) : (R5 m a b c d e).set i (.ag [.v (.int .i64 x1), .v (.int .i64 x2), .v (.int .i64 x3), .v (.int .i64 x4), .v (.int .i64 x5)]) = R5 m (up a i x1) (up b i x2) (up c i x3) (up d i x4) (up e i x5) := by
  unfold R5 up
  refine List.ext_getElem (by simp) fun k h1 h2 => ?_
  rw [List.getElem_set]
  simp only [List.getElem_map, List.getElem_range]
  by_cases h : i = k
  · subst h; simp [kn, ai]
  · rw [if_neg h]
    have h' : ¬ k = i := fun e => h e.symm
    simp [h', kn]
theorem up_at (a : Nat → Int) (i : Nat) (x : Int) : up a i x i = x := by unfold up; simp
theorem R5_congr {m : Nat} {a b c d e a' b' c' d' e' : Nat → Int} (h : ∀ i, i < m → a i = a' i ∧ b i = b' i ∧ c i = c' i ∧ d i = d' i ∧ e i = e' i) : R5 m a b c d e = R5 m a' b' c' d' e' := by
  unfold R5
  refine List.map_congr_left fun i hi => ?_
  obtain ⟨h1, h2, h3, h4, h5⟩ := h i (List.mem_range.1 hi)
  rw [h1, h2, h3, h4, h5]
theorem elem_kn (η : List (Nat × (Nat × Option Ob))) (n : Nat) (x1 x2 x3 x4 x5 : Int) : elemR (reify η (n + 1)) (kn x1 x2 x3 x4 x5) = some (kn x1 x2 x3 x4 x5) := rfl
theorem reify_R5 {η : Heap} {n k g e m : Nat} {a b c d e' : Nat → Int} (hk : Go.Proofs.Eng.look η k = (g, some ⟨e, 5, R5 m a b c d e'⟩)) : reify η (n + 2) (.os k g m 5 0 m) = some (.sl 5 false (R5 m a b c d e')) := by
  have h := reify_os (η := η) (n := n + 1) (k := k) (g := g) (e := e) (s := 5) (f := fun i => kn (a i) (b i) (c i) (d i) (e' i)) (l := List.range m) (fun i => elem_kn _ _ _ _ _ _ _) hk
  rw [List.length_range] at h
  exact h
theorem mapM_self {α : Type} {h : α → Option α} : ∀ {xs : List α}, (∀ x, x ∈ xs → h x = some x) → xs.mapM h = some xs
  | [], _ => rfl
  | x :: t, hx => by
    rw [List.mapM_cons, hx x List.mem_cons_self, mapM_self (xs := t) fun y hy => hx y (List.mem_cons_of_mem _ hy)]; rfl
theorem reify_al (η : Heap) (n : Nat) (f : Bool) (l : List Int) : reify η (n + 2) (al f l) = some (al f l) := by
  have h := mapM_self (h := elemR (reify η (n + 1))) (xs := l.map ai) fun x hx => by obtain ⟨z, _, rfl⟩ := List.mem_map.1 hx; rfl
  show ((l.map ai).mapM (elemR (reify η (n + 1)))).map (AV.sl 1 f) = _
  rw [h]; rfl
theorem reify_tx (η : Heap) (n : Nat) (f : Bool) (V : Int) (w : List Int) : reify η (n + 3) (tx f V w) = some (tx f V w) := by
  show ([ai V, al f w].mapM (reify η (n + 2))).map AV.ag = _
  rw [List.mapM_cons, List.mapM_cons, reify_al]; rfl
theorem reify_spL (η : Heap) (n : Nat) (sp : Nat → Nat × Nat) (l : List Nat) : reify η (n + 2) (spL sp l) = some (spL sp l) := by
  have h := mapM_self (h := elemR (reify η (n + 1))) (xs := l.map (sg sp)) fun x hx => by obtain ⟨z, _, rfl⟩ := List.mem_map.1 hx; rfl
  show ((l.map (sg sp)).mapM (elemR (reify η (n + 1)))).map (AV.sl 2 false) = _
  rw [h]; rfl
theorem reify_cap {η : Heap} {n k g e m : Nat} {a b c d e' : Nat → Int} (hk : Go.Proofs.Eng.look η k = (g, some ⟨e, 5, R5 m a b c d e'⟩)) : reify η (n + 3) (.ptr (.os k g m 5 0 m)) = some (.ptr (.sl 5 false (R5 m a b c d e'))) := by
  show (reify η (n + 2) (.os k g m 5 0 m)).map AV.ptr = _
  rw [reify_R5 hk]; rfl
theorem reify_ptx (η : Heap) (n : Nat) (f : Bool) (V : Int) (w : List Int) : reify η (n + 4) (.ptr (tx f V w)) = some (.ptr (tx f V w)) := by
  show (([ai V, al f w].mapM (reify η (n + 3))).map AV.ag).map AV.ptr = _
  rw [List.mapM_cons, List.mapM_cons, reify_al]; rfl
def sumF (q : Nat → Int) (V : Int) (a : Nat → Int) (j i : Nat) : Int := a i + sq q V i j
theorem lb1_run {V : Int} {w : List Int} (hg : gX V w) (f : Bool) {m : Nat} (a b c d e : Nat → Int) {i j : Nat} (hij : i < j) (hj : j ≤ w.length) (hm : j ≤ m) (ha : 0 ≤ a i ∧ a i ≤ 100000) :
    Runs Try.prog xf 66 [spn i j, .ptr (.sl 5 false (R5 m a b c d e)), .ptr (tx f V w)] (ai (sumF (pf w) V a j i)) := by
  have hget := R5_get a b c d e (m := m) (i := i) (by omega)
  have hsq := square_run hg f hij hj
  have b1 := hg.lb (i := i) (j := j) (by omega) hj
  have hs : sq (pf w) V i j ≤ 410 * 410 := by
    unfold sq
    rcases Int.le_total 0 (lf (pf w) V i j) with h | h
    · exact Int.mul_le_mul (by omega) (by omega) h (by omega)
    · have : (-lf (pf w) V i j) * (-lf (pf w) V i j) ≤ 410 * 410 := Int.mul_le_mul (by omega) (by omega) (by omega) (by omega)
      rwa [Int.neg_mul_neg] at this
  have hn := sq_nn (pf w) V i j
  have wi : IntKind.i64.wrap (a i + sq (pf w) V i j) = sumF (pf w) V a j i := wrap_id (by omega) (by omega)
  refine Runs.ofW (fn := xf66) 20 (by kernel_rfl) (W_run 80 ?_)
  simp (maxSteps := 2000000) only [SA, Nat.reduceDiv, Nat.reduceSub, Nat.reduceAdd, Int.reduceLT, Int.reduceLE, Int.reduceToNat, Nat.reduceMul, Nat.reduceEqDiff, reduceCtorEq, Nat.reduceBEq, Nat.reduceLeDiff, Nat.reduceLT, xf66, ai, al, tx, spn, shA, hget]
  refine W_call (args := [tx f V w, spn i j]) rfl (noRefs_2 (noRef_tx _ _ _) rfl) hsq rfl (W_run 80 ?_)
  simp (maxSteps := 2000000) only [SA, Nat.reduceDiv, Nat.reduceSub, Nat.reduceAdd, Int.reduceLT, Int.reduceLE, Int.reduceToNat, Nat.reduceMul, Nat.reduceEqDiff, reduceCtorEq, Nat.reduceBEq, Nat.reduceLeDiff, Nat.reduceLT, ai, al, tx, wi]
  exact W_ret1 (WX_nil ⟨.inl rfl, _, rfl, rfl⟩)
theorem call_lb1 : callable Try.prog 66 = true := by kernel_rfl
def zr : Nat → Int := fun _ => 0
def til (j : Nat) (D : Nat → Int) : Nat → Int := fun i => if i < j then D i else 0
theorem til_up {j : Nat} {D : Nat → Int} : ∀ i, up (til j D) j (D j) i = til (j + 1) D i := fun i => by
  unfold up til
  by_cases h : i = j
  · subst h; simp
  · rw [if_neg h]
    by_cases h2 : i < j
    · rw [if_pos h2, if_pos (by omega)]
    · rw [if_neg h2, if_neg (by omega)]
def iS (S : Nat → Nat) : Nat → Int := fun i => (S i : Int)
theorem back_loop (V : Int) (w : List Int) (hg : gX V w) (f : Bool) (D : Nat → Int) (S : Nat → Nat) (hB : Back (pf w) V w.length D S) (g7 : Nat) (K : List Fr) (Q : Out → Cfg → Prop)
    (hK : ∀ (r6 : Nat × Option Ob), ∀ j5 j6 j7 j8 j9 j10 j11 j12 j13 j14 j15 j16 j17 j18 j19 j20 j21 j22 j23 j24 j25 j26 j27 j28 j29 j30 j31 : AV, W Try.prog (RelU Try.prog xf) 1000 K ⟨((tx f V w) :: (.os 7 g7 (w.length + 1) 5 0 (w.length + 1)) :: (.ptr (tx f V w)) :: (.ptr (.os 7 g7 (w.length + 1) 5 0 (w.length + 1))) :: (ai (w.length + 1 : Nat)) :: j5 :: j6 :: j7 :: j8 :: j9 :: j10 :: j11 :: j12 :: j13 :: j14 :: j15 :: j16 :: j17 :: j18 :: j19 :: j20 :: j21 :: j22 :: j23 :: j24 :: j25 :: j26 :: j27 :: j28 :: j29 :: j30 :: j31 :: []), [(7, (g7, some ⟨72, 5, R5 (w.length + 1) D (iS S) zr zr zr⟩)), (1006, r6)]⟩ Q) :
    ∀ (m j : Nat), j + m = w.length + 1 → 1 ≤ j → ∀ (g6 : Nat) (o6 : Option Ob), ∀ j5 j6 j7 j8 j9 j10 j11 j12 j13 j14 j15 j16 j17 j18 j19 j20 j21 j22 j23 j24 j25 j26 j27 j28 j29 j30 j31 : AV, W Try.prog (RelU Try.prog xf) 1000 (.code (.loop xf60_L0) :: .blk 0 :: .stop :: K) ⟨((tx f V w) :: (.os 7 g7 (w.length + 1) 5 0 (w.length + 1)) :: (.ptr (tx f V w)) :: (.ptr (.os 7 g7 (w.length + 1) 5 0 (w.length + 1))) :: (ai j) :: j5 :: j6 :: j7 :: j8 :: j9 :: j10 :: j11 :: j12 :: j13 :: j14 :: j15 :: j16 :: j17 :: j18 :: j19 :: j20 :: j21 :: j22 :: j23 :: j24 :: j25 :: j26 :: j27 :: j28 :: j29 :: j30 :: j31 :: []), [(7, (g7, some ⟨72, 5, R5 (w.length + 1) (til j D) (til j (iS S)) zr zr zr⟩)), (1006, (g6, o6))]⟩ Q := by
  have hp := hg.pos
  have n10 := hg.n10
  intro m
  induction m with
  | zero =>
    intro j hj h1 g6 o6 j5 j6 j7 j8 j9 j10 j11 j12 j13 j14 j15 j16 j17 j18 j19 j20 j21 j22 j23 j24 j25 j26 j27 j28 j29 j30 j31
    have e : j = w.length + 1 := by omega
    have h0 : decide ((j : Int) ≤ w.length) = false := decide_eq_false (by omega)
    have eR : R5 (w.length + 1) (til j D) (til j (iS S)) zr zr zr = R5 (w.length + 1) D (iS S) zr zr zr := R5_congr fun i hi => by
      unfold til; rw [if_pos (by omega), if_pos (by omega)]; exact ⟨rfl, rfl, rfl, rfl, rfl⟩
    rw [eR]
    refine W_loop (W_run 80 ?_)
    simp (maxSteps := 2000000) only [SA, Nat.reduceDiv, Nat.reduceSub, Nat.reduceAdd, Int.reduceLT, Int.reduceLE, Int.reduceToNat, Nat.reduceMul, Nat.reduceEqDiff, reduceCtorEq, Nat.reduceBEq, Nat.reduceLeDiff, Nat.reduceLT, xf60_L0, ai, al, tx]
    refine W_call (args := [tx f V w]) rfl (noRefs_1 (noRef_tx _ _ _)) (last_run V w f) rfl (W_run 80 ?_)
    simp (maxSteps := 2000000) only [SA, Nat.reduceDiv, Nat.reduceSub, Nat.reduceAdd, Int.reduceLT, Int.reduceLE, Int.reduceToNat, Nat.reduceMul, Nat.reduceEqDiff, reduceCtorEq, Nat.reduceBEq, Nat.reduceLeDiff, Nat.reduceLT, ai, al, tx, h0]
    rw [e]
    exact W_stop (hK _ _ _ _ _ _ _ _ _ _ _ _ _ _ _ _ _ _ _ _ _ _ _ _ _ _ _ _)
  | succ m ih =>
    intro j hj h1 g6 o6 j5 j6 j7 j8 j9 j10 j11 j12 j13 j14 j15 j16 j17 j18 j19 j20 j21 j22 j23 j24 j25 j26 j27 j28 j29 j30 j31
    have h2 : j ≤ w.length := by omega
    have h0 : decide ((j : Int) ≤ w.length) = true := decide_eq_true (by omega)
    have wi : IntKind.i64.wrap ((j : Int) + 1) = ((j + 1 : Nat) : Int) := by rw [wrap_id (by omega) (by omega)]; simp
    obtain ⟨dj, hFM⟩ := hB.st j h1 h2
    have hl0 : 0 < (lb (pf w) V j).length := List.length_pos_iff.2 (lb_ne hp h1 h2)
    have hll : (lb (pf w) V j).length ≤ 1000 := Nat.le_trans (lbK_len (pf w) V j j) (by omega)
    have hb : ∀ i, i < j → 0 ≤ til j D i ∧ til j D i ≤ 100000 := fun i hi => by
      unfold til; rw [if_pos hi]; have := hB.b hp hg.W1 i (by omega); omega
    have hfw := fwl_run (fun i => (i, j)) (sumF (pf w) V (til j D) j) 66 [.ptr (.sl 5 false (R5 (w.length + 1) (til j D) (til j (iS S)) zr zr zr)), .ptr (tx f V w)]
      (by show (noRefs (R5 _ _ _ _ _ _) && (noRef (tx f V w) && true)) = true; rw [noRef_tx, noRefs_of fun x hx => by unfold R5 at hx; obtain ⟨z, _, rfl⟩ := List.mem_map.1 hx; rfl]; rfl) call_lb1 (lb (pf w) V j) hll hl0
      (fun i hi => lb1_run (i := i) (j := j) hg f _ _ _ _ _ (lb_mem.2 hi).1 h2 (Nat.le_succ_of_le h2) (hb i (lb_mem.2 hi).1))
    have hm : fmK (sumF (pf w) V (til j D) j) (lb (pf w) V j) (lb (pf w) V j).length = S j := (fmK_FM hl0 (lb_up _ _ _) fun y => lb_mem).uniq (hFM.congr (fun _ => .rfl) fun y hy => by
      show _ = til j D y + _; unfold til; rw [if_pos hy.1])
    rw [hm] at hfw
    have hS := hFM.mem.1
    have hg5 : ∀ a b c d e : Nat → Int, (R5 (w.length + 1) a b c d e)[j]? = _ := fun a b c d e => R5_get a b c d e (by omega)
    have jlt : (j : Int) < (w.length + 1 : Nat) := by omega
    have jnn : (0 : Int) ≤ j := by omega
    have hlb := lb1_run hg f (m := w.length + 1) (til j D) (til j (iS S)) zr zr zr hS h2 (by omega) (hb _ hS)
    have hsum : sumF (pf w) V (til j D) j (S j) = D j := by unfold sumF til; rw [if_pos hS]; exact dj.symm
    rw [hsum] at hlb
    refine W_loop (W_run 80 ?_)
    simp (maxSteps := 2000000) only [SA, Nat.reduceDiv, Nat.reduceSub, Nat.reduceAdd, Int.reduceLT, Int.reduceLE, Int.reduceToNat, Nat.reduceMul, Nat.reduceEqDiff, reduceCtorEq, Nat.reduceBEq, Nat.reduceLeDiff, Nat.reduceLT, xf60_L0, ai, al, tx]
    refine W_call (args := [tx f V w]) rfl (noRefs_1 (noRef_tx _ _ _)) (last_run V w f) rfl (W_run 80 ?_)
    simp (maxSteps := 2000000) only [SA, Nat.reduceDiv, Nat.reduceSub, Nat.reduceAdd, Int.reduceLT, Int.reduceLE, Int.reduceToNat, Nat.reduceMul, Nat.reduceEqDiff, reduceCtorEq, Nat.reduceBEq, Nat.reduceLeDiff, Nat.reduceLT, ai, al, tx, h0]
    refine W_call (args := [tx f V w, ai j]) rfl (noRefs_2 (noRef_tx _ _ _) rfl) (to_run hg f h2) (noRef_spT _ _) (W_run 80 ?_)
    simp (maxSteps := 2000000) only [SA, Nat.reduceDiv, Nat.reduceSub, Nat.reduceAdd, Int.reduceLT, Int.reduceLE, Int.reduceToNat, Nat.reduceMul, Nat.reduceEqDiff, reduceCtorEq, Nat.reduceBEq, Nat.reduceLeDiff, Nat.reduceLT, ai, al, tx]
    refine W_look (fuel := 20) (args := [spL (fun i => (i, j)) (lb (pf w) V j), .fn 66 [.ptr (.os 7 g7 (w.length + 1) 5 0 (w.length + 1)), .ptr (tx f V w)]]) rfl (by
      rw [List.mapM_cons, List.mapM_cons, reify_spL]
      show (do let t ← (do let y ← (([AV.ptr (.os 7 g7 (w.length + 1) 5 0 (w.length + 1)), .ptr (tx f V w)].mapM (reify _ 19)).map (AV.fn _)); let t ← [].mapM (reify _ 20); pure (y :: t)); pure (spL (fun i => (i, j)) (lb (pf w) V j) :: t)) = _
      rw [List.mapM_cons, List.mapM_cons, reify_cap rfl, reify_ptx]; rfl) hfw rfl rfl (W_run 80 ?_)
    simp (maxSteps := 2000000) only [SA, Nat.reduceDiv, Nat.reduceSub, Nat.reduceAdd, Int.reduceLT, Int.reduceLE, Int.reduceToNat, Nat.reduceMul, Nat.reduceEqDiff, reduceCtorEq, Nat.reduceBEq, Nat.reduceLeDiff, Nat.reduceLT, ai, al, tx, sg, spn, shA, List.map_cons, List.map_nil]
    refine W_callvL (fuel := 20) (args := [spn (S j) j, .ptr (.os 7 g7 (w.length + 1) 5 0 (w.length + 1)), .ptr (tx f V w)]) rfl call_lb1 rfl (by
      rw [List.mapM_cons, List.mapM_cons, List.mapM_cons, reify_cap rfl, reify_ptx]; rfl) hlb rfl rfl (W_run 80 ?_)
    simp (maxSteps := 2000000) only [SA, Nat.reduceDiv, Nat.reduceSub, Nat.reduceAdd, Int.reduceLT, Int.reduceLE, Int.reduceToNat, Nat.reduceMul, Nat.reduceEqDiff, reduceCtorEq, Nat.reduceBEq, Nat.reduceLeDiff, Nat.reduceLT, ai, al, tx, sg, spn, shA, List.map_cons, List.map_nil, R5_len, hg5, R5_set, up_at, wi, jlt, jnn, Int.toNat_natCast]
    have next := ih (j + 1) (by omega) (by omega)
    rw [R5_congr (a' := til (j + 1) D) (b' := til (j + 1) (iS S)) (c' := zr) (d' := zr) (e' := zr) fun i hi => by
      unfold up til zr iS
      by_cases h : i = j
      · subst h; simp
      · have h3 : i < j + 1 ↔ i < j := by omega
        simp [h, h3]]
    exact next _ _ _ _ _ _ _ _ _ _ _ _ _ _ _ _ _ _ _ _ _ _ _ _ _ _ _ _ _
theorem ofRE {kb f : Nat} {fn : XFunc} {args : List AV} {η : Heap} {r : AV} {G : Heap → Prop} (hf : xf f = some fn)
    (h : W Try.prog (RelU Try.prog xf) kb [.code fn.body] (Go.Proofs.Eng.start fn args η) fun o c => (o = .ret ∨ o = .normal) ∧ ∃ rs, fn.results.mapM (resOf Try.prog c) = some rs ∧ r = retOf rs ∧ G c.η) : ∃ η', G η' ∧ RunsR Try.prog xf kb f args η r η' := by
  obtain ⟨o, c, h1, ho, rs, h3, hr, hg⟩ := h
  exact ⟨c.η, hg, RunsR.ofW hf ⟨o, c, h1, ho, rs, h3, hr, rfl⟩⟩
theorem named7 {q : Nat × Option Ob} (j : Nat) : Go.Proofs.Eng.look [(7, q)] j = Go.Proofs.Eng.look [(7, q), (1006, (0, (none : Option Ob)))] j := by
  simp only [Go.Proofs.Eng.look]
  by_cases h : 7 = j
  · subst h; simp
  · simp [h]
theorem back_run {V : Int} {w : List Int} (hg : gX V w) (f : Bool) {D : Nat → Int} {S : Nat → Nat} (hB : Back (pf w) V w.length D S) (g7 : Nat) :
    ∃ η', (∃ r6, η' = [(7, (g7, some ⟨72, 5, R5 (w.length + 1) D (iS S) zr zr zr⟩)), (1006, r6)]) ∧ RunsR Try.prog xf 1000 60 [tx f V w, .os 7 g7 (w.length + 1) 5 0 (w.length + 1)] [(7, (g7, some ⟨72, 5, R5 (w.length + 1) zr zr zr zr zr⟩))] (.tup []) η' := by
  have e0 : R5 (w.length + 1) zr zr zr zr zr = R5 (w.length + 1) (til 1 D) (til 1 (iS S)) zr zr zr := R5_congr fun i hi => by
    unfold til zr iS
    by_cases h : i = 0
    · subst h; simp [hB.d0, hB.s0]
    · have h3 : ¬ i < 1 := by omega
      simp [h, h3]
  rw [e0]
  refine ofRE (fn := xf60) (by kernel_rfl) (W_run 80 ?_)
  simp (maxSteps := 2000000) only [SA, Nat.reduceDiv, Nat.reduceSub, Nat.reduceAdd, Int.reduceLT, Int.reduceLE, Int.reduceToNat, Nat.reduceMul, Nat.reduceEqDiff, reduceCtorEq, Nat.reduceBEq, Nat.reduceLeDiff, Nat.reduceLT, xf60, ai, al, tx]
  refine W_alone (W_named named7 (back_loop V w hg f D S hB g7 _ _ (fun r6 j5 j6 j7 j8 j9 j10 j11 j12 j13 j14 j15 j16 j17 j18 j19 j20 j21 j22 j23 j24 j25 j26 j27 j28 j29 j30 j31 => W_done ⟨.inr rfl, _, rfl, rfl, _, rfl⟩) w.length 1 (by omega) (Nat.le_refl 1) _ _ _ _ _ _ _ _ _ _ _ _ _ _ _ _ _ _ _ _ _ _ _ _ _ _ _ _ _))
end Go.Proofs.Ytdmffkknghianaa

