/-
  What is known of places: lookBack.
-/
import Derived.Test.YtdmffkknghianaaGA
set_option linter.unusedSimpArgs false
set_option linter.unusedVariables false
namespace Go.Proofs.Ytdmffkknghianaa
open Go Go.Proofs.Eng
set_option maxRecDepth 100000
set_option maxHeartbeats 4000000
theorem W_callvL {P : Program} {R : Rel} {kb : Nat} {k : List Fr} {c : Cfg} {Q : Out → Cfg → Prop} {l : Option Lv} {f d fuel : Nat} {x : XArg} {caps : List AV} {xs : List XArg} {args args' : List AV} {r : AV} (hx : evalA c.σ x = .fn f caps) (hc : callable P f = true) (ha : xs.map (evalA c.σ) ++ caps = args)
    (hm : args.mapM (reify c.η fuel) = some args') (hr : R.p f args' r) (hs : scal r = true) (hl : limOK l .read = true) (h : W P R kb k ⟨c.σ.set d r, c.η⟩ Q) : W P R kb (.op l ⟨some d, .callv x xs, none⟩ :: k) c Q := by
  subst ha
  exact W_op (.look c (d := 0) f fuel _ args' r rfl (by simp only [Go.Proofs.Eng.step, hx, hc, if_true]) hm hr hs) hl h
theorem fk64 (η : Heap) (d : Nat) : freeK η 64 d = match (lookF η d).2 with
  | some _ => freeK η 63 (d + 100000)
  | none => d := rfl
/-- what is known of places: rows of five numbers -/
def kn (a b c d e : Int) : AV := .ag [ai a, ai b, ai c, ai d, ai e]
def R5 (m : Nat) (a b c d e : Nat → Int) : List AV := (List.range m).map fun i => kn (a i) (b i) (c i) (d i) (e i)
def up (a : Nat → Int) (i : Nat) (x : Int) : Nat → Int := fun k => if k = i then x else a k
theorem R5_len (m : Nat) (a b c d e : Nat → Int) : (R5 m a b c d e).length = m := by unfold R5; simp
theorem R5_get {m : Nat} (a b c d e : Nat → Int) {i : Nat} (h : i < m) : (R5 m a b c d e)[i]? = some (.ag [.v (.int .i64 (a i)), .v (.int .i64 (b i)), .v (.int .i64 (c i)), .v (.int .i64 (d i)), .v (.int .i64 (e i))]) := by
  unfold R5; rw [List.getElem?_map, List.getElem?_range h]; rfl
theorem R5_set (m : Nat) (a b c d e : Nat → Int) (i : Nat) (x1 x2 x3 x4 x5 : Int) : (R5 m a b c d e).set i (.ag [.v (.int .i64 x1), .v (.int .i64 x2), .v (.int .i64 x3), .v (.int .i64 x4), .v (.int .i64 x5)]) = R5 m (up a i x1) (up b i x2) (up c i x3) (up d i x4) (up e i x5) := by
  unfold R5 up
  refine List.ext_getElem (by simp) fun k h1 h2 => ?_
  rw [List.getElem_set]
  simp only [List.getElem_map, List.getElem_range]
  by_cases h : i = k
  · subst h; simp [kn, ai]
  · rw [if_neg h]
    have h' : ¬ k = i := fun e => h e.symm
    simp [h', kn]
theorem up_at (a : Nat → Int) (i : Nat) (x : Int) : up a i x i = x := by unfold up; simp
theorem R5_congr {m : Nat} {a b c d e a' b' c' d' e' : Nat → Int} (h : ∀ i, i < m → a i = a' i ∧ b i = b' i ∧ c i = c' i ∧ d i = d' i ∧ e i = e' i) : R5 m a b c d e = R5 m a' b' c' d' e' := by
  unfold R5
  refine List.map_congr_left fun i hi => ?_
  obtain ⟨h1, h2, h3, h4, h5⟩ := h i (List.mem_range.1 hi)
  rw [h1, h2, h3, h4, h5]
theorem elem_kn (η : List (Nat × (Nat × Option Ob))) (n : Nat) (x1 x2 x3 x4 x5 : Int) : elemR (reify η (n + 1)) (kn x1 x2 x3 x4 x5) = some (kn x1 x2 x3 x4 x5) := rfl
theorem reify_R5 {η : Heap} {n k g e m : Nat} {a b c d e' : Nat → Int} (hk : Go.Proofs.Eng.look η k = (g, some ⟨e, 5, R5 m a b c d e'⟩)) : reify η (n + 2) (.os k g m 5 0 m) = some (.sl 5 false (R5 m a b c d e')) := by
  have h := reify_os (η := η) (n := n + 1) (k := k) (g := g) (e := e) (s := 5) (f := fun i => kn (a i) (b i) (c i) (d i) (e' i)) (l := List.range m) (fun i => elem_kn _ _ _ _ _ _ _) hk
  rw [List.length_range] at h
  exact h
theorem mapM_self {α : Type} {h : α → Option α} : ∀ {xs : List α}, (∀ x, x ∈ xs → h x = some x) → xs.mapM h = some xs
  | [], _ => rfl
  | x :: t, hx => by
    rw [List.mapM_cons, hx x List.mem_cons_self, mapM_self (xs := t) fun y hy => hx y (List.mem_cons_of_mem _ hy)]; rfl
theorem reify_al (η : Heap) (n : Nat) (f : Bool) (l : List Int) : reify η (n + 2) (al f l) = some (al f l) := by
  have h := mapM_self (h := elemR (reify η (n + 1))) (xs := l.map ai) fun x hx => by obtain ⟨z, _, rfl⟩ := List.mem_map.1 hx; rfl
  show ((l.map ai).mapM (elemR (reify η (n + 1)))).map (AV.sl 1 f) = _
  rw [h]; rfl
theorem reify_tx (η : Heap) (n : Nat) (f : Bool) (V : Int) (w : List Int) : reify η (n + 3) (tx f V w) = some (tx f V w) := by
  show ([ai V, al f w].mapM (reify η (n + 2))).map AV.ag = _
  rw [List.mapM_cons, List.mapM_cons, reify_al]; rfl
theorem reify_spL (η : Heap) (n : Nat) (sp : Nat → Nat × Nat) (l : List Nat) : reify η (n + 2) (spL sp l) = some (spL sp l) := by
  have h := mapM_self (h := elemR (reify η (n + 1))) (xs := l.map (sg sp)) fun x hx => by obtain ⟨z, _, rfl⟩ := List.mem_map.1 hx; rfl
  show ((l.map (sg sp)).mapM (elemR (reify η (n + 1)))).map (AV.sl 2 false) = _
  rw [h]; rfl
theorem reify_cap {η : Heap} {n k g e m : Nat} {a b c d e' : Nat → Int} (hk : Go.Proofs.Eng.look η k = (g, some ⟨e, 5, R5 m a b c d e'⟩)) : reify η (n + 3) (.ptr (.os k g m 5 0 m)) = some (.ptr (.sl 5 false (R5 m a b c d e'))) := by
  show (reify η (n + 2) (.os k g m 5 0 m)).map AV.ptr = _
  rw [reify_R5 hk]; rfl
theorem reify_ptx (η : Heap) (n : Nat) (f : Bool) (V : Int) (w : List Int) : reify η (n + 4) (.ptr (tx f V w)) = some (.ptr (tx f V w)) := by
  show (([ai V, al f w].mapM (reify η (n + 3))).map AV.ag).map AV.ptr = _
  rw [List.mapM_cons, List.mapM_cons, reify_al]; rfl
def sumF (q : Nat → Int) (V : Int) (a : Nat → Int) (j i : Nat) : Int := a i + sq q V i j
theorem lb1_run {V : Int} {w : List Int} (hg : gX V w) (f : Bool) {m : Nat} (a b c d e : Nat → Int) {i j : Nat} (hij : i < j) (hj : j ≤ w.length) (hm : j ≤ m) (ha : 0 ≤ a i ∧ a i ≤ 100000) :
    Runs Try.prog xf 66 [spn i j, .ptr (.sl 5 false (R5 m a b c d e)), .ptr (tx f V w)] (ai (sumF (pf w) V a j i)) := by
  have hget := R5_get a b c d e (m := m) (i := i) (by omega)
  have hsq := square_run hg f hij hj
  have b1 := hg.lb (i := i) (j := j) (by omega) hj
  have hs : sq (pf w) V i j ≤ 410 * 410 := by
    unfold sq
    rcases Int.le_total 0 (lf (pf w) V i j) with h | h
    · exact Int.mul_le_mul (by omega) (by omega) h (by omega)
    · have : (-lf (pf w) V i j) * (-lf (pf w) V i j) ≤ 410 * 410 := Int.mul_le_mul (by omega) (by omega) (by omega) (by omega)
      rwa [Int.neg_mul_neg] at this
  have hn := sq_nn (pf w) V i j
  have wi : IntKind.i64.wrap (a i + sq (pf w) V i j) = sumF (pf w) V a j i := wrap_id (by omega) (by omega)
  refine Runs.ofW (fn := xf66) 20 (by kernel_rfl) (W_run 80 ?_)
  simp (maxSteps := 2000000) only [SA, Nat.reduceDiv, Nat.reduceSub, Nat.reduceAdd, Int.reduceLT, Int.reduceLE, Int.reduceToNat, Nat.reduceMul, Nat.reduceEqDiff, reduceCtorEq, Nat.reduceBEq, Nat.reduceLeDiff, Nat.reduceLT, xf66, ai, al, tx, spn, shA, hget]
  refine W_call (args := [tx f V w, spn i j]) rfl (noRefs_2 (noRef_tx _ _ _) rfl) hsq rfl (W_run 80 ?_)
  simp (maxSteps := 2000000) only [SA, Nat.reduceDiv, Nat.reduceSub, Nat.reduceAdd, Int.reduceLT, Int.reduceLE, Int.reduceToNat, Nat.reduceMul, Nat.reduceEqDiff, reduceCtorEq, Nat.reduceBEq, Nat.reduceLeDiff, Nat.reduceLT, ai, al, tx, wi]
  exact W_ret1 (WX_nil ⟨.inl rfl, _, rfl, rfl⟩)
theorem call_lb1 : callable Try.prog 66 = true := by kernel_rfl
def zr : Nat → Int := fun _ => 0
def til (j : Nat) (D : Nat → Int) : Nat → Int := fun i => if i < j then D i else 0
theorem til_up {j : Nat} {D : Nat → Int} : ∀ i, up (til j D) j (D j) i = til (j + 1) D i := fun i => by
  unfold up til
  by_cases h : i = j
  · subst h; simp
  · rw [if_neg h]
    by_cases h2 : i < j
    · rw [if_pos h2, if_pos (by omega)]
    · rw [if_neg h2, if_neg (by omega)]
def iS (S : Nat → Nat) : Nat → Int := fun i => (S i : Int)
theorem back_loop (V : Int) (w : List Int) (hg : gX V w) (f : Bool) (D : Nat → Int) (S : Nat → Nat) (hB : Back (pf w) V w.length D S) (g7 : Nat) (K : List Fr) (Q : Out → Cfg → Prop)
    (hK : ∀ (r6 : Nat × Option Ob), ∀ j5 j6 j7 j8 j9 j10 j11 j12 j13 j14 j15 j16 j17 j18 j19 j20 j21 j22 j23 j24 j25 j26 j27 j28 j29 j30 j31 : AV, W Try.prog (RelU Try.prog xf) 1000 K ⟨((tx f V w) :: (.os 7 g7 (w.length + 1) 5 0 (w.length + 1)) :: (.ptr (tx f V w)) :: (.ptr (.os 7 g7 (w.length + 1) 5 0 (w.length + 1))) :: (ai (w.length + 1 : Nat)) :: j5 :: j6 :: j7 :: j8 :: j9 :: j10 :: j11 :: j12 :: j13 :: j14 :: j15 :: j16 :: j17 :: j18 :: j19 :: j20 :: j21 :: j22 :: j23 :: j24 :: j25 :: j26 :: j27 :: j28 :: j29 :: j30 :: j31 :: []), [(7, (g7, some ⟨72, 5, R5 (w.length + 1) D (iS S) zr zr zr⟩)), (1006, r6)]⟩ Q) :
    ∀ (m j : Nat), j + m = w.length + 1 → 1 ≤ j → ∀ (g6 : Nat) (o6 : Option Ob), ∀ j5 j6 j7 j8 j9 j10 j11 j12 j13 j14 j15 j16 j17 j18 j19 j20 j21 j22 j23 j24 j25 j26 j27 j28 j29 j30 j31 : AV, W Try.prog (RelU Try.prog xf) 1000 (.code (.loop xf60_L0) :: .blk 0 :: .stop :: K) ⟨((tx f V w) :: (.os 7 g7 (w.length + 1) 5 0 (w.length + 1)) :: (.ptr (tx f V w)) :: (.ptr (.os 7 g7 (w.length + 1) 5 0 (w.length + 1))) :: (ai j) :: j5 :: j6 :: j7 :: j8 :: j9 :: j10 :: j11 :: j12 :: j13 :: j14 :: j15 :: j16 :: j17 :: j18 :: j19 :: j20 :: j21 :: j22 :: j23 :: j24 :: j25 :: j26 :: j27 :: j28 :: j29 :: j30 :: j31 :: []), [(7, (g7, some ⟨72, 5, R5 (w.length + 1) (til j D) (til j (iS S)) zr zr zr⟩)), (1006, (g6, o6))]⟩ Q := by
  have hp := hg.pos
  have n10 := hg.n10
  intro m
  induction m with
  | zero =>
    intro j hj h1 g6 o6 j5 j6 j7 j8 j9 j10 j11 j12 j13 j14 j15 j16 j17 j18 j19 j20 j21 j22 j23 j24 j25 j26 j27 j28 j29 j30 j31
    have e : j = w.length + 1 := by omega
    have h0 : decide ((j : Int) ≤ w.length) = false := decide_eq_false (by omega)
    have eR : R5 (w.length + 1) (til j D) (til j (iS S)) zr zr zr = R5 (w.length + 1) D (iS S) zr zr zr := R5_congr fun i hi => by
      unfold til; rw [if_pos (by omega), if_pos (by omega)]; exact ⟨rfl, rfl, rfl, rfl, rfl⟩
    rw [eR]
    refine W_loop (W_run 80 ?_)
    simp (maxSteps := 2000000) only [SA, Nat.reduceDiv, Nat.reduceSub, Nat.reduceAdd, Int.reduceLT, Int.reduceLE, Int.reduceToNat, Nat.reduceMul, Nat.reduceEqDiff, reduceCtorEq, Nat.reduceBEq, Nat.reduceLeDiff, Nat.reduceLT, xf60_L0, ai, al, tx]
    refine W_call (args := [tx f V w]) rfl (noRefs_1 (noRef_tx _ _ _)) (last_run V w f) rfl (W_run 80 ?_)
    simp (maxSteps := 2000000) only [SA, Nat.reduceDiv, Nat.reduceSub, Nat.reduceAdd, Int.reduceLT, Int.reduceLE, Int.reduceToNat, Nat.reduceMul, Nat.reduceEqDiff, reduceCtorEq, Nat.reduceBEq, Nat.reduceLeDiff, Nat.reduceLT, ai, al, tx, h0]
    rw [e]
    exact W_stop (hK _ _ _ _ _ _ _ _ _ _ _ _ _ _ _ _ _ _ _ _ _ _ _ _ _ _ _ _)
  | succ m ih =>
    intro j hj h1 g6 o6 j5 j6 j7 j8 j9 j10 j11 j12 j13 j14 j15 j16 j17 j18 j19 j20 j21 j22 j23 j24 j25 j26 j27 j28 j29 j30 j31
    have h2 : j ≤ w.length := by omega
    have h0 : decide ((j : Int) ≤ w.length) = true := decide_eq_true (by omega)
    have wi : IntKind.i64.wrap ((j : Int) + 1) = ((j + 1 : Nat) : Int) := by rw [wrap_id (by omega) (by omega)]; simp
    obtain ⟨dj, hFM⟩ := hB.st j h1 h2
    have hl0 : 0 < (lb (pf w) V j).length := List.length_pos_iff.2 (lb_ne hp h1 h2)
    have hll : (lb (pf w) V j).length ≤ 1000 := Nat.le_trans (lbK_len (pf w) V j j) (by omega)
    have hb : ∀ i, i < j → 0 ≤ til j D i ∧ til j D i ≤ 100000 := fun i hi => by
      unfold til; rw [if_pos hi]; have := hB.b hp hg.W1 i (by omega); omega
    have hfw := fwl_run (fun i => (i, j)) (sumF (pf w) V (til j D) j) 66 [.ptr (.sl 5 false (R5 (w.length + 1) (til j D) (til j (iS S)) zr zr zr)), .ptr (tx f V w)]
      (by show (noRefs (R5 _ _ _ _ _ _) && (noRef (tx f V w) && true)) = true; rw [noRef_tx, noRefs_of fun x hx => by unfold R5 at hx; obtain ⟨z, _, rfl⟩ := List.mem_map.1 hx; rfl]; rfl) call_lb1 (lb (pf w) V j) hll hl0
      (fun i hi => lb1_run (i := i) (j := j) hg f _ _ _ _ _ (lb_mem.2 hi).1 h2 (Nat.le_succ_of_le h2) (hb i (lb_mem.2 hi).1))
    have hm : fmK (sumF (pf w) V (til j D) j) (lb (pf w) V j) (lb (pf w) V j).length = S j := (fmK_FM hl0 (lb_up _ _ _) fun y => lb_mem).uniq (hFM.congr (fun _ => .rfl) fun y hy => by
      show _ = til j D y + _; unfold til; rw [if_pos hy.1])
    rw [hm] at hfw
    have hS := hFM.mem.1
    have hg5 : ∀ a b c d e : Nat → Int, (R5 (w.length + 1) a b c d e)[j]? = _ := fun a b c d e => R5_get a b c d e (by omega)
    have jlt : (j : Int) < (w.length + 1 : Nat) := by omega
    have jnn : (0 : Int) ≤ j := by omega
    have hlb := lb1_run hg f (m := w.length + 1) (til j D) (til j (iS S)) zr zr zr hS h2 (by omega) (hb _ hS)
    have hsum : sumF (pf w) V (til j D) j (S j) = D j := by unfold sumF til; rw [if_pos hS]; exact dj.symm
    rw [hsum] at hlb
    refine W_loop (W_run 80 ?_)
    simp (maxSteps := 2000000) only [SA, Nat.reduceDiv, Nat.reduceSub, Nat.reduceAdd, Int.reduceLT, Int.reduceLE, Int.reduceToNat, Nat.reduceMul, Nat.reduceEqDiff, reduceCtorEq, Nat.reduceBEq, Nat.reduceLeDiff, Nat.reduceLT, xf60_L0, ai, al, tx]
    refine W_call (args := [tx f V w]) rfl (noRefs_1 (noRef_tx _ _ _)) (last_run V w f) rfl (W_run 80 ?_)
    simp (maxSteps := 2000000) only [SA, Nat.reduceDiv, Nat.reduceSub, Nat.reduceAdd, Int.reduceLT, Int.reduceLE, Int.reduceToNat, Nat.reduceMul, Nat.reduceEqDiff, reduceCtorEq, Nat.reduceBEq, Nat.reduceLeDiff, Nat.reduceLT, ai, al, tx, h0]
    refine W_call (args := [tx f V w, ai j]) rfl (noRefs_2 (noRef_tx _ _ _) rfl) (to_run hg f h2) (noRef_spT _ _) (W_run 80 ?_)
    simp (maxSteps := 2000000) only [SA, Nat.reduceDiv, Nat.reduceSub, Nat.reduceAdd, Int.reduceLT, Int.reduceLE, Int.reduceToNat, Nat.reduceMul, Nat.reduceEqDiff, reduceCtorEq, Nat.reduceBEq, Nat.reduceLeDiff, Nat.reduceLT, ai, al, tx]
    refine W_look (fuel := 20) (args := [spL (fun i => (i, j)) (lb (pf w) V j), .fn 66 [.ptr (.os 7 g7 (w.length + 1) 5 0 (w.length + 1)), .ptr (tx f V w)]]) rfl (by
      rw [List.mapM_cons, List.mapM_cons, reify_spL]
      show (do let t ← (do let y ← (([AV.ptr (.os 7 g7 (w.length + 1) 5 0 (w.length + 1)), .ptr (tx f V w)].mapM (reify _ 19)).map (AV.fn _)); let t ← [].mapM (reify _ 20); pure (y :: t)); pure (spL (fun i => (i, j)) (lb (pf w) V j) :: t)) = _
      rw [List.mapM_cons, List.mapM_cons, reify_cap rfl, reify_ptx]; rfl) hfw rfl rfl (W_run 80 ?_)
    simp (maxSteps := 2000000) only [SA, Nat.reduceDiv, Nat.reduceSub, Nat.reduceAdd, Int.reduceLT, Int.reduceLE, Int.reduceToNat, Nat.reduceMul, Nat.reduceEqDiff, reduceCtorEq, Nat.reduceBEq, Nat.reduceLeDiff, Nat.reduceLT, ai, al, tx, sg, spn, shA, List.map_cons, List.map_nil]
    refine W_callvL (fuel := 20) (args := [spn (S j) j, .ptr (.os 7 g7 (w.length + 1) 5 0 (w.length + 1)), .ptr (tx f V w)]) rfl call_lb1 rfl (by
      rw [List.mapM_cons, List.mapM_cons, List.mapM_cons, reify_cap rfl, reify_ptx]; rfl) hlb rfl rfl (W_run 80 ?_)
    simp (maxSteps := 2000000) only [SA, Nat.reduceDiv, Nat.reduceSub, Nat.reduceAdd, Int.reduceLT, Int.reduceLE, Int.reduceToNat, Nat.reduceMul, Nat.reduceEqDiff, reduceCtorEq, Nat.reduceBEq, Nat.reduceLeDiff, Nat.reduceLT, ai, al, tx, sg, spn, shA, List.map_cons, List.map_nil, R5_len, hg5, R5_set, up_at, wi, jlt, jnn, Int.toNat_natCast]
    have next := ih (j + 1) (by omega) (by omega)
    rw [R5_congr (a' := til (j + 1) D) (b' := til (j + 1) (iS S)) (c' := zr) (d' := zr) (e' := zr) fun i hi => by
      unfold up til zr iS
      by_cases h : i = j
      · subst h; simp
      · have h3 : i < j + 1 ↔ i < j := by omega
        simp [h, h3]]
    exact next _ _ _ _ _ _ _ _ _ _ _ _ _ _ _ _ _ _ _ _ _ _ _ _ _ _ _ _ _
theorem ofRE {kb f : Nat} {fn : XFunc} {args : List AV} {η : Heap} {r : AV} {G : Heap → Prop} (hf : xf f = some fn)
    (h : W Try.prog (RelU Try.prog xf) kb [.code fn.body] (Go.Proofs.Eng.start fn args η) fun o c => (o = .ret ∨ o = .normal) ∧ ∃ rs, fn.results.mapM (resOf Try.prog c) = some rs ∧ r = retOf rs ∧ G c.η) : ∃ η', G η' ∧ RunsR Try.prog xf kb f args η r η' := by
  obtain ⟨o, c, h1, ho, rs, h3, hr, hg⟩ := h
  exact ⟨c.η, hg, RunsR.ofW hf ⟨o, c, h1, ho, rs, h3, hr, rfl⟩⟩
theorem named7 {q : Nat × Option Ob} (j : Nat) : Go.Proofs.Eng.look [(7, q)] j = Go.Proofs.Eng.look [(7, q), (1006, (0, (none : Option Ob)))] j := by
  simp only [Go.Proofs.Eng.look]
  by_cases h : 7 = j
  · subst h; simp
  · simp [h]
theorem back_run {V : Int} {w : List Int} (hg : gX V w) (f : Bool) {D : Nat → Int} {S : Nat → Nat} (hB : Back (pf w) V w.length D S) (g7 : Nat) :
    ∃ η', (∃ r6, η' = [(7, (g7, some ⟨72, 5, R5 (w.length + 1) D (iS S) zr zr zr⟩)), (1006, r6)]) ∧ RunsR Try.prog xf 1000 60 [tx f V w, .os 7 g7 (w.length + 1) 5 0 (w.length + 1)] [(7, (g7, some ⟨72, 5, R5 (w.length + 1) zr zr zr zr zr⟩))] (.tup []) η' := by
  have e0 : R5 (w.length + 1) zr zr zr zr zr = R5 (w.length + 1) (til 1 D) (til 1 (iS S)) zr zr zr := R5_congr fun i hi => by
    unfold til zr iS
    by_cases h : i = 0
    · subst h; simp [hB.d0, hB.s0]
    · have h3 : ¬ i < 1 := by omega
      simp [h, h3]
  rw [e0]
  refine ofRE (fn := xf60) (by kernel_rfl) (W_run 80 ?_)
  simp (maxSteps := 2000000) only [SA, Nat.reduceDiv, Nat.reduceSub, Nat.reduceAdd, Int.reduceLT, Int.reduceLE, Int.reduceToNat, Nat.reduceMul, Nat.reduceEqDiff, reduceCtorEq, Nat.reduceBEq, Nat.reduceLeDiff, Nat.reduceLT, xf60, ai, al, tx]
  refine W_alone (W_named named7 (back_loop V w hg f D S hB g7 _ _ (fun r6 j5 j6 j7 j8 j9 j10 j11 j12 j13 j14 j15 j16 j17 j18 j19 j20 j21 j22 j23 j24 j25 j26 j27 j28 j29 j30 j31 => W_done ⟨.inr rfl, _, rfl, rfl, _, rfl⟩) w.length 1 (by omega) (Nat.le_refl 1) _ _ _ _ _ _ _ _ _ _ _ _ _ _ _ _ _ _ _ _ _ _ _ _ _ _ _ _ _))
end Go.Proofs.Ytdmffkknghianaa

set_option linter.unusedSimpArgs false
set_option linter.unusedVariables false
namespace Go.Proofs.Ytdmffkknghianaa
open Go Go.Proofs.Eng
set_option maxRecDepth 100000
set_option maxHeartbeats 4000000
theorem cst_b {V : Int} {w : List Int} (hg : gX V w) {i j : Nat} (hij : i < j) (hj : j ≤ w.length) : 0 ≤ cst (pf w) V w.length i j ∧ cst (pf w) V w.length i j ≤ 410 * 410 := by
  have b1 := hg.lb (i := i) (j := j) (by omega) hj
  refine ⟨cst_nn _ _ _ _ _, ?_⟩
  unfold cst
  split
  · omega
  · unfold sq
    rcases Int.le_total 0 (lf (pf w) V i j) with h | h
    · exact Int.mul_le_mul (by omega) (by omega) h (by omega)
    · have : (-lf (pf w) V i j) * (-lf (pf w) V i j) ≤ 410 * 410 := Int.mul_le_mul (by omega) (by omega) (by omega) (by omega)
      rwa [Int.neg_mul_neg] at this
def sumA (q : Nat → Int) (V : Int) (n : Nat) (c : Nat → Int) (i j : Nat) : Int := cst q V n i j + c j
theorem la1_run {V : Int} {w : List Int} (hg : gX V w) (f : Bool) (a b c d e : Nat → Int) {i j : Nat} (hij : i < j) (hj : j ≤ w.length) (hc : 0 ≤ c j ∧ c j ≤ 100000) :
    Runs Try.prog xf 68 [spn i j, .ptr (tx f V w), .ptr (.sl 5 false (R5 (w.length + 1) a b c d e))] (ai (sumA (pf w) V w.length c i j)) := by
  have hget := R5_get a b c d e (m := w.length + 1) (i := j) (by omega)
  have hct := cost_run hg f hij hj
  have hb := cst_b hg hij hj
  have wi : IntKind.i64.wrap (cst (pf w) V w.length i j + c j) = sumA (pf w) V w.length c i j := wrap_id (by omega) (by omega)
  refine Runs.ofW (fn := xf68) 20 (by kernel_rfl) (W_run 80 ?_)
  simp (maxSteps := 2000000) only [SA, Nat.reduceDiv, Nat.reduceSub, Nat.reduceAdd, Int.reduceLT, Int.reduceLE, Int.reduceToNat, Nat.reduceMul, Nat.reduceEqDiff, reduceCtorEq, Nat.reduceBEq, Nat.reduceLeDiff, Nat.reduceLT, xf68, ai, al, tx, spn, shA, hget]
  refine W_call (args := [tx f V w, spn i j]) rfl (noRefs_2 (noRef_tx _ _ _) rfl) hct rfl (W_run 80 ?_)
  simp (maxSteps := 2000000) only [SA, Nat.reduceDiv, Nat.reduceSub, Nat.reduceAdd, Int.reduceLT, Int.reduceLE, Int.reduceToNat, Nat.reduceMul, Nat.reduceEqDiff, reduceCtorEq, Nat.reduceBEq, Nat.reduceLeDiff, Nat.reduceLT, ai, al, tx, spn, shA, hget, wi]
  exact W_ret1 (WX_nil ⟨.inl rfl, _, rfl, rfl⟩)
theorem call_la1 : callable Try.prog 68 = true := by kernel_rfl
def frm (k : Nat) (L : Nat → Int) : Nat → Int := fun i => if k ≤ i then L i else 0
def cnF (q : Nat → Int) (V : Int) (n : Nat) (L C : Nat → Int) (i j : Nat) : Int := if cst q V n i j + L j = L i then C j else 0
theorem frm_up {k : Nat} {L : Nat → Int} : ∀ i, up (frm (k + 1) L) k (L k) i = frm k L i := fun i => by
  unfold up frm
  by_cases h : i = k
  · subst h; simp
  · rw [if_neg h]
    have h3 : k + 1 ≤ i ↔ k ≤ i := by omega
    simp [h3]
/-- how many there are -/
def p11 (k : Nat) : Nat := 11 ^ k
theorem p11_le {a b : Nat} (h : a ≤ b) : p11 a ≤ p11 b := Nat.pow_le_pow_right (by omega) h
theorem p11_s (k : Nat) : p11 (k + 1) = p11 k * 11 := by unfold p11; rw [Nat.pow_succ]
theorem p11_10 {k : Nat} (h : k ≤ 10) : p11 k ≤ 25937424601 := Nat.le_trans (p11_le h) (by decide)
theorem Ahead.cbl {q : Nat → Int} {W : Int} {n : Nat} {L C : Nat → Int} {N : Nat → Nat} (hn : n ≤ 10) (h : Ahead q W n L C N) {i : Nat} (hi : i < n) (ih : ∀ j, i < j → j ≤ n → 0 ≤ C j ∧ C j ≤ p11 (n - j)) (k : Nat) : 0 ≤ sumI (((la q W n i).map (cnF q W n L C i)).take k) ∧ sumI (((la q W n i).map (cnF q W n L C i)).take k) ≤ p11 (n - i) := by
  have hb : ∀ x, x ∈ ((la q W n i).map (cnF q W n L C i)).take k → 0 ≤ x ∧ x ≤ p11 (n - i - 1) := fun x hx => by
    obtain ⟨j, hj, rfl⟩ := List.mem_map.1 (List.mem_of_mem_take hx)
    obtain ⟨m1, m2, _⟩ := la_mem.2 hj
    have := ih j m1 m2
    have hp := p11_le (a := n - j) (b := n - i - 1) (by omega)
    unfold cnF
    split <;> omega
  have := sumI_b (by omega : (0 : Int) ≤ p11 (n - i - 1)) hb
  have hl : (((la q W n i).map (cnF q W n L C i)).take k).length ≤ 10 := by
    rw [List.length_take, List.length_map]
    have : (la q W n i).length ≤ n - i := by
      unfold la
      refine Nat.le_trans (List.length_filter_le _ _) ?_
      rw [List.length_range']; omega
    omega
  have h4 : (p11 (n - i - 1) : Int) * (((la q W n i).map (cnF q W n L C i)).take k).length ≤ p11 (n - i - 1) * 11 := Int.mul_le_mul_of_nonneg_left (by omega) (by omega)
  have h5 : p11 (n - i) = p11 (n - i - 1) * 11 := by rw [← p11_s, show n - i - 1 + 1 = n - i by omega]
  refine ⟨this.1, ?_⟩
  rw [h5, Int.natCast_mul]
  omega
theorem Ahead.cb {q : Nat → Int} {W : Int} {n : Nat} {L C : Nat → Int} {N : Nat → Nat} (hn : n ≤ 10) (h : Ahead q W n L C N) : ∀ k i, n - i ≤ k → i ≤ n → 0 ≤ C i ∧ C i ≤ p11 (n - i) := by
  intro k
  induction k with
  | zero => intro i h1 h2; have : i = n := by omega
            subst this; rw [h.cn, Nat.sub_self]; decide
  | succ k ih =>
    intro i h1 h2
    by_cases e : i = n
    · subst e; rw [h.cn, Nat.sub_self]; decide
    · obtain ⟨_, _, c⟩ := h.st i (by omega)
      have := h.cbl hn (i := i) (by omega) (fun j a b => ih j (by omega) b) (la q W n i).length
      rw [List.take_of_length_le (by rw [List.length_map]; exact Nat.le_refl _)] at this
      have e2 : C i = sumI ((la q W n i).map (cnF q W n L C i)) := c
      rw [e2]; exact this
theorem in_loop (V : Int) (w : List Int) (hg : gX V w) (f : Bool) (L C : Nat → Int) (N : Nat → Nat) (hA : Ahead (pf w) V w.length L C N) (a b e : Nat → Int) (c d : Nat → Int) (i : Nat) (hi : i < w.length) (hc : ∀ j, i ≤ j → j ≤ w.length → c j = L j) (hd : ∀ j, i < j → j ≤ w.length → d j = C j) (g7 g2 : Nat) (q6 : Nat × Option Ob) (K : List Fr) (Q : Out → Cfg → Prop)
    (hK : ∀ (r9 : Nat × Option Ob), ∀ j8 j9 j10 j11 j12 j13 j14 j15 j16 j17 j18 j19 j20 j21 j22 j23 j24 j25 j26 j27 j28 j29 j30 j31 j32 j33 j34 j35 j36 j37 j38 j39 j40 j41 j45 j46 j47 j48 j49 j50 j51 j52 j53 j54 j55 j56 j57 j58 j59 j60 j61 j62 j63 j64 j65 j66 j67 j68 j69 : AV, W Try.prog (RelU Try.prog xf) 2000 K ⟨((tx f V w) :: (.os 7 g7 (w.length + 1) 5 0 (w.length + 1)) :: (.ptr (tx f V w)) :: (.ptr (.os 7 g7 (w.length + 1) 5 0 (w.length + 1))) :: (ai i) :: (.fn 68 [.ptr (tx f V w), .ptr (.os 7 g7 (w.length + 1) 5 0 (w.length + 1))]) :: (spF (la (pf w) V w.length i) i) :: (.o 2007 g2 1 0 0) :: j8 :: j9 :: j10 :: j11 :: j12 :: j13 :: j14 :: j15 :: j16 :: j17 :: j18 :: j19 :: j20 :: j21 :: j22 :: j23 :: j24 :: j25 :: j26 :: j27 :: j28 :: j29 :: j30 :: j31 :: j32 :: j33 :: j34 :: j35 :: j36 :: j37 :: j38 :: j39 :: j40 :: j41 :: (spF (la (pf w) V w.length i) i) :: (ai (la (pf w) V w.length i).length) :: (ai (la (pf w) V w.length i).length) :: j45 :: j46 :: j47 :: j48 :: j49 :: j50 :: j51 :: j52 :: j53 :: j54 :: j55 :: j56 :: j57 :: j58 :: j59 :: j60 :: j61 :: j62 :: j63 :: j64 :: j65 :: j66 :: j67 :: j68 :: j69 :: []), [(7, (g7, some ⟨72, 5, R5 (w.length + 1) a b c (up d i (C i)) e⟩)), (1006, q6), (2007, (g2, some ⟨77, 2, [spn i (N i)]⟩)), (2009, r9)]⟩ Q) :
    ∀ (m k : Nat), k + m = (la (pf w) V w.length i).length → ∀ (g9 : Nat) (o9 : Option Ob), ∀ j8 j9 j10 j11 j12 j13 j14 j15 j16 j17 j18 j19 j20 j21 j22 j23 j24 j25 j26 j27 j28 j29 j30 j31 j32 j33 j34 j35 j36 j37 j38 j39 j40 j41 j45 j46 j47 j48 j49 j50 j51 j52 j53 j54 j55 j56 j57 j58 j59 j60 j61 j62 j63 j64 j65 j66 j67 j68 j69 : AV, W Try.prog (RelU Try.prog xf) 2000 (.code (.loop xf61_L0) :: .blk 2 :: .stop :: K) ⟨((tx f V w) :: (.os 7 g7 (w.length + 1) 5 0 (w.length + 1)) :: (.ptr (tx f V w)) :: (.ptr (.os 7 g7 (w.length + 1) 5 0 (w.length + 1))) :: (ai i) :: (.fn 68 [.ptr (tx f V w), .ptr (.os 7 g7 (w.length + 1) 5 0 (w.length + 1))]) :: (spF (la (pf w) V w.length i) i) :: (.o 2007 g2 1 0 0) :: j8 :: j9 :: j10 :: j11 :: j12 :: j13 :: j14 :: j15 :: j16 :: j17 :: j18 :: j19 :: j20 :: j21 :: j22 :: j23 :: j24 :: j25 :: j26 :: j27 :: j28 :: j29 :: j30 :: j31 :: j32 :: j33 :: j34 :: j35 :: j36 :: j37 :: j38 :: j39 :: j40 :: j41 :: (spF (la (pf w) V w.length i) i) :: (ai (la (pf w) V w.length i).length) :: (ai k) :: j45 :: j46 :: j47 :: j48 :: j49 :: j50 :: j51 :: j52 :: j53 :: j54 :: j55 :: j56 :: j57 :: j58 :: j59 :: j60 :: j61 :: j62 :: j63 :: j64 :: j65 :: j66 :: j67 :: j68 :: j69 :: []), [(7, (g7, some ⟨72, 5, R5 (w.length + 1) a b c (up d i (sumI (((la (pf w) V w.length i).map (cnF (pf w) V w.length L C i)).take k))) e⟩)), (1006, q6), (2007, (g2, some ⟨77, 2, [spn i (N i)]⟩)), (2009, (g9, o9))]⟩ Q := by
  have hp := hg.pos
  have n10 := hg.n10
  have hLb := fun j hj => hA.b hp hg.W1 (w.length - j) j (Nat.le_refl _) hj
  obtain ⟨sl, sN, sc⟩ := hA.st i hi
  obtain ⟨N1, N2, N3⟩ := sN.mem
  have hlen : (la (pf w) V w.length i).length ≤ 10 := by
    unfold la
    refine Nat.le_trans (List.length_filter_le _ _) ?_
    rw [List.length_range']; omega
  have hcb := fun j => hA.cb n10 (w.length - j) j (Nat.le_refl _)
  have hcl := hA.cbl n10 hi fun j _ hj => hcb j hj
  have h10 := p11_10 (k := w.length - i) (by omega)
  intro m
  induction m with
  | zero =>
    intro k hk g9 o9 j8 j9 j10 j11 j12 j13 j14 j15 j16 j17 j18 j19 j20 j21 j22 j23 j24 j25 j26 j27 j28 j29 j30 j31 j32 j33 j34 j35 j36 j37 j38 j39 j40 j41 j45 j46 j47 j48 j49 j50 j51 j52 j53 j54 j55 j56 j57 j58 j59 j60 j61 j62 j63 j64 j65 j66 j67 j68 j69
    have ek : k = (la (pf w) V w.length i).length := by omega
    have h0 : decide (k < (la (pf w) V w.length i).length) = false := decide_eq_false (by omega)
    have eC : sumI (((la (pf w) V w.length i).map (cnF (pf w) V w.length L C i)).take k) = C i := by
      rw [List.take_of_length_le (by rw [List.length_map]; omega)]; exact sc.symm
    rw [eC]
    refine W_loop (W_run 80 ?_)
    simp (maxSteps := 2000000) only [SA, Nat.reduceDiv, Nat.reduceSub, Nat.reduceAdd, Int.reduceLT, Int.reduceLE, Int.reduceToNat, Nat.reduceMul, Nat.reduceEqDiff, reduceCtorEq, Nat.reduceBEq, Nat.reduceLeDiff, Nat.reduceLT, xf61_L0, ai, al, tx, spF, lt_cast, h0]
    rw [ek]
    exact W_stop (hK _ _ _ _ _ _ _ _ _ _ _ _ _ _ _ _ _ _ _ _ _ _ _ _ _ _ _ _ _ _ _ _ _ _ _ _ _ _ _ _ _ _ _ _ _ _ _ _ _ _ _ _ _ _ _ _ _ _ _ _)
  | succ m ih =>
    intro k hk g9 o9 j8 j9 j10 j11 j12 j13 j14 j15 j16 j17 j18 j19 j20 j21 j22 j23 j24 j25 j26 j27 j28 j29 j30 j31 j32 j33 j34 j35 j36 j37 j38 j39 j40 j41 j45 j46 j47 j48 j49 j50 j51 j52 j53 j54 j55 j56 j57 j58 j59 j60 j61 j62 j63 j64 j65 j66 j67 j68 j69
    have h1 : k < (la (pf w) V w.length i).length := by omega
    have h0 : decide (k < (la (pf w) V w.length i).length) = true := decide_eq_true h1
    have hgt : ((la (pf w) V w.length i).map fun j => spn i j)[k]? = some (.ag [ai (i : Nat), ai ((la (pf w) V w.length i).getD k 0 : Nat)]) := by rw [List.getElem?_map, getD_at h1]; rfl
    have hin := getD_in (d := 0) h1
    have hsn : ((la (pf w) V w.length i).map (cnF (pf w) V w.length L C i)).take (k + 1) = ((la (pf w) V w.length i).map (cnF (pf w) V w.length L C i)).take k ++ [cnF (pf w) V w.length L C i ((la (pf w) V w.length i).getD k 0)] := by
      rw [take_snoc (d := 0) (by rw [List.length_map]; exact h1)]
      congr 2
      rw [List.getD_eq_getElem?_getD, List.getElem?_map, getD_at h1]; rfl
    have next := ih (k + 1) (by omega)
    rw [hsn, sumI_snoc] at next
    have hk2 := hcl (k + 1)
    rw [hsn, sumI_snoc] at hk2
    have hk1 := hcl k
    generalize sumI (((la (pf w) V w.length i).map (cnF (pf w) V w.length L C i)).take k) = s at *
    generalize (la (pf w) V w.length i).getD k 0 = y at *
    obtain ⟨y1, y2, y3⟩ := la_mem.2 hin
    have hLy := hLb y y2
    have hLn := hLb (N i) N2
    have cy := hc y (by omega) y2
    have cn := hc (N i) (by omega) N2
    have hcall1 := la1_run hg f a b c (up d i s) e y1 y2 (by rw [cy]; omega)
    have hcall2 := la1_run hg f a b c (up d i s) e N1 N2 (by rw [cn]; omega)
    have e2 : sumA (pf w) V w.length c i (N i) = L i := by unfold sumA; rw [cn]; exact sl.symm
    have e1 : sumA (pf w) V w.length c i y = cst (pf w) V w.length i y + L y := by unfold sumA; rw [cy]
    rw [e2] at hcall2
    rw [e1] at hcall1
    have wi : IntKind.i64.wrap ((k : Int) + 1) = ((k + 1 : Nat) : Int) := by rw [wrap_id (by omega) (by omega)]; simp
    have hgi : ∀ a b c d e : Nat → Int, (R5 (w.length + 1) a b c d e)[i]? = _ := fun a b c d e => R5_get a b c d e (by omega)
    have hgy : ∀ a b c d e : Nat → Int, (R5 (w.length + 1) a b c d e)[y]? = _ := fun a b c d e => R5_get a b c d e (by omega)
    have ilt : (i : Int) < (w.length + 1 : Nat) := by omega
    have inn : (0 : Int) ≤ i := by omega
    have ylt : (y : Int) < (w.length + 1 : Nat) := by omega
    have ynn : (0 : Int) ≤ y := by omega
    refine W_loop (W_run 80 ?_)
    simp (maxSteps := 2000000) only [SA, Nat.reduceDiv, Nat.reduceSub, Nat.reduceAdd, Int.reduceLT, Int.reduceLE, Int.reduceToNat, Nat.reduceMul, Nat.reduceEqDiff, reduceCtorEq, Nat.reduceBEq, Nat.reduceLeDiff, Nat.reduceLT, xf61_L0, ai, al, tx, spF, lt_cast, h0, hgt, List.map_cons, List.map_nil]
    refine W_callvL (fuel := 20) (args := [spn i y, .ptr (tx f V w), .ptr (.os 7 g7 (w.length + 1) 5 0 (w.length + 1))]) rfl call_la1 rfl (by
      rw [List.mapM_cons, List.mapM_cons, List.mapM_cons, reify_cap rfl, reify_ptx]; rfl) hcall1 rfl rfl (W_run 80 ?_)
    simp (maxSteps := 2000000) only [SA, Nat.reduceDiv, Nat.reduceSub, Nat.reduceAdd, Int.reduceLT, Int.reduceLE, Int.reduceToNat, Nat.reduceMul, Nat.reduceEqDiff, reduceCtorEq, Nat.reduceBEq, Nat.reduceLeDiff, Nat.reduceLT, ai, al, tx, spF, spn, shA]
    refine W_callvL (fuel := 20) (args := [spn i (N i), .ptr (tx f V w), .ptr (.os 7 g7 (w.length + 1) 5 0 (w.length + 1))]) rfl call_la1 rfl (by
      rw [List.mapM_cons, List.mapM_cons, List.mapM_cons, reify_cap rfl, reify_ptx]; rfl) hcall2 rfl rfl (W_run 80 ?_)
    by_cases heq : cst (pf w) V w.length i y + L y = L i
    · have d1 : (cst (pf w) V w.length i y + L y == L i) = true := by simp [heq]
      have ecn : cnF (pf w) V w.length L C i y = C y := by unfold cnF; rw [if_pos heq]
      rw [ecn] at next hk2
      have wc : IntKind.i64.wrap (s + C y) = s + C y := wrap_id (by omega) (by omega)
      have uy : up d i s y = C y := by unfold up; rw [if_neg (by omega)]; exact hd y y1 y2
      simp (maxSteps := 2000000) only [SA, Nat.reduceDiv, Nat.reduceSub, Nat.reduceAdd, Int.reduceLT, Int.reduceLE, Int.reduceToNat, Nat.reduceMul, Nat.reduceEqDiff, reduceCtorEq, Nat.reduceBEq, Nat.reduceLeDiff, Nat.reduceLT, ai, al, tx, spF, spn, shA, d1, wi, R5_len, hgi, hgy, R5_set, up_at, uy, wc, ilt, inn, ylt, ynn, Int.toNat_natCast]
      rw [R5_congr (a' := a) (b' := b) (c' := c) (d' := up d i (s + C y)) (e' := e) fun x hx => by
        unfold up
        by_cases h : x = i
        · subst h; simp
        · simp [h]]
      exact next _ _ _ _ _ _ _ _ _ _ _ _ _ _ _ _ _ _ _ _ _ _ _ _ _ _ _ _ _ _ _ _ _ _ _ _ _ _ _ _ _ _ _ _ _ _ _ _ _ _ _ _ _ _ _ _ _ _ _ _ _
    · have d1 : (cst (pf w) V w.length i y + L y == L i) = false := by rw [beq_eq_false_iff_ne]; exact heq
      have ecn : cnF (pf w) V w.length L C i y = 0 := by unfold cnF; rw [if_neg heq]
      rw [ecn, Int.add_zero] at next
      simp (maxSteps := 2000000) only [SA, Nat.reduceDiv, Nat.reduceSub, Nat.reduceAdd, Int.reduceLT, Int.reduceLE, Int.reduceToNat, Nat.reduceMul, Nat.reduceEqDiff, reduceCtorEq, Nat.reduceBEq, Nat.reduceLeDiff, Nat.reduceLT, ai, al, tx, spF, spn, shA, d1, wi]
      exact next _ _ _ _ _ _ _ _ _ _ _ _ _ _ _ _ _ _ _ _ _ _ _ _ _ _ _ _ _ _ _ _ _ _ _ _ _ _ _ _ _ _ _ _ _ _ _ _ _ _ _ _ _ _ _ _ _ _ _ _ _
theorem out_loop (V : Int) (w : List Int) (hg : gX V w) (f : Bool) (L C : Nat → Int) (N : Nat → Nat) (hA : Ahead (pf w) V w.length L C N) (a b : Nat → Int) (g7 : Nat) (q6 : Nat × Option Ob) (K : List Fr) (Q : Out → Cfg → Prop)
    (hK : ∀ (r7 r9 : Nat × Option Ob), ∀ j5 j6 j7 j8 j9 j10 j11 j12 j13 j14 j15 j16 j17 j18 j19 j20 j21 j22 j23 j24 j25 j26 j27 j28 j29 j30 j31 j32 j33 j34 j35 j36 j37 j38 j39 j40 j41 j42 j43 j44 j45 j46 j47 j48 j49 j50 j51 j52 j53 j54 j55 j56 j57 j58 j59 j60 j61 j62 j63 j64 j65 j66 j67 j68 j69 : AV, W Try.prog (RelU Try.prog xf) 2000 K ⟨((tx f V w) :: (.os 7 g7 (w.length + 1) 5 0 (w.length + 1)) :: (.ptr (tx f V w)) :: (.ptr (.os 7 g7 (w.length + 1) 5 0 (w.length + 1))) :: (ai (-1)) :: j5 :: j6 :: j7 :: j8 :: j9 :: j10 :: j11 :: j12 :: j13 :: j14 :: j15 :: j16 :: j17 :: j18 :: j19 :: j20 :: j21 :: j22 :: j23 :: j24 :: j25 :: j26 :: j27 :: j28 :: j29 :: j30 :: j31 :: j32 :: j33 :: j34 :: j35 :: j36 :: j37 :: j38 :: j39 :: j40 :: j41 :: j42 :: j43 :: j44 :: j45 :: j46 :: j47 :: j48 :: j49 :: j50 :: j51 :: j52 :: j53 :: j54 :: j55 :: j56 :: j57 :: j58 :: j59 :: j60 :: j61 :: j62 :: j63 :: j64 :: j65 :: j66 :: j67 :: j68 :: j69 :: []), [(7, (g7, some ⟨72, 5, R5 (w.length + 1) a b L C (iS N)⟩)), (1006, q6), (2007, r7), (2009, r9)]⟩ Q) :
    ∀ (k : Nat), k ≤ w.length → ∀ (g2 : Nat) (o2 : Option Ob) (g9 : Nat) (o9 : Option Ob), ∀ j5 j6 j7 j8 j9 j10 j11 j12 j13 j14 j15 j16 j17 j18 j19 j20 j21 j22 j23 j24 j25 j26 j27 j28 j29 j30 j31 j32 j33 j34 j35 j36 j37 j38 j39 j40 j41 j42 j43 j44 j45 j46 j47 j48 j49 j50 j51 j52 j53 j54 j55 j56 j57 j58 j59 j60 j61 j62 j63 j64 j65 j66 j67 j68 j69 : AV, W Try.prog (RelU Try.prog xf) 2000 (.code (.loop xf61_L1) :: .blk 0 :: .stop :: K) ⟨((tx f V w) :: (.os 7 g7 (w.length + 1) 5 0 (w.length + 1)) :: (.ptr (tx f V w)) :: (.ptr (.os 7 g7 (w.length + 1) 5 0 (w.length + 1))) :: (ai ((k : Int) - 1)) :: j5 :: j6 :: j7 :: j8 :: j9 :: j10 :: j11 :: j12 :: j13 :: j14 :: j15 :: j16 :: j17 :: j18 :: j19 :: j20 :: j21 :: j22 :: j23 :: j24 :: j25 :: j26 :: j27 :: j28 :: j29 :: j30 :: j31 :: j32 :: j33 :: j34 :: j35 :: j36 :: j37 :: j38 :: j39 :: j40 :: j41 :: j42 :: j43 :: j44 :: j45 :: j46 :: j47 :: j48 :: j49 :: j50 :: j51 :: j52 :: j53 :: j54 :: j55 :: j56 :: j57 :: j58 :: j59 :: j60 :: j61 :: j62 :: j63 :: j64 :: j65 :: j66 :: j67 :: j68 :: j69 :: []), [(7, (g7, some ⟨72, 5, R5 (w.length + 1) a b (frm k L) (frm k C) (frm k (iS N))⟩)), (1006, q6), (2007, (g2, o2)), (2009, (g9, o9))]⟩ Q := by
  have hp := hg.pos
  have n10 := hg.n10
  have hLb := fun j hj => hA.b hp hg.W1 (w.length - j) j (Nat.le_refl _) hj
  intro k
  induction k with
  | zero =>
    intro hk g2 o2 g9 o9 j5 j6 j7 j8 j9 j10 j11 j12 j13 j14 j15 j16 j17 j18 j19 j20 j21 j22 j23 j24 j25 j26 j27 j28 j29 j30 j31 j32 j33 j34 j35 j36 j37 j38 j39 j40 j41 j42 j43 j44 j45 j46 j47 j48 j49 j50 j51 j52 j53 j54 j55 j56 j57 j58 j59 j60 j61 j62 j63 j64 j65 j66 j67 j68 j69
    have h0 : decide (0 ≤ ((0 : Nat) : Int) - 1) = false := by decide
    have e1 : ((0 : Nat) : Int) - 1 = -1 := by decide
    have eR : R5 (w.length + 1) a b (frm 0 L) (frm 0 C) (frm 0 (iS N)) = R5 (w.length + 1) a b L C (iS N) := R5_congr fun i hi => by
      unfold frm; simp
    rw [eR]
    refine W_loop (W_run 80 ?_)
    simp (maxSteps := 2000000) only [SA, Nat.reduceDiv, Nat.reduceSub, Nat.reduceAdd, Int.reduceLT, Int.reduceLE, Int.reduceToNat, Nat.reduceMul, Nat.reduceEqDiff, reduceCtorEq, Nat.reduceBEq, Nat.reduceLeDiff, Nat.reduceLT, xf61_L1, ai, al, tx, h0]
    exact W_stop (hK _ _ _ _ _ _ _ _ _ _ _ _ _ _ _ _ _ _ _ _ _ _ _ _ _ _ _ _ _ _ _ _ _ _ _ _ _ _ _ _ _ _ _ _ _ _ _ _ _ _ _ _ _ _ _ _ _ _ _ _ _ _ _ _ _ _ _)
  | succ k ih =>
    intro hk g2 o2 g9 o9 j5 j6 j7 j8 j9 j10 j11 j12 j13 j14 j15 j16 j17 j18 j19 j20 j21 j22 j23 j24 j25 j26 j27 j28 j29 j30 j31 j32 j33 j34 j35 j36 j37 j38 j39 j40 j41 j42 j43 j44 j45 j46 j47 j48 j49 j50 j51 j52 j53 j54 j55 j56 j57 j58 j59 j60 j61 j62 j63 j64 j65 j66 j67 j68 j69
    have hi : k < w.length := by omega
    have h0 : decide (0 ≤ ((k + 1 : Nat) : Int) - 1) = true := decide_eq_true (by omega)
    have e1 : ((k + 1 : Nat) : Int) - 1 = (k : Int) := by omega
    rw [e1] at h0 ⊢
    obtain ⟨sl, sN, sc⟩ := hA.st k hi
    obtain ⟨N1, N2, N3⟩ := sN.mem
    have hl0 : 0 < (la (pf w) V w.length k).length := List.length_pos_iff.2 (la_ne hp hi)
    have hlen : (la (pf w) V w.length k).length ≤ 1000 := by
      unfold la
      refine Nat.le_trans (List.length_filter_le _ _) ?_
      rw [List.length_range']; omega
    have hfr : ∀ (F : Nat → Int) j, k < j → frm (k + 1) F j = F j := fun F j hj => by unfold frm; rw [if_pos (by omega)]
    have hfw := fwl_run (fun j => (k, j)) (sumA (pf w) V w.length (frm (k + 1) L) k) 68 [.ptr (tx f V w), .ptr (.sl 5 false (R5 (w.length + 1) a b (frm (k + 1) L) (frm (k + 1) C) (frm (k + 1) (iS N))))]
      (by show (noRef (tx f V w) && (noRefs (R5 _ _ _ _ _ _) && true)) = true; rw [noRef_tx, noRefs_of fun x hx => by unfold R5 at hx; obtain ⟨z, _, rfl⟩ := List.mem_map.1 hx; rfl]; rfl) call_la1 (la (pf w) V w.length k) hlen hl0
      (fun j hj => by
        obtain ⟨j1, j2, _⟩ := la_mem.2 hj
        have := hLb j j2
        exact la1_run (i := k) (j := j) hg f _ _ _ _ _ j1 j2 (by rw [hfr _ j j1]; omega))
    have hm : fmK (sumA (pf w) V w.length (frm (k + 1) L) k) (la (pf w) V w.length k) (la (pf w) V w.length k).length = N k := (fmK_FM hl0 (la_up _ _ _ _) fun y => la_mem).uniq (sN.congr (fun _ => .rfl) fun y hy => by
      show _ = _ + frm (k + 1) L y; rw [hfr _ y hy.1])
    rw [hm] at hfw
    have hLn := hLb (N k) N2
    have hcall : ∀ e c d : Nat → Int, c (N k) = L (N k) → Runs Try.prog xf 68 [spn k (N k), .ptr (tx f V w), .ptr (.sl 5 false (R5 (w.length + 1) a b c d e))] (ai (L k)) := fun e c d hc => by
      have h := la1_run hg f a b c d e N1 N2 (by rw [hc]; omega)
      have e2 : sumA (pf w) V w.length c k (N k) = L k := by unfold sumA; rw [hc]; exact sl.symm
      rwa [e2] at h
    have hgk : ∀ a b c d e : Nat → Int, (R5 (w.length + 1) a b c d e)[k]? = _ := fun a b c d e => R5_get a b c d e (by omega)
    have ilt : (k : Int) < (w.length + 1 : Nat) := by omega
    have inn : (0 : Int) ≤ k := by omega
    have wk : IntKind.i64.wrap ((k : Int) - 1) = (k : Int) - 1 := wrap_id (by omega) (by omega)
    refine W_loop (W_run 80 ?_)
    simp (maxSteps := 2000000) only [SA, Nat.reduceDiv, Nat.reduceSub, Nat.reduceAdd, Int.reduceLT, Int.reduceLE, Int.reduceToNat, Nat.reduceMul, Nat.reduceEqDiff, reduceCtorEq, Nat.reduceBEq, Nat.reduceLeDiff, Nat.reduceLT, xf61_L1, ai, al, tx, h0]
    refine W_call (args := [tx f V w, ai k]) rfl (noRefs_2 (noRef_tx _ _ _) rfl) (from_run hg f hi) (noRef_spF _ _) (W_run 80 ?_)
    simp (maxSteps := 2000000) only [SA, Nat.reduceDiv, Nat.reduceSub, Nat.reduceAdd, Int.reduceLT, Int.reduceLE, Int.reduceToNat, Nat.reduceMul, Nat.reduceEqDiff, reduceCtorEq, Nat.reduceBEq, Nat.reduceLeDiff, Nat.reduceLT, ai, al, tx]
    refine W_look (fuel := 20) (args := [spL (fun j => (k, j)) (la (pf w) V w.length k), .fn 68 [.ptr (tx f V w), .ptr (.os 7 g7 (w.length + 1) 5 0 (w.length + 1))]]) rfl (by
      rw [List.mapM_cons, List.mapM_cons, reify_spL]
      show (do let t ← (do let y ← (([AV.ptr (tx f V w), AV.ptr (.os 7 g7 (w.length + 1) 5 0 (w.length + 1))].mapM (reify _ 19)).map (AV.fn _)); let t ← [].mapM (reify _ 20); pure (y :: t)); pure (spL (fun j => (k, j)) (la (pf w) V w.length k) :: t)) = _
      rw [List.mapM_cons, List.mapM_cons, reify_cap rfl, reify_ptx]; rfl) hfw rfl rfl (W_run 80 ?_)
    simp (maxSteps := 2000000) only [SA, Nat.reduceDiv, Nat.reduceSub, Nat.reduceAdd, Int.reduceLT, Int.reduceLE, Int.reduceToNat, Nat.reduceMul, Nat.reduceEqDiff, reduceCtorEq, Nat.reduceBEq, Nat.reduceLeDiff, Nat.reduceLT, ai, al, tx, sg, spn, shA, List.map_cons, List.map_nil]
    refine W_callvL (fuel := 20) (args := [spn k (N k), .ptr (tx f V w), .ptr (.os 7 g7 (w.length + 1) 5 0 (w.length + 1))]) rfl call_la1 rfl (by
      rw [List.mapM_cons, List.mapM_cons, List.mapM_cons, reify_cap rfl, reify_ptx]; rfl) (hcall _ _ _ (hfr _ _ N1)) rfl rfl (W_run 80 ?_)
    simp (maxSteps := 2000000) only [SA, Nat.reduceDiv, Nat.reduceSub, Nat.reduceAdd, Int.reduceLT, Int.reduceLE, Int.reduceToNat, Nat.reduceMul, Nat.reduceEqDiff, reduceCtorEq, Nat.reduceBEq, Nat.reduceLeDiff, Nat.reduceLT, ai, al, tx, sg, spn, shA, List.map_cons, List.map_nil, R5_len, hgk, R5_set, up_at, ilt, inn, Int.toNat_natCast, spF, List.length_map]
    rw [R5_congr (a' := a) (b' := b) (c' := frm k L) (d' := up (frm (k + 1) C) k (sumI (((la (pf w) V w.length k).map (cnF (pf w) V w.length L C k)).take 0))) (e' := frm k (iS N)) fun x hx => by
      have h1 := frm_up (k := k) (L := L) x
      have h2 := frm_up (k := k) (L := iS N) x
      rw [← h1, ← h2]
      have e0 : sumI (((la (pf w) V w.length k).map (cnF (pf w) V w.length L C k)).take 0) = 0 := rfl
      rw [e0]
      unfold up
      by_cases h : x = k
      · subst h
        have e3 : frm (x + 1) C x = 0 := by unfold frm; rw [if_neg (by omega)]
        simp [e3, iS]
      · simp [h]]
    refine W_alone (in_loop V w hg f L C N hA a b (frm k (iS N)) (frm k L) (frm (k + 1) C) k hi (fun j a _ => by unfold frm; rw [if_pos a]) (fun j a _ => hfr _ j a) g7 (g2 + 1) q6 _ _ (fun r9 j8 j9 j10 j11 j12 j13 j14 j15 j16 j17 j18 j19 j20 j21 j22 j23 j24 j25 j26 j27 j28 j29 j30 j31 j32 j33 j34 j35 j36 j37 j38 j39 j40 j41 j45 j46 j47 j48 j49 j50 j51 j52 j53 j54 j55 j56 j57 j58 j59 j60 j61 j62 j63 j64 j65 j66 j67 j68 j69 => W_run 80 ?_) (la (pf w) V w.length k).length 0 (by omega) _ _ _ _ _ _ _ _ _ _ _ _ _ _ _ _ _ _ _ _ _ _ _ _ _ _ _ _ _ _ _ _ _ _ _ _ _ _ _ _ _ _ _ _ _ _ _ _ _ _ _ _ _ _ _ _ _ _ _ _ _)
    rw [R5_congr (a' := a) (b' := b) (c' := frm k L) (d' := frm k C) (e' := frm k (iS N)) fun x hx => ⟨rfl, rfl, rfl, frm_up x, rfl⟩]
    simp (maxSteps := 2000000) only [SA, Nat.reduceDiv, Nat.reduceSub, Nat.reduceAdd, Int.reduceLT, Int.reduceLE, Int.reduceToNat, Nat.reduceMul, Nat.reduceEqDiff, reduceCtorEq, Nat.reduceBEq, Nat.reduceLeDiff, Nat.reduceLT, xf61_R0, ai, al, tx, spF, wk]
    exact ih (by omega) _ _ _ _ _ _ _ _ _ _ _ _ _ _ _ _ _ _ _ _ _ _ _ _ _ _ _ _ _ _ _ _ _ _ _ _ _ _ _ _ _ _ _ _ _ _ _ _ _ _ _ _ _ _ _ _ _ _ _ _ _ _ _ _ _ _ _ _ _
theorem named8 {q r : Nat × Option Ob} (j : Nat) : Go.Proofs.Eng.look [(7, q), (1006, r)] j = Go.Proofs.Eng.look [(7, q), (1006, r), (2007, (0, (none : Option Ob))), (2009, (0, (none : Option Ob)))] j := by
  simp only [Go.Proofs.Eng.look]
  by_cases h : 7 = j
  · subst h; simp
  · by_cases h2 : 1006 = j
    · subst h2; simp
    · simp [h, h2]
theorem ahead_run {V : Int} {w : List Int} (hg : gX V w) (f : Bool) {L C : Nat → Int} {N : Nat → Nat} (hA : Ahead (pf w) V w.length L C N) (a b : Nat → Int) (g7 : Nat) (q6 : Nat × Option Ob) :
    ∃ η', (∃ r7 r9, η' = [(7, (g7, some ⟨72, 5, R5 (w.length + 1) a b L C (iS N)⟩)), (1006, q6), (2007, r7), (2009, r9)]) ∧ RunsR Try.prog xf 2000 61 [tx f V w, .os 7 g7 (w.length + 1) 5 0 (w.length + 1)] [(7, (g7, some ⟨72, 5, R5 (w.length + 1) a b zr zr zr⟩)), (1006, q6)] (.tup []) η' := by
  have n10 := hg.n10
  have hgl : ∀ a b c d e : Nat → Int, (R5 (w.length + 1) a b c d e)[w.length]? = _ := fun a b c d e => R5_get a b c d e (by omega)
  have ilt : (w.length : Int) < (w.length + 1 : Nat) := by omega
  have inn : (0 : Int) ≤ (w.length : Int) := by omega
  have wk : IntKind.i64.wrap ((w.length : Int) - 1) = (w.length : Int) - 1 := wrap_id (by omega) (by omega)
  refine ofRE (fn := xf61) (by kernel_rfl) (W_run 80 ?_)
  simp (maxSteps := 2000000) only [SA, Nat.reduceDiv, Nat.reduceSub, Nat.reduceAdd, Int.reduceLT, Int.reduceLE, Int.reduceToNat, Nat.reduceMul, Nat.reduceEqDiff, reduceCtorEq, Nat.reduceBEq, Nat.reduceLeDiff, Nat.reduceLT, xf61, ai, al, tx]
  refine W_call (args := [tx f V w]) rfl (noRefs_1 (noRef_tx _ _ _)) (last_run V w f) rfl (W_run 80 ?_)
  simp (maxSteps := 2000000) only [SA, Nat.reduceDiv, Nat.reduceSub, Nat.reduceAdd, Int.reduceLT, Int.reduceLE, Int.reduceToNat, Nat.reduceMul, Nat.reduceEqDiff, reduceCtorEq, Nat.reduceBEq, Nat.reduceLeDiff, Nat.reduceLT, ai, al, tx, hgl, R5_len, R5_set, ilt, inn, Int.toNat_natCast]
  refine W_call (args := [tx f V w]) rfl (noRefs_1 (noRef_tx _ _ _)) (last_run V w f) rfl (W_run 80 ?_)
  simp (maxSteps := 2000000) only [SA, Nat.reduceDiv, Nat.reduceSub, Nat.reduceAdd, Int.reduceLT, Int.reduceLE, Int.reduceToNat, Nat.reduceMul, Nat.reduceEqDiff, reduceCtorEq, Nat.reduceBEq, Nat.reduceLeDiff, Nat.reduceLT, ai, al, tx, wk]
  rw [R5_congr (a' := a) (b' := b) (c' := frm w.length L) (d' := frm w.length C) (e' := frm w.length (iS N)) fun x hx => by
    unfold up frm zr iS
    by_cases h : x = w.length
    · subst h; simp [hA.ln, hA.cn, hA.nn]
    · have h2 : ¬ w.length ≤ x := by omega
      simp [h, h2]]
  refine W_alone (W_named named8 (out_loop V w hg f L C N hA a b g7 q6 _ _ (fun r7 r9 j5 j6 j7 j8 j9 j10 j11 j12 j13 j14 j15 j16 j17 j18 j19 j20 j21 j22 j23 j24 j25 j26 j27 j28 j29 j30 j31 j32 j33 j34 j35 j36 j37 j38 j39 j40 j41 j42 j43 j44 j45 j46 j47 j48 j49 j50 j51 j52 j53 j54 j55 j56 j57 j58 j59 j60 j61 j62 j63 j64 j65 j66 j67 j68 j69 => W_done ⟨.inr rfl, _, rfl, rfl, _, _, rfl⟩) w.length (Nat.le_refl _) _ _ _ _ _ _ _ _ _ _ _ _ _ _ _ _ _ _ _ _ _ _ _ _ _ _ _ _ _ _ _ _ _ _ _ _ _ _ _ _ _ _ _ _ _ _ _ _ _ _ _ _ _ _ _ _ _ _ _ _ _ _ _ _ _ _ _ _ _))
theorem R5_zero (m : Nat) : List.replicate m (AV.ag [.v (.int .i64 0), .v (.int .i64 0), .v (.int .i64 0), .v (.int .i64 0), .v (.int .i64 0)]) = R5 m zr zr zr zr zr := by
  unfold R5
  refine List.ext_getElem (by simp) fun k h1 h2 => ?_
  simp [kn, zr, ai]
theorem places_run {V : Int} {w : List Int} (hg : gX V w) (f : Bool) {D L C : Nat → Int} {S N : Nat → Nat} (hB : Back (pf w) V w.length D S) (hA : Ahead (pf w) V w.length L C N) :
    Runs Try.prog xf 47 [tx f V w] (.sl 5 false (R5 (w.length + 1) D (iS S) L C (iS N))) := by
  have n10 := hg.n10
  obtain ⟨η1, ⟨r6, rfl⟩, hb⟩ := back_run hg f hB 1
  obtain ⟨η2, ⟨r7, r9, rfl⟩, ha⟩ := ahead_run hg f hA D (iS S) 1 r6
  have wk : IntKind.i64.wrap ((w.length : Int) + 1) = ((w.length + 1 : Nat) : Int) := by rw [wrap_id (by omega) (by omega)]; simp
  have q1 : ((w.length + 1 : Nat) : Int) * 1048616 ≤ 1000000000000 := by omega
  have q2 : ((w.length + 1 : Nat) : Int) ≤ 1000000000000 := by omega
  have q3 : (0 : Int) ≤ ((w.length + 1 : Nat) : Int) := by omega
  generalize w.length + 1 = m at *
  refine Runs.ofW (fn := xf47) 20 (by kernel_rfl) (W_run 80 ?_)
  simp (maxSteps := 2000000) only [SA, Nat.reduceDiv, Nat.reduceSub, Nat.reduceAdd, Int.reduceLT, Int.reduceLE, Int.reduceToNat, Nat.reduceMul, Nat.reduceEqDiff, reduceCtorEq, Nat.reduceBEq, Nat.reduceLeDiff, Nat.reduceLT, xf47, ai, al, tx]
  refine W_call (args := [tx f V w]) rfl (noRefs_1 (noRef_tx _ _ _)) (last_run V w f) rfl (W_run 80 ?_)
  simp (maxSteps := 2000000) only [SA, Nat.reduceDiv, Nat.reduceSub, Nat.reduceAdd, Int.reduceLT, Int.reduceLE, Int.reduceToNat, Nat.reduceMul, Nat.reduceEqDiff, reduceCtorEq, Nat.reduceBEq, Nat.reduceLeDiff, Nat.reduceLT, ai, al, tx, wk, q1, q2, q3, fk64, Int.toNat_natCast, List.map_cons, List.map_nil, R5_zero]
  refine W_callR (kb' := 1000) (args := [tx f V w, .os 7 1 m 5 0 m]) rfl hb rfl (W_run 80 ?_)
  simp (maxSteps := 2000000) only [SA, Nat.reduceDiv, Nat.reduceSub, Nat.reduceAdd, Int.reduceLT, Int.reduceLE, Int.reduceToNat, Nat.reduceMul, Nat.reduceEqDiff, reduceCtorEq, Nat.reduceBEq, Nat.reduceLeDiff, Nat.reduceLT, ai, al, tx]
  refine W_callR (kb' := 2000) (args := [tx f V w, .os 7 1 m 5 0 m]) rfl ha rfl (W_run 80 ?_)
  simp (maxSteps := 2000000) only [SA, Nat.reduceDiv, Nat.reduceSub, Nat.reduceAdd, Int.reduceLT, Int.reduceLE, Int.reduceToNat, Nat.reduceMul, Nat.reduceEqDiff, reduceCtorEq, Nat.reduceBEq, Nat.reduceLeDiff, Nat.reduceLT, ai, al, tx]
  exact W_ret1 (WX_nil ⟨.inl rfl, _, rfl, reify_R5 rfl⟩)
end Go.Proofs.Ytdmffkknghianaa

