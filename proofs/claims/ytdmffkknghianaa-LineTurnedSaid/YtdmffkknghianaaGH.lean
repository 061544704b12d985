/-
  The opposite order: the mathematics.
-/
import Derived.Test.YtdmffkknghianaaGF
import Derived.Test.YtdmffkknghianaaMn
import Derived.Test.YtdmffkknghianaaNe
import Derived.Test.YtdmffkknghianaaNf
set_option linter.unusedSimpArgs false
set_option linter.unusedVariables false
namespace Go.Proofs.Ytdmffkknghianaa
open Go Go.Proofs.Eng
set_option maxRecDepth 100000
set_option maxHeartbeats 1000000
theorem fold_add' : ∀ (l : List Int) (x a : Int), (l.foldl (· + ·) (a + x)) = l.foldl (· + ·) a + x
  | [], x, a => rfl
  | y :: l, x, a => by simp only [List.foldl_cons]; rw [show a + x + y = a + y + x by omega]; exact fold_add' l x (a + y)
theorem sumI_cons' (x : Int) (l : List Int) : sumI (x :: l) = x + sumI l := by
  unfold sumI
  rw [List.foldl_cons, fold_add']; omega
theorem sumI_app' : ∀ (l l' : List Int), sumI (l ++ l') = sumI l + sumI l'
  | [], l' => by rw [List.nil_append, show sumI ([] : List Int) = 0 from rfl]; omega
  | a :: l, l' => by rw [List.cons_append, sumI_cons', sumI_cons', sumI_app' l l']; omega
theorem sumI_rev : ∀ l : List Int, sumI l.reverse = sumI l
  | [] => rfl
  | a :: l => by
    rw [List.reverse_cons, sumI_app', sumI_rev l, sumI_cons', sumI_cons', show sumI ([] : List Int) = 0 from rfl]; omega
theorem pf_rev {w : List Int} {j : Nat} (h : j ≤ w.length) : pf w.reverse j = pf w w.length - pf w (w.length - j) := by
  unfold pf
  rw [List.take_reverse, sumI_rev, List.take_length]
  have e : sumI w = sumI (w.take (w.length - j)) + sumI (w.drop (w.length - j)) := by rw [← sumI_app', List.take_append_drop]
  omega
theorem lf_rev {w : List Int} {V : Int} {i j : Nat} (hij : i ≤ j) (hj : j ≤ w.length) : lf (pf w.reverse) V (w.length - j) (w.length - i) = lf (pf w) V i j := by
  unfold lf
  rw [pf_rev (by omega), pf_rev (by omega), show w.length - (w.length - i) = i by omega, show w.length - (w.length - j) = j by omega]
  omega
theorem gX.rev {V : Int} {w : List Int} (h : gX V w) : gX V w.reverse where
  W1 := h.W1
  n1 := by simpa using h.n1
  n10 := by simpa using h.n10
  cel := fun x hx => h.cel x (List.mem_reverse.1 hx)
theorem ch_snoc {q : Nat → Int} {V : Int} {m m' : Nat} (h : m < m') (hf : fit q V m m' = true) : ∀ {X : List Nat} {b : Nat}, Ch q V m b X → Ch q V m' b (X ++ [m']) ∧ spE b (X ++ [m']) = spE b X ++ [(m, m')]
  | [], b, hc => by
    rw [Ch] at hc
    subst hc
    rw [List.nil_append, Ch, spE, spE, spE]
    exact ⟨⟨h, Nat.le_refl _, hf, by rw [Ch]⟩, rfl⟩
  | e :: t, b, hc => by
    rw [Ch] at hc
    obtain ⟨a, c⟩ := ch_snoc h hf (X := t) (b := e) hc.2.2.2
    rw [List.cons_append, Ch, spE, spE, c]
    exact ⟨⟨hc.1, by omega, hc.2.2.1, a⟩, rfl⟩
/-- the ends from the other end -/
def rvB (n b : Nat) (E : List Nat) : List Nat := ((n - b) :: (E.take (E.length - 1)).map (n - ·)).reverse
theorem rv_ok {w : List Int} {V : Int} : ∀ (E : List Nat) (b : Nat), E ≠ [] → Ch (pf w) V w.length b E → Ch (pf w.reverse) V (w.length - b) 0 (rvB w.length b E) ∧ spE 0 (rvB w.length b E) = ((spE b E).map fun p => (w.length - p.2, w.length - p.1)).reverse
  | [], b, h, _ => (h rfl).elim
  | [e], b, _, hc => by
    rw [Ch, Ch] at hc
    obtain ⟨h1, h2, h3, rfl⟩ := hc
    have hl := lf_rev (w := w) (V := V) (i := b) (j := w.length) (by omega) (Nat.le_refl _)
    rw [Nat.sub_self] at hl
    have hfit : fit (pf w.reverse) V 0 (w.length - b) = true := by
      rw [fit_iff, hl]; exact fit_iff.1 h3
    simp only [rvB, List.length_singleton, Nat.sub_self, List.take_zero, List.map_nil, List.reverse_cons, List.reverse_nil, List.nil_append]
    rw [Ch]
    refine ⟨⟨by omega, Nat.le_refl _, hfit, by rw [Ch]⟩, ?_⟩
    simp [spE]
  | e :: e2 :: t, b, _, hc => by
    rw [Ch] at hc
    obtain ⟨h1, h2, h3, h4⟩ := hc
    obtain ⟨i1, i2⟩ := rv_ok (e2 :: t) e (by simp) h4
    have hen : e < w.length := by rw [Ch] at h4; omega
    have hl := lf_rev (w := w) (V := V) (i := b) (j := e) (by omega) h2
    have hfit : fit (pf w.reverse) V (w.length - e) (w.length - b) = true := by
      rw [fit_iff, hl]; exact fit_iff.1 h3
    have er : rvB w.length b (e :: e2 :: t) = rvB w.length e (e2 :: t) ++ [w.length - b] := by
      simp [rvB, List.take_succ_cons]
    obtain ⟨a, c⟩ := ch_snoc (m := w.length - e) (m' := w.length - b) (by omega) hfit i1
    rw [er]
    refine ⟨a, ?_⟩
    rw [c, i2]
    show _ = (((b, e) :: spE e (e2 :: t)).map fun p => (w.length - p.2, w.length - p.1)).reverse
    rw [List.map_cons, List.reverse_cons]
theorem rv_lft {w : List Int} {V : Int} {E : List Nat} (hE : Ch (pf w) V w.length 0 E) (hne : E ≠ []) : lftL (pf w.reverse) V (rvB w.length 0 E) = (lftL (pf w) V E).reverse := by
  obtain ⟨_, h⟩ := rv_ok E 0 hne hE
  have hok := spE_ok E 0 ((ch_iff E 0).1 hE).1
  unfold lftL
  rw [h, List.map_reverse, List.map_map]
  congr 1
  exact List.map_congr_left fun p hp => lf_rev (by have := hok p hp; omega) (hok p hp).2
theorem rv_len (n b : Nat) (E : List Nat) (hne : E ≠ []) : (rvB n b E).length = E.length := by
  unfold rvB
  have : 1 ≤ E.length := List.length_pos_iff.2 hne
  simp; omega
/-- full lines are as many -/
theorem rv_full {w : List Int} {V : Int} (hg : gX V w) {F F' : List Nat} (hF : Gd (pf w) V w.length 0 F) (hF' : Gd (pf w.reverse) V w.reverse.length 0 F') : F.length = F'.length := by
  have n1 := hg.n1
  have hl : w.reverse.length = w.length := List.length_reverse
  have ne : ∀ {q : Nat → Int} {E : List Nat}, Ch q V w.length 0 E → E ≠ [] := fun h e => by subst e; rw [Ch] at h; omega
  rw [hl] at hF'
  have p2 := hg.rev.pos
  rw [hl] at p2
  obtain ⟨a, _⟩ := rv_ok F 0 (ne hF.ch) hF.ch
  rw [Nat.sub_zero] at a
  have b := rv_ok (w := w.reverse) (V := V) F' 0 (ne hF'.ch) (by rw [hl]; exact hF'.ch)
  rw [List.reverse_reverse, hl, Nat.sub_zero] at b
  have h1 := (dom p2 F' _ 0 0 hF' a (Nat.le_refl _)).1
  have h2 := (dom hg.pos F _ 0 0 hF b.1 (Nat.le_refl _)).1
  rw [rv_len _ _ _ (ne hF.ch)] at h1
  rw [rv_len _ _ _ (ne hF'.ch)] at h2
  omega
end Go.Proofs.Ytdmffkknghianaa

set_option linter.unusedSimpArgs false
set_option linter.unusedVariables false
namespace Go.Proofs.Ytdmffkknghianaa
open Go Go.Proofs.Eng
set_option maxRecDepth 100000
set_option maxHeartbeats 4000000
theorem ext_getD {α : Type} {L M : List α} {d : α} (hl : L.length = M.length) (h : ∀ a, a < L.length → L.getD a d = M.getD a d) : L = M := by
  refine List.ext_getElem hl fun a h1 h2 => ?_
  have := h a h1
  rwa [List.getD_eq_getElem?_getD, List.getD_eq_getElem?_getD, List.getElem?_eq_getElem h1, List.getElem?_eq_getElem h2] at this
theorem rev_getD {α : Type} {A : List α} {d : α} {a : Nat} (h : a < A.length) : A.reverse.getD a d = A.getD (A.length - 1 - a) d := by
  rw [List.getD_eq_getElem?_getD, List.getD_eq_getElem?_getD, List.getElem?_reverse h]
theorem set_getD {α : Type} {L : List α} {i a : Nat} {x d : α} (h : i < L.length) : (L.set i x).getD a d = if i = a then x else L.getD a d := by
  rw [List.getD_eq_getElem?_getD, List.getD_eq_getElem?_getD, List.getElem?_set]
  by_cases q : i = a
  · subst q; rw [if_pos rfl, if_pos h, if_pos rfl]; rfl
  · rw [if_neg q, if_neg q]
def rI (g e : Nat) (L : List Int) : Nat × Option Ob := (g, some ⟨e, 1, L.map ai⟩)
theorem rev_loop (kb k g e : Nat) (A : List Int) (n : Nat) (hn : A.length = n) (hn1 : n ≤ 100) (η : Heap) (K : List Fr) (Q : Out → Cfg → Prop)
    (hK : ∀ i j : Nat, ∀ j1 j4 j5 j6 j7 j8 j9 j10 j11 j12 j13 j14 j15 j16 j17 j18 j19 j20 j21 j22 j23 j24 j25 j26 j27 : AV, W Try.prog (RelU Try.prog xf) kb K ⟨((.os k g n 1 0 n) :: j1 :: (ai i) :: (ai j) :: j4 :: j5 :: j6 :: j7 :: j8 :: j9 :: j10 :: j11 :: j12 :: j13 :: j14 :: j15 :: j16 :: j17 :: j18 :: j19 :: j20 :: j21 :: j22 :: j23 :: j24 :: j25 :: j26 :: j27 :: []), Go.Proofs.Eng.putAt η k (rI g e A.reverse)⟩ Q) :
    ∀ (j i : Nat), i + j + 1 = n → ∀ L : List Int, L.length = n → (∀ a, a < n → L.getD a 0 = if a < i ∨ j < a then A.getD (n - 1 - a) 0 else A.getD a 0) → ∀ j1 j4 j5 j6 j7 j8 j9 j10 j11 j12 j13 j14 j15 j16 j17 j18 j19 j20 j21 j22 j23 j24 j25 j26 j27 : AV, W Try.prog (RelU Try.prog xf) kb (.code (.loop xf39_L0) :: .blk 0 :: .stop :: K) ⟨((.os k g n 1 0 n) :: j1 :: (ai i) :: (ai j) :: j4 :: j5 :: j6 :: j7 :: j8 :: j9 :: j10 :: j11 :: j12 :: j13 :: j14 :: j15 :: j16 :: j17 :: j18 :: j19 :: j20 :: j21 :: j22 :: j23 :: j24 :: j25 :: j26 :: j27 :: []), Go.Proofs.Eng.putAt η k (rI g e L)⟩ Q := by
  have hkk : Nat.beq k k = true := Nat.beq_refl k
  intro j
  induction j using Nat.strongRecOn with
  | ind j ih =>
    intro i hij L hL hinv j1 j4 j5 j6 j7 j8 j9 j10 j11 j12 j13 j14 j15 j16 j17 j18 j19 j20 j21 j22 j23 j24 j25 j26 j27
    by_cases hlt : i < j
    · have h0 : decide (i < j) = true := decide_eq_true hlt
      have i1 : i < L.length := by omega
      have j1 : j < L.length := by omega
      have hi : (i : Int) < (n : Int) := by omega
      have hj : (j : Int) < (n : Int) := by omega
      have hgi : (L.map ai)[i]? = some (ai (L.getD i 0)) := by rw [List.getElem?_map, getD_at i1]; rfl
      have hgj : (L.map ai)[j]? = some (ai (L.getD j 0)) := by rw [List.getElem?_map, getD_at j1]; rfl
      have wi : IntKind.i64.wrap ((i : Int) + 1) = ((i + 1 : Nat) : Int) := by rw [wrap_id (by omega) (by omega)]; simp
      have wj : IntKind.i64.wrap ((j : Int) - 1) = ((j - 1 : Nat) : Int) := by rw [wrap_id (by omega) (by omega)]; omega
      have next := ih (j - 1) (by omega) (i + 1) (by omega) ((L.set i (L.getD j 0)).set j (L.getD i 0)) (by simp [hL]) (fun a ha => by
        have hI : L.getD i 0 = A.getD i 0 := (hinv i (by omega)).trans (if_neg (by omega))
        have hJ : L.getD j 0 = A.getD j 0 := (hinv j (by omega)).trans (if_neg (by omega))
        rw [set_getD (by rw [List.length_set]; omega), set_getD (by omega), hI, hJ, hinv a ha]
        by_cases q1 : j = a
        · subst q1
          rw [if_pos rfl, if_pos (by omega), show n - 1 - j = i by omega]
        · rw [if_neg q1]
          by_cases q2 : i = a
          · subst q2
            rw [if_pos rfl, if_pos (by omega), show n - 1 - i = j by omega]
          · rw [if_neg q2]
            by_cases q3 : a < i ∨ j < a
            · rw [if_pos q3, if_pos (by omega)]
            · rw [if_neg q3, if_neg (by omega)])
      have e1 : (L.map ai).set i (.v (.int .i64 (L.getD j 0))) = (L.set i (L.getD j 0)).map ai := by rw [List.map_set]; rfl
      have e2 : ((L.set i (L.getD j 0)).map ai).set j (.v (.int .i64 (L.getD i 0))) = ((L.set i (L.getD j 0)).set j (L.getD i 0)).map ai := List.map_set.symm
      have hgj2 : ((L.set i (L.getD j 0)).map ai)[j]? = some (ai (L.getD j 0)) := by
        rw [List.getElem?_map, getD_at (d := 0) (by rw [List.length_set]; exact j1), set_getD i1, if_neg (by omega)]; rfl
      unfold rI at next ⊢
      refine W_loop (W_run 120 ?_)
      simp (maxSteps := 2000000) only [SA, Nat.reduceDiv, Nat.reduceSub, Nat.reduceAdd, Int.reduceLT, Int.reduceLE, Int.reduceToNat, Nat.reduceMul, Nat.reduceEqDiff, reduceCtorEq, Nat.reduceBEq, Nat.reduceLeDiff, Nat.reduceLT, xf39_L0, ai, ai, lt_cast, h0, hi, hj, hgi, hgj, hgj2, wi, wj, e1, e2, look_putAt, putAt_twice, hkk, List.length_map, hL, List.length_set]
      exact next _ _ _ _ _ _ _ _ _ _ _ _ _ _ _ _ _ _ _ _ _ _ _ _ _
    · have h0 : decide (i < j) = false := decide_eq_false hlt
      have hLr : L = A.reverse := ext_getD (d := 0) (by rw [List.length_reverse]; omega) (fun a ha => by
        rw [rev_getD (by omega), hinv a (by omega), hn]
        by_cases q : a < i ∨ j < a
        · rw [if_pos q]
        · rw [if_neg q, show n - 1 - a = a by omega])
      subst hLr
      refine W_loop (W_run 80 ?_)
      simp (maxSteps := 2000000) only [SA, Nat.reduceDiv, Nat.reduceSub, Nat.reduceAdd, Int.reduceLT, Int.reduceLE, Int.reduceToNat, Nat.reduceMul, Nat.reduceEqDiff, reduceCtorEq, Nat.reduceBEq, Nat.reduceLeDiff, Nat.reduceLT, xf39_L0, ai, lt_cast, h0]
      exact W_stop (hK i j _ _ _ _ _ _ _ _ _ _ _ _ _ _ _ _ _ _ _ _ _ _ _ _ _)
theorem rev_run (kb k g e : Nat) (A : List Int) (hn0 : 1 ≤ A.length) (hn1 : A.length ≤ 100) (η : Heap) (hη : Go.Proofs.Eng.look η k = rI g e A) :
    RunsR Try.prog xf kb 39 [.os k g A.length 1 0 A.length] η (.tup []) (Go.Proofs.Eng.putAt η k (rI g e A.reverse)) := by
  have w1 : IntKind.i64.wrap ((A.length : Int) - 1) = ((A.length - 1 : Nat) : Int) := by rw [wrap_id (by omega) (by omega)]; omega
  have hkk : Nat.beq k k = true := Nat.beq_refl k
  refine RunsR.ofW (fn := xf39) (by kernel_rfl) (W_run 80 ?_)
  simp (maxSteps := 2000000) only [SA, Nat.reduceDiv, Nat.reduceSub, Nat.reduceAdd, Int.reduceLT, Int.reduceLE, Int.reduceToNat, Nat.reduceMul, Nat.reduceEqDiff, reduceCtorEq, Nat.reduceBEq, Nat.reduceLeDiff, Nat.reduceLT, xf39, ai, w1, hkk]
  refine W_alone (W_named (η' := Go.Proofs.Eng.putAt η k (rI g e A)) (fun k' => by rw [look_putAt]; split; (rename_i h; rw [← h, hη]); rfl) (rev_loop kb k g e A A.length rfl hn1 η _ _ (fun i j j1 j4 j5 j6 j7 j8 j9 j10 j11 j12 j13 j14 j15 j16 j17 j18 j19 j20 j21 j22 j23 j24 j25 j26 j27 => W_run 80 ?_) (A.length - 1) 0 (by omega) A rfl (fun a ha => by rw [if_neg (by omega)]) _ _ _ _ _ _ _ _ _ _ _ _ _ _ _ _ _ _ _ _ _ _ _ _ _))
  exact WX_nil ⟨.inr rfl, [], rfl, rfl, rfl⟩
end Go.Proofs.Ytdmffkknghianaa

set_option linter.unusedSimpArgs false
set_option linter.unusedVariables false
namespace Go.Proofs.Ytdmffkknghianaa
open Go Go.Proofs.Eng
set_option maxRecDepth 100000
set_option maxHeartbeats 4000000
theorem rowN_spans {η : Heap} {k g e n : Nat} {l : List (Nat × Nat)} (hn : n = l.length) (hk : Go.Proofs.Eng.look η k = (g, some ⟨e, 2, l.map shP⟩)) : rowN η (.os k g n 2 0 n) = some (spR l) := by
  subst hn
  have ht : List.take l.length (l.map shP) = l.map shP := List.take_of_length_le (by simp)
  simp only [rowN, hk]
  rw [if_pos]
  · simp [spR, ht]
  · refine ⟨trivial, by simp, trivial, by simp, ?_⟩
    rw [List.drop_zero, ht, List.all_eq_true]
    intro x hx
    obtain ⟨z, _, rfl⟩ := List.mem_map.1 hx
    rfl
theorem spans_N {V : Int} {w : List Int} (hg : gX V w) (f g : Bool) {E : List Nat} (hE : E.length ≤ 100) (hok : fE (pf w) V w.length E = 0) : RunsN Try.prog xf 57 [tx f V w, al g (nl E)] (.tup [spR (spE 0 E), ai 0]) := by
  have n10 := hg.n10
  have n00 : ((0 : Int) != 0) = false := rfl
  have hnl := nl_len E
  obtain ⟨hok1, hok2⟩ := fE_ok hok
  refine RunsN.ofW (fn := xf57) (by kernel_rfl) (W_run 80 ?_)
  simp (maxSteps := 2000000) only [SA, Nat.reduceDiv, Nat.reduceSub, Nat.reduceAdd, Int.reduceLT, Int.reduceLE, Int.reduceToNat, Nat.reduceMul, Nat.reduceEqDiff, reduceCtorEq, Nat.reduceBEq, Nat.reduceLeDiff, Nat.reduceLT, xf57, ai, al, tx]
  refine W_call (args := [tx f V w]) rfl (noRefs_1 (noRef_tx _ _ _)) (check_run hg f) rfl (W_run 80 ?_)
  simp (maxSteps := 2000000) only [SA, Nat.reduceDiv, Nat.reduceSub, Nat.reduceAdd, Int.reduceLT, Int.reduceLE, Int.reduceToNat, Nat.reduceMul, Nat.reduceEqDiff, reduceCtorEq, Nat.reduceBEq, Nat.reduceLeDiff, Nat.reduceLT, ai, al, tx, n00, hnl, List.map_nil]
  refine W_alone (spa_loop V w f g E n10 hE _ _ _ (fun l b hl hb j3 j9 j10 j11 j12 j13 j14 j15 j16 j17 j18 j22 j23 j24 j25 j26 j27 j28 j29 j30 j31 j32 j33 j34 j35 j36 j37 j38 j39 j40 j41 j42 j43 j44 j45 j46 j47 j48 j49 j50 j51 j52 j53 j54 j55 j56 j57 j58 j59 => W_run 80 ?_) (fun hne l b k j3 j9 j10 j11 j12 j13 j14 j15 j16 j17 j18 j22 j23 j24 j25 j26 j27 j28 j29 j30 j31 j32 j33 j34 j35 j36 j37 j38 j39 j40 j41 j42 j43 j44 j45 j46 j47 j48 j49 j50 j51 j52 j53 j54 j55 j56 j57 j58 j59 => (hne hok1).elim) E.length 0 (by omega) [] 0 (Nat.le_refl _) rfl rfl _ _ _ _ _ _ _ _ _ _ _ _ _ _ _ _ _ _ _ _ _ _ _ _ _ _ _ _ _ _ _ _ _ _ _ _ _ _ _ _ _ _ _ _ _ _ _ _ _)
  have hll : l.length = E.length := by rw [hl, spE_len]
  simp (maxSteps := 2000000) only [SA, Nat.reduceDiv, Nat.reduceSub, Nat.reduceAdd, Int.reduceLT, Int.reduceLE, Int.reduceToNat, Nat.reduceMul, Nat.reduceEqDiff, reduceCtorEq, Nat.reduceBEq, Nat.reduceLeDiff, Nat.reduceLT, xf57_R1, ai, al, tx]
  refine W_call (args := [tx f V w]) rfl (noRefs_1 (noRef_tx _ _ _)) (last_run V w f) rfl (W_run 80 ?_)
  have hbn : b = w.length := by
    rw [hok1] at hb
    by_cases h : b = w.length
    · exact h
    · rw [if_neg h] at hb; omega
  have d1 : ((b : Int) != (w.length : Int)) = false := by rw [hbn]; simp
  simp (maxSteps := 2000000) only [SA, Nat.reduceDiv, Nat.reduceSub, Nat.reduceAdd, Int.reduceLT, Int.reduceLE, Int.reduceToNat, Nat.reduceMul, Nat.reduceEqDiff, reduceCtorEq, Nat.reduceBEq, Nat.reduceLeDiff, Nat.reduceLT, ai, al, tx, d1]
  subst hl
  refine W_alone (W_named named18 (spb_loop V w hg f g E _ (spE 0 E) (by omega) (spE_ok E 0 hok1) _ _ (fun h r12 j3 j8 j9 j10 j11 j12 j13 j14 j15 j16 j17 j18 j19 j20 j21 j22 j23 j24 j25 j26 j27 j28 j29 j30 j31 j32 j33 j34 j35 j36 j37 j38 j39 j40 j41 j42 j43 j44 j45 j46 j47 j51 j52 j53 j54 j55 j56 j57 j58 j59 => W_run 80 ?_) (fun h k r12 j3 j8 j9 j10 j11 j12 j13 j14 j15 j16 j17 j18 j19 j20 j21 j22 j23 j24 j25 j26 j27 j28 j29 j30 j31 j32 j33 j34 j35 j36 j37 j38 j39 j40 j41 j42 j43 j44 j45 j46 j47 j51 j52 j53 j54 j55 j56 j57 j58 j59 => by rw [hok2] at h; cases h) (spE 0 E).length 0 (by omega) rfl _ _ _ _ _ _ _ _ _ _ _ _ _ _ _ _ _ _ _ _ _ _ _ _ _ _ _ _ _ _ _ _ _ _ _ _ _ _ _ _ _ _ _ _ _ _ _ _ _ _ _ _))
  simp (maxSteps := 2000000) only [SA, Nat.reduceDiv, Nat.reduceSub, Nat.reduceAdd, Int.reduceLT, Int.reduceLE, Int.reduceToNat, Nat.reduceMul, Nat.reduceEqDiff, reduceCtorEq, Nat.reduceBEq, Nat.reduceLeDiff, Nat.reduceLT, xf57_R0, ai, al, tx]
  refine W_ret1 (WX_nil ⟨.inl rfl, _, rfl, ?_⟩)
  show ([AV.os 18 1 (spE 0 E).length 2 0 (spE 0 E).length, ai 0].mapM (rowN _)).map AV.tup = _
  rw [List.mapM_cons, rowN_spans rfl rfl]; rfl
end Go.Proofs.Ytdmffkknghianaa

set_option linter.unusedSimpArgs false
set_option linter.unusedVariables false
namespace Go.Proofs.Ytdmffkknghianaa
open Go Go.Proofs.Eng
set_option maxRecDepth 100000
set_option maxHeartbeats 4000000
def XX (V : Int) (w : List Int) : AV := .ag [ai V, .os 1005 1 w.length 1 0 w.length]
def HX (q5 q7 : Nat × Option Ob) (g : Nat) (w : List Int) (r10 r20 : Nat × Option Ob) : Heap := [(5, q5), (7, q7), (76, (g, none)), (1005, (1, some ⟨3, 1, w.map ai⟩)), (2010, r10), (2020, r20)]
theorem reify_XX {η : Heap} {V : Int} {w : List Int} {e : Nat} {y : AV} (hk : Go.Proofs.Eng.look η 1005 = (1, some ⟨e, 1, w.map ai⟩)) (hy : reify η 20 y = some y) : [XX V w, y].mapM (reify η 20) = some [tx false V w, y] := by
  have h : reify η 20 (XX V w) = some (tx false V w) := reify_txo rfl hk
  rw [List.mapM_cons, h, List.mapM_cons, hy]; rfl
theorem lft_loopR (q5 q7 : Nat × Option Ob) (g : Nat) (V : Int) (w : List Int) (hg : gX V w) (x1 x11 : AV) (l : List (Nat × Nat)) (hl : l.length ≤ 100) (hok : ∀ p, p ∈ l → p.1 < p.2 ∧ p.2 ≤ w.length) (K : List Fr) (Q : Out → Cfg → Prop)
    (hK : ∀ R : List Int, R = l.map (fun p => lf (pf w) V p.1 p.2) → ∀ r10 : Nat × Option Ob, ∀ j3 j9 j10 j12 j13 j14 j15 j16 j17 j18 j19 j20 j24 j25 j26 j27 j28 j29 j30 j31 j32 j33 j34 : AV, W Try.prog (RelU Try.prog xf) 2000 K ⟨((XX V w) :: x1 :: (.ptr (XX V w)) :: j3 :: nilA :: (ai 0) :: (spR l) :: (ai 0) :: (.os 2020 1 R.length 1 0 R.length) :: j9 :: j10 :: x11 :: j12 :: j13 :: j14 :: j15 :: j16 :: j17 :: j18 :: j19 :: j20 :: (spR l) :: (ai l.length) :: (ai l.length) :: j24 :: j25 :: j26 :: j27 :: j28 :: j29 :: j30 :: j31 :: j32 :: j33 :: j34 :: []), HX q5 q7 g w r10 (1, some ⟨3, 1, R.map ai⟩)⟩ Q) :
    ∀ (m k : Nat), k + m = l.length → ∀ R : List Int, R = (l.take k).map (fun p => lf (pf w) V p.1 p.2) → ∀ (g10 : Nat) (o10 : Option Ob), ∀ j3 j9 j10 j12 j13 j14 j15 j16 j17 j18 j19 j20 j24 j25 j26 j27 j28 j29 j30 j31 j32 j33 j34 : AV, W Try.prog (RelU Try.prog xf) 2000 (.code (.loop xf37_L0) :: .blk 0 :: .stop :: K) ⟨((XX V w) :: x1 :: (.ptr (XX V w)) :: j3 :: nilA :: (ai 0) :: (spR l) :: (ai 0) :: (.os 2020 1 R.length 1 0 R.length) :: j9 :: j10 :: x11 :: j12 :: j13 :: j14 :: j15 :: j16 :: j17 :: j18 :: j19 :: j20 :: (spR l) :: (ai l.length) :: (ai k) :: j24 :: j25 :: j26 :: j27 :: j28 :: j29 :: j30 :: j31 :: j32 :: j33 :: j34 :: []), HX q5 q7 g w (g10, o10) (1, some ⟨3, 1, R.map ai⟩)⟩ Q := by
  intro m
  induction m with
  | zero =>
    intro k hk R hR g10 o10 j3 j9 j10 j12 j13 j14 j15 j16 j17 j18 j19 j20 j24 j25 j26 j27 j28 j29 j30 j31 j32 j33 j34
    have ek : k = l.length := by omega
    have h0 : decide (k < l.length) = false := decide_eq_false (by omega)
    refine W_loop (W_run 80 ?_)
    simp (maxSteps := 2000000) only [SA, Nat.reduceDiv, Nat.reduceSub, Nat.reduceAdd, Int.reduceLT, Int.reduceLE, Int.reduceToNat, Nat.reduceMul, Nat.reduceEqDiff, reduceCtorEq, Nat.reduceBEq, Nat.reduceLeDiff, Nat.reduceLT, xf37_L0, ai, al, tx, spR, lt_cast, h0]
    rw [ek]
    exact W_stop (hK R (by rw [hR, List.take_of_length_le (by omega)]) _ _ _ _ _ _ _ _ _ _ _ _ _ _ _ _ _ _ _ _ _ _ _ _)
  | succ m ih =>
    intro k hk R hR g10 o10 j3 j9 j10 j12 j13 j14 j15 j16 j17 j18 j19 j20 j24 j25 j26 j27 j28 j29 j30 j31 j32 j33 j34
    have hk1 : k < l.length := by omega
    have h0 : decide (k < l.length) = true := decide_eq_true hk1
    have hgt : (l.map shP)[k]? = some (.ag [ai ((l.getD k (0, 0)).1 : Nat), ai ((l.getD k (0, 0)).2 : Nat)]) := by rw [List.getElem?_map, getD_at (d := (0, 0)) hk1]; rfl
    have wi : IntKind.i64.wrap ((k : Int) + 1) = ((k + 1 : Nat) : Int) := by rw [wrap_id (by omega) (by omega)]; simp
    have hin := hok _ (getD_in (d := (0, 0)) hk1)
    have hlen : R.length = k := by rw [hR, List.length_map, List.length_take]; omega
    have next := ih (k + 1) (by omega) (R ++ [lf (pf w) V (l.getD k (0, 0)).1 (l.getD k (0, 0)).2]) (by rw [take_snoc (d := (0, 0)) hk1, List.map_append, hR]; rfl)
    generalize l.getD k (0, 0) = p at *
    have hlf := left_run hg false hin.1 hin.2
    have q1 : (R.length + 1) * 8 ≤ 100000000000000 := by omega
    have q2 : R.length + 1 ≤ 100000000000000 := by omega
    rw [List.length_append, List.map_append] at next
    unfold HX at next ⊢
    refine W_loop (W_run 80 ?_)
    simp (maxSteps := 2000000) only [SA, Nat.reduceDiv, Nat.reduceSub, Nat.reduceAdd, Int.reduceLT, Int.reduceLE, Int.reduceToNat, Nat.reduceMul, Nat.reduceEqDiff, reduceCtorEq, Nat.reduceBEq, Nat.reduceLeDiff, Nat.reduceLT, xf37_L0, ai, al, tx, XX, spR, lt_cast, h0, hgt, Go.Proofs.Eng.putAt, Go.Proofs.Eng.fillA, List.map_cons, List.map_nil]
    refine W_look (fuel := 20) (args := [XX V w, spn p.1 p.2]) (args' := [tx false V w, spn p.1 p.2]) rfl (reify_XX rfl rfl) hlf rfl rfl (W_run 80 ?_)
    simp (maxSteps := 2000000) only [SA, Nat.reduceDiv, Nat.reduceSub, Nat.reduceAdd, Int.reduceLT, Int.reduceLE, Int.reduceToNat, Nat.reduceMul, Nat.reduceEqDiff, reduceCtorEq, Nat.reduceBEq, Nat.reduceLeDiff, Nat.reduceLT, ai, al, tx, wi, spR, q1, q2, Go.Proofs.Eng.elems, Go.Proofs.Eng.putAt, List.map_cons, List.map_nil]
    exact next _ _ _ _ _ _ _ _ _ _ _ _ _ _ _ _ _ _ _ _ _ _ _ _ _
theorem named_L {q5 q7 r : Nat × Option Ob} {g : Nat} {w : List Int} (j : Nat) : Go.Proofs.Eng.look [(5, q5), (7, q7), (76, (g, none)), (1005, (1, some ⟨3, 1, w.map ai⟩)), (2020, r)] j = Go.Proofs.Eng.look (HX q5 q7 g w (0, none) r) j := by
  simp only [HX, Go.Proofs.Eng.look]
  by_cases h : 2010 = j
  · subst h; simp
  · simp [h]
theorem left_R {V : Int} {w : List Int} (hg : gX V w) (q5 q7 : Nat × Option Ob) (g0 : Nat) (g : Bool) {E : List Nat} (hE : E.length ≤ 100) (hok : fE (pf w) V w.length E = 0) {n : Nat} (hnn : (lftL (pf w) V E).length = n) :
    ∃ η', (∃ r10, η' = HX q5 q7 g0 w r10 (1, some ⟨3, 1, (lftL (pf w) V E).map ai⟩)) ∧ RunsR Try.prog xf 2000 37 [XX V w, al g (nl E)] [(5, q5), (7, q7), (76, (g0, none)), (1005, (1, some ⟨3, 1, w.map ai⟩))] (.tup [.os 2020 1 n 1 0 n, ai 0]) η' := by
  have hs := spans_N hg false g hE hok
  have n00 : ((0 : Int) != 0) = false := rfl
  obtain ⟨h1, h2⟩ := fE_ok hok
  have hsl := spE_len E 0
  refine ofRE (fn := xf37) (by kernel_rfl) (W_run 80 ?_)
  simp (maxSteps := 2000000) only [SA, Nat.reduceDiv, Nat.reduceSub, Nat.reduceAdd, Int.reduceLT, Int.reduceLE, Int.reduceToNat, Nat.reduceMul, Nat.reduceEqDiff, reduceCtorEq, Nat.reduceBEq, Nat.reduceLeDiff, Nat.reduceLT, xf37, ai, al, tx, XX]
  refine W_fresh (fuel := 20) (args := [XX V w, al g (nl E)]) (args' := [tx false V w, al g (nl E)]) rfl (reify_XX rfl (reify_al _ _ _ _)) hs (noRef_t2 (noRef_spR _) rfl) rfl (W_run 80 ?_)
  simp (maxSteps := 2000000) only [SA, Nat.reduceDiv, Nat.reduceSub, Nat.reduceAdd, Int.reduceLT, Int.reduceLE, Int.reduceToNat, Nat.reduceMul, Nat.reduceEqDiff, reduceCtorEq, Nat.reduceBEq, Nat.reduceLeDiff, Nat.reduceLT, ai, al, tx, spR, n00, Go.Proofs.Eng.putAt, List.map_nil]
  refine W_alone (W_named named_L (lft_loopR q5 q7 g0 V w hg _ _ (spE 0 E) (by omega) (spE_ok E 0 h1) _ _ (fun R hR r10 j3 j9 j10 j12 j13 j14 j15 j16 j17 j18 j19 j20 j24 j25 j26 j27 j28 j29 j30 j31 j32 j33 j34 => W_run 80 ?_) (spE 0 E).length 0 (by omega) [] rfl _ _ _ _ _ _ _ _ _ _ _ _ _ _ _ _ _ _ _ _ _ _ _ _ _))
  simp (maxSteps := 2000000) only [SA, Nat.reduceDiv, Nat.reduceSub, Nat.reduceAdd, Int.reduceLT, Int.reduceLE, Int.reduceToNat, Nat.reduceMul, Nat.reduceEqDiff, reduceCtorEq, Nat.reduceBEq, Nat.reduceLeDiff, Nat.reduceLT, xf37_R0, ai, al, tx, spR]
  have hR' : R = lftL (pf w) V E := hR
  subst hR'
  rw [hnn]
  exact W_ret1 (WX_nil ⟨.inl rfl, _, rfl, rfl, r10, rfl⟩)
end Go.Proofs.Ytdmffkknghianaa

