/-
  LineMore.
-/
import Derived.Test.YtdmffkknghianaaNe
import Derived.Test.YtdmffkknghianaaMr
set_option linter.unusedSimpArgs false
set_option linter.unusedVariables false
namespace Go.Proofs.Ytdmffkknghianaa
open Go Go.Proofs.Eng
set_option maxRecDepth 100000
set_option maxHeartbeats 4000000
theorem ch_wide {q : Nat → Int} {V : Int} {n : Nat} : ∀ {E : List Nat} {b : Nat}, Ch q V n b E → Ch q (V + 1) n b E
  | [], b, h => h
  | e :: t, b, h => by
    rw [Ch] at h ⊢
    exact ⟨h.1, h.2.1, by have := fit_iff.1 h.2.2.1; rw [fit_iff]; unfold lf at *; omega, ch_wide h.2.2.2⟩
theorem gd_ex {q : Nat → Int} {V : Int} {n : Nat} (hp : Pos q n V) : ∀ (m b : Nat), n - b ≤ m → b ≤ n → ∃ F, Gd q V n b F := by
  intro m
  induction m with
  | zero => intro b h1 h2; exact ⟨[], by rw [Gd]; omega⟩
  | succ m ih =>
    intro b h1 h2
    by_cases e : b = n
    · exact ⟨[], by rw [Gd]; exact e⟩
    · obtain ⟨e, hk⟩ := Kp.ex hp (i := b) _ n (Nat.le_refl _) (by omega) (Nat.le_refl n)
      obtain ⟨F, hF⟩ := ih e (by have := hk.lo; omega) hk.hi
      refine ⟨e :: F, ?_⟩
      rw [Gd]
      refine ⟨hk.lo, hk.hi, hk.ok, ?_, hF⟩
      by_cases h : e = n
      · exact .inl h
      · exact .inr (hk.no (e + 1) (by omega) (by have := hk.hi; omega))
theorem pf_app {w : List Int} {x : Int} {j : Nat} (h : j ≤ w.length) : pf (w ++ [x]) j = pf w j := by
  unfold pf; rw [List.take_append_of_le_length h]
theorem lf_app {w : List Int} {x V : Int} {i j : Nat} (hi : i ≤ w.length) (hj : j ≤ w.length) : lf (pf (w ++ [x])) V i j = lf (pf w) V i j := by
  unfold lf; rw [pf_app hi, pf_app hj]
theorem fit_app {w : List Int} {x V : Int} {i j : Nat} (hi : i ≤ w.length) (hj : j ≤ w.length) : fit (pf (w ++ [x])) V i j = fit (pf w) V i j := by
  unfold fit; rw [lf_app hi hj]
theorem gX.app {V x : Int} {w : List Int} (h : gX V w) (h9 : w.length ≤ 9) (hx : 1 ≤ x ∧ x ≤ V) : gX V (w ++ [x]) where
  W1 := h.W1
  n1 := by simp
  n10 := by simp; omega
  cel := fun y hy => by
    rw [List.mem_append, List.mem_singleton] at hy
    rcases hy with q | rfl
    · exact h.cel y q
    · exact hx
/-- one line more for the last word -/
theorem ch_app {V x : Int} {w : List Int} (h : gX V w) (h9 : w.length ≤ 9) (hx : 1 ≤ x ∧ x ≤ V) : ∀ {E : List Nat} {b : Nat}, b ≤ w.length → Ch (pf w) V w.length b E → Ch (pf (w ++ [x])) V (w.length + 1) b (E ++ [w.length + 1])
  | [], b, hb, hc => by
    rw [Ch] at hc
    subst hc
    rw [List.nil_append, Ch]
    refine ⟨by omega, Nat.le_refl _, ?_, by rw [Ch]⟩
    have := fit_one (h.app h9 hx).pos (j := w.length) (by simp)
    exact this
  | e :: t, b, hb, hc => by
    rw [Ch] at hc
    rw [List.cons_append, Ch]
    exact ⟨hc.1, by omega, by rw [fit_app hb hc.2.1]; exact hc.2.2.1, ch_app h h9 hx hc.2.1 hc.2.2.2⟩
/-- without the last word there are not more lines -/
theorem ch_less {V x : Int} {w : List Int} (h : gX V w) (h9 : w.length ≤ 9) (hx : 1 ≤ x ∧ x ≤ V) : ∀ {E : List Nat} {b : Nat}, b ≤ w.length → Ch (pf (w ++ [x])) V (w.length + 1) b E → ∃ E', Ch (pf w) V w.length b E' ∧ E'.length ≤ E.length
  | [], b, hb, hc => by rw [Ch] at hc; omega
  | e :: t, b, hb, hc => by
    rw [Ch] at hc
    obtain ⟨c1, c2, c3, c4⟩ := hc
    by_cases he : e = w.length + 1
    · by_cases hbn : b = w.length
      · exact ⟨[], by rw [Ch]; exact hbn, by simp⟩
      · refine ⟨[w.length], ?_, by simp⟩
        rw [Ch]
        refine ⟨by omega, Nat.le_refl _, ?_, by rw [Ch]⟩
        rw [← fit_app hb (Nat.le_refl _)]
        have hp := (h.app h9 hx).pos
        have hl : (w ++ [x]).length = w.length + 1 := by simp
        rw [hl] at hp
        exact fit_sub hp (Nat.le_refl b) (by omega) (by omega) (by omega) c3
    · obtain ⟨E', h1, h2⟩ := ch_less h h9 hx (E := t) (b := e) (by omega) c4
      refine ⟨e :: E', ?_, by simp; omega⟩
      rw [Ch]
      exact ⟨c1, by omega, by rw [← fit_app hb (by omega)]; exact c3, h1⟩
theorem back_app {V x : Int} {w : List Int} {D D' : Nat → Int} {S S' : Nat → Nat} (hB : Back (pf w) V w.length D S) (hB' : Back (pf (w ++ [x])) V (w.length + 1) D' S') : ∀ i, i ≤ w.length → D' i = D i := by
  have h : Back (pf w) V w.length D' S' := by
    refine ⟨hB'.d0, hB'.s0, fun j h1 h2 => ?_⟩
    obtain ⟨a, b⟩ := hB'.st j h1 (by omega)
    have hm := b.mem
    have hsq : ∀ i, i < j → sq (pf (w ++ [x])) V i j = sq (pf w) V i j := fun i hi => by unfold sq; rw [lf_app (by omega) h2]
    refine ⟨by rw [a, hsq _ hm.1], b.congr (fun y => ?_) fun y hy => by rw [hsq y hy.1]⟩
    unfold cb
    constructor
    · rintro ⟨p, q⟩; exact ⟨p, by rwa [fit_app (by omega) h2] at q⟩
    · rintro ⟨p, q⟩; exact ⟨p, by rwa [fit_app (by omega) h2]⟩
  intro i hi
  exact (h.uniq hB i i (Nat.le_refl _) hi).1
theorem noRef_gal (a b e : Int) (H : List Int) : noRef (gal a b e H) = true := noRefs_of fun x hx => by
  simp only [List.mem_cons, List.mem_map] at hx
  rcases hx with rfl | rfl | rfl | ⟨z, _, rfl⟩ <;> rfl
theorem noRef_stp (S : List Int) : noRef (stp S) = true := noRefs_of fun x hx => by obtain ⟨z, _, rfl⟩ := List.mem_map.1 hx; rfl
theorem reify_txo {η : Heap} {k g e n : Nat} {V : Int} {l : List Int} (hn : n = l.length) (hk : Go.Proofs.Eng.look η k = (g, some ⟨e, 1, l.map ai⟩)) : reify η 20 (.ag [ai V, .os k g n 1 0 n]) = some (tx false V l) := by
  subst hn
  have h : reify η 19 (.os k g l.length 1 0 l.length) = some (al false l) := reify_os (elem_ai η 17) hk
  show ([ai V, AV.os k g l.length 1 0 l.length].mapM (reify η 19)).map AV.ag = _
  rw [List.mapM_cons, List.mapM_cons, h]; rfl
theorem more_law {a b e z : Int} {H S : List Int} (ha : 0 ≤ a ∧ a ≤ 255) (hb : 0 ≤ b ∧ b ≤ 255) (he : 0 ≤ e ∧ e ≤ 255) (hH : H.length = 10) (bH : ∀ x, x ∈ H → 0 ≤ x ∧ x ≤ 255) (hS : S.length = 10) (bz : 0 ≤ z ∧ z ≤ 255) (hw : Runs Try.prog xf 25 [] (ab true)) :
    Runs Try.prog xf 9 [gal a b e H, stp S, u8 z] (ab true) := by
  obtain ⟨r, ⟨V, w, rfl, hg, hm⟩, hmade⟩ := gal_made (m := 9) (by omega) ha hb he hH bH
  have n1 := hg.n1
  have n9 : w.length ≤ 9 := by omega
  have hV := hg.W1
  obtain ⟨t1, t2⟩ := tmod_b (a := z) (n := V) bz.1 (by omega)
  obtain ⟨x, hx⟩ : ∃ x, 1 + z.tmod V = x := ⟨_, rfl⟩
  have hxb : 1 ≤ x ∧ x ≤ V := by omega
  have hg2 := hg.app n9 hxb
  obtain ⟨F, hF⟩ := gd_ex hg.pos w.length 0 (by omega) (Nat.zero_le _)
  obtain ⟨F2, hF2⟩ := gd_ex hg2.pos (w ++ [x]).length 0 (by omega) (Nat.zero_le _)
  obtain ⟨D, Sx, hB⟩ := Back.ex hg.pos w.length (Nat.le_refl _)
  obtain ⟨D2, Sx2, hB2⟩ := Back.ex hg2.pos (w ++ [x]).length (Nat.le_refl _)
  have hl2 : (w ++ [x]).length = w.length + 1 := by simp
  have hfull := full_run hg false hF
  have hfull2 := full_N hg2 false hF2
  have hpr := prices_run hg false hB
  have hpr2 := prices_N hg2 false hB2
  have hd1 : F.length ≤ F2.length := by
    have hc := hF2.ch
    rw [hl2] at hc
    obtain ⟨E', h1, h2⟩ := ch_less hg n9 hxb (Nat.zero_le _) hc
    have := (dom hg.pos F E' 0 0 hF h1 (Nat.le_refl _)).1
    omega
  have hd2 : F2.length ≤ F.length + 1 := by
    have hc := ch_app hg n9 hxb (Nat.zero_le _) hF.ch
    rw [← hl2] at hc
    have := (dom hg2.pos F2 _ 0 0 hF2 hc (Nat.le_refl _)).1
    rwa [List.length_append] at this
  have hpl : (pl D2 (w.length + 1)).take w.length = pl D w.length := by
    unfold pl
    rw [← List.map_take, List.take_range, Nat.min_eq_left (by omega)]
    rw [hl2] at hB2
    exact List.map_congr_left fun i hi => back_app hB hB2 i (by have := List.mem_range.1 hi; omega)
  rw [hl2] at hpr2
  obtain ⟨r, ⟨E, rfl, hE, hEl⟩, hbr⟩ := broken_run hg false hS
  have hcln := cloneI_run false w (by omega)
  have hpl1 := pl_len D w.length
  have hpl2 := pl_len D2 (w.length + 1)
  have hnF := nl_len F
  have hnF2 := nl_len F2
  have hsame := same_run false false (pl D w.length) (pl D w.length) (by omega)
  rw [decide_eq_true rfl] at hsame
  have hpri : priL D w.length = pl D w.length := rfl
  rw [hpri] at hpr
  have n00 : ((0 : Int) != 0) = false := rfl
  have e00 : ((0 : Int) == 0) = true := rfl
  have htk : (u8 a :: u8 b :: u8 e :: H.map u8).take 13 = u8 a :: u8 b :: u8 e :: H.map u8 := List.take_of_length_le (by simp [hH])
  have hgn := noRef_gal a b e H
  have hsn := noRef_stp S
  have hst : (S.map u8).take 10 = S.map u8 := List.take_of_length_le (by simp [hS])
  have hsl : (S.map u8).length = 10 := by simp [hS]
  have wz : IntKind.i64.wrap z = z := wrap_id (by omega) (by omega)
  have zV : (V = 0) = False := eq_false (by omega)
  have wx : IntKind.i64.wrap (1 + z.tmod V) = x := by rw [wrap_id (by omega) (by omega), hx]
  have wF : IntKind.i64.wrap ((F.length : Int) + 1) = ((F.length + 1 : Nat) : Int) := by rw [wrap_id (by have := ch_len hF.ch; omega) (by have := ch_len hF.ch; omega)]; simp
  have hmx : (w ++ [x]).map ai = w.map ai ++ [ai x] := by simp
  have q1 : (w.length + 1) * 8 ≤ 100000000000000 := by omega
  have q2 : w.length + 1 ≤ 100000000000000 := by omega
  have q3 : w.length ≤ w.length + 1 := by omega
  have g1 : decide ((F.length : Int) ≤ (F2.length : Int)) = true := decide_eq_true (by omega)
  have g2 : decide ((F2.length : Int) ≤ ((F.length + 1 : Nat) : Int)) = true := decide_eq_true (by omega)
  have hee : ∀ z : Int, (z == z) = true := fun z => by simp
  have wn : IntKind.i64.wrap ((w.length : Int) + 1) = ((w.length + 1 : Nat) : Int) := by rw [wrap_id (by omega) (by omega)]; simp
  have htp : ((pl D2 (w.length + 1)).map ai).take w.length = (pl D w.length).map ai := by rw [← hpl, List.map_take]
  unfold gal at hmade hgn ⊢
  generalize hGG : u8 a :: u8 b :: u8 e :: H.map u8 = G at hmade hgn htk ⊢
  have hGlen : G.length = 13 := by rw [← hGG]; simp [hH]
  unfold stp at hbr hsn ⊢
  generalize hSS : S.map u8 = SS at hbr hsn hst hsl ⊢
  refine Runs.ofW (fn := xf9) 20 (by kernel_rfl) (W_run 160 ?_)
  simp (maxSteps := 2000000) only [SA, Nat.reduceDiv, Nat.reduceSub, Nat.reduceAdd, Int.reduceLT, Int.reduceLE, Int.reduceToNat, Nat.reduceMul, Nat.reduceEqDiff, reduceCtorEq, Nat.reduceBEq, Nat.reduceLeDiff, Nat.reduceLT, xf9, ai, u8, hGlen, htk, hsl, hst]
  refine W_call (args := [.ag G, ai 9]) rfl (noRefs_2 hgn rfl) hmade (noRef_tx _ _ _) (W_run 160 ?_)
  simp (maxSteps := 2000000) only [SA, Nat.reduceDiv, Nat.reduceSub, Nat.reduceAdd, Int.reduceLT, Int.reduceLE, Int.reduceToNat, Nat.reduceMul, Nat.reduceEqDiff, reduceCtorEq, Nat.reduceBEq, Nat.reduceLeDiff, Nat.reduceLT, ai, al, tx, List.map_cons, List.map_nil]
  refine W_call (args := [tx false V w]) rfl (noRefs_1 (noRef_tx _ _ _)) hfull (noRef_t2 (noRef_al _ _) rfl) (W_run 160 ?_)
  by_cases hV40 : V < 40
  · have d40 : decide (V < 40) = true := decide_eq_true hV40
    have hg3 : gX (V + 1) w := ⟨by omega, n1, by omega, fun y hy => by have := hg.cel y hy; omega⟩
    obtain ⟨F3, hF3⟩ := gd_ex hg3.pos w.length 0 (by omega) (Nat.zero_le _)
    have hfull3 := full_run hg3 false hF3
    have hd3 := (dom hg3.pos F3 F 0 0 hF3 (ch_wide hF.ch) (Nat.le_refl _)).1
    have hE3 := ch_fE.1 (ch_wide (ch_fE.2 hE))
    have hfit3 := fits2_run hg3 false false (E := E) (by omega)
    rw [hE3] at hfit3
    have hnF3 := nl_len F3
    have wV : IntKind.i64.wrap (V + 1) = V + 1 := wrap_id (by omega) (by omega)
    have dF : decide ((F.length : Int) < (F3.length : Int)) = false := decide_eq_false (by omega)
    simp (maxSteps := 2000000) only [SA, Nat.reduceDiv, Nat.reduceSub, Nat.reduceAdd, Int.reduceLT, Int.reduceLE, Int.reduceToNat, Nat.reduceMul, Nat.reduceEqDiff, reduceCtorEq, Nat.reduceBEq, Nat.reduceLeDiff, Nat.reduceLT, ai, al, tx, n00, d40, wV, Go.Proofs.Eng.fillA, List.map_cons, List.map_nil]
    refine W_call (args := [tx false (V + 1) w]) rfl (noRefs_1 (noRef_tx _ _ _)) hfull3 (noRef_t2 (noRef_al _ _) rfl) (W_run 160 ?_)
    simp (maxSteps := 2000000) only [SA, Nat.reduceDiv, Nat.reduceSub, Nat.reduceAdd, Int.reduceLT, Int.reduceLE, Int.reduceToNat, Nat.reduceMul, Nat.reduceEqDiff, reduceCtorEq, Nat.reduceBEq, Nat.reduceLeDiff, Nat.reduceLT, ai, al, tx, n00, hnF, hnF3, dF, hsl, hst, List.length_map]
    refine W_call (args := [tx false V w, .ag SS]) rfl (noRefs_2 (noRef_tx _ _ _) hsn) hbr (noRef_al _ _) (W_run 160 ?_)
    simp (maxSteps := 2000000) only [SA, Nat.reduceDiv, Nat.reduceSub, Nat.reduceAdd, Int.reduceLT, Int.reduceLE, Int.reduceToNat, Nat.reduceMul, Nat.reduceEqDiff, reduceCtorEq, Nat.reduceBEq, Nat.reduceLeDiff, Nat.reduceLT, ai, al, tx, List.map_cons, List.map_nil]
    refine W_call (args := [tx false (V + 1) w, al false (nl E)]) rfl (noRefs_2 (noRef_tx _ _ _) (noRef_al _ _)) hfit3 rfl (W_run 160 ?_)
    simp (maxSteps := 2000000) only [SA, Nat.reduceDiv, Nat.reduceSub, Nat.reduceAdd, Int.reduceLT, Int.reduceLE, Int.reduceToNat, Nat.reduceMul, Nat.reduceEqDiff, reduceCtorEq, Nat.reduceBEq, Nat.reduceLeDiff, Nat.reduceLT, ai, al, tx, n00]
    refine W_frF [.none, .rk 7, .none, .rk 7, .wk 1005, .none, .none, .none, .rk 7, .none, .none, .none, .wk 1005, .none, .wk 13, .wk 13] (by kernel_rfl) (W_run 160 ?_)
    simp (maxSteps := 2000000) only [SA, Nat.reduceDiv, Nat.reduceSub, Nat.reduceAdd, Int.reduceLT, Int.reduceLE, Int.reduceToNat, Nat.reduceMul, Nat.reduceEqDiff, reduceCtorEq, Nat.reduceBEq, Nat.reduceLeDiff, Nat.reduceLT, ai, al, tx, u8, List.map_cons, List.map_nil]
    refine W_callU (k0 := 1005) (args := [al false w]) rfl (fun η hη => (hcln η (hη.trans rfl)).pureR orders_mx xf_ok) rfl (W_run 160 ?_)
    simp (maxSteps := 2000000) only [SA, Nat.reduceDiv, Nat.reduceSub, Nat.reduceAdd, Int.reduceLT, Int.reduceLE, Int.reduceToNat, Nat.reduceMul, Nat.reduceEqDiff, reduceCtorEq, Nat.reduceBEq, Nat.reduceLeDiff, Nat.reduceLT, ai, al, tx, u8, wz, zV, wx, q1, q2, raw_conv, rawC, opA, argT, Option.elim, Go.Proofs.Eng.putAt, Go.Proofs.Eng.elems, Go.Proofs.Eng.fillA, List.map_cons, List.map_nil, List.length_map]
    refine W_fresh (fuel := 20) (args := [.ag [ai V, .os 1005 1 (w.length + 1) 1 0 (w.length + 1)]]) (args' := [tx false V (w ++ [x])]) rfl (by rw [List.mapM_cons, reify_txo (l := w ++ [x]) hl2.symm (by rw [hmx]; rfl)]; rfl) hfull2 (noRef_t2 (noRef_al _ _) rfl) rfl (W_run 160 ?_)
    simp (maxSteps := 2000000) only [SA, Nat.reduceDiv, Nat.reduceSub, Nat.reduceAdd, Int.reduceLT, Int.reduceLE, Int.reduceToNat, Nat.reduceMul, Nat.reduceEqDiff, reduceCtorEq, Nat.reduceBEq, Nat.reduceLeDiff, Nat.reduceLT, ai, al, tx]
    refine W_call (args := [tx false V w]) rfl (noRefs_1 (noRef_tx _ _ _)) hpr (noRef_t2 (noRef_al _ _) rfl) (W_run 160 ?_)
    simp (maxSteps := 2000000) only [SA, Nat.reduceDiv, Nat.reduceSub, Nat.reduceAdd, Int.reduceLT, Int.reduceLE, Int.reduceToNat, Nat.reduceMul, Nat.reduceEqDiff, reduceCtorEq, Nat.reduceBEq, Nat.reduceLeDiff, Nat.reduceLT, ai, al, tx]
    refine W_fresh (fuel := 20) (args := [.ag [ai V, .os 1005 1 (w.length + 1) 1 0 (w.length + 1)]]) (args' := [tx false V (w ++ [x])]) rfl (by rw [List.mapM_cons, reify_txo (l := w ++ [x]) hl2.symm (by rw [hmx]; rfl)]; rfl) hpr2 (noRef_t2 (noRef_al _ _) rfl) rfl (W_run 160 ?_)
    simp (maxSteps := 2000000) only [SA, Nat.reduceDiv, Nat.reduceSub, Nat.reduceAdd, Int.reduceLT, Int.reduceLE, Int.reduceToNat, Nat.reduceMul, Nat.reduceEqDiff, reduceCtorEq, Nat.reduceBEq, Nat.reduceLeDiff, Nat.reduceLT, ai, al, tx, e00, hnF, hnF2, g1, wF, g2, hpl1, hpl2, hee, wn, q3, htp, Go.Proofs.Eng.fullOf, Bool.false_and, List.length_map]
    refine W_call (args := [al false (pl D w.length), al false (pl D w.length)]) rfl (noRefs_2 (noRef_al _ _) (noRef_al _ _)) hsame rfl (W_run 160 ?_)
    simp (maxSteps := 2000000) only [SA, Nat.reduceDiv, Nat.reduceSub, Nat.reduceAdd, Int.reduceLT, Int.reduceLE, Int.reduceToNat, Nat.reduceMul, Nat.reduceEqDiff, reduceCtorEq, Nat.reduceBEq, Nat.reduceLeDiff, Nat.reduceLT, ai, ab, al, tx]
    refine W_call (args := []) rfl rfl hw rfl (W_run 160 ?_)
    simp (maxSteps := 2000000) only [SA, Nat.reduceDiv, Nat.reduceSub, Nat.reduceAdd, Int.reduceLT, Int.reduceLE, Int.reduceToNat, Nat.reduceMul, Nat.reduceEqDiff, reduceCtorEq, Nat.reduceBEq, Nat.reduceLeDiff, Nat.reduceLT, ai, ab, al, tx]
    exact W_ret1 (WX_nil ⟨.inl rfl, _, rfl, rfl⟩)
  · have d40 : decide (V < 40) = false := decide_eq_false hV40
    simp (maxSteps := 2000000) only [SA, Nat.reduceDiv, Nat.reduceSub, Nat.reduceAdd, Int.reduceLT, Int.reduceLE, Int.reduceToNat, Nat.reduceMul, Nat.reduceEqDiff, reduceCtorEq, Nat.reduceBEq, Nat.reduceLeDiff, Nat.reduceLT, ai, al, tx, n00, d40]
    refine W_frF [.none, .rk 7, .none, .rk 7, .wk 1005, .none, .none, .none, .rk 7, .none, .none, .none, .wk 1005, .none, .wk 13, .wk 13] (by kernel_rfl) (W_run 160 ?_)
    simp (maxSteps := 2000000) only [SA, Nat.reduceDiv, Nat.reduceSub, Nat.reduceAdd, Int.reduceLT, Int.reduceLE, Int.reduceToNat, Nat.reduceMul, Nat.reduceEqDiff, reduceCtorEq, Nat.reduceBEq, Nat.reduceLeDiff, Nat.reduceLT, ai, al, tx, u8, List.map_cons, List.map_nil]
    refine W_callU (k0 := 1005) (args := [al false w]) rfl (fun η hη => (hcln η (hη.trans rfl)).pureR orders_mx xf_ok) rfl (W_run 160 ?_)
    simp (maxSteps := 2000000) only [SA, Nat.reduceDiv, Nat.reduceSub, Nat.reduceAdd, Int.reduceLT, Int.reduceLE, Int.reduceToNat, Nat.reduceMul, Nat.reduceEqDiff, reduceCtorEq, Nat.reduceBEq, Nat.reduceLeDiff, Nat.reduceLT, ai, al, tx, u8, wz, zV, wx, q1, q2, raw_conv, rawC, opA, argT, Option.elim, Go.Proofs.Eng.putAt, Go.Proofs.Eng.elems, Go.Proofs.Eng.fillA, List.map_cons, List.map_nil, List.length_map]
    refine W_fresh (fuel := 20) (args := [.ag [ai V, .os 1005 1 (w.length + 1) 1 0 (w.length + 1)]]) (args' := [tx false V (w ++ [x])]) rfl (by rw [List.mapM_cons, reify_txo (l := w ++ [x]) hl2.symm (by rw [hmx]; rfl)]; rfl) hfull2 (noRef_t2 (noRef_al _ _) rfl) rfl (W_run 160 ?_)
    simp (maxSteps := 2000000) only [SA, Nat.reduceDiv, Nat.reduceSub, Nat.reduceAdd, Int.reduceLT, Int.reduceLE, Int.reduceToNat, Nat.reduceMul, Nat.reduceEqDiff, reduceCtorEq, Nat.reduceBEq, Nat.reduceLeDiff, Nat.reduceLT, ai, al, tx]
    refine W_call (args := [tx false V w]) rfl (noRefs_1 (noRef_tx _ _ _)) hpr (noRef_t2 (noRef_al _ _) rfl) (W_run 160 ?_)
    simp (maxSteps := 2000000) only [SA, Nat.reduceDiv, Nat.reduceSub, Nat.reduceAdd, Int.reduceLT, Int.reduceLE, Int.reduceToNat, Nat.reduceMul, Nat.reduceEqDiff, reduceCtorEq, Nat.reduceBEq, Nat.reduceLeDiff, Nat.reduceLT, ai, al, tx]
    refine W_fresh (fuel := 20) (args := [.ag [ai V, .os 1005 1 (w.length + 1) 1 0 (w.length + 1)]]) (args' := [tx false V (w ++ [x])]) rfl (by rw [List.mapM_cons, reify_txo (l := w ++ [x]) hl2.symm (by rw [hmx]; rfl)]; rfl) hpr2 (noRef_t2 (noRef_al _ _) rfl) rfl (W_run 160 ?_)
    simp (maxSteps := 2000000) only [SA, Nat.reduceDiv, Nat.reduceSub, Nat.reduceAdd, Int.reduceLT, Int.reduceLE, Int.reduceToNat, Nat.reduceMul, Nat.reduceEqDiff, reduceCtorEq, Nat.reduceBEq, Nat.reduceLeDiff, Nat.reduceLT, ai, al, tx, e00, hnF, hnF2, g1, wF, g2, hpl1, hpl2, hee, wn, q3, htp, Go.Proofs.Eng.fullOf, Bool.false_and, List.length_map]
    refine W_call (args := [al false (pl D w.length), al false (pl D w.length)]) rfl (noRefs_2 (noRef_al _ _) (noRef_al _ _)) hsame rfl (W_run 160 ?_)
    simp (maxSteps := 2000000) only [SA, Nat.reduceDiv, Nat.reduceSub, Nat.reduceAdd, Int.reduceLT, Int.reduceLE, Int.reduceToNat, Nat.reduceMul, Nat.reduceEqDiff, reduceCtorEq, Nat.reduceBEq, Nat.reduceLeDiff, Nat.reduceLT, ai, ab, al, tx]
    refine W_call (args := []) rfl rfl hw rfl (W_run 160 ?_)
    simp (maxSteps := 2000000) only [SA, Nat.reduceDiv, Nat.reduceSub, Nat.reduceAdd, Int.reduceLT, Int.reduceLE, Int.reduceToNat, Nat.reduceMul, Nat.reduceEqDiff, reduceCtorEq, Nat.reduceBEq, Nat.reduceLeDiff, Nat.reduceLT, ai, ab, al, tx]
    exact W_ret1 (WX_nil ⟨.inl rfl, _, rfl, rfl⟩)
end Go.Proofs.Ytdmffkknghianaa

