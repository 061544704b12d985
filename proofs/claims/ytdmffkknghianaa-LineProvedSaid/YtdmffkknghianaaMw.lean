/-
  The law's best.
-/
import Derived.Test.YtdmffkknghianaaMv
set_option linter.unusedSimpArgs false
set_option linter.unusedVariables false
namespace Go.Proofs.Ytdmffkknghianaa
open Go Go.Proofs.Eng
set_option maxRecDepth 100000
set_option maxHeartbeats 4000000
def sqL (l : List Int) : Int := sumI (l.map fun x => x * x)
theorem sqL_snoc (l : List Int) (x : Int) : sqL (l ++ [x]) = sqL l + x * x := by unfold sqL; rw [List.map_append, List.map_cons, List.map_nil, sumI_snoc]
theorem sq_le {x : Int} (h : 0 ≤ x ∧ x ≤ 41) : 0 ≤ x * x ∧ x * x ≤ 1681 := ⟨Int.mul_nonneg h.1 h.1, by
  calc x * x ≤ 41 * 41 := Int.mul_le_mul h.2 h.2 h.1 (by omega)
    _ = 1681 := by decide⟩
theorem sqL_b {l : List Int} (h : ∀ x, x ∈ l → 0 ≤ x ∧ x ≤ 41) : 0 ≤ sqL l ∧ sqL l ≤ 1681 * l.length := by
  have := sumI_b (b := 1681) (by omega) (l := l.map fun x => x * x) fun x hx => by
    obtain ⟨z, hz, rfl⟩ := List.mem_map.1 hx
    exact sq_le (h z hz)
  rw [List.length_map] at this; exact this
theorem sqs_loop (f : Bool) (l : List Int) (hn : l.length ≤ 100) (hb : ∀ x, x ∈ l → 0 ≤ x ∧ x ≤ 41) (K : List Fr) (Q : Out → Cfg → Prop)
    (hK : ∀ j1 j4 j5 j9 j10 j11 j12 j13 j14 j15 j16 j17 j18 : AV, W Try.prog (RelU Try.prog xf) 0 K ⟨((al f l) :: j1 :: (ai 0) :: (ai (sqL l)) :: j4 :: j5 :: (al f l) :: (ai l.length) :: (ai l.length) :: j9 :: j10 :: j11 :: j12 :: j13 :: j14 :: j15 :: j16 :: j17 :: j18 :: []), []⟩ Q) :
    ∀ (m k : Nat), k + m = l.length → ∀ j1 j4 j5 j9 j10 j11 j12 j13 j14 j15 j16 j17 j18 : AV, W Try.prog (RelU Try.prog xf) 0 (.code (.loop xf46_L0) :: .blk 0 :: .stop :: K) ⟨((al f l) :: j1 :: (ai 0) :: (ai (sqL (l.take k))) :: j4 :: j5 :: (al f l) :: (ai l.length) :: (ai k) :: j9 :: j10 :: j11 :: j12 :: j13 :: j14 :: j15 :: j16 :: j17 :: j18 :: []), []⟩ Q := by
  intro m
  induction m with
  | zero =>
    intro k hk j1 j4 j5 j9 j10 j11 j12 j13 j14 j15 j16 j17 j18
    have ek : k = l.length := by omega
    have h0 : decide (k < l.length) = false := decide_eq_false (by omega)
    rw [show l.take k = l from List.take_of_length_le (by omega)]
    refine W_loop (W_run 80 ?_)
    simp (maxSteps := 2000000) only [SA, Nat.reduceDiv, Nat.reduceSub, Nat.reduceAdd, Int.reduceLT, Int.reduceLE, Int.reduceToNat, Nat.reduceMul, Nat.reduceEqDiff, reduceCtorEq, Nat.reduceBEq, Nat.reduceLeDiff, Nat.reduceLT, xf46_L0, ai, al, lt_cast, h0]
    rw [ek]
    exact W_stop (hK _ _ _ _ _ _ _ _ _ _ _ _ _)
  | succ m ih =>
    intro k hk j1 j4 j5 j9 j10 j11 j12 j13 j14 j15 j16 j17 j18
    have hk1 : k < l.length := by omega
    have h0 : decide (k < l.length) = true := decide_eq_true hk1
    have hgt : (l.map ai)[k]? = some (ai (l.getD k 0)) := by rw [List.getElem?_map, getD_at hk1]; rfl
    have hx := sq_le (hb _ (getD_in (d := 0) hk1))
    have hs := sqL_b (l := l.take k) fun x hx => hb x (List.mem_of_mem_take hx)
    have hl : (l.take k).length = k := by rw [List.length_take]; omega
    have next := ih (k + 1) (by omega)
    rw [take_snoc (d := 0) hk1, sqL_snoc] at next
    generalize l.getD k 0 = x at *
    generalize sqL (l.take k) = s at *
    have wi : IntKind.i64.wrap ((k : Int) + 1) = ((k + 1 : Nat) : Int) := by rw [wrap_id (by omega) (by omega)]; simp
    have wx : IntKind.i64.wrap (x * x) = x * x := wrap_id (by omega) (by omega)
    have ws : IntKind.i64.wrap (s + x * x) = s + x * x := wrap_id (by omega) (by omega)
    refine W_loop (W_run 80 ?_)
    simp (maxSteps := 2000000) only [SA, Nat.reduceDiv, Nat.reduceSub, Nat.reduceAdd, Int.reduceLT, Int.reduceLE, Int.reduceToNat, Nat.reduceMul, Nat.reduceEqDiff, reduceCtorEq, Nat.reduceBEq, Nat.reduceLeDiff, Nat.reduceLT, xf46_L0, ai, al, lt_cast, h0, hgt, wi, wx, ws, Int.toNat_natCast]
    exact next _ _ _ _ _ _ _ _ _ _ _ _ _
theorem sqs_run (f : Bool) {l : List Int} (hn : l.length ≤ 100) (hb : ∀ x, x ∈ l → 0 ≤ x ∧ x ≤ 41) : Runs Try.prog xf 46 [al f l] (ai (sqL l)) := by
  have hL := fun K Q hK => sqs_loop f l hn hb K Q hK l.length 0 (by omega)
  have e : sqL (l.take 0) = 0 := rfl
  rw [e] at hL
  refine Runs.ofW (fn := xf46) 20 (by kernel_rfl) (W_run 80 ?_)
  simp (maxSteps := 2000000) only [SA, Nat.reduceDiv, Nat.reduceSub, Nat.reduceAdd, Int.reduceLT, Int.reduceLE, Int.reduceToNat, Nat.reduceMul, Nat.reduceEqDiff, reduceCtorEq, Nat.reduceBEq, Nat.reduceLeDiff, Nat.reduceLT, xf46, ai, al]
  refine W_alone (hL _ _ (fun j1 j4 j5 j9 j10 j11 j12 j13 j14 j15 j16 j17 j18 => W_run 80 ?_) _ _ _ _ _ _ _ _ _ _ _ _ _)
  simp (maxSteps := 2000000) only [SA, Nat.reduceDiv, Nat.reduceSub, Nat.reduceAdd, Int.reduceLT, Int.reduceLE, Int.reduceToNat, Nat.reduceMul, Nat.reduceEqDiff, reduceCtorEq, Nat.reduceBEq, Nat.reduceLeDiff, Nat.reduceLT, xf46_R0, ai]
  generalize sqL l = z
  exact W_ret1 (WX_nil ⟨.inl rfl, _, rfl, rfl⟩)
theorem sqs_cs {q : Nat → Int} {V : Int} {n : Nat} : ∀ (E : List Nat) (b : Nat), eE n b E = 0 → sqL (((spE b E).map fun p => lf q V p.1 p.2).take (E.length - 1)) = csF q V n b E
  | [], b, h => rfl
  | [e], b, h => by
    rw [eE] at h
    split at h
    · omega
    · split at h
      · omega
      · rw [eE] at h
        split at h
        · rename_i hn
          unfold csF
          rw [spE, spE, List.map_cons, List.map_nil]
          simp [sqL, sumI, cst, hn]
        · omega
  | e :: e2 :: t, b, h => by
    rw [eE] at h
    split at h
    · omega
    · split at h
      · omega
      · have ih := sqs_cs (q := q) (V := V) (e2 :: t) e h
        have hen : e ≠ n := fun hh => by
          rw [eE] at h
          split at h
          · omega
          · split at h <;> omega
        rw [csF_cons, ← ih, spE, List.map_cons, List.length_cons, List.length_cons, Nat.add_sub_cancel, Nat.add_sub_cancel, List.take_succ_cons]
        unfold sqL
        rw [List.map_cons, sumI_cons]
        have : cst q V n b e = lf q V b e * lf q V b e := by unfold cst sq; rw [if_neg hen]
        rw [this]
def bv : Option (List Nat) → AV
  | none => nilA
  | some E => al false (nl E)
def hsB (s : Bs) : Heap := [(2, (1, some ⟨25, 1, [bv s.F]⟩)), (3, (1, some ⟨3, 1, [ai s.l]⟩)), (4, (1, some ⟨3, 1, [ai s.m]⟩))]
def cpB : List AV := [.o 4 1 1 0 0, .o 3 1 1 0 0, .o 2 1 1 0 0]
def upB (q : Nat → Int) (V : Int) (n : Nat) (s : Bs) (E : List Nat) : Bs := comb s (sg1 (csF q V n 0 E) E)
def gdB (s : Bs) (k : Nat) : Prop := s.m + k ≤ 1000000000000
theorem best1_run {V : Int} {w : List Int} (hg : gX V w) (s : Bs) (E : List Nat) (p r r' : Nat × Option Ob) (hgd : gdB s 1) (hE : fE (pf w) V w.length E = 0) :
    RunsR Try.prog xf 1000 45 (al false (nl E) :: al false (lftL (pf w) V E) :: cpB) (hsB s ++ [(1004, p), (1045, r), (1052, r')]) (.tup []) (hsB (upB (pf w) V w.length s E) ++ [(1004, p), (1045, r), (1052, r')]) := by
  obtain ⟨hE0, hfit⟩ := fE_ok hE
  have hok := spE_ok E 0 hE0
  have n10 := hg.n10
  have hlb : ∀ x, x ∈ lftL (pf w) V E → 0 ≤ x ∧ x ≤ 41 := fun x hx => by
    obtain ⟨z, hz, rfl⟩ := List.mem_map.1 hx
    have h1 := hok z hz
    have h2 := lf_b hg.pos h1.1 h1.2
    have h3 := fit_iff.1 (List.all_eq_true.1 hfit z hz)
    have := hg.W1
    omega
  have hEne : 1 ≤ E.length := by
    cases E with
    | nil => rw [eE] at hE0; have := hg.n1; split at hE0 <;> omega
    | cons a t => simp
  have hel : (lftL (pf w) V E).length = E.length := by unfold lftL; rw [List.length_map, spE_len]
  have hEl : E.length ≤ w.length := by
    have : ∀ (E : List Nat) (b : Nat), eE w.length b E = 0 → b ≤ w.length → E.length + b ≤ w.length := by
      intro E
      induction E with
      | nil => intro b h hb; simpa using hb
      | cons e t ih =>
        intro b h hb
        rw [eE] at h
        split at h
        · omega
        · split at h
          · omega
          · have := ih e h (by omega)
            rw [List.length_cons]; omega
    have := this E 0 hE0 (Nat.zero_le _)
    omega
  have hsq := sqs_run false (l := (lftL (pf w) V E).take (E.length - 1)) (by rw [List.length_take]; omega) fun x hx => hlb x (List.mem_of_mem_take hx)
  have hcs := sqs_cs (q := pf w) (V := V) E 0 hE0
  rw [show sqL ((lftL (pf w) V E).take (E.length - 1)) = csF (pf w) V w.length 0 E from hcs] at hsq
  have hnl := nl_len E
  unfold upB
  unfold gdB at hgd
  obtain ⟨F, l, m⟩ := s
  simp only at hgd
  generalize csF (pf w) V w.length 0 E = c at *
  have wl : IntKind.i64.wrap ((E.length : Int) - 1) = ((E.length - 1 : Nat) : Int) := by rw [wrap_id (by omega) (by omega)]; omega
  have wm : IntKind.i64.wrap ((m : Int) + 1) = ((m + 1 : Nat) : Int) := by rw [wrap_id (by omega) (by omega)]; simp
  have q1 : E.length - 1 ≤ E.length := by omega
  have htk : ((lftL (pf w) V E).map ai).take (E.length - 1) = ((lftL (pf w) V E).take (E.length - 1)).map ai := by rw [List.map_take]
  generalize lftL (pf w) V E = Y at *
  refine RunsR.ofW (fn := xf45) (by kernel_rfl) (W_run 120 ?_)
  simp (maxSteps := 2000000) only [SA, Nat.reduceDiv, Nat.reduceSub, Nat.reduceAdd, Int.reduceLT, Int.reduceLE, Int.reduceToNat, Nat.reduceMul, Nat.reduceEqDiff, reduceCtorEq, Nat.reduceBEq, Nat.reduceLeDiff, Nat.reduceLT, xf45, ai, al, hsB, cpB, hel, wl, q1, htk, Go.Proofs.Eng.fullOf, Bool.false_and]
  refine W_call (args := [al false (Y.take (E.length - 1))]) rfl (noRefs_1 (noRef_al _ _)) hsq rfl (W_run 120 ?_)
  unfold comb sg1
  simp only [Nat.succ_ne_zero, if_false]
  by_cases hm : m = 0
  · have d1 : ((m : Int) == 0) = true := by simp [hm]
    rw [if_pos hm]
    cases F with
    | none =>
      simp (maxSteps := 2000000) only [SA, Nat.reduceDiv, Nat.reduceSub, Nat.reduceAdd, Int.reduceLT, Int.reduceLE, Int.reduceToNat, Nat.reduceMul, Nat.reduceEqDiff, reduceCtorEq, Nat.reduceBEq, Nat.reduceLeDiff, Nat.reduceLT, ai, al, bv, nilA, hsB, d1]
      exact W_done ⟨.inr rfl, [], rfl, rfl, rfl⟩
    | some F =>
      simp (maxSteps := 2000000) only [SA, Nat.reduceDiv, Nat.reduceSub, Nat.reduceAdd, Int.reduceLT, Int.reduceLE, Int.reduceToNat, Nat.reduceMul, Nat.reduceEqDiff, reduceCtorEq, Nat.reduceBEq, Nat.reduceLeDiff, Nat.reduceLT, ai, al, bv, hsB, d1]
      exact W_done ⟨.inr rfl, [], rfl, rfl, rfl⟩
  · have d1 : ((m : Int) == 0) = false := by rw [beq_eq_false_iff_ne]; omega
    rw [if_neg hm]
    by_cases hc : c < l
    · have d2 : decide (c < l) = true := decide_eq_true hc
      rw [if_pos hc]
      cases F with
      | none =>
        simp (maxSteps := 2000000) only [SA, Nat.reduceDiv, Nat.reduceSub, Nat.reduceAdd, Int.reduceLT, Int.reduceLE, Int.reduceToNat, Nat.reduceMul, Nat.reduceEqDiff, reduceCtorEq, Nat.reduceBEq, Nat.reduceLeDiff, Nat.reduceLT, ai, al, bv, nilA, hsB, d1, d2]
        exact W_done ⟨.inr rfl, [], rfl, rfl, rfl⟩
      | some F =>
        simp (maxSteps := 2000000) only [SA, Nat.reduceDiv, Nat.reduceSub, Nat.reduceAdd, Int.reduceLT, Int.reduceLE, Int.reduceToNat, Nat.reduceMul, Nat.reduceEqDiff, reduceCtorEq, Nat.reduceBEq, Nat.reduceLeDiff, Nat.reduceLT, ai, al, bv, hsB, d1, d2]
        exact W_done ⟨.inr rfl, [], rfl, rfl, rfl⟩
    · have d2 : decide (c < l) = false := decide_eq_false hc
      rw [if_neg hc]
      by_cases he : c = l
      · have d3 : (c == l) = true := by simp [he]
        rw [if_pos he]
        simp (maxSteps := 2000000) only [SA, Nat.reduceDiv, Nat.reduceSub, Nat.reduceAdd, Int.reduceLT, Int.reduceLE, Int.reduceToNat, Nat.reduceMul, Nat.reduceEqDiff, reduceCtorEq, Nat.reduceBEq, Nat.reduceLeDiff, Nat.reduceLT, ai, al, hsB, d1, d2, d3, wm]
        exact W_done ⟨.inr rfl, [], rfl, rfl, rfl⟩
      · have d3 : (c == l) = false := by rw [beq_eq_false_iff_ne]; exact he
        rw [if_neg he]
        simp (maxSteps := 2000000) only [SA, Nat.reduceDiv, Nat.reduceSub, Nat.reduceAdd, Int.reduceLT, Int.reduceLE, Int.reduceToNat, Nat.reduceMul, Nat.reduceEqDiff, reduceCtorEq, Nat.reduceBEq, Nat.reduceLeDiff, Nat.reduceLT, ai, al, hsB, d1, d2, d3]
        exact W_done ⟨.inr rfl, [], rfl, rfl, rfl⟩
theorem hsB_look (s : Bs) (T : List (Nat × Nat × Option Ob)) (j : Nat) (h : 1000 ≤ j) : Go.Proofs.Eng.look (hsB s ++ T) j = Go.Proofs.Eng.look T j := by
  unfold hsB
  simp only [List.cons_append, List.nil_append, Go.Proofs.Eng.look]
  rw [if_neg (by omega), if_neg (by omega), if_neg (by omega)]
theorem hsB_put (s : Bs) (T : List (Nat × Nat × Option Ob)) (j : Nat) (v : Nat × Option Ob) (h : 1000 ≤ j) : Go.Proofs.Eng.putAt (hsB s ++ T) j v = hsB s ++ Go.Proofs.Eng.putAt T j v := by
  unfold hsB
  simp only [List.cons_append, List.nil_append, Go.Proofs.Eng.putAt]
  rw [if_neg (by omega), if_neg (by omega), if_neg (by omega), if_neg (by omega), if_neg (by omega), if_neg (by omega)]
theorem visB {V : Int} {w : List Int} (hg : gX V w) : Vis V w 45 cpB hsB (upB (pf w) V w.length) gdB where
  call := by kernel_rfl
  l1 := fun s T => hsB_look s T 1004 (by omega)
  l2 := fun s T => hsB_look s T 1045 (by omega)
  l3 := fun s T => hsB_look s T 1052 (by omega)
  p2 := fun s T v => hsB_put s T 1045 v (by omega)
  p3 := fun s T v => hsB_put s T 1052 v (by omega)
  run := fun s E p r r' h1 h2 => best1_run hg s E p r r' h1 h2
  gm := fun s j k h1 h2 => by unfold gdB at *; omega
  gs := fun s k E h => by
    unfold gdB upB at *
    have : (comb s (sg1 (csF (pf w) V w.length 0 E) E)).m ≤ s.m + 1 := by
      unfold comb sg1
      simp only [Nat.succ_ne_zero, if_false]
      split
      · simp only; omega
      · split
        · simp only; omega
        · split
          · simp only; omega
          · omega
    omega
theorem three_look (a b c : Nat × Option Ob) (j : Nat) : Go.Proofs.Eng.look [(2, a), (3, b), (4, c)] j = Go.Proofs.Eng.look ([(2, a), (3, b), (4, c)] ++ [(1004, (0, none)), (1045, (0, none)), (1052, (0, none))]) j := by
  simp only [List.cons_append, List.nil_append, Go.Proofs.Eng.look]
  by_cases h2 : 2 = j
  · simp [h2]
  · by_cases h3 : 3 = j
    · simp [h2, h3]
    · by_cases h4 : 4 = j
      · simp [h2, h3, h4]
      · by_cases h5 : 1004 = j
        · subst h5; simp
        · by_cases h6 : 1045 = j
          · subst h6; simp
          · by_cases h7 : 1052 = j
            · subst h7; simp
            · simp [h2, h3, h4, h5, h6, h7]
theorem best_run {V : Int} {w : List Int} (hg : gX V w) (f : Bool) {L C : Nat → Int} {N : Nat → Nat} (hA : Ahead (pf w) V w.length L C N) :
    Runs Try.prog xf 13 [tx f V w] (.tup [al false (nl (way N w.length w.length 0)), ai (L 0), ai (C 0)]) := by
  have n10 := hg.n10
  have hlen := alE_len (q := pf w) (V := V) (n := w.length) n10 w.length 0 (by omega)
  have h10 := p11_10 (k := w.length - 0) (by omega)
  obtain ⟨r, r', hrun⟩ := each_run f hg (visB hg) e0 (by unfold gdB e0; simp only; omega) (fun v T => hsB_put e0 T 1004 v (by omega)) (fun j => three_look _ _ _ j)
  have hF := FB_all hg.pos n10 hA w.length 0 (by omega) (Nat.zero_le _)
  have hfold : fold (upB (pf w) V w.length) [] e0 (alE (pf w) V w.length w.length 0) = FB (csF (pf w) V w.length 0) e0 (alE (pf w) V w.length w.length 0) := by
    unfold fold FB upB
    simp only [List.nil_append]
  rw [hfold, hF] at hrun
  have hC := hA.pos n10 w.length 0 (by omega) (Nat.zero_le _)
  have hCn : ((C 0).toNat : Int) = C 0 := by omega
  unfold hpP hsB at hrun
  simp only [hCn] at hrun
  refine Runs.ofW (fn := xf13) 20 (by kernel_rfl) (W_run 120 ?_)
  simp (maxSteps := 2000000) only [SA, Nat.reduceDiv, Nat.reduceSub, Nat.reduceAdd, Int.reduceLT, Int.reduceLE, Int.reduceToNat, Nat.reduceMul, Nat.reduceEqDiff, reduceCtorEq, Nat.reduceBEq, Nat.reduceLeDiff, Nat.reduceLT, xf13, ai, al, tx, List.map_cons, List.map_nil]
  refine W_callR (kb' := 1000) (args := [tx f V w, .fn 45 cpB]) rfl hrun rfl (W_run 120 ?_)
  simp (maxSteps := 2000000) only [SA, Nat.reduceDiv, Nat.reduceSub, Nat.reduceAdd, Int.reduceLT, Int.reduceLE, Int.reduceToNat, Nat.reduceMul, Nat.reduceEqDiff, reduceCtorEq, Nat.reduceBEq, Nat.reduceLeDiff, Nat.reduceLT, ai, al, bv, List.cons_append, List.nil_append]
  refine W_frF [.rk 2, .rk 3, .rk 4, .wk 2, .wk 3, .wk 4] (by kernel_rfl) (W_run 120 ?_)
  simp (maxSteps := 2000000) only [SA, Nat.reduceDiv, Nat.reduceSub, Nat.reduceAdd, Int.reduceLT, Int.reduceLE, Int.reduceToNat, Nat.reduceMul, Nat.reduceEqDiff, reduceCtorEq, Nat.reduceBEq, Nat.reduceLeDiff, Nat.reduceLT, ai, al]
  exact W_ret1 (WX_nil ⟨.inl rfl, _, rfl, by
    show ([al false (nl (way N w.length w.length 0)), ai (L 0), ai (C 0)].mapM (reify _ 19)).map AV.tup = _
    rw [List.mapM_cons, List.mapM_cons, List.mapM_cons, reify_al]; rfl⟩)
end Go.Proofs.Ytdmffkknghianaa

