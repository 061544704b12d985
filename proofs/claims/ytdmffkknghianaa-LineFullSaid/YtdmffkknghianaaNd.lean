/-
  LineFull.
-/
import Derived.Test.YtdmffkknghianaaGF
import Derived.Test.YtdmffkknghianaaMz
set_option linter.unusedSimpArgs false
set_option linter.unusedVariables false
namespace Go.Proofs.Ytdmffkknghianaa
open Go Go.Proofs.Eng
set_option maxRecDepth 100000
set_option maxHeartbeats 4000000
def hsF (V : Int) (w : List Int) (F : List Nat) (_ : Unit) : Heap := [(3, (1, some ⟨27, 2, [tx false V w]⟩)), (4, (1, some ⟨25, 1, [al false (nl F)]⟩)), (7, (1, some ⟨4, 1, [ab true]⟩))]
def cpL : List AV := [.o 7 1 1 0 0, .o 4 1 1 0 0]
theorem lf_loop (V : Int) (w : List Int) (F E : List Nat) (hn : E.length ≤ 10) (hd : ∀ v, v < F.length → E.getD v 0 ≤ F.getD v 0) (p r r' : Nat × Option Ob) (x1 : AV) (K : List Fr) (Q : Out → Cfg → Prop)
    (hK : ∀ j4 j5 j6 j7 j8 j9 j10 j11 j12 j13 j14 j15 j19 j20 j21 j22 j23 j24 j25 j26 j27 j28 j29 j30 j31 j32 j33 j34 j35 j36 j37 j38 : AV, W Try.prog (RelU Try.prog xf) 1000 K ⟨((al false (nl E)) :: x1 :: (.o 7 1 1 0 0) :: (.o 4 1 1 0 0) :: j4 :: j5 :: j6 :: j7 :: j8 :: j9 :: j10 :: j11 :: j12 :: j13 :: j14 :: j15 :: (al false (nl E)) :: (ai E.length) :: (ai E.length) :: j19 :: j20 :: j21 :: j22 :: j23 :: j24 :: j25 :: j26 :: j27 :: j28 :: j29 :: j30 :: j31 :: j32 :: j33 :: j34 :: j35 :: j36 :: j37 :: j38 :: []), hsF V w F () ++ [(1004, p), (1045, r), (1052, r')]⟩ Q) :
    ∀ (m k : Nat), k + m = E.length → ∀ j4 j5 j6 j7 j8 j9 j10 j11 j12 j13 j14 j15 j19 j20 j21 j22 j23 j24 j25 j26 j27 j28 j29 j30 j31 j32 j33 j34 j35 j36 j37 j38 : AV, W Try.prog (RelU Try.prog xf) 1000 (.code (.loop xf31_L0) :: .blk 0 :: .stop :: K) ⟨((al false (nl E)) :: x1 :: (.o 7 1 1 0 0) :: (.o 4 1 1 0 0) :: j4 :: j5 :: j6 :: j7 :: j8 :: j9 :: j10 :: j11 :: j12 :: j13 :: j14 :: j15 :: (al false (nl E)) :: (ai E.length) :: (ai k) :: j19 :: j20 :: j21 :: j22 :: j23 :: j24 :: j25 :: j26 :: j27 :: j28 :: j29 :: j30 :: j31 :: j32 :: j33 :: j34 :: j35 :: j36 :: j37 :: j38 :: []), hsF V w F () ++ [(1004, p), (1045, r), (1052, r')]⟩ Q := by
  have hnl := nl_len E
  have hnF := nl_len F
  intro m
  induction m with
  | zero =>
    intro k hk j4 j5 j6 j7 j8 j9 j10 j11 j12 j13 j14 j15 j19 j20 j21 j22 j23 j24 j25 j26 j27 j28 j29 j30 j31 j32 j33 j34 j35 j36 j37 j38
    have ek : k = E.length := by omega
    have h0 : decide (k < E.length) = false := decide_eq_false (by omega)
    refine W_loop (W_run 80 ?_)
    simp (maxSteps := 2000000) only [SA, Nat.reduceDiv, Nat.reduceSub, Nat.reduceAdd, Int.reduceLT, Int.reduceLE, Int.reduceToNat, Nat.reduceMul, Nat.reduceEqDiff, reduceCtorEq, Nat.reduceBEq, Nat.reduceLeDiff, Nat.reduceLT, xf31_L0, ai, ab, al, tx, hsF, lt_cast, h0, hnl, List.length_map]
    rw [ek]
    exact W_stop (hK _ _ _ _ _ _ _ _ _ _ _ _ _ _ _ _ _ _ _ _ _ _ _ _ _ _ _ _ _ _ _ _)
  | succ m ih =>
    intro k hk j4 j5 j6 j7 j8 j9 j10 j11 j12 j13 j14 j15 j19 j20 j21 j22 j23 j24 j25 j26 j27 j28 j29 j30 j31 j32 j33 j34 j35 j36 j37 j38
    have hk1 : k < E.length := by omega
    have h0 : decide (k < E.length) = true := decide_eq_true hk1
    have hgt := get_nl hk1
    have wi : IntKind.i64.wrap ((k : Int) + 1) = ((k + 1 : Nat) : Int) := by rw [wrap_id (by omega) (by omega)]; simp
    by_cases hc : F.length ≤ k
    · have d1 : decide ((F.length : Int) ≤ (k : Int)) = true := decide_eq_true (by omega)
      refine W_loop (W_run 120 ?_)
      simp (maxSteps := 2000000) only [SA, Nat.reduceDiv, Nat.reduceSub, Nat.reduceAdd, Int.reduceLT, Int.reduceLE, Int.reduceToNat, Nat.reduceMul, Nat.reduceEqDiff, reduceCtorEq, Nat.reduceBEq, Nat.reduceLeDiff, Nat.reduceLT, xf31_L0, ai, ab, al, tx, hsF, lt_cast, h0, hgt, hnl, hnF, d1, wi, List.length_map, Int.toNat_natCast]
      exact ih (k + 1) (by omega) _ _ _ _ _ _ _ _ _ _ _ _ _ _ _ _ _ _ _ _ _ _ _ _ _ _ _ _ _ _ _ _
    · have d1 : decide ((F.length : Int) ≤ (k : Int)) = false := decide_eq_false (by omega)
      have hgF := get_nl (E := F) (k := k) (by omega)
      have d2 : decide (((E.getD k 0 : Nat) : Int) ≤ ((F.getD k 0 : Nat) : Int)) = true := decide_eq_true (by have := hd k (by omega); omega)
      have kF : (k : Int) < F.length := by omega
      have knn : (0 : Int) ≤ k := by omega
      refine W_loop (W_run 120 ?_)
      simp (maxSteps := 2000000) only [SA, Nat.reduceDiv, Nat.reduceSub, Nat.reduceAdd, Int.reduceLT, Int.reduceLE, Int.reduceToNat, Nat.reduceMul, Nat.reduceEqDiff, reduceCtorEq, Nat.reduceBEq, Nat.reduceLeDiff, Nat.reduceLT, xf31_L0, ai, ab, al, tx, hsF, lt_cast, h0, hgt, hgF, hnl, hnF, d1, d2, wi, kF, knn, List.length_map, Int.toNat_natCast]
      exact ih (k + 1) (by omega) _ _ _ _ _ _ _ _ _ _ _ _ _ _ _ _ _ _ _ _ _ _ _ _ _ _ _ _ _ _ _ _
theorem lf1_run {V : Int} {w : List Int} (hg : gX V w) {F E : List Nat} (hF : Gd (pf w) V w.length 0 F) (hE : fE (pf w) V w.length E = 0) (p r r' : Nat × Option Ob) :
    RunsR Try.prog xf 1000 31 (al false (nl E) :: al false (lftL (pf w) V E) :: cpL) (hsF V w F () ++ [(1004, p), (1045, r), (1052, r')]) (.tup []) (hsF V w F () ++ [(1004, p), (1045, r), (1052, r')]) := by
  have hC := ch_fE.2 hE
  have n10 := hg.n10
  obtain ⟨d1, d2⟩ := dom hg.pos F E 0 0 hF hC (Nat.le_refl _)
  have hl := ch_len hC
  have hnl := nl_len E
  have hnF := nl_len F
  have dl : decide ((F.length : Int) ≤ (E.length : Int)) = true := decide_eq_true (by omega)
  generalize lftL (pf w) V E = Y at *
  refine RunsR.ofW (fn := xf31) (by kernel_rfl) (W_run 120 ?_)
  simp (maxSteps := 2000000) only [SA, Nat.reduceDiv, Nat.reduceSub, Nat.reduceAdd, Int.reduceLT, Int.reduceLE, Int.reduceToNat, Nat.reduceMul, Nat.reduceEqDiff, reduceCtorEq, Nat.reduceBEq, Nat.reduceLeDiff, Nat.reduceLT, xf31, ai, ab, al, hsF, cpL, hnl, hnF, dl, List.length_map]
  have hL := fun K Q hK => lf_loop V w F E (by omega) d2 p r r' (al false Y) K Q hK E.length 0 (by omega)
  simp only [hsF, al, ab, List.cons_append, List.nil_append] at hL
  refine W_alone (hL _ _ (fun j4 j5 j6 j7 j8 j9 j10 j11 j12 j13 j14 j15 j19 j20 j21 j22 j23 j24 j25 j26 j27 j28 j29 j30 j31 j32 j33 j34 j35 j36 j37 j38 => W_done ⟨.inr rfl, [], rfl, rfl, rfl⟩) _ _ _ _ _ _ _ _ _ _ _ _ _ _ _ _ _ _ _ _ _ _ _ _ _ _ _ _ _ _ _ _)
theorem hsF_look (V : Int) (w : List Int) (F : List Nat) (s : Unit) (T : List (Nat × Nat × Option Ob)) (j : Nat) (h : 1000 ≤ j) : Go.Proofs.Eng.look (hsF V w F s ++ T) j = Go.Proofs.Eng.look T j := by
  unfold hsF
  simp only [List.cons_append, List.nil_append, Go.Proofs.Eng.look]
  rw [if_neg (by omega), if_neg (by omega), if_neg (by omega)]
theorem hsF_put (V : Int) (w : List Int) (F : List Nat) (s : Unit) (T : List (Nat × Nat × Option Ob)) (j : Nat) (v : Nat × Option Ob) (h : 1000 ≤ j) : Go.Proofs.Eng.putAt (hsF V w F s ++ T) j v = hsF V w F s ++ Go.Proofs.Eng.putAt T j v := by
  unfold hsF
  simp only [List.cons_append, List.nil_append, Go.Proofs.Eng.putAt]
  rw [if_neg (by omega), if_neg (by omega), if_neg (by omega), if_neg (by omega), if_neg (by omega), if_neg (by omega)]
theorem visF {V : Int} {w : List Int} (hg : gX V w) {F : List Nat} (hF : Gd (pf w) V w.length 0 F) : Vis V w 31 cpL (hsF V w F) (fun s _ => s) (fun _ _ => True) where
  call := by kernel_rfl
  l1 := fun s T => hsF_look V w F s T 1004 (by omega)
  l2 := fun s T => hsF_look V w F s T 1045 (by omega)
  l3 := fun s T => hsF_look V w F s T 1052 (by omega)
  p2 := fun s T v => hsF_put V w F s T 1045 v (by omega)
  p3 := fun s T v => hsF_put V w F s T 1052 v (by omega)
  run := fun s E p r r' _ h2 => lf1_run hg hF h2 p r r'
  gm := fun _ _ _ _ _ => trivial
  gs := fun _ _ _ _ => trivial
theorem three7_look (a b c : Nat × Option Ob) (j : Nat) : Go.Proofs.Eng.look [(3, a), (4, b), (7, c)] j = Go.Proofs.Eng.look ([(3, a), (4, b), (7, c)] ++ [(1004, (0, none)), (1045, (0, none)), (1052, (0, none))]) j := by
  simp only [List.cons_append, List.nil_append, Go.Proofs.Eng.look]
  by_cases h2 : 3 = j
  · simp [h2]
  · by_cases h3 : 4 = j
    · simp [h2, h3]
    · by_cases h4 : 7 = j
      · simp [h2, h3, h4]
      · by_cases h5 : 1004 = j
        · subst h5; simp
        · by_cases h6 : 1045 = j
          · subst h6; simp
          · by_cases h7 : 1052 = j
            · subst h7; simp
            · simp [h2, h3, h4, h5, h6, h7]
theorem full_law {a b e : Int} {H : List Int} (ha : 0 ≤ a ∧ a ≤ 255) (hb : 0 ≤ b ∧ b ≤ 255) (he : 0 ≤ e ∧ e ≤ 255) (hH : H.length = 10) (bH : ∀ x, x ∈ H → 0 ≤ x ∧ x ≤ 255) (hw : Runs Try.prog xf 25 [] (ab true)) :
    Runs Try.prog xf 5 [gal a b e H] (ab true) := by
  obtain ⟨r, ⟨V, w, rfl, hg, hm⟩, hmade⟩ := gal_made (m := 9) (by omega) ha hb he hH bH
  obtain ⟨L, C, N, hA⟩ := Ahead.ex hg.pos
  obtain ⟨r, ⟨F, rfl, hF⟩, hfilled⟩ := filled_run hg false
  have n10 := hg.n10
  have hfull := full_run hg false hF
  have hfirst := first_run hg false hA
  obtain ⟨y1, y2, y3, y4⟩ := way_ok hA w.length 0 (by omega) (Nat.zero_le _)
  have hCw : Ch (pf w) V w.length 0 (way N w.length w.length 0) := (ch_iff _ _).2 ⟨y1, y2⟩
  have hdl := (dom hg.pos F _ 0 0 hF hCw (Nat.le_refl _)).1
  obtain ⟨q, q', hrun⟩ := each_run false hg (visF hg hF) () trivial (fun v T => hsF_put V w F () T 1004 v (by omega)) (fun j => three7_look _ _ _ j)
  have hFl := ch_len hF.ch
  have hs1 := same_run false false (nl F) (nl F) (by rw [nl_len]; omega)
  rw [decide_eq_true rfl] at hs1
  have hnF := nl_len F
  have hnW := nl_len (way N w.length w.length 0)
  have dl : decide ((F.length : Int) ≤ ((way N w.length w.length 0).length : Int)) = true := decide_eq_true (by omega)
  generalize fold (fun (s : Unit) (_ : List Nat) => s) [] () (alE (pf w) V w.length w.length 0) = u at hrun
  have eu : hsF V w F u = hsF V w F () := rfl
  unfold hpP at hrun
  rw [eu] at hrun
  have n00 : ((0 : Int) != 0) = false := rfl
  have e00 : ((0 : Int) == 0) = true := rfl
  have htk : (u8 a :: u8 b :: u8 e :: H.map u8).take 13 = u8 a :: u8 b :: u8 e :: H.map u8 := List.take_of_length_le (by simp [hH])
  have hgn := noRef_gal a b e H
  unfold gal at hmade hgn ⊢
  generalize hGG : u8 a :: u8 b :: u8 e :: H.map u8 = G at hmade hgn htk ⊢
  have hGlen : G.length = 13 := by rw [← hGG]; simp [hH]
  refine Runs.ofW (fn := xf5) 20 (by kernel_rfl) (W_run 160 ?_)
  simp (maxSteps := 2000000) only [SA, Nat.reduceDiv, Nat.reduceSub, Nat.reduceAdd, Int.reduceLT, Int.reduceLE, Int.reduceToNat, Nat.reduceMul, Nat.reduceEqDiff, reduceCtorEq, Nat.reduceBEq, Nat.reduceLeDiff, Nat.reduceLT, xf5, ai, hGlen, htk]
  refine W_call (args := [.ag G, ai 9]) rfl (noRefs_2 hgn rfl) hmade (noRef_tx _ _ _) (W_run 160 ?_)
  simp (maxSteps := 2000000) only [SA, Nat.reduceDiv, Nat.reduceSub, Nat.reduceAdd, Int.reduceLT, Int.reduceLE, Int.reduceToNat, Nat.reduceMul, Nat.reduceEqDiff, reduceCtorEq, Nat.reduceBEq, Nat.reduceLeDiff, Nat.reduceLT, ai, al, tx, List.map_cons, List.map_nil]
  refine W_call (args := [tx false V w]) rfl (noRefs_1 (noRef_tx _ _ _)) hfilled (noRef_al _ _) (W_run 160 ?_)
  simp (maxSteps := 2000000) only [SA, Nat.reduceDiv, Nat.reduceSub, Nat.reduceAdd, Int.reduceLT, Int.reduceLE, Int.reduceToNat, Nat.reduceMul, Nat.reduceEqDiff, reduceCtorEq, Nat.reduceBEq, Nat.reduceLeDiff, Nat.reduceLT, ai, al, tx, List.map_cons, List.map_nil]
  refine W_call (args := [tx false V w]) rfl (noRefs_1 (noRef_tx _ _ _)) hfull (noRef_t2 (noRef_al _ _) rfl) (W_run 160 ?_)
  simp (maxSteps := 2000000) only [SA, Nat.reduceDiv, Nat.reduceSub, Nat.reduceAdd, Int.reduceLT, Int.reduceLE, Int.reduceToNat, Nat.reduceMul, Nat.reduceEqDiff, reduceCtorEq, Nat.reduceBEq, Nat.reduceLeDiff, Nat.reduceLT, ai, al, tx, n00]
  refine W_call (args := [al false (nl F), al false (nl F)]) rfl (noRefs_2 (noRef_al _ _) (noRef_al _ _)) hs1 rfl (W_run 160 ?_)
  simp (maxSteps := 2000000) only [SA, Nat.reduceDiv, Nat.reduceSub, Nat.reduceAdd, Int.reduceLT, Int.reduceLE, Int.reduceToNat, Nat.reduceMul, Nat.reduceEqDiff, reduceCtorEq, Nat.reduceBEq, Nat.reduceLeDiff, Nat.reduceLT, ai, ab, al, tx, n00]
  refine W_callR (kb' := 1000) (args := [tx false V w, .fn 31 cpL]) rfl hrun rfl (W_run 160 ?_)
  simp (maxSteps := 2000000) only [SA, Nat.reduceDiv, Nat.reduceSub, Nat.reduceAdd, Int.reduceLT, Int.reduceLE, Int.reduceToNat, Nat.reduceMul, Nat.reduceEqDiff, reduceCtorEq, Nat.reduceBEq, Nat.reduceLeDiff, Nat.reduceLT, ai, ab, al, tx, hsF, List.cons_append, List.nil_append]
  refine W_call (args := [tx false V w]) rfl (noRefs_1 (noRef_tx _ _ _)) hfirst (noRef_t2 (noRef_al _ _) rfl) (W_run 160 ?_)
  simp (maxSteps := 2000000) only [SA, Nat.reduceDiv, Nat.reduceSub, Nat.reduceAdd, Int.reduceLT, Int.reduceLE, Int.reduceToNat, Nat.reduceMul, Nat.reduceEqDiff, reduceCtorEq, Nat.reduceBEq, Nat.reduceLeDiff, Nat.reduceLT, ai, ab, al, tx, e00, hnF, hnW, dl, List.length_map]
  refine W_call (args := []) rfl rfl hw rfl (W_run 160 ?_)
  simp (maxSteps := 2000000) only [SA, Nat.reduceDiv, Nat.reduceSub, Nat.reduceAdd, Int.reduceLT, Int.reduceLE, Int.reduceToNat, Nat.reduceMul, Nat.reduceEqDiff, reduceCtorEq, Nat.reduceBEq, Nat.reduceLeDiff, Nat.reduceLT, ai, ab, al, tx]
  exact W_ret1 (WX_nil ⟨.inl rfl, _, rfl, rfl⟩)
end Go.Proofs.Ytdmffkknghianaa

