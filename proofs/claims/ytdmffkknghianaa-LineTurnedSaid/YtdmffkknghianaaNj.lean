/-
  LineTurned.
-/
import Derived.Test.YtdmffkknghianaaGH
import Derived.Test.YtdmffkknghianaaNf
set_option linter.unusedSimpArgs false
set_option linter.unusedVariables false
namespace Go.Proofs.Ytdmffkknghianaa
open Go Go.Proofs.Eng
set_option maxRecDepth 100000
set_option maxHeartbeats 4000000
/-- the ends from the other end, in the order in which the law makes them -/
def otL (n : Nat) (E : List Nat) (i : Nat) : List Int := (n : Int) :: (E.take i).map fun e => (n : Int) - (e : Nat)
theorem otL_len {n : Nat} {E : List Nat} {i : Nat} (h : i ≤ E.length) : (otL n E i).length = i + 1 := by
  unfold otL; simp; omega
theorem eE_mem {n : Nat} : ∀ (E : List Nat) (b : Nat), eE n b E = 0 → ∀ x, x ∈ E → x ≤ n
  | [], _, _, x, hx => by simp at hx
  | e :: t, b, h, x, hx => by
    rw [eE] at h
    split at h
    · omega
    · split at h
      · omega
      · rcases List.mem_cons.1 hx with rfl | hx
        · omega
        · exact eE_mem t e h x hx
theorem otL_rev {n : Nat} {E : List Nat} (h : ∀ x, x ∈ E → x ≤ n) : (otL n E (E.length - 1)).reverse = nl (rvB n 0 E) := by
  unfold otL nl rvB
  rw [List.map_reverse, List.map_cons, List.map_map]
  congr 1
  rw [Nat.sub_zero]
  congr 1
  exact List.map_congr_left fun x hx => by
    have := h x (List.mem_of_mem_take hx)
    simp only [Function.comp]; omega
theorem trn_loop (q5 q7 q : Nat × Option Ob) (n : Nat) (hn : n ≤ 10) (E : List Nat) (hE : E.length ≤ 10) (hx : ∀ x, x ∈ E → x ≤ n) (m : Nat) (hm : m ≤ E.length) (x5 x7 x12 : AV) (K : List Fr) (Q : Out → Cfg → Prop)
    (hK : ∀ L : List Int, L = otL n E m → ∀ j0 j1 j2 j3 j4 j8 j9 j10 j11 j14 j15 j16 j17 j18 j19 j20 j21 j22 j23 j24 j25 j26 j27 j28 j29 j30 j31 j32 j33 j34 j35 j36 j37 j38 j39 j40 j41 j42 j43 j44 j45 j46 j47 j48 j49 j50 j51 j52 j53 j54 j55 j56 j57 j58 j59 j60 j61 j62 j63 j64 j68 j69 j70 j71 j72 j73 j74 j75 j76 j77 j78 j79 j80 j81 j82 j83 j84 j85 j86 j87 j88 j89 j90 j91 j92 j93 j94 j95 j96 j97 j98 j99 j100 j101 j102 j103 j104 j105 j106 j107 : AV, W Try.prog (RelU Try.prog xf) 0 K ⟨(j0 :: j1 :: j2 :: j3 :: j4 :: x5 :: (ai n) :: x7 :: j8 :: j9 :: j10 :: j11 :: x12 :: (.os 76 1 L.length 1 0 L.length) :: j14 :: j15 :: j16 :: j17 :: j18 :: j19 :: j20 :: j21 :: j22 :: j23 :: j24 :: j25 :: j26 :: j27 :: j28 :: j29 :: j30 :: j31 :: j32 :: j33 :: j34 :: j35 :: j36 :: j37 :: j38 :: j39 :: j40 :: j41 :: j42 :: j43 :: j44 :: j45 :: j46 :: j47 :: j48 :: j49 :: j50 :: j51 :: j52 :: j53 :: j54 :: j55 :: j56 :: j57 :: j58 :: j59 :: j60 :: j61 :: j62 :: j63 :: j64 :: (.sl 1 false (((nl E).map ai).take m)) :: (ai m) :: (ai m) :: j68 :: j69 :: j70 :: j71 :: j72 :: j73 :: j74 :: j75 :: j76 :: j77 :: j78 :: j79 :: j80 :: j81 :: j82 :: j83 :: j84 :: j85 :: j86 :: j87 :: j88 :: j89 :: j90 :: j91 :: j92 :: j93 :: j94 :: j95 :: j96 :: j97 :: j98 :: j99 :: j100 :: j101 :: j102 :: j103 :: j104 :: j105 :: j106 :: j107 :: []), [(5, q5), (7, q7), (76, (1, some ⟨3, 1, L.map ai⟩)), (1005, q)]⟩ Q) :
    ∀ (j i : Nat), i + j = m → ∀ L : List Int, L = otL n E i → ∀ j0 j1 j2 j3 j4 j8 j9 j10 j11 j14 j15 j16 j17 j18 j19 j20 j21 j22 j23 j24 j25 j26 j27 j28 j29 j30 j31 j32 j33 j34 j35 j36 j37 j38 j39 j40 j41 j42 j43 j44 j45 j46 j47 j48 j49 j50 j51 j52 j53 j54 j55 j56 j57 j58 j59 j60 j61 j62 j63 j64 j68 j69 j70 j71 j72 j73 j74 j75 j76 j77 j78 j79 j80 j81 j82 j83 j84 j85 j86 j87 j88 j89 j90 j91 j92 j93 j94 j95 j96 j97 j98 j99 j100 j101 j102 j103 j104 j105 j106 j107 : AV, W Try.prog (RelU Try.prog xf) 0 (.code (.loop xf8_L0) :: .blk 0 :: .stop :: K) ⟨(j0 :: j1 :: j2 :: j3 :: j4 :: x5 :: (ai n) :: x7 :: j8 :: j9 :: j10 :: j11 :: x12 :: (.os 76 1 L.length 1 0 L.length) :: j14 :: j15 :: j16 :: j17 :: j18 :: j19 :: j20 :: j21 :: j22 :: j23 :: j24 :: j25 :: j26 :: j27 :: j28 :: j29 :: j30 :: j31 :: j32 :: j33 :: j34 :: j35 :: j36 :: j37 :: j38 :: j39 :: j40 :: j41 :: j42 :: j43 :: j44 :: j45 :: j46 :: j47 :: j48 :: j49 :: j50 :: j51 :: j52 :: j53 :: j54 :: j55 :: j56 :: j57 :: j58 :: j59 :: j60 :: j61 :: j62 :: j63 :: j64 :: (.sl 1 false (((nl E).map ai).take m)) :: (ai m) :: (ai i) :: j68 :: j69 :: j70 :: j71 :: j72 :: j73 :: j74 :: j75 :: j76 :: j77 :: j78 :: j79 :: j80 :: j81 :: j82 :: j83 :: j84 :: j85 :: j86 :: j87 :: j88 :: j89 :: j90 :: j91 :: j92 :: j93 :: j94 :: j95 :: j96 :: j97 :: j98 :: j99 :: j100 :: j101 :: j102 :: j103 :: j104 :: j105 :: j106 :: j107 :: []), [(5, q5), (7, q7), (76, (1, some ⟨3, 1, L.map ai⟩)), (1005, q)]⟩ Q := by
  have hml : (((nl E).map ai).take m).length = m := by rw [List.length_take, List.length_map, nl_len]; omega
  intro j
  induction j with
  | zero =>
    intro i hi L hL j0 j1 j2 j3 j4 j8 j9 j10 j11 j14 j15 j16 j17 j18 j19 j20 j21 j22 j23 j24 j25 j26 j27 j28 j29 j30 j31 j32 j33 j34 j35 j36 j37 j38 j39 j40 j41 j42 j43 j44 j45 j46 j47 j48 j49 j50 j51 j52 j53 j54 j55 j56 j57 j58 j59 j60 j61 j62 j63 j64 j68 j69 j70 j71 j72 j73 j74 j75 j76 j77 j78 j79 j80 j81 j82 j83 j84 j85 j86 j87 j88 j89 j90 j91 j92 j93 j94 j95 j96 j97 j98 j99 j100 j101 j102 j103 j104 j105 j106 j107
    have ei : i = m := by omega
    subst ei
    have h0 : decide (i < i) = false := decide_eq_false (by omega)
    refine W_loop (W_run 80 ?_)
    simp (maxSteps := 2000000) only [SA, Nat.reduceDiv, Nat.reduceSub, Nat.reduceAdd, Int.reduceLT, Int.reduceLE, Int.reduceToNat, Nat.reduceMul, Nat.reduceEqDiff, reduceCtorEq, Nat.reduceBEq, Nat.reduceLeDiff, Nat.reduceLT, xf8_L0, ai, lt_cast, h0]
    exact W_stop (hK L hL _ _ _ _ _ _ _ _ _ _ _ _ _ _ _ _ _ _ _ _ _ _ _ _ _ _ _ _ _ _ _ _ _ _ _ _ _ _ _ _ _ _ _ _ _ _ _ _ _ _ _ _ _ _ _ _ _ _ _ _ _ _ _ _ _ _ _ _ _ _ _ _ _ _ _ _ _ _ _ _ _ _ _ _ _ _ _ _ _ _ _ _ _ _ _ _ _ _ _ _)
  | succ j ih =>
    intro i hi L hL j0 j1 j2 j3 j4 j8 j9 j10 j11 j14 j15 j16 j17 j18 j19 j20 j21 j22 j23 j24 j25 j26 j27 j28 j29 j30 j31 j32 j33 j34 j35 j36 j37 j38 j39 j40 j41 j42 j43 j44 j45 j46 j47 j48 j49 j50 j51 j52 j53 j54 j55 j56 j57 j58 j59 j60 j61 j62 j63 j64 j68 j69 j70 j71 j72 j73 j74 j75 j76 j77 j78 j79 j80 j81 j82 j83 j84 j85 j86 j87 j88 j89 j90 j91 j92 j93 j94 j95 j96 j97 j98 j99 j100 j101 j102 j103 j104 j105 j106 j107
    have him : i < m := by omega
    have h0 : decide (i < m) = true := decide_eq_true him
    have hi1 : i < E.length := by omega
    have hgt : (((nl E).map ai).take m)[i]? = some (ai (E.getD i 0 : Nat)) := by rw [List.getElem?_take, if_pos him, get_nl hi1]
    have wi : IntKind.i64.wrap ((i : Int) + 1) = ((i + 1 : Nat) : Int) := by rw [wrap_id (by omega) (by omega)]; simp
    have hex := hx _ (getD_in (d := 0) hi1)
    have next := ih (i + 1) (by omega) (L ++ [(n : Int) - (E.getD i 0 : Nat)]) (by rw [hL]; unfold otL; rw [take_snoc (d := 0) hi1, List.map_append]; rfl)
    have hLl : L.length = i + 1 := by rw [hL, otL_len (by omega)]
    generalize E.getD i 0 = x at *
    have we : IntKind.i64.wrap ((n : Int) - (x : Int)) = (n : Int) - (x : Int) := wrap_id (by omega) (by omega)
    have q1 : (L.length + 1) * 8 ≤ 100000000000000 := by omega
    have q2 : L.length + 1 ≤ 100000000000000 := by omega
    rw [List.length_append, List.map_append] at next
    refine W_loop (W_run 120 ?_)
    simp (maxSteps := 2000000) only [SA, Nat.reduceDiv, Nat.reduceSub, Nat.reduceAdd, Int.reduceLT, Int.reduceLE, Int.reduceToNat, Nat.reduceMul, Nat.reduceEqDiff, reduceCtorEq, Nat.reduceBEq, Nat.reduceLeDiff, Nat.reduceLT, xf8_L0, ai, lt_cast, h0, hgt, wi, we, hml, q1, q2, Go.Proofs.Eng.elems, Go.Proofs.Eng.putAt, List.map_cons, List.map_nil]
    exact next _ _ _ _ _ _ _ _ _ _ _ _ _ _ _ _ _ _ _ _ _ _ _ _ _ _ _ _ _ _ _ _ _ _ _ _ _ _ _ _ _ _ _ _ _ _ _ _ _ _ _ _ _ _ _ _ _ _ _ _ _ _ _ _ _ _ _ _ _ _ _ _ _ _ _ _ _ _ _ _ _ _ _ _ _ _ _ _ _ _ _ _ _ _ _ _ _ _ _ _
theorem rev1_run (f : Bool) (x : Int) : Runs Try.prog xf 39 [al f [x]] (.tup []) := by
  have h0 : decide ((0 : Int) < 0) = false := rfl
  have w1 : IntKind.i64.wrap ((1 : Int) - 1) = 0 := rfl
  refine Runs.ofW (fn := xf39) 20 (by kernel_rfl) (W_run 80 ?_)
  simp (maxSteps := 2000000) only [SA, Nat.reduceDiv, Nat.reduceSub, Nat.reduceAdd, Int.reduceLT, Int.reduceLE, Int.reduceToNat, Nat.reduceMul, Nat.reduceEqDiff, reduceCtorEq, Nat.reduceBEq, Nat.reduceLeDiff, Nat.reduceLT, xf39, ai, al, w1, List.map_cons, List.map_nil]
  refine W_loop (W_run 80 ?_)
  simp (maxSteps := 2000000) only [SA, Nat.reduceDiv, Nat.reduceSub, Nat.reduceAdd, Int.reduceLT, Int.reduceLE, Int.reduceToNat, Nat.reduceMul, Nat.reduceEqDiff, reduceCtorEq, Nat.reduceBEq, Nat.reduceLeDiff, Nat.reduceLT, xf39_L0, ai, al, h0]
  exact WX_nil ⟨.inr rfl, [], rfl, rfl⟩
theorem named76 {q5 q7 r : Nat × Option Ob} (j : Nat) : Go.Proofs.Eng.look [(5, q5), (7, q7), (1005, r)] j = Go.Proofs.Eng.look [(5, q5), (7, q7), (76, (0, (none : Option Ob))), (1005, r)] j := by
  simp only [Go.Proofs.Eng.look]
  by_cases h : 76 = j
  · subst h; simp
  · simp [h]
theorem reify_xy {η : Heap} {X L : List Int} {e n : Nat} (hn : n = L.length) (hk : Go.Proofs.Eng.look η 2020 = (1, some ⟨e, 1, L.map ai⟩)) : [al false X, .os 2020 1 n 1 0 n].mapM (reify η 20) = some [al false X, al false L] := by
  subst hn
  have h : reify η 20 (.os 2020 1 L.length 1 0 L.length) = some (al false L) := reify_os (elem_ai η 18) hk
  rw [List.mapM_cons, reify_al, List.mapM_cons, h]; rfl
theorem turned_law {a b e : Int} {H S : List Int} (ha : 0 ≤ a ∧ a ≤ 255) (hb : 0 ≤ b ∧ b ≤ 255) (he : 0 ≤ e ∧ e ≤ 255) (hH : H.length = 10) (bH : ∀ x, x ∈ H → 0 ≤ x ∧ x ≤ 255) (hS : S.length = 10) (hw : Runs Try.prog xf 25 [] (ab true)) :
    Runs Try.prog xf 8 [gal a b e H, stp S] (ab true) := by
  obtain ⟨r, ⟨V, w, rfl, hg, hm⟩, hmade⟩ := gal_made (m := 10) (by omega) ha hb he hH bH
  have n1 := hg.n1
  have n10 := hg.n10
  have hV := hg.W1
  have hg2 := hg.rev
  have hl2 : w.reverse.length = w.length := List.length_reverse
  obtain ⟨F, hF⟩ := gd_ex hg.pos w.length 0 (by omega) (Nat.zero_le _)
  obtain ⟨F2, hF2⟩ := gd_ex hg2.pos w.reverse.length 0 (by omega) (Nat.zero_le _)
  have hfull := full_run hg false hF
  have hfull2 := full_N hg2 false hF2
  have hd := rv_full hg hF hF2
  obtain ⟨r, ⟨E, rfl, hE, hEl⟩, hbr⟩ := broken_run hg false hS
  have hcln := cloneI_run false w (by omega)
  have hnF := nl_len F
  have hnF2 := nl_len F2
  have hnE := nl_len E
  have n00 : ((0 : Int) != 0) = false := rfl
  have e00 : ((0 : Int) == 0) = true := rfl
  have htk : (u8 a :: u8 b :: u8 e :: H.map u8).take 13 = u8 a :: u8 b :: u8 e :: H.map u8 := List.take_of_length_le (by simp [hH])
  have hgn := noRef_gal a b e H
  have hsn := noRef_stp S
  have hst : (S.map u8).take 10 = S.map u8 := List.take_of_length_le (by simp [hS])
  have hsl : (S.map u8).length = 10 := by simp [hS]
  have g1 : ((F.length : Int) != (F2.length : Int)) = false := by rw [hd]; simp
  unfold gal at hmade hgn ⊢
  generalize hGG : u8 a :: u8 b :: u8 e :: H.map u8 = G at hmade hgn htk ⊢
  have hGlen : G.length = 13 := by rw [← hGG]; simp [hH]
  unfold stp at hbr hsn ⊢
  generalize hSS : S.map u8 = SS at hbr hsn hst hsl ⊢
  refine Runs.ofW (fn := xf8) 20 (by kernel_rfl) (W_run 160 ?_)
  simp (maxSteps := 2000000) only [SA, Nat.reduceDiv, Nat.reduceSub, Nat.reduceAdd, Int.reduceLT, Int.reduceLE, Int.reduceToNat, Nat.reduceMul, Nat.reduceEqDiff, reduceCtorEq, Nat.reduceBEq, Nat.reduceLeDiff, Nat.reduceLT, xf8, ai, u8, hGlen, htk, hsl, hst]
  refine W_call (args := [.ag G, ai 10]) rfl (noRefs_2 hgn rfl) hmade (noRef_tx _ _ _) (W_run 10 ?_)
  simp (maxSteps := 2000000) only [SA, Nat.reduceDiv, Nat.reduceSub, Nat.reduceAdd, Int.reduceLT, Int.reduceLE, Int.reduceToNat, Nat.reduceMul, Nat.reduceEqDiff, reduceCtorEq, Nat.reduceBEq, Nat.reduceLeDiff, Nat.reduceLT, ai, al, tx, List.map_cons, List.map_nil, hsl, hst]
  refine W_frF [.none, .rk 5, .none, .rk 5, .wk 1005, .none, .wk 7, .wk 7] (by kernel_rfl) (W_run 160 ?_)
  simp (maxSteps := 2000000) only [SA, Nat.reduceDiv, Nat.reduceSub, Nat.reduceAdd, Int.reduceLT, Int.reduceLE, Int.reduceToNat, Nat.reduceMul, Nat.reduceEqDiff, reduceCtorEq, Nat.reduceBEq, Nat.reduceLeDiff, Nat.reduceLT, ai, al, tx, u8, List.map_cons, List.map_nil]
  refine W_callU (k0 := 1005) (args := [al false w]) rfl (fun η hη => (hcln η (hη.trans rfl)).pureR orders_mx xf_ok) rfl (W_run 160 ?_)
  simp (maxSteps := 2000000) only [SA, Nat.reduceDiv, Nat.reduceSub, Nat.reduceAdd, Int.reduceLT, Int.reduceLE, Int.reduceToNat, Nat.reduceMul, Nat.reduceEqDiff, reduceCtorEq, Nat.reduceBEq, Nat.reduceLeDiff, Nat.reduceLT, ai, al, tx, u8, Option.elim, Go.Proofs.Eng.putAt, Go.Proofs.Eng.elems, Go.Proofs.Eng.fillA, List.map_cons, List.map_nil, List.length_map]
  refine W_callR (kb' := 2000) (args := [.os 1005 1 w.length 1 0 w.length]) rfl (rev_run 2000 1005 1 3 w n1 (by omega) _ rfl) rfl (W_run 160 ?_)
  simp (maxSteps := 2000000) only [SA, Nat.reduceDiv, Nat.reduceSub, Nat.reduceAdd, Int.reduceLT, Int.reduceLE, Int.reduceToNat, Nat.reduceMul, Nat.reduceEqDiff, reduceCtorEq, Nat.reduceBEq, Nat.reduceLeDiff, Nat.reduceLT, ai, al, tx, rI, Go.Proofs.Eng.putAt]
  refine W_call (args := [tx false V w]) rfl (noRefs_1 (noRef_tx _ _ _)) hfull (noRef_t2 (noRef_al _ _) rfl) (W_run 160 ?_)
  simp (maxSteps := 2000000) only [SA, Nat.reduceDiv, Nat.reduceSub, Nat.reduceAdd, Int.reduceLT, Int.reduceLE, Int.reduceToNat, Nat.reduceMul, Nat.reduceEqDiff, reduceCtorEq, Nat.reduceBEq, Nat.reduceLeDiff, Nat.reduceLT, ai, al, tx]
  refine W_fresh (fuel := 20) (args := [.ag [ai V, .os 1005 1 w.length 1 0 w.length]]) (args' := [tx false V w.reverse]) rfl (by rw [List.mapM_cons, reify_txo (l := w.reverse) hl2.symm rfl]; rfl) hfull2 (noRef_t2 (noRef_al _ _) rfl) rfl (W_run 160 ?_)
  simp (maxSteps := 2000000) only [SA, Nat.reduceDiv, Nat.reduceSub, Nat.reduceAdd, Int.reduceLT, Int.reduceLE, Int.reduceToNat, Nat.reduceMul, Nat.reduceEqDiff, reduceCtorEq, Nat.reduceBEq, Nat.reduceLeDiff, Nat.reduceLT, ai, al, tx, n00, hnF, hnF2, g1, hsl, hst]
  refine W_call (args := [tx false V w, .ag SS]) rfl (noRefs_2 (noRef_tx _ _ _) hsn) hbr (noRef_al _ _) (W_run 160 ?_)
  simp (maxSteps := 2000000) only [SA, Nat.reduceDiv, Nat.reduceSub, Nat.reduceAdd, Int.reduceLT, Int.reduceLE, Int.reduceToNat, Nat.reduceMul, Nat.reduceEqDiff, reduceCtorEq, Nat.reduceBEq, Nat.reduceLeDiff, Nat.reduceLT, ai, al, tx, Go.Proofs.Eng.fillA, Go.Proofs.Eng.elems, List.map_cons, List.map_nil]
  refine W_call (args := [al true [(w.length : Int)]]) rfl (noRefs_1 (noRef_al _ _)) (list_run _ _) (noRef_al _ _) (W_run 160 ?_)
  have hm1 : E ≠ [] := by
    intro h; subst h
    have h := fE_ok' hE
    rw [eE] at h; split at h <;> omega
  have hE1 : 1 ≤ E.length := List.length_pos_iff.2 hm1
  have hmem := eE_mem E 0 (fE_ok' hE)
  have wm : IntKind.i64.wrap ((E.length : Int) - 1) = ((E.length - 1 : Nat) : Int) := by rw [wrap_id (by omega) (by omega)]; omega
  have qm : E.length - 1 ≤ E.length := by omega
  have hml : (((nl E).map ai).take (E.length - 1)).length = E.length - 1 := by rw [List.length_take, List.length_map, hnE]; omega
  have hOr := otL_rev hmem
  have hch := ch_fE.2 hE
  have hch2 := (rv_ok E 0 hm1 hch).1
  rw [Nat.sub_zero, ← hl2] at hch2
  have hOk : fE (pf w.reverse) V w.reverse.length (rvB w.length 0 E) = 0 := by rw [hl2] at hch2 ⊢; exact ch_fE.1 hch2
  have hOl := rv_len w.length 0 E hm1
  have hlr := rv_lft hch hm1
  have hXl : (lftL (pf w) V E).length = E.length := by unfold lftL; rw [List.length_map, spE_len]
  have hleft1 := left2_run hg false false (E := E) (by omega)
  unfold leftR at hleft1
  rw [if_pos hE] at hleft1
  have hleft2 := fun q5 q7 g0 g => left_R hg2 q5 q7 g0 g (E := rvB w.length 0 E) (by omega) hOk rfl
  unfold XX at hleft2
  rw [hl2] at hleft2
  generalize hYY : lftL (pf w.reverse) V (rvB w.length 0 E) = Y at *
  have hYr : Y.reverse = lftL (pf w) V E := by rw [hlr, List.reverse_reverse]
  have hYl : Y.length = (lftL (pf w) V E).length := by rw [hlr, List.length_reverse]
  have hY1 : 1 ≤ Y.length := by omega
  have hsame := same_run false false (lftL (pf w) V E) (lftL (pf w) V E) (by omega)
  rw [decide_eq_true rfl] at hsame
  have z00 : decide ((0 : Int) < 0) = false := rfl
  by_cases hm0 : E.length - 1 = 0
  · have hO : nl (rvB w.length 0 E) = [(w.length : Int)] := by rw [← hOr, hm0]; rfl
    simp (maxSteps := 2000000) only [SA, Nat.reduceDiv, Nat.reduceSub, Nat.reduceAdd, Int.reduceLT, Int.reduceLE, Int.reduceToNat, Nat.reduceMul, Nat.reduceEqDiff, reduceCtorEq, Nat.reduceBEq, Nat.reduceLeDiff, Nat.reduceLT, ai, al, hnE, wm, qm, List.map_cons, List.map_nil, hml, hm0]
    refine W_named named76 (W_loop (W_run 160 ?_))
    simp (maxSteps := 2000000) only [SA, Nat.reduceDiv, Nat.reduceSub, Nat.reduceAdd, Int.reduceLT, Int.reduceLE, Int.reduceToNat, Nat.reduceMul, Nat.reduceEqDiff, reduceCtorEq, Nat.reduceBEq, Nat.reduceLeDiff, Nat.reduceLT, xf8_L0, xf8_R0, ai, al, z00]
    refine W_call (args := [al true [(w.length : Int)]]) rfl (noRefs_1 (noRef_al _ _)) (rev1_run _ _) rfl (W_run 160 ?_)
    simp (maxSteps := 2000000) only [SA, Nat.reduceDiv, Nat.reduceSub, Nat.reduceAdd, Int.reduceLT, Int.reduceLE, Int.reduceToNat, Nat.reduceMul, Nat.reduceEqDiff, reduceCtorEq, Nat.reduceBEq, Nat.reduceLeDiff, Nat.reduceLT, ai, al, tx]
    refine W_call (args := [tx false V w, al false (nl E)]) rfl (noRefs_2 (noRef_tx _ _ _) (noRef_al _ _)) hleft1 (noRef_t2 (noRef_al _ _) rfl) (W_run 160 ?_)
    simp (maxSteps := 2000000) only [SA, Nat.reduceDiv, Nat.reduceSub, Nat.reduceAdd, Int.reduceLT, Int.reduceLE, Int.reduceToNat, Nat.reduceMul, Nat.reduceEqDiff, reduceCtorEq, Nat.reduceBEq, Nat.reduceLeDiff, Nat.reduceLT, ai, al, tx]
    obtain ⟨η', ⟨r10, rfl⟩, hl⟩ := hleft2 (1, some ⟨27, 2, [tx false V w]⟩) (1, some ⟨27, 2, [.ag [ai V, .os 1005 1 w.length 1 0 w.length]]⟩) 0 true
    rw [hO] at hl
    refine W_callR (kb' := 2000) (args := [.ag [ai V, .os 1005 1 w.length 1 0 w.length], al true [(w.length : Int)]]) rfl hl rfl (W_run 160 ?_)
    simp (maxSteps := 2000000) only [SA, Nat.reduceDiv, Nat.reduceSub, Nat.reduceAdd, Int.reduceLT, Int.reduceLE, Int.reduceToNat, Nat.reduceMul, Nat.reduceEqDiff, reduceCtorEq, Nat.reduceBEq, Nat.reduceLeDiff, Nat.reduceLT, ai, al, tx, HX]
    refine W_callR (kb' := 3000) (args := [.os 2020 1 Y.length 1 0 Y.length]) rfl (rev_run 3000 2020 1 3 Y hY1 (by omega) _ rfl) rfl (W_run 160 ?_)
    simp (maxSteps := 2000000) only [SA, Nat.reduceDiv, Nat.reduceSub, Nat.reduceAdd, Int.reduceLT, Int.reduceLE, Int.reduceToNat, Nat.reduceMul, Nat.reduceEqDiff, reduceCtorEq, Nat.reduceBEq, Nat.reduceLeDiff, Nat.reduceLT, ai, al, tx, rI, e00, Go.Proofs.Eng.putAt, Bool.true_and]
    refine W_look (fuel := 20) (args := [al false (lftL (pf w) V E), .os 2020 1 Y.length 1 0 Y.length]) (args' := [al false (lftL (pf w) V E), al false (lftL (pf w) V E)]) rfl (reify_xy hYl (by rw [hYr]; rfl)) hsame rfl rfl (W_run 160 ?_)
    simp (maxSteps := 2000000) only [SA, Nat.reduceDiv, Nat.reduceSub, Nat.reduceAdd, Int.reduceLT, Int.reduceLE, Int.reduceToNat, Nat.reduceMul, Nat.reduceEqDiff, reduceCtorEq, Nat.reduceBEq, Nat.reduceLeDiff, Nat.reduceLT, ai, ab, al, tx]
    refine W_call (args := []) rfl rfl hw rfl (W_run 160 ?_)
    simp (maxSteps := 2000000) only [SA, Nat.reduceDiv, Nat.reduceSub, Nat.reduceAdd, Int.reduceLT, Int.reduceLE, Int.reduceToNat, Nat.reduceMul, Nat.reduceEqDiff, reduceCtorEq, Nat.reduceBEq, Nat.reduceLeDiff, Nat.reduceLT, ai, ab, al, tx]
    exact W_ret1 (WX_nil ⟨.inl rfl, _, rfl, rfl⟩)
  · have hm2 : 0 < E.length - 1 := by omega
    have h0 : decide ((0 : Int) < ((E.length - 1 : Nat) : Int)) = true := decide_eq_true (by omega)
    have hgt : (((nl E).map ai).take (E.length - 1))[0]? = some (ai (E.getD 0 0 : Nat)) := by rw [List.getElem?_take, if_pos hm2, get_nl (by omega)]
    have hex := hmem _ (getD_in (d := 0) (i := 0) (l := E) (by omega))
    have we : IntKind.i64.wrap ((w.length : Int) - (E.getD 0 0 : Nat)) = (w.length : Int) - (E.getD 0 0 : Nat) := wrap_id (by omega) (by omega)
    have hot : [(w.length : Int), (w.length : Int) - (E.getD 0 0 : Nat)] = otL w.length E 1 := by
      unfold otL
      rw [show (1 : Nat) = 0 + 1 from rfl, take_snoc (d := 0) (by omega)]; rfl
    simp (maxSteps := 2000000) only [SA, Nat.reduceDiv, Nat.reduceSub, Nat.reduceAdd, Int.reduceLT, Int.reduceLE, Int.reduceToNat, Nat.reduceMul, Nat.reduceEqDiff, reduceCtorEq, Nat.reduceBEq, Nat.reduceLeDiff, Nat.reduceLT, ai, al, hnE, wm, qm, List.map_cons, List.map_nil, hml]
    generalize E.getD 0 0 = x0 at *
    have hne1 : ([AV.v (.int .i64 ((w.length : Int) - (x0 : Nat)))] ≠ ([] : List AV)) = True := by simp
    refine W_loop (W_run 120 ?_)
    simp (maxSteps := 2000000) only [SA, Nat.reduceDiv, Nat.reduceSub, Nat.reduceAdd, Int.reduceLT, Int.reduceLE, Int.reduceToNat, Nat.reduceMul, Nat.reduceEqDiff, reduceCtorEq, Nat.reduceBEq, Nat.reduceLeDiff, Nat.reduceLT, xf8_L0, ai, al, h0, hgt, we, hml, hne1, if_true, Go.Proofs.Eng.elems, Go.Proofs.Eng.putAt, List.map_cons, List.map_nil, List.cons_append, List.nil_append]
    refine W_alone (trn_loop _ _ _ w.length n10 E (by omega) hmem (E.length - 1) (by omega) _ _ _ _ _ (fun L hL j0 j1 j2 j3 j4 j8 j9 j10 j11 j14 j15 j16 j17 j18 j19 j20 j21 j22 j23 j24 j25 j26 j27 j28 j29 j30 j31 j32 j33 j34 j35 j36 j37 j38 j39 j40 j41 j42 j43 j44 j45 j46 j47 j48 j49 j50 j51 j52 j53 j54 j55 j56 j57 j58 j59 j60 j61 j62 j63 j64 j68 j69 j70 j71 j72 j73 j74 j75 j76 j77 j78 j79 j80 j81 j82 j83 j84 j85 j86 j87 j88 j89 j90 j91 j92 j93 j94 j95 j96 j97 j98 j99 j100 j101 j102 j103 j104 j105 j106 j107 => W_run 160 ?_) (E.length - 1 - 1) 1 (by omega) [(w.length : Int), (w.length : Int) - (x0 : Nat)] hot _ _ _ _ _ _ _ _ _ _ _ _ _ _ _ _ _ _ _ _ _ _ _ _ _ _ _ _ _ _ _ _ _ _ _ _ _ _ _ _ _ _ _ _ _ _ _ _ _ _ _ _ _ _ _ _ _ _ _ _ _ _ _ _ _ _ _ _ _ _ _ _ _ _ _ _ _ _ _ _ _ _ _ _ _ _ _ _ _ _ _ _ _ _ _ _ _ _ _ _)
    have hLl : L.length = E.length - 1 + 1 := by rw [hL, otL_len (by omega)]
    have hLr : L.reverse = nl (rvB w.length 0 E) := by rw [hL]; exact hOr
    simp (maxSteps := 2000000) only [SA, Nat.reduceDiv, Nat.reduceSub, Nat.reduceAdd, Int.reduceLT, Int.reduceLE, Int.reduceToNat, Nat.reduceMul, Nat.reduceEqDiff, reduceCtorEq, Nat.reduceBEq, Nat.reduceLeDiff, Nat.reduceLT, xf8_R0, ai]
    refine W_callR (kb' := 2000) (args := [.os 76 1 L.length 1 0 L.length]) rfl (rev_run 2000 76 1 3 L (by omega) (by omega) _ rfl) rfl (W_run 160 ?_)
    simp (maxSteps := 2000000) only [SA, Nat.reduceDiv, Nat.reduceSub, Nat.reduceAdd, Int.reduceLT, Int.reduceLE, Int.reduceToNat, Nat.reduceMul, Nat.reduceEqDiff, reduceCtorEq, Nat.reduceBEq, Nat.reduceLeDiff, Nat.reduceLT, ai, al, tx, rI, Go.Proofs.Eng.putAt]
    rw [hLr]
    refine W_give (t := 13) (giveT_row (k := 76) (g := 1) (e := 3) (s := 1) (xs := (nl (rvB w.length 0 E)).map ai) (n := L.length) rfl rfl (by rw [List.length_map, ← hLr, List.length_reverse])) ?_
    simp (maxSteps := 2000000) only [SA, Nat.reduceDiv, Nat.reduceSub, Nat.reduceAdd, Int.reduceLT, Int.reduceLE, Int.reduceToNat, Nat.reduceMul, Nat.reduceEqDiff, reduceCtorEq, Nat.reduceBEq, Nat.reduceLeDiff, Nat.reduceLT, ai, al, tx, toData_os, toData_v, toData_ptr, toData_o, toData_sl, toData_ag, Go.Proofs.Eng.putAt, List.map_cons, List.map_nil]
    refine W_call (args := [tx false V w, al false (nl E)]) rfl (noRefs_2 (noRef_tx _ _ _) (noRef_al _ _)) hleft1 (noRef_t2 (noRef_al _ _) rfl) (W_run 160 ?_)
    simp (maxSteps := 2000000) only [SA, Nat.reduceDiv, Nat.reduceSub, Nat.reduceAdd, Int.reduceLT, Int.reduceLE, Int.reduceToNat, Nat.reduceMul, Nat.reduceEqDiff, reduceCtorEq, Nat.reduceBEq, Nat.reduceLeDiff, Nat.reduceLT, ai, al, tx]
    obtain ⟨η', ⟨r10, rfl⟩, hl⟩ := hleft2 (1, some ⟨27, 2, [tx false V w]⟩) (1, some ⟨27, 2, [.ag [ai V, .os 1005 1 w.length 1 0 w.length]]⟩) 1 false
    refine W_callR (kb' := 2000) (args := [.ag [ai V, .os 1005 1 w.length 1 0 w.length], al false (nl (rvB w.length 0 E))]) rfl hl rfl (W_run 160 ?_)
    simp (maxSteps := 2000000) only [SA, Nat.reduceDiv, Nat.reduceSub, Nat.reduceAdd, Int.reduceLT, Int.reduceLE, Int.reduceToNat, Nat.reduceMul, Nat.reduceEqDiff, reduceCtorEq, Nat.reduceBEq, Nat.reduceLeDiff, Nat.reduceLT, ai, al, tx, HX]
    refine W_callR (kb' := 3000) (args := [.os 2020 1 Y.length 1 0 Y.length]) rfl (rev_run 3000 2020 1 3 Y hY1 (by omega) _ rfl) rfl (W_run 160 ?_)
    simp (maxSteps := 2000000) only [SA, Nat.reduceDiv, Nat.reduceSub, Nat.reduceAdd, Int.reduceLT, Int.reduceLE, Int.reduceToNat, Nat.reduceMul, Nat.reduceEqDiff, reduceCtorEq, Nat.reduceBEq, Nat.reduceLeDiff, Nat.reduceLT, ai, al, tx, rI, e00, Go.Proofs.Eng.putAt, Bool.true_and]
    refine W_look (fuel := 20) (args := [al false (lftL (pf w) V E), .os 2020 1 Y.length 1 0 Y.length]) (args' := [al false (lftL (pf w) V E), al false (lftL (pf w) V E)]) rfl (reify_xy hYl (by rw [hYr]; rfl)) hsame rfl rfl (W_run 160 ?_)
    simp (maxSteps := 2000000) only [SA, Nat.reduceDiv, Nat.reduceSub, Nat.reduceAdd, Int.reduceLT, Int.reduceLE, Int.reduceToNat, Nat.reduceMul, Nat.reduceEqDiff, reduceCtorEq, Nat.reduceBEq, Nat.reduceLeDiff, Nat.reduceLT, ai, ab, al, tx]
    refine W_call (args := []) rfl rfl hw rfl (W_run 160 ?_)
    simp (maxSteps := 2000000) only [SA, Nat.reduceDiv, Nat.reduceSub, Nat.reduceAdd, Int.reduceLT, Int.reduceLE, Int.reduceToNat, Nat.reduceMul, Nat.reduceEqDiff, reduceCtorEq, Nat.reduceBEq, Nat.reduceLeDiff, Nat.reduceLT, ai, ab, al, tx]
    exact W_ret1 (WX_nil ⟨.inl rfl, _, rfl, rfl⟩)
end Go.Proofs.Ytdmffkknghianaa

