/-
  LineShown.
-/
import Derived.Test.YtdmffkknghianaaNt1
import Derived.Test.YtdmffkknghianaaNt2
set_option linter.unusedSimpArgs false
set_option linter.unusedVariables false
namespace Go.Proofs.Ytdmffkknghianaa
open Go Go.Proofs.Eng
set_option maxRecDepth 100000
set_option maxHeartbeats 4000000
theorem named741 (q : Nat × Option Ob) (j : Nat) : Go.Proofs.Eng.look [(7, q)] j = Go.Proofs.Eng.look (hpS q []) j := by
  simp only [Go.Proofs.Eng.look, hpS]
  by_cases h : 7 = j
  · simp [h]
  · by_cases h2 : 41 = j
    · subst h2; simp
    · simp [h, h2]
theorem named745 (q r : Nat × Option Ob) (j : Nat) : Go.Proofs.Eng.look [(7, q), (41, (0, none)), (45, r)] j = Go.Proofs.Eng.look [(7, q), (45, r)] j := by
  simp only [Go.Proofs.Eng.look]
  by_cases h : 7 = j
  · simp [h]
  · by_cases h2 : 41 = j
    · subst h2; simp
    · simp [h, h2]
theorem shown_law {a b e z P : Int} {H : List Int} (ha : 0 ≤ a ∧ a ≤ 255) (hb : 0 ≤ b ∧ b ≤ 255) (he : 0 ≤ e ∧ e ≤ 255) (hH : H.length = 10) (bH : ∀ x, x ∈ H → 0 ≤ x ∧ x ≤ 255) (bz : 0 ≤ z ∧ z ≤ 255) (hw : Runs Try.prog xf 25 [] (ab true)) :
    Runs Try.prog xf 10 [gal a b e H, .v (.int .u16 P), u8 z] (ab true) := by
  obtain ⟨r, ⟨V, w, rfl, hg, hm⟩, hmade⟩ := gal_made (m := 10) (by omega) ha hb he hH bH
  have n1 := hg.n1
  have n10 := hg.n10
  have hgn := noRef_gal a b e H
  have hS := fun K Q hK => bit_loop w.length n10 P z (1, some ⟨27, 2, [tx false V w]⟩) (gal a b e H) (.ptr (gal a b e H)) K Q hK (w.length - 1) 1 (by omega) (Nat.le_refl 1) [] 0 (by omega) (by simp) (fun _ => rfl)
  have htk : (u8 a :: u8 b :: u8 e :: H.map u8).take 13 = u8 a :: u8 b :: u8 e :: H.map u8 := List.take_of_length_le (by simp [hH])
  unfold gal at hmade hgn hS ⊢
  generalize hGG : u8 a :: u8 b :: u8 e :: H.map u8 = G at hmade hgn htk hS ⊢
  have hGlen : G.length = 13 := by rw [← hGG]; simp [hH]
  refine Runs.ofW (fn := xf10) 20 (by kernel_rfl) (W_run 160 ?_)
  simp (maxSteps := 2000000) only [SA, Nat.reduceDiv, Nat.reduceSub, Nat.reduceAdd, Int.reduceLT, Int.reduceLE, Int.reduceToNat, Nat.reduceMul, Nat.reduceEqDiff, reduceCtorEq, Nat.reduceBEq, Nat.reduceLeDiff, Nat.reduceLT, xf10, ai, hGlen, htk]
  refine W_call (args := [.ag G, ai 10]) rfl (noRefs_2 hgn rfl) hmade (noRef_tx _ _ _) (W_run 160 ?_)
  simp (maxSteps := 2000000) only [SA, Nat.reduceDiv, Nat.reduceSub, Nat.reduceAdd, Int.reduceLT, Int.reduceLE, Int.reduceToNat, Nat.reduceMul, Nat.reduceEqDiff, reduceCtorEq, Nat.reduceBEq, Nat.reduceLeDiff, Nat.reduceLT, ai, al, tx, List.map_cons, List.map_nil]
  refine W_alone (W_named (named741 _) (hS _ _ (fun E b hbn hEl hEr j4 j5 j11 j12 j13 j14 j15 j16 j17 j18 j19 j20 j21 j22 j23 j24 j25 j26 j27 j28 j29 j30 j31 j32 j33 j34 j35 j36 j37 j38 j39 j40 j41 j42 j43 j44 j45 j46 j47 j48 j49 j50 j51 j52 j53 j54 j55 j56 j57 j58 j59 j60 j61 j62 j63 j64 j65 j66 j67 j68 j69 j70 j71 j72 j73 j74 j75 j76 j77 j78 j79 j80 j81 j82 j83 j84 j85 j86 j87 j88 j89 j90 j91 j92 j93 j94 j95 j96 j97 j98 j99 j100 j101 j102 j103 j104 j105 j106 j107 j108 j109 j110 j111 j112 j113 j114 j115 j116 j117 j118 j119 j120 j121 j122 j123 j124 j125 j126 j127 j128 j129 j130 j131 => W_run 160 ?_) _ _ _ _ _ _ _ _ _ _ _ _ _ _ _ _ _ _ _ _ _ _ _ _ _ _ _ _ _ _ _ _ _ _ _ _ _ _ _ _ _ _ _ _ _ _ _ _ _ _ _ _ _ _ _ _ _ _ _ _ _ _ _ _ _ _ _ _ _ _ _ _ _ _ _ _ _ _ _ _ _ _ _ _ _ _ _ _ _ _ _ _ _ _ _ _ _ _ _ _ _ _ _ _ _ _ _ _ _ _ _ _ _ _ _ _ _ _ _ _ _ _ _))
  have hE1 : eE w.length 0 (E ++ [w.length]) = 0 := by rw [hEr, eE, if_neg (by omega), if_neg (by omega), eE, if_pos rfl]
  have hl1 : (E ++ [w.length]).length ≤ w.length := by rw [List.length_append]; simp; omega
  have hw0 : wnt (pf w) V [] = 0 := rfl
  cases E with
  | nil =>
    have hT := fun K Q hK => wnt_loop V w hg ([] ++ [w.length]) hE1 hl1 45 (by omega) z (.ag G) (.v (.int .u16 P)) (.ptr (.ag G)) K Q hK _ 0 (Nat.zero_add _) 0 [] rfl hE1
    rw [hw0] at hT
    simp only [List.nil_append] at hT hE1 hl1
    rw [show (nl [w.length]).map ai = [ai ((w.length : Nat) : Int)] from rfl] at hT
    simp only [hpS, hvS]
    simp (maxSteps := 2000000) only [SA, Nat.reduceDiv, Nat.reduceSub, Nat.reduceAdd, Int.reduceLT, Int.reduceLE, Int.reduceToNat, Nat.reduceMul, Nat.reduceEqDiff, reduceCtorEq, Nat.reduceBEq, Nat.reduceLeDiff, Nat.reduceLT, xf10_R1, ai, ab, al, tx, nilA, Go.Proofs.Eng.elems, List.map_cons, List.map_nil]
    refine W_alone (W_named (named745 _ _) (hT _ _ (fun j4 j5 j10 j13 j14 j15 j16 j17 j18 j19 j20 j21 j22 j23 j24 j25 j26 j27 j28 j29 j30 j31 j32 j33 j34 j35 j36 j37 j38 j39 j40 j41 j42 j43 j44 j45 j49 j50 j51 j52 j53 j54 j55 j56 j57 j58 j59 j60 j61 j62 j63 j64 j65 j66 j67 j68 j69 j70 j71 j72 j73 j74 j75 j76 j77 j78 j79 j80 j81 j82 j83 j84 j85 j86 j87 j88 j89 j90 j91 j92 j93 j94 j95 j96 j97 j98 j99 j100 j101 j102 j103 j104 j105 j106 j107 j108 j109 j110 j111 j112 j113 j114 j115 j116 j117 j118 j119 j120 j121 j122 j123 j124 j125 j126 j127 j128 j129 j130 j131 => shown_end45 V w hg [w.length] hE1 hl1 z bz _ _ _ _ hw _ _ _ _ _ _ _ _ _ _ _ _ _ _ _ _ _ _ _ _ _ _ _ _ _ _ _ _ _ _ _ _ _ _ _ _ _ _ _ _ _ _ _ _ _ _ _ _ _ _ _ _ _ _ _ _ _ _ _ _ _ _ _ _ _ _ _ _ _ _ _ _ _ _ _ _ _ _ _ _ _ _ _ _ _ _ _ _ _ _ _ _ _ _ _ _ _ _ _ _ _ _ _ _ _ _ _ _ _ _ _ _ _ _ _ _ _ _ _ _ _) _ _ _ _ _ _ _ _ _ _ _ _ _ _ _ _ _ _ _ _ _ _ _ _ _ _ _ _ _ _ _ _ _ _ _ _ _ _ _ _ _ _ _ _ _ _ _ _ _ _ _ _ _ _ _ _ _ _ _ _ _ _ _ _ _ _ _ _ _ _ _ _ _ _ _ _ _ _ _ _ _ _ _ _ _ _ _ _ _ _ _ _ _ _ _ _ _ _ _ _ _ _ _ _ _ _ _ _ _ _ _ _ _ _ _ _ _ _ _))
  | cons x t =>
    have hT := fun K Q hK => wnt_loop V w hg (x :: t ++ [w.length]) hE1 hl1 41 (by omega) z (.ag G) (.v (.int .u16 P)) (.ptr (.ag G)) K Q hK _ 0 (Nat.zero_add _) 0 [] rfl hE1
    rw [hw0] at hT
    have q1 : (t.length + 1 + 1) * 8 ≤ 100000000000000 := by simp only [List.length_cons] at hEl; omega
    have q2 : t.length + 1 + 1 ≤ 100000000000000 := by simp only [List.length_cons] at hEl; omega
    have e2 : (x :: t ++ [w.length]).length = t.length + 1 + 1 := by simp
    have e3 : (nl (x :: t ++ [w.length])).map ai = (nl (x :: t)).map ai ++ [ai ((w.length : Nat) : Int)] := by unfold nl; simp
    have e4 : ((nl (x :: t)).map ai).length = t.length + 1 := by unfold nl; simp
    have hfin := shown_end41 V w hg (x :: t ++ [w.length]) hE1 hl1 z bz (.ag G) (.v (.int .u16 P)) (.ptr (.ag G))
    rw [e2, e3] at hT
    rw [e2, e3] at hfin
    simp only [hpS, hvS]
    simp (maxSteps := 2000000) only [SA, Nat.reduceDiv, Nat.reduceSub, Nat.reduceAdd, Int.reduceLT, Int.reduceLE, Int.reduceToNat, Nat.reduceMul, Nat.reduceEqDiff, reduceCtorEq, Nat.reduceBEq, Nat.reduceLeDiff, Nat.reduceLT, xf10_R1, ai, ab, al, tx, nilA, q1, q2, e4, Go.Proofs.Eng.elems, List.map_cons, List.map_nil]
    refine W_alone (hT _ _ (fun j4 j5 j10 j13 j14 j15 j16 j17 j18 j19 j20 j21 j22 j23 j24 j25 j26 j27 j28 j29 j30 j31 j32 j33 j34 j35 j36 j37 j38 j39 j40 j41 j42 j43 j44 j45 j49 j50 j51 j52 j53 j54 j55 j56 j57 j58 j59 j60 j61 j62 j63 j64 j65 j66 j67 j68 j69 j70 j71 j72 j73 j74 j75 j76 j77 j78 j79 j80 j81 j82 j83 j84 j85 j86 j87 j88 j89 j90 j91 j92 j93 j94 j95 j96 j97 j98 j99 j100 j101 j102 j103 j104 j105 j106 j107 j108 j109 j110 j111 j112 j113 j114 j115 j116 j117 j118 j119 j120 j121 j122 j123 j124 j125 j126 j127 j128 j129 j130 j131 => hfin _ hw _ _ _ _ _ _ _ _ _ _ _ _ _ _ _ _ _ _ _ _ _ _ _ _ _ _ _ _ _ _ _ _ _ _ _ _ _ _ _ _ _ _ _ _ _ _ _ _ _ _ _ _ _ _ _ _ _ _ _ _ _ _ _ _ _ _ _ _ _ _ _ _ _ _ _ _ _ _ _ _ _ _ _ _ _ _ _ _ _ _ _ _ _ _ _ _ _ _ _ _ _ _ _ _ _ _ _ _ _ _ _ _ _ _ _ _ _ _ _ _ _) _ _ _ _ _ _ _ _ _ _ _ _ _ _ _ _ _ _ _ _ _ _ _ _ _ _ _ _ _ _ _ _ _ _ _ _ _ _ _ _ _ _ _ _ _ _ _ _ _ _ _ _ _ _ _ _ _ _ _ _ _ _ _ _ _ _ _ _ _ _ _ _ _ _ _ _ _ _ _ _ _ _ _ _ _ _ _ _ _ _ _ _ _ _ _ _ _ _ _ _ _ _ _ _ _ _ _ _ _ _ _ _ _ _ _ _ _ _ _)
end Go.Proofs.Ytdmffkknghianaa

