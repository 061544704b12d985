/-
  The law's prices; LineStarts.
-/
import Derived.Test.YtdmffkknghianaaMo
set_option linter.unusedSimpArgs false
set_option linter.unusedVariables false
namespace Go.Proofs.Ytdmffkknghianaa
open Go Go.Proofs.Eng
set_option maxRecDepth 100000
set_option maxHeartbeats 4000000
theorem pl_succ (D : Nat → Int) (n : Nat) : pl D (n + 1) = pl D n ++ [D n] := by unfold pl; rw [List.range_succ, List.map_append]; rfl
theorem stL_succ (S : Nat → Nat) (k : Nat) : stL S (k + 1) = stL S k ++ [iS S (k + 1)] := by
  unfold stL
  rw [List.range'_concat, List.map_append, Nat.one_mul, Nat.add_comm]; rfl
theorem reify_part {η : Heap} {n k g e v m : Nat} {l : List Int} (hv : l.length = v) (hm : m ≤ v) (hk : Go.Proofs.Eng.look η k = (g, some ⟨e, 1, l.map ai⟩)) : reify η (n + 2) (.os k g v 1 0 m) = some (al false (l.take m)) := by
  have h := mapM_self (h := elemR (reify η (n + 1))) (xs := (l.take m).map ai) fun x hx => by obtain ⟨z, _, rfl⟩ := List.mem_map.1 hx; rfl
  simp only [reify, hk]
  rw [if_pos ⟨trivial, by rw [List.length_map]; exact hv, trivial, by omega⟩, List.drop_zero, ← List.map_take]
  show Option.map (AV.sl 1 false) (((l.take m).map ai).mapM (elemR (reify η (n + 1)))) = _
  rw [h]; rfl
theorem reify_two {η : Heap} {k k' g g' e e' v v' m : Nat} {l l' : List Int} (hv : l.length = v) (hv' : l'.length = v') (hm : m ≤ v) (hk : Go.Proofs.Eng.look η k = (g, some ⟨e, 1, l.map ai⟩)) (hk' : Go.Proofs.Eng.look η k' = (g', some ⟨e', 1, l'.map ai⟩)) :
    reify η 20 (.tup [.os k g v 1 0 m, .os k' g' v' 1 0 v']) = some (.tup [al false (l.take m), al false l']) := by
  have h1 := reify_part (n := 17) hv hm hk
  have h2 := reify_part (n := 17) hv' (Nat.le_refl v') hk'
  rw [List.take_of_length_le (by omega)] at h2
  show ([AV.os k g v 1 0 m, .os k' g' v' 1 0 v'].mapM (reify η 19)).map AV.tup = _
  rw [List.mapM_cons, List.mapM_cons, h1, h2]; rfl
theorem stL_len (S : Nat → Nat) (k : Nat) : (stL S k).length = k := by unfold stL; simp
theorem pout_loop (V : Int) (w : List Int) (hg : gX V w) (f : Bool) (D : Nat → Int) (S : Nat → Nat) (hB : Back (pf w) V w.length D S) (K : List Fr) (Q : Out → Cfg → Prop)
    (hK : ∀ j5 j6 j7 j8 j9 j10 j11 j12 j13 j14 j15 j16 j17 j18 j19 j20 j21 j22 j23 j24 j25 j26 j27 j28 j29 j30 j31 j32 j33 j34 j35 j36 j37 j38 j39 j40 j41 j42 j43 j44 j45 j46 j47 j48 j49 j50 j51 j52 j53 j54 j55 j56 j57 j58 j59 j60 : AV, W Try.prog (RelU Try.prog xf) 0 K ⟨((tx f V w) :: (.ptr (tx f V w)) :: (.os 50 1 (w.length + 1) 1 0 (w.length + 1)) :: (.os 54 1 w.length 1 0 w.length) :: (ai (w.length + 1 : Nat)) :: j5 :: j6 :: j7 :: j8 :: j9 :: j10 :: j11 :: j12 :: j13 :: j14 :: j15 :: j16 :: j17 :: j18 :: j19 :: j20 :: j21 :: j22 :: j23 :: j24 :: j25 :: j26 :: j27 :: j28 :: j29 :: j30 :: j31 :: j32 :: j33 :: j34 :: j35 :: j36 :: j37 :: j38 :: j39 :: j40 :: j41 :: j42 :: j43 :: j44 :: j45 :: j46 :: j47 :: j48 :: j49 :: j50 :: j51 :: j52 :: j53 :: j54 :: j55 :: j56 :: j57 :: j58 :: j59 :: j60 :: []), [(50, (1, some ⟨3, 1, (pl D (w.length + 1)).map ai⟩)), (54, (1, some ⟨3, 1, (stL S w.length).map ai⟩))]⟩ Q) :
    ∀ (m k : Nat), k + m = w.length → 1 ≤ k → ∀ j5 j6 j7 j8 j9 j10 j11 j12 j13 j14 j15 j16 j17 j18 j19 j20 j21 j22 j23 j24 j25 j26 j27 j28 j29 j30 j31 j32 j33 j34 j35 j36 j37 j38 j39 j40 j41 j42 j43 j44 j45 j46 j47 j48 j49 j50 j51 j52 j53 j54 j55 j56 j57 j58 j59 j60 : AV, W Try.prog (RelU Try.prog xf) 0 (.code (.loop xf18_L1) :: .blk 0 :: .stop :: K) ⟨((tx f V w) :: (.ptr (tx f V w)) :: (.os 50 1 (k + 1) 1 0 (k + 1)) :: (.os 54 1 k 1 0 k) :: (ai (k + 1 : Nat)) :: j5 :: j6 :: j7 :: j8 :: j9 :: j10 :: j11 :: j12 :: j13 :: j14 :: j15 :: j16 :: j17 :: j18 :: j19 :: j20 :: j21 :: j22 :: j23 :: j24 :: j25 :: j26 :: j27 :: j28 :: j29 :: j30 :: j31 :: j32 :: j33 :: j34 :: j35 :: j36 :: j37 :: j38 :: j39 :: j40 :: j41 :: j42 :: j43 :: j44 :: j45 :: j46 :: j47 :: j48 :: j49 :: j50 :: j51 :: j52 :: j53 :: j54 :: j55 :: j56 :: j57 :: j58 :: j59 :: j60 :: []), [(50, (1, some ⟨3, 1, (pl D (k + 1)).map ai⟩)), (54, (1, some ⟨3, 1, (stL S k).map ai⟩))]⟩ Q := by
  have hp := hg.pos
  have n10 := hg.n10
  have hDb : ∀ i, i < w.length → 0 ≤ D i ∧ D i ≤ 100000 := fun i hi => by have := hB.b hp hg.W1 i (by omega); omega
  intro m
  induction m with
  | zero =>
    intro k hk h1 j5 j6 j7 j8 j9 j10 j11 j12 j13 j14 j15 j16 j17 j18 j19 j20 j21 j22 j23 j24 j25 j26 j27 j28 j29 j30 j31 j32 j33 j34 j35 j36 j37 j38 j39 j40 j41 j42 j43 j44 j45 j46 j47 j48 j49 j50 j51 j52 j53 j54 j55 j56 j57 j58 j59 j60
    have ek : k = w.length := by omega
    subst ek
    have h0 : decide (((w.length + 1 : Nat) : Int) ≤ (w.length : Int)) = false := decide_eq_false (by omega)
    refine W_loop (W_run 80 ?_)
    simp (maxSteps := 2000000) only [SA, Nat.reduceDiv, Nat.reduceSub, Nat.reduceAdd, Int.reduceLT, Int.reduceLE, Int.reduceToNat, Nat.reduceMul, Nat.reduceEqDiff, reduceCtorEq, Nat.reduceBEq, Nat.reduceLeDiff, Nat.reduceLT, xf18_L1, ai, al, tx, h0]
    exact W_stop (hK _ _ _ _ _ _ _ _ _ _ _ _ _ _ _ _ _ _ _ _ _ _ _ _ _ _ _ _ _ _ _ _ _ _ _ _ _ _ _ _ _ _ _ _ _ _ _ _ _ _ _ _ _ _ _ _)
  | succ m ih =>
    intro k hk h1 j5 j6 j7 j8 j9 j10 j11 j12 j13 j14 j15 j16 j17 j18 j19 j20 j21 j22 j23 j24 j25 j26 j27 j28 j29 j30 j31 j32 j33 j34 j35 j36 j37 j38 j39 j40 j41 j42 j43 j44 j45 j46 j47 j48 j49 j50 j51 j52 j53 j54 j55 j56 j57 j58 j59 j60
    have h0 : decide (((k + 1 : Nat) : Int) ≤ (w.length : Int)) = true := decide_eq_true (by omega)
    have wi : IntKind.i64.wrap (((k + 1 : Nat) : Int) + 1) = ((k + 1 + 1 : Nat) : Int) := by rw [wrap_id (by omega) (by omega)]; simp
    have e1 := pl_succ D (k + 1)
    have e2 := stL_succ S k
    have q1 : (k + 1 + 1) * 8 ≤ 100000000000000 := by omega
    have q2 : k + 1 + 1 ≤ 100000000000000 := by omega
    have q3 : (k + 1) * 8 ≤ 100000000000000 := by omega
    have q4 : k + 1 ≤ 100000000000000 := by omega
    have next := ih (k + 1) (by omega) (by omega)
    rw [e1, e2, List.map_append, List.map_append] at next
    refine W_loop (W_run 80 ?_)
    simp (maxSteps := 2000000) only [SA, Nat.reduceDiv, Nat.reduceSub, Nat.reduceAdd, Int.reduceLT, Int.reduceLE, Int.reduceToNat, Nat.reduceMul, Nat.reduceEqDiff, reduceCtorEq, Nat.reduceBEq, Nat.reduceLeDiff, Nat.reduceLT, xf18_L1, ai, al, tx, h0]
    refine W_alone (pin_loop V w hg f D hDb (k + 1) (by omega) _ _ _ (.inr ⟨rfl, _, rfl⟩) _ _ (fun l s hI j7 j8 j9 j10 j11 j12 j13 j14 j15 j16 j17 j18 j21 j22 j23 j24 j25 j26 j27 j28 j29 j30 j31 j32 j33 j34 j35 j36 j37 j38 j39 j40 j41 j42 j43 j44 j45 j46 j47 j48 j49 j50 j51 j52 j53 j54 j55 j56 j57 j58 j59 j60 => W_run 80 ?_) (k + 1) 0 (by omega) (-1) 0 (.inl ⟨rfl, rfl, fun i hi => by omega⟩) _ _ _ _ _ _ _ _ _ _ _ _ _ _ _ _ _ _ _ _ _ _ _ _ _ _ _ _ _ _ _ _ _ _ _ _ _ _ _ _ _ _ _ _ _ _ _ _ _ _ _ _)
    obtain ⟨rfl, rfl⟩ := hI.fin hp hB (by omega) (by omega)
    have hl1 := pl_len D (k + 1)
    have hl2 := stL_len S k
    simp (maxSteps := 2000000) only [SA, Nat.reduceDiv, Nat.reduceSub, Nat.reduceAdd, Int.reduceLT, Int.reduceLE, Int.reduceToNat, Nat.reduceMul, Nat.reduceEqDiff, reduceCtorEq, Nat.reduceBEq, Nat.reduceLeDiff, Nat.reduceLT, xf18_R0, xf18_R1, ai, al, tx, wi, q1, q2, q3, q4, hl1, hl2, Go.Proofs.Eng.elems, List.map_cons, List.map_nil, List.length_map]
    exact next _ _ _ _ _ _ _ _ _ _ _ _ _ _ _ _ _ _ _ _ _ _ _ _ _ _ _ _ _ _ _ _ _ _ _ _ _ _ _ _ _ _ _ _ _ _ _ _ _ _ _ _ _ _ _ _
theorem lprices_run {V : Int} {w : List Int} (hg : gX V w) (f : Bool) {D : Nat → Int} {S : Nat → Nat} (hB : Back (pf w) V w.length D S) :
    Runs Try.prog xf 18 [tx f V w] (.tup [al false (pl D w.length), al false (stL S w.length)]) := by
  have hp := hg.pos
  have n1 := hg.n1
  have n10 := hg.n10
  have hDb : ∀ i, i < w.length → 0 ≤ D i ∧ D i ≤ 100000 := fun i hi => by have := hB.b hp hg.W1 i (by omega); omega
  have h0 : decide ((1 : Int) ≤ (w.length : Int)) = true := decide_eq_true (by omega)
  have e0 : pl D 1 = [0] := by unfold pl; simp [hB.d0]
  have p2 : (pl D (1 + 1)).map ai = [ai 0, ai (D 1)] := by rw [pl_succ, e0]; rfl
  have s1 : (stL S 1).map ai = [ai (S 1 : Nat)] := rfl
  have hO := fun K Q hK => pout_loop V w hg f D S hB K Q hK (w.length - 1) 1 (by omega) (Nat.le_refl 1)
  rw [p2, s1] at hO
  have wi : IntKind.i64.wrap (1 + 1) = 2 := rfl
  refine Runs.ofW (fn := xf18) 20 (by kernel_rfl) (W_run 80 ?_)
  simp (maxSteps := 2000000) only [SA, Nat.reduceDiv, Nat.reduceSub, Nat.reduceAdd, Int.reduceLT, Int.reduceLE, Int.reduceToNat, Nat.reduceMul, Nat.reduceEqDiff, reduceCtorEq, Nat.reduceBEq, Nat.reduceLeDiff, Nat.reduceLT, xf18, ai, al, tx, List.map_cons, List.map_nil]
  refine W_call (args := [al true [0]]) rfl rfl (list_run true [0]) rfl (W_run 80 ?_)
  simp (maxSteps := 2000000) only [SA, Nat.reduceDiv, Nat.reduceSub, Nat.reduceAdd, Int.reduceLT, Int.reduceLE, Int.reduceToNat, Nat.reduceMul, Nat.reduceEqDiff, reduceCtorEq, Nat.reduceBEq, Nat.reduceLeDiff, Nat.reduceLT, ai, al, tx, List.map_cons, List.map_nil]
  refine W_alone (W_loop (W_run 80 ?_))
  simp (maxSteps := 2000000) only [SA, Nat.reduceDiv, Nat.reduceSub, Nat.reduceAdd, Int.reduceLT, Int.reduceLE, Int.reduceToNat, Nat.reduceMul, Nat.reduceEqDiff, reduceCtorEq, Nat.reduceBEq, Nat.reduceLeDiff, Nat.reduceLT, xf18_L1, ai, al, tx, h0]
  refine W_alone (pin_loop V w hg f D hDb 1 n1 _ _ _ (.inl (by rw [e0]; rfl)) _ _ (fun l s hI j7 j8 j9 j10 j11 j12 j13 j14 j15 j16 j17 j18 j21 j22 j23 j24 j25 j26 j27 j28 j29 j30 j31 j32 j33 j34 j35 j36 j37 j38 j39 j40 j41 j42 j43 j44 j45 j46 j47 j48 j49 j50 j51 j52 j53 j54 j55 j56 j57 j58 j59 j60 => W_run 80 ?_) 1 0 (by omega) (-1) 0 (.inl ⟨rfl, rfl, fun i hi => by omega⟩) _ _ _ _ _ _ _ _ _ _ _ _ _ _ _ _ _ _ _ _ _ _ _ _ _ _ _ _ _ _ _ _ _ _ _ _ _ _ _ _ _ _ _ _ _ _ _ _ _ _ _ _)
  obtain ⟨rfl, rfl⟩ := hI.fin hp hB (Nat.le_refl 1) n1
  simp (maxSteps := 2000000) only [SA, Nat.reduceDiv, Nat.reduceSub, Nat.reduceAdd, Int.reduceLT, Int.reduceLE, Int.reduceToNat, Nat.reduceMul, Nat.reduceEqDiff, reduceCtorEq, Nat.reduceBEq, Nat.reduceLeDiff, Nat.reduceLT, xf18_R0, xf18_R1, ai, al, nilA, tx, wi, ne_eq, not_false_eq_true, Go.Proofs.Eng.elems, List.map_cons, List.map_nil]
  refine hO _ _ (fun j5 j6 j7 j8 j9 j10 j11 j12 j13 j14 j15 j16 j17 j18 j19 j20 j21 j22 j23 j24 j25 j26 j27 j28 j29 j30 j31 j32 j33 j34 j35 j36 j37 j38 j39 j40 j41 j42 j43 j44 j45 j46 j47 j48 j49 j50 j51 j52 j53 j54 j55 j56 j57 j58 j59 j60 => W_run 80 ?_) _ _ _ _ _ _ _ _ _ _ _ _ _ _ _ _ _ _ _ _ _ _ _ _ _ _ _ _ _ _ _ _ _ _ _ _ _ _ _ _ _ _ _ _ _ _ _ _ _ _ _ _ _ _ _ _
  have q1 : w.length ≤ w.length + 1 := by omega
  simp (maxSteps := 2000000) only [SA, Nat.reduceDiv, Nat.reduceSub, Nat.reduceAdd, Int.reduceLT, Int.reduceLE, Int.reduceToNat, Nat.reduceMul, Nat.reduceEqDiff, reduceCtorEq, Nat.reduceBEq, Nat.reduceLeDiff, Nat.reduceLT, xf18_R2, ai, al, tx, q1]
  refine W_ret1 (WX_nil ⟨.inl rfl, _, rfl, ?_⟩)
  have h := reify_two (η := [(50, (1, some ⟨3, 1, (pl D (w.length + 1)).map ai⟩)), (54, (1, some ⟨3, 1, (stL S w.length).map ai⟩))]) (k := 50) (k' := 54) (g := 1) (g' := 1) (e := 3) (e' := 3) (l := pl D (w.length + 1)) (l' := stL S w.length) (v := w.length + 1) (v' := w.length) (m := w.length) (pl_len _ _) (stL_len _ _) (by omega) rfl rfl
  rw [show (pl D (w.length + 1)).take w.length = pl D w.length by rw [pl_succ]; exact List.take_left' (pl_len _ _)] at h
  exact h
theorem starts_law {a b e : Int} {H : List Int} (ha : 0 ≤ a ∧ a ≤ 255) (hb : 0 ≤ b ∧ b ≤ 255) (he : 0 ≤ e ∧ e ≤ 255) (hH : H.length = 10) (bH : ∀ x, x ∈ H → 0 ≤ x ∧ x ≤ 255) (hw : Runs Try.prog xf 25 [] (ab true)) :
    Runs Try.prog xf 4 [gal a b e H] (ab true) := by
  obtain ⟨r, ⟨V, w, rfl, hg, hm⟩, hmade⟩ := gal_made (m := 10) (by omega) ha hb he hH bH
  obtain ⟨D, S, hB⟩ := Back.ex hg.pos w.length (Nat.le_refl _)
  have n1 := hg.n1
  have n10 := hg.n10
  have hlen := stL_len S w.length
  have hpr := lprices_run hg false hB
  have hst := starts_run hg false hB
  have hsame := same_run false false (stL S w.length) (stL S w.length) (by omega)
  rw [decide_eq_true rfl] at hsame
  have hss := iss_run false (l := stL S w.length) (by omega) (by omega) fun i hi => by
    have hat : ∀ k, k < w.length → (stL S w.length).getD k 0 = iS S (k + 1) := fun k hk => by
      unfold stL
      rw [List.getD_eq_getElem?_getD, List.getElem?_map, List.getElem?_range' hk, Nat.one_mul, Nat.add_comm]; rfl
    rw [hat i (by omega), hat (i + 1) (by omega)]
    have := hB.sorted hg.pos (j := i + 1) (by omega) (by omega)
    unfold iS; omega
  have e00 : ((0 : Int) == 0) = true := rfl
  have hgl : (H.map u8).length = 10 := by simp [hH]
  have hgn : noRef (gal a b e H) = true := noRefs_of fun x hx => by
    simp only [List.mem_cons, List.mem_map] at hx
    rcases hx with rfl | rfl | rfl | ⟨z, _, rfl⟩ <;> rfl
  have htk : (u8 a :: u8 b :: u8 e :: H.map u8).take 13 = u8 a :: u8 b :: u8 e :: H.map u8 := List.take_of_length_le (by simp [hH])
  unfold gal at hmade hgn ⊢
  generalize hGG : u8 a :: u8 b :: u8 e :: H.map u8 = G at hmade hgn htk ⊢
  have hGlen : G.length = 13 := by rw [← hGG]; simp [hH]
  refine Runs.ofW (fn := xf4) 20 (by kernel_rfl) (W_run 80 ?_)
  simp (maxSteps := 2000000) only [SA, Nat.reduceDiv, Nat.reduceSub, Nat.reduceAdd, Int.reduceLT, Int.reduceLE, Int.reduceToNat, Nat.reduceMul, Nat.reduceEqDiff, reduceCtorEq, Nat.reduceBEq, Nat.reduceLeDiff, Nat.reduceLT, xf4, ai, hGlen, htk]
  refine W_call (args := [.ag G, ai 10]) rfl (noRefs_2 hgn rfl) hmade (noRef_tx _ _ _) (W_run 80 ?_)
  simp (maxSteps := 2000000) only [SA, Nat.reduceDiv, Nat.reduceSub, Nat.reduceAdd, Int.reduceLT, Int.reduceLE, Int.reduceToNat, Nat.reduceMul, Nat.reduceEqDiff, reduceCtorEq, Nat.reduceBEq, Nat.reduceLeDiff, Nat.reduceLT, ai, al, tx, List.map_cons, List.map_nil]
  refine W_call (args := [tx false V w]) rfl (noRefs_1 (noRef_tx _ _ _)) hpr (noRef_t2 (noRef_al _ _) (noRef_al _ _)) (W_run 80 ?_)
  simp (maxSteps := 2000000) only [SA, Nat.reduceDiv, Nat.reduceSub, Nat.reduceAdd, Int.reduceLT, Int.reduceLE, Int.reduceToNat, Nat.reduceMul, Nat.reduceEqDiff, reduceCtorEq, Nat.reduceBEq, Nat.reduceLeDiff, Nat.reduceLT, ai, al, tx]
  refine W_call (args := [tx false V w]) rfl (noRefs_1 (noRef_tx _ _ _)) hst (noRef_t2 (noRef_al _ _) rfl) (W_run 80 ?_)
  simp (maxSteps := 2000000) only [SA, Nat.reduceDiv, Nat.reduceSub, Nat.reduceAdd, Int.reduceLT, Int.reduceLE, Int.reduceToNat, Nat.reduceMul, Nat.reduceEqDiff, reduceCtorEq, Nat.reduceBEq, Nat.reduceLeDiff, Nat.reduceLT, ai, al, tx, e00]
  refine W_call (args := [al false (stL S w.length), al false (stL S w.length)]) rfl (noRefs_2 (noRef_al _ _) (noRef_al _ _)) hsame rfl (W_run 80 ?_)
  simp (maxSteps := 2000000) only [SA, Nat.reduceDiv, Nat.reduceSub, Nat.reduceAdd, Int.reduceLT, Int.reduceLE, Int.reduceToNat, Nat.reduceMul, Nat.reduceEqDiff, reduceCtorEq, Nat.reduceBEq, Nat.reduceLeDiff, Nat.reduceLT, ai, ab, al, tx]
  refine W_call (args := [al false (stL S w.length)]) rfl (noRefs_1 (noRef_al _ _)) hss rfl (W_run 80 ?_)
  simp (maxSteps := 2000000) only [SA, Nat.reduceDiv, Nat.reduceSub, Nat.reduceAdd, Int.reduceLT, Int.reduceLE, Int.reduceToNat, Nat.reduceMul, Nat.reduceEqDiff, reduceCtorEq, Nat.reduceBEq, Nat.reduceLeDiff, Nat.reduceLT, ai, ab, al, tx]
  refine W_call (args := []) rfl rfl hw rfl (W_run 80 ?_)
  simp (maxSteps := 2000000) only [SA, Nat.reduceDiv, Nat.reduceSub, Nat.reduceAdd, Int.reduceLT, Int.reduceLE, Int.reduceToNat, Nat.reduceMul, Nat.reduceEqDiff, reduceCtorEq, Nat.reduceBEq, Nat.reduceLeDiff, Nat.reduceLT, ai, ab, al, tx]
  exact W_ret1 (WX_nil ⟨.inl rfl, _, rfl, rfl⟩)
end Go.Proofs.Ytdmffkknghianaa

