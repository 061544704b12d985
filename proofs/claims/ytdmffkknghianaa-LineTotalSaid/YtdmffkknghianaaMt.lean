/-
  LineTotal.
-/
import Derived.Test.YtdmffkknghianaaMr
import Derived.Test.YtdmffkknghianaaMi
set_option linter.unusedSimpArgs false
set_option linter.unusedVariables false
namespace Go.Proofs.Ytdmffkknghianaa
open Go Go.Proofs.Eng
set_option maxRecDepth 100000
set_option maxHeartbeats 4000000
theorem spE_last {n : Nat} : ∀ (E : List Nat) (b : Nat), eE n b E = 0 → b ≤ n → ∀ (l1 l2 : List (Nat × Nat)) (p : Nat × Nat), spE b E = l1 ++ p :: l2 → (p.2 = n ↔ l2 = [])
  | [], b, h, _, l1, l2, p, hs => by simp [spE] at hs
  | e :: t, b, h, hb, l1, l2, p, hs => by
    rw [eE] at h
    split at h
    · omega
    · split at h
      · omega
      · rw [spE] at hs
        cases l1 with
        | nil =>
          simp only [List.nil_append, List.cons.injEq] at hs
          obtain ⟨rfl, rfl⟩ := hs
          constructor
          · intro hp
            cases t with
            | nil => rfl
            | cons e2 t2 =>
              simp only at hp
              rw [eE] at h
              split at h
              · omega
              · split at h
                · omega
                · omega
          · intro hn
            cases t with
            | nil => rw [eE] at h; split at h; assumption; omega
            | cons e2 t2 => rw [spE] at hn; cases hn
        | cons x l1 =>
          simp only [List.cons_append, List.cons.injEq] at hs
          exact spE_last t e h (by omega) l1 l2 p hs.2
theorem lf_sum {q : Nat → Int} {V : Int} {n : Nat} : ∀ (E : List Nat) (b : Nat), eE n b E = 0 → sumI ((spE b E).map fun p => lf q V p.1 p.2) = E.length * (V + 1) - (q n - q b)
  | [], b, h => by
    rw [eE] at h
    by_cases hb : b = n
    · subst hb; simp [spE, sumI]
    · rw [if_neg hb] at h; omega
  | e :: t, b, h => by
    rw [eE] at h
    split at h
    · omega
    · split at h
      · omega
      · have ih := lf_sum (q := q) (V := V) t e h
        have hc : ∀ (l : List Int) (x a : Int), (l.foldl (· + ·) (a + x)) = l.foldl (· + ·) a + x := by
          intro l
          induction l with
          | nil => intro x a; rfl
          | cons y l ih => intro x a; simp only [List.foldl_cons]; rw [show a + x + y = a + y + x by omega]; exact ih x (a + y)
        rw [spE, List.map_cons]
        unfold sumI at ih ⊢
        simp only [List.foldl_cons]
        rw [hc, ih, List.length_cons]
        unfold lf
        have : ((t.length + 1 : Nat) : Int) * (V + 1) = t.length * (V + 1) + (V + 1) := by rw [Int.natCast_add, Int.add_mul]; simp
        rw [this]
        omega
theorem split_at {E : List Nat} {k : Nat} (hk : k < E.length) {b : Nat} {l1 : List (Nat × Nat)} (hs : spE 0 E = l1 ++ spE b (E.drop k)) : spE 0 E = (l1 ++ [(b, E.getD k 0)]) ++ spE (E.getD k 0) (E.drop (k + 1)) := by
  rw [hs, drop_at (d := 0) hk, spE, List.append_assoc]; rfl
theorem tot_loop (V : Int) (w : List Int) (hg : gX V w) (E : List Nat) (hE : fE (pf w) V w.length E = 0) (hEl : E.length ≤ w.length) (x0 x1 x2 x3 x8 x10 : AV) (K : List Fr) (Q : Out → Cfg → Prop)
    (hK : ∀ j14 j15 j16 j17 j18 j19 j20 j21 j22 j23 j24 j25 j26 j27 j28 j29 j30 j31 j32 j33 j34 j35 j36 j37 j38 j39 j40 j41 j42 j43 j44 j45 j46 j47 j48 j49 j50 j51 j52 j53 j54 j55 j59 j60 j61 j62 j63 j64 j65 j66 j67 j68 j69 j70 j71 j72 j73 j74 j75 j76 j77 j78 j79 j80 j81 j82 j83 j84 j85 j86 j87 j88 j89 j90 j91 j92 j93 j94 j95 j96 j97 j98 j99 j100 j101 j102 j103 j104 j105 j106 j107 j108 j109 j110 j111 j112 j113 j114 j115 j116 j117 j118 j119 j120 j121 : AV, W Try.prog (RelU Try.prog xf) 0 K ⟨(x0 :: x1 :: x2 :: x3 :: (ab false) :: (.o 5 1 1 0 0) :: (al false (nl E)) :: (al false (lftL (pf w) V E)) :: x8 :: (ai (cstL (pf w) V w.length E)) :: x10 :: (ai w.length) :: (ai (sumI (lftL (pf w) V E))) :: (ai (cstL (pf w) V w.length E)) :: j14 :: j15 :: j16 :: j17 :: j18 :: j19 :: j20 :: j21 :: j22 :: j23 :: j24 :: j25 :: j26 :: j27 :: j28 :: j29 :: j30 :: j31 :: j32 :: j33 :: j34 :: j35 :: j36 :: j37 :: j38 :: j39 :: j40 :: j41 :: j42 :: j43 :: j44 :: j45 :: j46 :: j47 :: j48 :: j49 :: j50 :: j51 :: j52 :: j53 :: j54 :: j55 :: (al false (nl E)) :: (ai E.length) :: (ai E.length) :: j59 :: j60 :: j61 :: j62 :: j63 :: j64 :: j65 :: j66 :: j67 :: j68 :: j69 :: j70 :: j71 :: j72 :: j73 :: j74 :: j75 :: j76 :: j77 :: j78 :: j79 :: j80 :: j81 :: j82 :: j83 :: j84 :: j85 :: j86 :: j87 :: j88 :: j89 :: j90 :: j91 :: j92 :: j93 :: j94 :: j95 :: j96 :: j97 :: j98 :: j99 :: j100 :: j101 :: j102 :: j103 :: j104 :: j105 :: j106 :: j107 :: j108 :: j109 :: j110 :: j111 :: j112 :: j113 :: j114 :: j115 :: j116 :: j117 :: j118 :: j119 :: j120 :: j121 :: []), [(5, (1, some ⟨27, 2, [tx false V w]⟩))]⟩ Q) :
    ∀ (m k : Nat), k + m = E.length → ∀ (b : Nat) (l1 : List (Nat × Nat)), l1.length = k → b ≤ w.length → spE 0 E = l1 ++ spE b (E.drop k) → eE w.length b (E.drop k) = 0 → ∀ j14 j15 j16 j17 j18 j19 j20 j21 j22 j23 j24 j25 j26 j27 j28 j29 j30 j31 j32 j33 j34 j35 j36 j37 j38 j39 j40 j41 j42 j43 j44 j45 j46 j47 j48 j49 j50 j51 j52 j53 j54 j55 j59 j60 j61 j62 j63 j64 j65 j66 j67 j68 j69 j70 j71 j72 j73 j74 j75 j76 j77 j78 j79 j80 j81 j82 j83 j84 j85 j86 j87 j88 j89 j90 j91 j92 j93 j94 j95 j96 j97 j98 j99 j100 j101 j102 j103 j104 j105 j106 j107 j108 j109 j110 j111 j112 j113 j114 j115 j116 j117 j118 j119 j120 j121 : AV, W Try.prog (RelU Try.prog xf) 0 (.code (.loop xf7_L0) :: .blk 0 :: .stop :: K) ⟨(x0 :: x1 :: x2 :: x3 :: (ab false) :: (.o 5 1 1 0 0) :: (al false (nl E)) :: (al false (lftL (pf w) V E)) :: x8 :: (ai (cstL (pf w) V w.length E)) :: x10 :: (ai b) :: (ai (sumI (l1.map fun p => lf (pf w) V p.1 p.2))) :: (ai (sumI (l1.map fun p => cst (pf w) V w.length p.1 p.2))) :: j14 :: j15 :: j16 :: j17 :: j18 :: j19 :: j20 :: j21 :: j22 :: j23 :: j24 :: j25 :: j26 :: j27 :: j28 :: j29 :: j30 :: j31 :: j32 :: j33 :: j34 :: j35 :: j36 :: j37 :: j38 :: j39 :: j40 :: j41 :: j42 :: j43 :: j44 :: j45 :: j46 :: j47 :: j48 :: j49 :: j50 :: j51 :: j52 :: j53 :: j54 :: j55 :: (al false (nl E)) :: (ai E.length) :: (ai k) :: j59 :: j60 :: j61 :: j62 :: j63 :: j64 :: j65 :: j66 :: j67 :: j68 :: j69 :: j70 :: j71 :: j72 :: j73 :: j74 :: j75 :: j76 :: j77 :: j78 :: j79 :: j80 :: j81 :: j82 :: j83 :: j84 :: j85 :: j86 :: j87 :: j88 :: j89 :: j90 :: j91 :: j92 :: j93 :: j94 :: j95 :: j96 :: j97 :: j98 :: j99 :: j100 :: j101 :: j102 :: j103 :: j104 :: j105 :: j106 :: j107 :: j108 :: j109 :: j110 :: j111 :: j112 :: j113 :: j114 :: j115 :: j116 :: j117 :: j118 :: j119 :: j120 :: j121 :: []), [(5, (1, some ⟨27, 2, [tx false V w]⟩))]⟩ Q := by
  have n10 := hg.n10
  obtain ⟨hE0, hfit⟩ := fE_ok hE
  have hok := spE_ok E 0 hE0
  have hEn := nl_len E
  have hsl := spE_len E 0
  intro m
  induction m with
  | zero =>
    intro k hk b l1 hl1 hb hs he j14 j15 j16 j17 j18 j19 j20 j21 j22 j23 j24 j25 j26 j27 j28 j29 j30 j31 j32 j33 j34 j35 j36 j37 j38 j39 j40 j41 j42 j43 j44 j45 j46 j47 j48 j49 j50 j51 j52 j53 j54 j55 j59 j60 j61 j62 j63 j64 j65 j66 j67 j68 j69 j70 j71 j72 j73 j74 j75 j76 j77 j78 j79 j80 j81 j82 j83 j84 j85 j86 j87 j88 j89 j90 j91 j92 j93 j94 j95 j96 j97 j98 j99 j100 j101 j102 j103 j104 j105 j106 j107 j108 j109 j110 j111 j112 j113 j114 j115 j116 j117 j118 j119 j120 j121
    have ek : k = E.length := by omega
    have h0 : decide (k < E.length) = false := decide_eq_false (by omega)
    rw [ek, List.drop_length, spE, List.append_nil] at hs
    rw [ek, List.drop_length, eE] at he
    have hbn : b = w.length := by split at he <;> omega
    rw [← hs, hbn]
    refine W_loop (W_run 80 ?_)
    simp (maxSteps := 2000000) only [SA, Nat.reduceDiv, Nat.reduceSub, Nat.reduceAdd, Int.reduceLT, Int.reduceLE, Int.reduceToNat, Nat.reduceMul, Nat.reduceEqDiff, reduceCtorEq, Nat.reduceBEq, Nat.reduceLeDiff, Nat.reduceLT, xf7_L0, ai, al, tx, lt_cast, h0, hEn]
    rw [ek]
    exact W_stop (hK _ _ _ _ _ _ _ _ _ _ _ _ _ _ _ _ _ _ _ _ _ _ _ _ _ _ _ _ _ _ _ _ _ _ _ _ _ _ _ _ _ _ _ _ _ _ _ _ _ _ _ _ _ _ _ _ _ _ _ _ _ _ _ _ _ _ _ _ _ _ _ _ _ _ _ _ _ _ _ _ _ _ _ _ _ _ _ _ _ _ _ _ _ _ _ _ _ _ _ _ _ _ _ _ _)
  | succ m ih =>
    intro k hk b l1 hl1 hb hs he j14 j15 j16 j17 j18 j19 j20 j21 j22 j23 j24 j25 j26 j27 j28 j29 j30 j31 j32 j33 j34 j35 j36 j37 j38 j39 j40 j41 j42 j43 j44 j45 j46 j47 j48 j49 j50 j51 j52 j53 j54 j55 j59 j60 j61 j62 j63 j64 j65 j66 j67 j68 j69 j70 j71 j72 j73 j74 j75 j76 j77 j78 j79 j80 j81 j82 j83 j84 j85 j86 j87 j88 j89 j90 j91 j92 j93 j94 j95 j96 j97 j98 j99 j100 j101 j102 j103 j104 j105 j106 j107 j108 j109 j110 j111 j112 j113 j114 j115 j116 j117 j118 j119 j120 j121
    have hk1 : k < E.length := by omega
    have h0 : decide (k < E.length) = true := decide_eq_true hk1
    have hgt := get_nl hk1
    have hs2 := split_at hk1 hs
    have he0 := he
    rw [drop_at (d := 0) hk1, eE] at he
    have hlast := spE_last E 0 hE0 (Nat.zero_le _) l1 (spE (E.getD k 0) (E.drop (k + 1))) (b, E.getD k 0) (by rw [hs2, List.append_assoc]; rfl)
    have hgl : ((lftL (pf w) V E).map ai)[k]? = some (ai (lf (pf w) V b (E.getD k 0))) := by
      unfold lftL
      rw [hs2, List.append_assoc, List.map_append, List.map_append, List.getElem?_append_right (by simp [hl1])]
      simp [hl1]
    have hdl : spE (E.getD k 0) (E.drop (k + 1)) = [] ↔ k + 1 = E.length := by
      constructor
      · intro h
        have : (spE (E.getD k 0) (E.drop (k + 1))).length = 0 := by rw [h]; rfl
        rw [spE_len, List.length_drop] at this
        omega
      · intro h
        rw [List.drop_eq_nil_of_le (by omega)]; rfl
    rw [hdl] at hlast
    generalize E.getD k 0 = e at *
    have c1 : ¬ (e < 1 ∨ w.length < e) := fun h => by rw [if_pos h] at he; omega
    rw [if_neg c1] at he
    have c2 : ¬ e ≤ b := fun h => by rw [if_pos h] at he; omega
    rw [if_neg c2] at he
    have hff : fit (pf w) V b e = true := by
      have := List.all_eq_true.1 hfit (b, e) (by rw [hs2]; simp)
      exact this
    have next := ih (k + 1) (by omega) e (l1 ++ [(b, e)]) (by simp [hl1]) (by omega) hs2 he
    rw [List.map_append, List.map_cons, List.map_nil, sumI_snoc, List.map_append, List.map_cons, List.map_nil, sumI_snoc] at next
    have hlf := lleft_run hg false (i := b) (j := e) (by omega) (by omega)
    have lf1 := lf_b hg.pos (i := b) (j := e) (by omega) (by omega)
    have lf0 := fit_iff.1 hff
    have hV := hg.W1
    have wi : IntKind.i64.wrap ((k : Int) + 1) = ((k + 1 : Nat) : Int) := by rw [wrap_id (by omega) (by omega)]; simp
    have lok : ∀ p, p ∈ l1 → p.1 < p.2 ∧ p.2 ≤ w.length := fun p hp => hok p (by rw [hs2, List.append_assoc]; exact List.mem_append_left _ hp)
    have sb : 0 ≤ sumI (l1.map fun p => lf (pf w) V p.1 p.2) ∧ sumI (l1.map fun p => lf (pf w) V p.1 p.2) ≤ 40 * l1.length := by
      have := sumI_b (b := 40) (by omega) (l := l1.map fun p => lf (pf w) V p.1 p.2) fun x hx => by
        obtain ⟨p, hp, rfl⟩ := List.mem_map.1 hx
        have h1 := lok p hp
        have h2 := lf_b hg.pos h1.1 h1.2
        have h3 := List.all_eq_true.1 hfit p (by rw [hs2, List.append_assoc]; exact List.mem_append_left _ hp)
        have h4 := fit_iff.1 h3
        omega
      rw [List.length_map] at this; exact this
    have cb := cst_sum hg lok l1.length
    rw [List.take_length] at cb
    generalize sumI (l1.map fun p => lf (pf w) V p.1 p.2) = s at *
    generalize sumI (l1.map fun p => cst (pf w) V w.length p.1 p.2) = c at *
    have ws : IntKind.i64.wrap (s + lf (pf w) V b e) = s + lf (pf w) V b e := wrap_id (by omega) (by omega)
    have dn : (lf (pf w) V b e != lf (pf w) V b e) = false := by simp
    have wl : IntKind.i64.wrap ((E.length : Int) - 1) = (E.length : Int) - 1 := wrap_id (by omega) (by omega)
    refine W_loop (W_run 160 ?_)
    simp (maxSteps := 2000000) only [SA, Nat.reduceDiv, Nat.reduceSub, Nat.reduceAdd, Int.reduceLT, Int.reduceLE, Int.reduceToNat, Nat.reduceMul, Nat.reduceEqDiff, reduceCtorEq, Nat.reduceBEq, Nat.reduceLeDiff, Nat.reduceLT, xf7_L0, ai, al, tx, lt_cast, h0, hgt, hEn]
    refine W_call (args := [tx false V w, ai b, ai e]) rfl (noRefs_3 (noRef_tx _ _ _) rfl rfl) hlf rfl (W_run 160 ?_)
    by_cases hkl : k + 1 = E.length
    · have hen : e = w.length := hlast.2 hkl
      have ec : cst (pf w) V w.length b e = 0 := by unfold cst; rw [if_pos hen]
      rw [ec, Int.add_zero] at next
      have d2 : decide ((k : Int) < (E.length : Int) - 1) = false := decide_eq_false (by omega)
      simp (maxSteps := 2000000) only [SA, Nat.reduceDiv, Nat.reduceSub, Nat.reduceAdd, Int.reduceLT, Int.reduceLE, Int.reduceToNat, Nat.reduceMul, Nat.reduceEqDiff, reduceCtorEq, Nat.reduceBEq, Nat.reduceLeDiff, Nat.reduceLT, ai, al, tx, hgl, dn, ws, wl, d2, wi, hEn, List.length_map, Int.toNat_natCast]
      exact next _ _ _ _ _ _ _ _ _ _ _ _ _ _ _ _ _ _ _ _ _ _ _ _ _ _ _ _ _ _ _ _ _ _ _ _ _ _ _ _ _ _ _ _ _ _ _ _ _ _ _ _ _ _ _ _ _ _ _ _ _ _ _ _ _ _ _ _ _ _ _ _ _ _ _ _ _ _ _ _ _ _ _ _ _ _ _ _ _ _ _ _ _ _ _ _ _ _ _ _ _ _ _ _ _
    · have hen : ¬ e = w.length := fun h => hkl (hlast.1 h)
      have ec : cst (pf w) V w.length b e = sq (pf w) V b e := by unfold cst; rw [if_neg hen]
      rw [ec] at next
      have d2 : decide ((k : Int) < (E.length : Int) - 1) = true := decide_eq_true (by omega)
      have hsq := sq_b hg.pos hg.W1 (i := b) (j := e) (by omega) (by omega) hff
      have hsq0 := sq_nn (pf w) V b e
      have wq : IntKind.i64.wrap (lf (pf w) V b e * lf (pf w) V b e) = sq (pf w) V b e := by
        show IntKind.i64.wrap (sq (pf w) V b e) = _
        exact wrap_id (by omega) (by omega)
      have wc : IntKind.i64.wrap (c + sq (pf w) V b e) = c + sq (pf w) V b e := wrap_id (by omega) (by omega)
      simp (maxSteps := 2000000) only [SA, Nat.reduceDiv, Nat.reduceSub, Nat.reduceAdd, Int.reduceLT, Int.reduceLE, Int.reduceToNat, Nat.reduceMul, Nat.reduceEqDiff, reduceCtorEq, Nat.reduceBEq, Nat.reduceLeDiff, Nat.reduceLT, ai, al, tx, hgl, dn, ws, wl, d2, wi, wq, wc, hEn, List.length_map, Int.toNat_natCast]
      exact next _ _ _ _ _ _ _ _ _ _ _ _ _ _ _ _ _ _ _ _ _ _ _ _ _ _ _ _ _ _ _ _ _ _ _ _ _ _ _ _ _ _ _ _ _ _ _ _ _ _ _ _ _ _ _ _ _ _ _ _ _ _ _ _ _ _ _ _ _ _ _ _ _ _ _ _ _ _ _ _ _ _ _ _ _ _ _ _ _ _ _ _ _ _ _ _ _ _ _ _ _ _ _ _ _
theorem wrd_loop (V : Int) (w : List Int) (hg : gX V w) (E : List Nat) (s c : Int) (hs : 0 ≤ s ∧ s ≤ 100000) (H : Heap) (x0 x1 x2 x3 x7 x8 x10 x11 : AV) (K : List Fr) (Q : Out → Cfg → Prop)
    (hK : ∀ j14 j15 j16 j17 j18 j19 j20 j21 j22 j23 j24 j25 j26 j27 j28 j29 j30 j31 j32 j33 j34 j35 j36 j37 j38 j39 j40 j41 j42 j43 j44 j45 j46 j47 j48 j49 j50 j51 j52 j53 j54 j55 j56 j57 j58 j59 j60 j61 j62 j63 j64 j65 j66 j67 j68 j69 j70 j71 j72 j73 j74 j75 j76 j77 j78 j79 j80 j81 j82 j83 j84 j85 j86 j87 j88 j92 j93 j94 j95 j96 j97 j98 j99 j100 j101 j102 j103 j104 j105 j106 j107 j108 j109 j110 j111 j112 j113 j114 j115 j116 j117 j118 j119 j120 j121 : AV, W Try.prog (RelU Try.prog xf) 0 K ⟨(x0 :: x1 :: x2 :: x3 :: (ab false) :: (.o 5 1 1 0 0) :: (al false (nl E)) :: x7 :: x8 :: (ai c) :: x10 :: x11 :: (ai (s + sumI w)) :: (ai c) :: j14 :: j15 :: j16 :: j17 :: j18 :: j19 :: j20 :: j21 :: j22 :: j23 :: j24 :: j25 :: j26 :: j27 :: j28 :: j29 :: j30 :: j31 :: j32 :: j33 :: j34 :: j35 :: j36 :: j37 :: j38 :: j39 :: j40 :: j41 :: j42 :: j43 :: j44 :: j45 :: j46 :: j47 :: j48 :: j49 :: j50 :: j51 :: j52 :: j53 :: j54 :: j55 :: j56 :: j57 :: j58 :: j59 :: j60 :: j61 :: j62 :: j63 :: j64 :: j65 :: j66 :: j67 :: j68 :: j69 :: j70 :: j71 :: j72 :: j73 :: j74 :: j75 :: j76 :: j77 :: j78 :: j79 :: j80 :: j81 :: j82 :: j83 :: j84 :: j85 :: j86 :: j87 :: j88 :: (al false w) :: (ai w.length) :: (ai w.length) :: j92 :: j93 :: j94 :: j95 :: j96 :: j97 :: j98 :: j99 :: j100 :: j101 :: j102 :: j103 :: j104 :: j105 :: j106 :: j107 :: j108 :: j109 :: j110 :: j111 :: j112 :: j113 :: j114 :: j115 :: j116 :: j117 :: j118 :: j119 :: j120 :: j121 :: []), H⟩ Q) :
    ∀ (m k : Nat), k + m = w.length → ∀ j14 j15 j16 j17 j18 j19 j20 j21 j22 j23 j24 j25 j26 j27 j28 j29 j30 j31 j32 j33 j34 j35 j36 j37 j38 j39 j40 j41 j42 j43 j44 j45 j46 j47 j48 j49 j50 j51 j52 j53 j54 j55 j56 j57 j58 j59 j60 j61 j62 j63 j64 j65 j66 j67 j68 j69 j70 j71 j72 j73 j74 j75 j76 j77 j78 j79 j80 j81 j82 j83 j84 j85 j86 j87 j88 j92 j93 j94 j95 j96 j97 j98 j99 j100 j101 j102 j103 j104 j105 j106 j107 j108 j109 j110 j111 j112 j113 j114 j115 j116 j117 j118 j119 j120 j121 : AV, W Try.prog (RelU Try.prog xf) 0 (.code (.loop xf7_L1) :: .blk 2 :: .stop :: K) ⟨(x0 :: x1 :: x2 :: x3 :: (ab false) :: (.o 5 1 1 0 0) :: (al false (nl E)) :: x7 :: x8 :: (ai c) :: x10 :: x11 :: (ai (s + sumI (w.take k))) :: (ai c) :: j14 :: j15 :: j16 :: j17 :: j18 :: j19 :: j20 :: j21 :: j22 :: j23 :: j24 :: j25 :: j26 :: j27 :: j28 :: j29 :: j30 :: j31 :: j32 :: j33 :: j34 :: j35 :: j36 :: j37 :: j38 :: j39 :: j40 :: j41 :: j42 :: j43 :: j44 :: j45 :: j46 :: j47 :: j48 :: j49 :: j50 :: j51 :: j52 :: j53 :: j54 :: j55 :: j56 :: j57 :: j58 :: j59 :: j60 :: j61 :: j62 :: j63 :: j64 :: j65 :: j66 :: j67 :: j68 :: j69 :: j70 :: j71 :: j72 :: j73 :: j74 :: j75 :: j76 :: j77 :: j78 :: j79 :: j80 :: j81 :: j82 :: j83 :: j84 :: j85 :: j86 :: j87 :: j88 :: (al false w) :: (ai w.length) :: (ai k) :: j92 :: j93 :: j94 :: j95 :: j96 :: j97 :: j98 :: j99 :: j100 :: j101 :: j102 :: j103 :: j104 :: j105 :: j106 :: j107 :: j108 :: j109 :: j110 :: j111 :: j112 :: j113 :: j114 :: j115 :: j116 :: j117 :: j118 :: j119 :: j120 :: j121 :: []), H⟩ Q := by
  have n10 := hg.n10
  have hV := hg.W1
  intro m
  induction m with
  | zero =>
    intro k hk j14 j15 j16 j17 j18 j19 j20 j21 j22 j23 j24 j25 j26 j27 j28 j29 j30 j31 j32 j33 j34 j35 j36 j37 j38 j39 j40 j41 j42 j43 j44 j45 j46 j47 j48 j49 j50 j51 j52 j53 j54 j55 j56 j57 j58 j59 j60 j61 j62 j63 j64 j65 j66 j67 j68 j69 j70 j71 j72 j73 j74 j75 j76 j77 j78 j79 j80 j81 j82 j83 j84 j85 j86 j87 j88 j92 j93 j94 j95 j96 j97 j98 j99 j100 j101 j102 j103 j104 j105 j106 j107 j108 j109 j110 j111 j112 j113 j114 j115 j116 j117 j118 j119 j120 j121
    have ek : k = w.length := by omega
    have h0 : decide (k < w.length) = false := decide_eq_false (by omega)
    rw [show w.take k = w from List.take_of_length_le (by omega)]
    refine W_loop (W_run 80 ?_)
    simp (maxSteps := 2000000) only [SA, Nat.reduceDiv, Nat.reduceSub, Nat.reduceAdd, Int.reduceLT, Int.reduceLE, Int.reduceToNat, Nat.reduceMul, Nat.reduceEqDiff, reduceCtorEq, Nat.reduceBEq, Nat.reduceLeDiff, Nat.reduceLT, xf7_L1, ai, al, lt_cast, h0]
    rw [ek]
    exact W_stop (hK _ _ _ _ _ _ _ _ _ _ _ _ _ _ _ _ _ _ _ _ _ _ _ _ _ _ _ _ _ _ _ _ _ _ _ _ _ _ _ _ _ _ _ _ _ _ _ _ _ _ _ _ _ _ _ _ _ _ _ _ _ _ _ _ _ _ _ _ _ _ _ _ _ _ _ _ _ _ _ _ _ _ _ _ _ _ _ _ _ _ _ _ _ _ _ _ _ _ _ _ _ _ _ _ _)
  | succ m ih =>
    intro k hk j14 j15 j16 j17 j18 j19 j20 j21 j22 j23 j24 j25 j26 j27 j28 j29 j30 j31 j32 j33 j34 j35 j36 j37 j38 j39 j40 j41 j42 j43 j44 j45 j46 j47 j48 j49 j50 j51 j52 j53 j54 j55 j56 j57 j58 j59 j60 j61 j62 j63 j64 j65 j66 j67 j68 j69 j70 j71 j72 j73 j74 j75 j76 j77 j78 j79 j80 j81 j82 j83 j84 j85 j86 j87 j88 j92 j93 j94 j95 j96 j97 j98 j99 j100 j101 j102 j103 j104 j105 j106 j107 j108 j109 j110 j111 j112 j113 j114 j115 j116 j117 j118 j119 j120 j121
    have hk1 : k < w.length := by omega
    have h0 : decide (k < w.length) = true := decide_eq_true hk1
    have hgt : (w.map ai)[k]? = some (ai (w.getD k 0)) := by rw [List.getElem?_map, getD_at hk1]; rfl
    have hc := hg.cel _ (getD_in (d := 0) hk1)
    have hb := sumI_b (b := 40) (by omega) (l := w.take k) fun x hx => by have := hg.cel x (List.mem_of_mem_take hx); omega
    have hl : (w.take k).length = k := by rw [List.length_take]; omega
    have next := ih (k + 1) (by omega)
    rw [take_snoc (d := 0) hk1, sumI_snoc, ← Int.add_assoc] at next
    generalize w.getD k 0 = z at *
    generalize sumI (w.take k) = t at *
    have wi : IntKind.i64.wrap ((k : Int) + 1) = ((k + 1 : Nat) : Int) := by rw [wrap_id (by omega) (by omega)]; simp
    have ws : IntKind.i64.wrap (s + t + z) = s + t + z := wrap_id (by omega) (by omega)
    refine W_loop (W_run 80 ?_)
    simp (maxSteps := 2000000) only [SA, Nat.reduceDiv, Nat.reduceSub, Nat.reduceAdd, Int.reduceLT, Int.reduceLE, Int.reduceToNat, Nat.reduceMul, Nat.reduceEqDiff, reduceCtorEq, Nat.reduceBEq, Nat.reduceLeDiff, Nat.reduceLT, xf7_L1, ai, al, lt_cast, h0, hgt, wi, ws, Int.toNat_natCast]
    exact next _ _ _ _ _ _ _ _ _ _ _ _ _ _ _ _ _ _ _ _ _ _ _ _ _ _ _ _ _ _ _ _ _ _ _ _ _ _ _ _ _ _ _ _ _ _ _ _ _ _ _ _ _ _ _ _ _ _ _ _ _ _ _ _ _ _ _ _ _ _ _ _ _ _ _ _ _ _ _ _ _ _ _ _ _ _ _ _ _ _ _ _ _ _ _ _ _ _ _ _ _ _ _ _ _
theorem noRef_gal (a b e : Int) (H : List Int) : noRef (gal a b e H) = true := noRefs_of fun x hx => by
  simp only [List.mem_cons, List.mem_map] at hx
  rcases hx with rfl | rfl | rfl | ⟨z, _, rfl⟩ <;> rfl
theorem noRef_stp (S : List Int) : noRef (stp S) = true := noRefs_of fun x hx => by obtain ⟨z, _, rfl⟩ := List.mem_map.1 hx; rfl
theorem total_law {a b e : Int} {H S : List Int} (ha : 0 ≤ a ∧ a ≤ 255) (hb : 0 ≤ b ∧ b ≤ 255) (he : 0 ≤ e ∧ e ≤ 255) (hH : H.length = 10) (bH : ∀ x, x ∈ H → 0 ≤ x ∧ x ≤ 255) (hS : S.length = 10) (hw : Runs Try.prog xf 25 [] (ab true)) :
    Runs Try.prog xf 7 [gal a b e H, stp S] (ab true) := by
  obtain ⟨r, ⟨V, w, rfl, hg, hm⟩, hmade⟩ := gal_made (m := 10) (by omega) ha hb he hH bH
  obtain ⟨r, ⟨E, rfl, hE, hEl⟩, hbr⟩ := broken_run hg false hS
  have n1 := hg.n1
  have n10 := hg.n10
  have hV := hg.W1
  have hleft := left2_run hg false false (E := E) (by omega)
  have hcost := cost2_run hg false false (E := E) (by omega)
  have hfits := fits2_run hg false false (E := E) (by omega)
  unfold leftR at hleft
  unfold costR at hcost
  rw [if_pos hE] at hleft hcost
  rw [hE] at hfits
  have hEn := nl_len E
  have hll : (lftL (pf w) V E).length = E.length := by unfold lftL; rw [List.length_map, spE_len]
  obtain ⟨hE0, hfit⟩ := fE_ok hE
  have hsum := lf_sum (q := pf w) (V := V) E 0 hE0
  have hsum2 : sumI (lftL (pf w) V E) = E.length * (V + 1) - (pf w w.length - pf w 0) := hsum
  have hp0 : pf w 0 = 0 := rfl
  have hpn : pf w w.length = sumI w + w.length := by unfold pf; rw [List.take_length]
  have hpb := hg.pb w.length (Nat.le_refl _)
  have hmul : (E.length : Int) * (V + 1) = E.length * V + E.length := by rw [Int.mul_add, Int.mul_one]
  have hmb : 0 ≤ (E.length : Int) * V ∧ (E.length : Int) * V ≤ 10 * 40 := ⟨Int.mul_nonneg (by omega) (by omega), Int.mul_le_mul (by omega) (by omega) (by omega) (by omega)⟩
  have hnn : 0 ≤ sumI (lftL (pf w) V E) := (sumI_b (b := 40) (by omega) (l := lftL (pf w) V E) fun x hx => by
    unfold lftL at hx
    obtain ⟨p, hp, rfl⟩ := List.mem_map.1 hx
    have h1 := spE_ok E 0 hE0 p hp
    have h2 := lf_b hg.pos h1.1 h1.2
    have h3 := fit_iff.1 (List.all_eq_true.1 hfit p hp)
    omega).1
  have e00 : ((0 : Int) == 0) = true := rfl
  have n00 : ((0 : Int) != 0) = false := rfl
  have nn : ((E.length : Int) != (E.length : Int)) = false := by simp
  have hgl : (H.map u8).length = 10 := by simp [hH]
  have htk : (u8 a :: u8 b :: u8 e :: H.map u8).take 13 = u8 a :: u8 b :: u8 e :: H.map u8 := List.take_of_length_le (by simp [hH])
  have hgn := noRef_gal a b e H
  have hsn := noRef_stp S
  have hst : (S.map u8).take 10 = S.map u8 := List.take_of_length_le (by simp [hS])
  have hsl : (S.map u8).length = 10 := by simp [hS]
  have wbl : IntKind.i64.wrap ((w.length : Int) - E.length) = (w.length : Int) - E.length := wrap_id (by omega) (by omega)
  have wmu : IntKind.i64.wrap ((E.length : Int) * V) = E.length * V := wrap_id (by omega) (by omega)
  have wsb : IntKind.i64.wrap (sumI (lftL (pf w) V E) + sumI w + ((w.length : Int) - E.length)) = E.length * V := by rw [wrap_id (by omega) (by omega)]; omega
  have hee : ∀ z : Int, (z == z) = true := fun z => by simp
  unfold gal at hmade hgn ⊢
  generalize hGG : u8 a :: u8 b :: u8 e :: H.map u8 = G at hmade hgn htk ⊢
  have hGlen : G.length = 13 := by rw [← hGG]; simp [hH]
  unfold stp at hbr hsn ⊢
  generalize hSS : S.map u8 = SS at hbr hsn hst hsl ⊢
  refine Runs.ofW (fn := xf7) 20 (by kernel_rfl) (W_run 160 ?_)
  simp (maxSteps := 2000000) only [SA, Nat.reduceDiv, Nat.reduceSub, Nat.reduceAdd, Int.reduceLT, Int.reduceLE, Int.reduceToNat, Nat.reduceMul, Nat.reduceEqDiff, reduceCtorEq, Nat.reduceBEq, Nat.reduceLeDiff, Nat.reduceLT, xf7, ai, hGlen, htk, hsl, hst]
  refine W_call (args := [.ag G, ai 10]) rfl (noRefs_2 hgn rfl) hmade (noRef_tx _ _ _) (W_run 160 ?_)
  simp (maxSteps := 2000000) only [SA, Nat.reduceDiv, Nat.reduceSub, Nat.reduceAdd, Int.reduceLT, Int.reduceLE, Int.reduceToNat, Nat.reduceMul, Nat.reduceEqDiff, reduceCtorEq, Nat.reduceBEq, Nat.reduceLeDiff, Nat.reduceLT, ai, al, tx, hst, hsl, List.map_cons, List.map_nil]
  refine W_call (args := [tx false V w, .ag SS]) rfl (noRefs_2 (noRef_tx _ _ _) hsn) hbr (noRef_al _ _) (W_run 160 ?_)
  simp (maxSteps := 2000000) only [SA, Nat.reduceDiv, Nat.reduceSub, Nat.reduceAdd, Int.reduceLT, Int.reduceLE, Int.reduceToNat, Nat.reduceMul, Nat.reduceEqDiff, reduceCtorEq, Nat.reduceBEq, Nat.reduceLeDiff, Nat.reduceLT, ai, al, tx]
  refine W_call (args := [tx false V w, al false (nl E)]) rfl (noRefs_2 (noRef_tx _ _ _) (noRef_al _ _)) hleft (noRef_t2 (noRef_al _ _) rfl) (W_run 160 ?_)
  simp (maxSteps := 2000000) only [SA, Nat.reduceDiv, Nat.reduceSub, Nat.reduceAdd, Int.reduceLT, Int.reduceLE, Int.reduceToNat, Nat.reduceMul, Nat.reduceEqDiff, reduceCtorEq, Nat.reduceBEq, Nat.reduceLeDiff, Nat.reduceLT, ai, al, tx]
  refine W_call (args := [tx false V w, al false (nl E)]) rfl (noRefs_2 (noRef_tx _ _ _) (noRef_al _ _)) hcost rfl (W_run 160 ?_)
  simp (maxSteps := 2000000) only [SA, Nat.reduceDiv, Nat.reduceSub, Nat.reduceAdd, Int.reduceLT, Int.reduceLE, Int.reduceToNat, Nat.reduceMul, Nat.reduceEqDiff, reduceCtorEq, Nat.reduceBEq, Nat.reduceLeDiff, Nat.reduceLT, ai, al, tx, n00, hEn, hll, nn]
  refine W_call (args := [tx false V w, al false (nl E)]) rfl (noRefs_2 (noRef_tx _ _ _) (noRef_al _ _)) hfits rfl (W_run 160 ?_)
  simp (maxSteps := 2000000) only [SA, Nat.reduceDiv, Nat.reduceSub, Nat.reduceAdd, Int.reduceLT, Int.reduceLE, Int.reduceToNat, Nat.reduceMul, Nat.reduceEqDiff, reduceCtorEq, Nat.reduceBEq, Nat.reduceLeDiff, Nat.reduceLT, ai, al, tx, n00, hEn]
  refine W_alone (tot_loop V w hg E hE hEl _ _ _ _ _ _ _ _ (fun j14 j15 j16 j17 j18 j19 j20 j21 j22 j23 j24 j25 j26 j27 j28 j29 j30 j31 j32 j33 j34 j35 j36 j37 j38 j39 j40 j41 j42 j43 j44 j45 j46 j47 j48 j49 j50 j51 j52 j53 j54 j55 j59 j60 j61 j62 j63 j64 j65 j66 j67 j68 j69 j70 j71 j72 j73 j74 j75 j76 j77 j78 j79 j80 j81 j82 j83 j84 j85 j86 j87 j88 j89 j90 j91 j92 j93 j94 j95 j96 j97 j98 j99 j100 j101 j102 j103 j104 j105 j106 j107 j108 j109 j110 j111 j112 j113 j114 j115 j116 j117 j118 j119 j120 j121 => W_run 160 ?_) E.length 0 (by omega) 0 [] rfl (Nat.zero_le _) rfl hE0 _ _ _ _ _ _ _ _ _ _ _ _ _ _ _ _ _ _ _ _ _ _ _ _ _ _ _ _ _ _ _ _ _ _ _ _ _ _ _ _ _ _ _ _ _ _ _ _ _ _ _ _ _ _ _ _ _ _ _ _ _ _ _ _ _ _ _ _ _ _ _ _ _ _ _ _ _ _ _ _ _ _ _ _ _ _ _ _ _ _ _ _ _ _ _ _ _ _ _ _ _ _ _ _ _)
  simp (maxSteps := 2000000) only [SA, Nat.reduceDiv, Nat.reduceSub, Nat.reduceAdd, Int.reduceLT, Int.reduceLE, Int.reduceToNat, Nat.reduceMul, Nat.reduceEqDiff, reduceCtorEq, Nat.reduceBEq, Nat.reduceLeDiff, Nat.reduceLT, xf7_R0, xf7_R1, ai, al, tx]
  rw [show (AV.v (Value.int .i64 (sumI (lftL (pf w) V E)))) = ai (sumI (lftL (pf w) V E) + sumI (w.take 0)) by rw [List.take_zero]; show _ = ai (_ + 0); rw [Int.add_zero]; rfl]
  refine W_alone (wrd_loop V w hg E (sumI (lftL (pf w) V E)) (cstL (pf w) V w.length E) (by omega) _ _ _ _ _ _ _ _ _ _ _ (fun j14 j15 j16 j17 j18 j19 j20 j21 j22 j23 j24 j25 j26 j27 j28 j29 j30 j31 j32 j33 j34 j35 j36 j37 j38 j39 j40 j41 j42 j43 j44 j45 j46 j47 j48 j49 j50 j51 j52 j53 j54 j55 j56 j57 j58 j59 j60 j61 j62 j63 j64 j65 j66 j67 j68 j69 j70 j71 j72 j73 j74 j75 j76 j77 j78 j79 j80 j81 j82 j83 j84 j85 j86 j87 j88 j92 j93 j94 j95 j96 j97 j98 j99 j100 j101 j102 j103 j104 j105 j106 j107 j108 j109 j110 j111 j112 j113 j114 j115 j116 j117 j118 j119 j120 j121 => W_run 160 ?_) w.length 0 (by omega) _ _ _ _ _ _ _ _ _ _ _ _ _ _ _ _ _ _ _ _ _ _ _ _ _ _ _ _ _ _ _ _ _ _ _ _ _ _ _ _ _ _ _ _ _ _ _ _ _ _ _ _ _ _ _ _ _ _ _ _ _ _ _ _ _ _ _ _ _ _ _ _ _ _ _ _ _ _ _ _ _ _ _ _ _ _ _ _ _ _ _ _ _ _ _ _ _ _ _ _ _ _ _ _ _)
  simp (maxSteps := 2000000) only [SA, Nat.reduceDiv, Nat.reduceSub, Nat.reduceAdd, Int.reduceLT, Int.reduceLE, Int.reduceToNat, Nat.reduceMul, Nat.reduceEqDiff, reduceCtorEq, Nat.reduceBEq, Nat.reduceLeDiff, Nat.reduceLT, ai, al, tx, hEn, wbl, wsb, wmu, hee]
  refine W_call (args := []) rfl rfl hw rfl (W_run 160 ?_)
  simp (maxSteps := 2000000) only [SA, Nat.reduceDiv, Nat.reduceSub, Nat.reduceAdd, Int.reduceLT, Int.reduceLE, Int.reduceToNat, Nat.reduceMul, Nat.reduceEqDiff, reduceCtorEq, Nat.reduceBEq, Nat.reduceLeDiff, Nat.reduceLT, ai, ab, al, tx]
  exact W_ret1 (WX_nil ⟨.inl rfl, _, rfl, rfl⟩)
end Go.Proofs.Ytdmffkknghianaa

