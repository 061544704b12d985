/-
  Package line: ends: spansOf, Fits, Left, Cost.
-/
import Derived.Test.YtdmffkknghianaaMg
set_option linter.unusedSimpArgs false
set_option linter.unusedVariables false
namespace Go.Proofs.Ytdmffkknghianaa
open Go Go.Proofs.Eng
set_option maxRecDepth 100000
set_option maxHeartbeats 4000000
/-- what is wrong with ends -/
def eE (n : Nat) : Nat → List Nat → Int
  | b, [] => if b = n then 0 else 5
  | b, e :: t => if e < 1 ∨ n < e then 2 else if e ≤ b then 7 else eE n e t
def spE : Nat → List Nat → List (Nat × Nat)
  | _, [] => []
  | b, e :: t => (b, e) :: spE e t
def shP (p : Nat × Nat) : AV := spn p.1 p.2
def spR (l : List (Nat × Nat)) : AV := .sl 2 false (l.map shP)
theorem noRef_spR (l : List (Nat × Nat)) : noRef (spR l) = true := noRefs_of fun x hx => by obtain ⟨z, _, rfl⟩ := List.mem_map.1 hx; rfl
theorem elem_shP (η : List (Nat × (Nat × Option Ob))) (n : Nat) (p : Nat × Nat) : elemR (reify η (n + 1)) (shP p) = some (shP p) := rfl
def fE (q : Nat → Int) (V : Int) (n : Nat) (E : List Nat) : Int := if eE n 0 E = 0 then (if (spE 0 E).all (fun p => fit q V p.1 p.2) = true then 0 else 15) else eE n 0 E
theorem spE_len : ∀ (E : List Nat) (b : Nat), (spE b E).length = E.length
  | [], _ => rfl
  | e :: t, b => by rw [spE, List.length_cons, spE_len t e, List.length_cons]
theorem spE_ok {n : Nat} : ∀ (E : List Nat) (b : Nat), eE n b E = 0 → ∀ p, p ∈ spE b E → p.1 < p.2 ∧ p.2 ≤ n
  | [], _, _, p, hp => by simp [spE] at hp
  | e :: t, b, h, p, hp => by
    rw [eE] at h
    split at h
    · omega
    · split at h
      · omega
      · rw [spE] at hp
        rcases List.mem_cons.1 hp with rfl | hp
        · exact ⟨by simp only; omega, by simp only; omega⟩
        · exact spE_ok t e h p hp
theorem eE_nn (n : Nat) : ∀ (E : List Nat) (b : Nat), 0 ≤ eE n b E ∧ eE n b E ≤ 15
  | [], b => by rw [eE]; split <;> omega
  | e :: t, b => by
    rw [eE]
    split
    · omega
    · split
      · omega
      · exact eE_nn n t e
theorem get_nl {E : List Nat} {k : Nat} (h : k < E.length) : ((nl E).map ai)[k]? = some (ai (E.getD k 0 : Nat)) := by
  unfold nl
  rw [List.map_map, List.getElem?_map, getD_at (d := 0) h]; rfl
theorem nl_len (E : List Nat) : (nl E).length = E.length := by unfold nl; rw [List.length_map]
theorem named18 {q : Nat × Option Ob} (j : Nat) : Go.Proofs.Eng.look [(18, q)] j = Go.Proofs.Eng.look [(12, (0, (none : Option Ob))), (18, q)] j := by
  simp only [Go.Proofs.Eng.look]
  by_cases h : 12 = j
  · subst h; simp
  · simp [h]
theorem spa_loop (V : Int) (w : List Int) (f g : Bool) (E : List Nat) (hn : w.length ≤ 10) (hE : E.length ≤ 100) (x6 : AV) (K : List Fr) (Q : Out → Cfg → Prop)
    (hK : ∀ (l : List (Nat × Nat)) (b : Nat), l = spE 0 E → eE w.length 0 E = (if b = w.length then 0 else 5) → ∀ j3 j9 j10 j11 j12 j13 j14 j15 j16 j17 j18 j22 j23 j24 j25 j26 j27 j28 j29 j30 j31 j32 j33 j34 j35 j36 j37 j38 j39 j40 j41 j42 j43 j44 j45 j46 j47 j48 j49 j50 j51 j52 j53 j54 j55 j56 j57 j58 j59 : AV, W Try.prog (RelU Try.prog xf) 0 K ⟨((tx f V w) :: (al g (nl E)) :: (.ptr (tx f V w)) :: j3 :: nilA :: (ai 0) :: x6 :: (.os 18 1 l.length 2 0 l.length) :: (ai b) :: j9 :: j10 :: j11 :: j12 :: j13 :: j14 :: j15 :: j16 :: j17 :: j18 :: (al g (nl E)) :: (ai E.length) :: (ai E.length) :: j22 :: j23 :: j24 :: j25 :: j26 :: j27 :: j28 :: j29 :: j30 :: j31 :: j32 :: j33 :: j34 :: j35 :: j36 :: j37 :: j38 :: j39 :: j40 :: j41 :: j42 :: j43 :: j44 :: j45 :: j46 :: j47 :: j48 :: j49 :: j50 :: j51 :: j52 :: j53 :: j54 :: j55 :: j56 :: j57 :: j58 :: j59 :: []), [(18, (1, some ⟨77, 2, l.map shP⟩))]⟩ Q)
    (hR : eE w.length 0 E ≠ 0 → ∀ (l : List (Nat × Nat)) (b k : Nat), ∀ j3 j9 j10 j11 j12 j13 j14 j15 j16 j17 j18 j22 j23 j24 j25 j26 j27 j28 j29 j30 j31 j32 j33 j34 j35 j36 j37 j38 j39 j40 j41 j42 j43 j44 j45 j46 j47 j48 j49 j50 j51 j52 j53 j54 j55 j56 j57 j58 j59 : AV, WX Try.prog (RelU Try.prog xf) 0 K .ret ⟨((tx f V w) :: (al g (nl E)) :: (.ptr (tx f V w)) :: j3 :: nilA :: (ai (eE w.length 0 E)) :: x6 :: (.os 18 1 l.length 2 0 l.length) :: (ai b) :: j9 :: j10 :: j11 :: j12 :: j13 :: j14 :: j15 :: j16 :: j17 :: j18 :: (al g (nl E)) :: (ai E.length) :: (ai k) :: j22 :: j23 :: j24 :: j25 :: j26 :: j27 :: j28 :: j29 :: j30 :: j31 :: j32 :: j33 :: j34 :: j35 :: j36 :: j37 :: j38 :: j39 :: j40 :: j41 :: j42 :: j43 :: j44 :: j45 :: j46 :: j47 :: j48 :: j49 :: j50 :: j51 :: j52 :: j53 :: j54 :: j55 :: j56 :: j57 :: j58 :: j59 :: []), [(18, (1, some ⟨77, 2, l.map shP⟩))]⟩ Q) :
    ∀ (m k : Nat), k + m = E.length → ∀ (l : List (Nat × Nat)) (b : Nat), l.length ≤ k → spE 0 E = l ++ spE b (E.drop k) → eE w.length 0 E = eE w.length b (E.drop k) → ∀ j3 j9 j10 j11 j12 j13 j14 j15 j16 j17 j18 j22 j23 j24 j25 j26 j27 j28 j29 j30 j31 j32 j33 j34 j35 j36 j37 j38 j39 j40 j41 j42 j43 j44 j45 j46 j47 j48 j49 j50 j51 j52 j53 j54 j55 j56 j57 j58 j59 : AV, W Try.prog (RelU Try.prog xf) 0 (.code (.loop xf57_L0) :: .blk 0 :: .stop :: K) ⟨((tx f V w) :: (al g (nl E)) :: (.ptr (tx f V w)) :: j3 :: nilA :: (ai 0) :: x6 :: (.os 18 1 l.length 2 0 l.length) :: (ai b) :: j9 :: j10 :: j11 :: j12 :: j13 :: j14 :: j15 :: j16 :: j17 :: j18 :: (al g (nl E)) :: (ai E.length) :: (ai k) :: j22 :: j23 :: j24 :: j25 :: j26 :: j27 :: j28 :: j29 :: j30 :: j31 :: j32 :: j33 :: j34 :: j35 :: j36 :: j37 :: j38 :: j39 :: j40 :: j41 :: j42 :: j43 :: j44 :: j45 :: j46 :: j47 :: j48 :: j49 :: j50 :: j51 :: j52 :: j53 :: j54 :: j55 :: j56 :: j57 :: j58 :: j59 :: []), [(18, (1, some ⟨77, 2, l.map shP⟩))]⟩ Q := by
  have hnl := nl_len E
  intro m
  induction m with
  | zero =>
    intro k hk l b hl h1 h2 j3 j9 j10 j11 j12 j13 j14 j15 j16 j17 j18 j22 j23 j24 j25 j26 j27 j28 j29 j30 j31 j32 j33 j34 j35 j36 j37 j38 j39 j40 j41 j42 j43 j44 j45 j46 j47 j48 j49 j50 j51 j52 j53 j54 j55 j56 j57 j58 j59
    have ek : k = E.length := by omega
    have h0 : decide (k < E.length) = false := decide_eq_false (by omega)
    rw [ek, List.drop_length] at h1 h2
    rw [spE, List.append_nil] at h1
    rw [eE] at h2
    refine W_loop (W_run 80 ?_)
    simp (maxSteps := 2000000) only [SA, Nat.reduceDiv, Nat.reduceSub, Nat.reduceAdd, Int.reduceLT, Int.reduceLE, Int.reduceToNat, Nat.reduceMul, Nat.reduceEqDiff, reduceCtorEq, Nat.reduceBEq, Nat.reduceLeDiff, Nat.reduceLT, xf57_L0, ai, al, tx, lt_cast, h0, hnl]
    rw [ek]
    exact W_stop (hK l b h1.symm h2 _ _ _ _ _ _ _ _ _ _ _ _ _ _ _ _ _ _ _ _ _ _ _ _ _ _ _ _ _ _ _ _ _ _ _ _ _ _ _ _ _ _ _ _ _ _ _ _ _)
  | succ m ih =>
    intro k hk l b hl h1 h2 j3 j9 j10 j11 j12 j13 j14 j15 j16 j17 j18 j22 j23 j24 j25 j26 j27 j28 j29 j30 j31 j32 j33 j34 j35 j36 j37 j38 j39 j40 j41 j42 j43 j44 j45 j46 j47 j48 j49 j50 j51 j52 j53 j54 j55 j56 j57 j58 j59
    have hk1 : k < E.length := by omega
    have h0 : decide (k < E.length) = true := decide_eq_true hk1
    have hgt := get_nl hk1
    have wi : IntKind.i64.wrap ((k : Int) + 1) = ((k + 1 : Nat) : Int) := by rw [wrap_id (by omega) (by omega)]; simp
    rw [drop_at (d := 0) hk1, spE] at h1
    rw [drop_at (d := 0) hk1, eE] at h2
    generalize E.getD k 0 = e at *
    by_cases c1 : e < 1
    · have d1 : decide ((e : Int) < 1) = true := decide_eq_true (by omega)
      rw [if_pos (.inl c1)] at h2
      refine W_loop (W_run 80 ?_)
      simp (maxSteps := 2000000) only [SA, Nat.reduceDiv, Nat.reduceSub, Nat.reduceAdd, Int.reduceLT, Int.reduceLE, Int.reduceToNat, Nat.reduceMul, Nat.reduceEqDiff, reduceCtorEq, Nat.reduceBEq, Nat.reduceLeDiff, Nat.reduceLT, xf57_L0, ai, al, tx, lt_cast, h0, hgt, d1]
      have := hR (by rw [h2]; decide) l b k
      rw [h2] at this
      exact W_ret1 (WX_pop (this _ _ _ _ _ _ _ _ _ _ _ _ _ _ _ _ _ _ _ _ _ _ _ _ _ _ _ _ _ _ _ _ _ _ _ _ _ _ _ _ _ _ _ _ _ _ _ _ _))
    · have d1 : decide ((e : Int) < 1) = false := decide_eq_false (by omega)
      by_cases c2 : w.length < e
      · have d2 : decide (((w.length : Nat) : Int) < (e : Int)) = true := decide_eq_true (by omega)
        rw [if_pos (.inr c2)] at h2
        refine W_loop (W_run 80 ?_)
        simp (maxSteps := 2000000) only [SA, Nat.reduceDiv, Nat.reduceSub, Nat.reduceAdd, Int.reduceLT, Int.reduceLE, Int.reduceToNat, Nat.reduceMul, Nat.reduceEqDiff, reduceCtorEq, Nat.reduceBEq, Nat.reduceLeDiff, Nat.reduceLT, xf57_L0, ai, al, tx, lt_cast, h0, hgt, d1]
        refine W_call (args := [tx f V w]) rfl (noRefs_1 (noRef_tx _ _ _)) (last_run V w f) rfl (W_run 80 ?_)
        simp (maxSteps := 2000000) only [SA, Nat.reduceDiv, Nat.reduceSub, Nat.reduceAdd, Int.reduceLT, Int.reduceLE, Int.reduceToNat, Nat.reduceMul, Nat.reduceEqDiff, reduceCtorEq, Nat.reduceBEq, Nat.reduceLeDiff, Nat.reduceLT, ai, al, tx, lt_cast, c2, decide_true]
        have := hR (by rw [h2]; decide) l b k
        rw [h2] at this
        exact W_ret1 (WX_pop (this _ _ _ _ _ _ _ _ _ _ _ _ _ _ _ _ _ _ _ _ _ _ _ _ _ _ _ _ _ _ _ _ _ _ _ _ _ _ _ _ _ _ _ _ _ _ _ _ _))
      · have d2 : decide (w.length < e) = false := decide_eq_false c2
        rw [if_neg (by omega)] at h2
        by_cases c3 : e ≤ b
        · have d3 : decide (e ≤ b) = true := decide_eq_true c3
          have d3' : decide ((e : Int) ≤ (b : Int)) = true := decide_eq_true (by omega)
          rw [if_pos c3] at h2
          refine W_loop (W_run 80 ?_)
          simp (maxSteps := 2000000) only [SA, Nat.reduceDiv, Nat.reduceSub, Nat.reduceAdd, Int.reduceLT, Int.reduceLE, Int.reduceToNat, Nat.reduceMul, Nat.reduceEqDiff, reduceCtorEq, Nat.reduceBEq, Nat.reduceLeDiff, Nat.reduceLT, xf57_L0, ai, al, tx, lt_cast, h0, hgt, d1]
          refine W_call (args := [tx f V w]) rfl (noRefs_1 (noRef_tx _ _ _)) (last_run V w f) rfl (W_run 80 ?_)
          simp (maxSteps := 2000000) only [SA, Nat.reduceDiv, Nat.reduceSub, Nat.reduceAdd, Int.reduceLT, Int.reduceLE, Int.reduceToNat, Nat.reduceMul, Nat.reduceEqDiff, reduceCtorEq, Nat.reduceBEq, Nat.reduceLeDiff, Nat.reduceLT, ai, al, tx, lt_cast, d2, d3, d3']
          have := hR (by rw [h2]; decide) l b k
          rw [h2] at this
          exact W_ret1 (WX_pop (this _ _ _ _ _ _ _ _ _ _ _ _ _ _ _ _ _ _ _ _ _ _ _ _ _ _ _ _ _ _ _ _ _ _ _ _ _ _ _ _ _ _ _ _ _ _ _ _ _))
        · have d3 : decide (e ≤ b) = false := decide_eq_false c3
          have d3' : decide ((e : Int) ≤ (b : Int)) = false := decide_eq_false (by omega)
          rw [if_neg c3] at h2
          have q1 : (l.length + 1) * 16 ≤ 100000000000000 := by omega
          have q2 : l.length + 1 ≤ 100000000000000 := by omega
          have next := ih (k + 1) (by omega) (l ++ [(b, e)]) e (by rw [List.length_append]; simp; omega) (by rw [h1, List.append_assoc]; rfl) h2
          rw [List.length_append, List.map_append] at next
          refine W_loop (W_run 80 ?_)
          simp (maxSteps := 2000000) only [SA, Nat.reduceDiv, Nat.reduceSub, Nat.reduceAdd, Int.reduceLT, Int.reduceLE, Int.reduceToNat, Nat.reduceMul, Nat.reduceEqDiff, reduceCtorEq, Nat.reduceBEq, Nat.reduceLeDiff, Nat.reduceLT, xf57_L0, ai, al, tx, lt_cast, h0, hgt, d1]
          refine W_call (args := [tx f V w]) rfl (noRefs_1 (noRef_tx _ _ _)) (last_run V w f) rfl (W_run 80 ?_)
          simp (maxSteps := 2000000) only [SA, Nat.reduceDiv, Nat.reduceSub, Nat.reduceAdd, Int.reduceLT, Int.reduceLE, Int.reduceToNat, Nat.reduceMul, Nat.reduceEqDiff, reduceCtorEq, Nat.reduceBEq, Nat.reduceLeDiff, Nat.reduceLT, ai, al, tx, lt_cast, d2, d3, d3', wi, q1, q2, Go.Proofs.Eng.fillA, Go.Proofs.Eng.elems, List.map_cons, List.map_nil]
          exact next _ _ _ _ _ _ _ _ _ _ _ _ _ _ _ _ _ _ _ _ _ _ _ _ _ _ _ _ _ _ _ _ _ _ _ _ _ _ _ _ _ _ _ _ _ _ _ _ _
theorem spb_loop (V : Int) (w : List Int) (hg : gX V w) (f g : Bool) (E : List Nat) (x6 : AV) (l : List (Nat × Nat)) (hl : l.length ≤ 100) (hok : ∀ p, p ∈ l → p.1 < p.2 ∧ p.2 ≤ w.length) (K : List Fr) (Q : Out → Cfg → Prop)
    (hK : l.all (fun p => fit (pf w) V p.1 p.2) = true → ∀ r12 : Nat × Option Ob, ∀ j3 j8 j9 j10 j11 j12 j13 j14 j15 j16 j17 j18 j19 j20 j21 j22 j23 j24 j25 j26 j27 j28 j29 j30 j31 j32 j33 j34 j35 j36 j37 j38 j39 j40 j41 j42 j43 j44 j45 j46 j47 j51 j52 j53 j54 j55 j56 j57 j58 j59 : AV, W Try.prog (RelU Try.prog xf) 0 K ⟨((tx f V w) :: (al g (nl E)) :: (.ptr (tx f V w)) :: j3 :: nilA :: (ai 0) :: x6 :: (.os 18 1 l.length 2 0 l.length) :: j8 :: j9 :: j10 :: j11 :: j12 :: j13 :: j14 :: j15 :: j16 :: j17 :: j18 :: j19 :: j20 :: j21 :: j22 :: j23 :: j24 :: j25 :: j26 :: j27 :: j28 :: j29 :: j30 :: j31 :: j32 :: j33 :: j34 :: j35 :: j36 :: j37 :: j38 :: j39 :: j40 :: j41 :: j42 :: j43 :: j44 :: j45 :: j46 :: j47 :: (.os 18 1 l.length 2 0 l.length) :: (ai l.length) :: (ai l.length) :: j51 :: j52 :: j53 :: j54 :: j55 :: j56 :: j57 :: j58 :: j59 :: []), [(12, r12), (18, (1, some ⟨77, 2, l.map shP⟩))]⟩ Q)
    (hR : l.all (fun p => fit (pf w) V p.1 p.2) = false → ∀ (k : Nat) (r12 : Nat × Option Ob), ∀ j3 j8 j9 j10 j11 j12 j13 j14 j15 j16 j17 j18 j19 j20 j21 j22 j23 j24 j25 j26 j27 j28 j29 j30 j31 j32 j33 j34 j35 j36 j37 j38 j39 j40 j41 j42 j43 j44 j45 j46 j47 j51 j52 j53 j54 j55 j56 j57 j58 j59 : AV, WX Try.prog (RelU Try.prog xf) 0 K .ret ⟨((tx f V w) :: (al g (nl E)) :: (.ptr (tx f V w)) :: j3 :: nilA :: (ai 15) :: x6 :: (.os 18 1 l.length 2 0 l.length) :: j8 :: j9 :: j10 :: j11 :: j12 :: j13 :: j14 :: j15 :: j16 :: j17 :: j18 :: j19 :: j20 :: j21 :: j22 :: j23 :: j24 :: j25 :: j26 :: j27 :: j28 :: j29 :: j30 :: j31 :: j32 :: j33 :: j34 :: j35 :: j36 :: j37 :: j38 :: j39 :: j40 :: j41 :: j42 :: j43 :: j44 :: j45 :: j46 :: j47 :: (.os 18 1 l.length 2 0 l.length) :: (ai l.length) :: (ai k) :: j51 :: j52 :: j53 :: j54 :: j55 :: j56 :: j57 :: j58 :: j59 :: []), [(12, r12), (18, (1, some ⟨77, 2, l.map shP⟩))]⟩ Q) :
    ∀ (m k : Nat), k + m = l.length → l.all (fun p => fit (pf w) V p.1 p.2) = (l.drop k).all (fun p => fit (pf w) V p.1 p.2) → ∀ (g12 : Nat) (o12 : Option Ob), ∀ j3 j8 j9 j10 j11 j12 j13 j14 j15 j16 j17 j18 j19 j20 j21 j22 j23 j24 j25 j26 j27 j28 j29 j30 j31 j32 j33 j34 j35 j36 j37 j38 j39 j40 j41 j42 j43 j44 j45 j46 j47 j51 j52 j53 j54 j55 j56 j57 j58 j59 : AV, W Try.prog (RelU Try.prog xf) 0 (.code (.loop xf57_L1) :: .blk 2 :: .stop :: K) ⟨((tx f V w) :: (al g (nl E)) :: (.ptr (tx f V w)) :: j3 :: nilA :: (ai 0) :: x6 :: (.os 18 1 l.length 2 0 l.length) :: j8 :: j9 :: j10 :: j11 :: j12 :: j13 :: j14 :: j15 :: j16 :: j17 :: j18 :: j19 :: j20 :: j21 :: j22 :: j23 :: j24 :: j25 :: j26 :: j27 :: j28 :: j29 :: j30 :: j31 :: j32 :: j33 :: j34 :: j35 :: j36 :: j37 :: j38 :: j39 :: j40 :: j41 :: j42 :: j43 :: j44 :: j45 :: j46 :: j47 :: (.os 18 1 l.length 2 0 l.length) :: (ai l.length) :: (ai k) :: j51 :: j52 :: j53 :: j54 :: j55 :: j56 :: j57 :: j58 :: j59 :: []), [(12, (g12, o12)), (18, (1, some ⟨77, 2, l.map shP⟩))]⟩ Q := by
  intro m
  induction m with
  | zero =>
    intro k hk h1 g12 o12 j3 j8 j9 j10 j11 j12 j13 j14 j15 j16 j17 j18 j19 j20 j21 j22 j23 j24 j25 j26 j27 j28 j29 j30 j31 j32 j33 j34 j35 j36 j37 j38 j39 j40 j41 j42 j43 j44 j45 j46 j47 j51 j52 j53 j54 j55 j56 j57 j58 j59
    have ek : k = l.length := by omega
    have h0 : decide (k < l.length) = false := decide_eq_false (by omega)
    rw [ek, List.drop_length, List.all_nil] at h1
    refine W_loop (W_run 80 ?_)
    simp (maxSteps := 2000000) only [SA, Nat.reduceDiv, Nat.reduceSub, Nat.reduceAdd, Int.reduceLT, Int.reduceLE, Int.reduceToNat, Nat.reduceMul, Nat.reduceEqDiff, reduceCtorEq, Nat.reduceBEq, Nat.reduceLeDiff, Nat.reduceLT, xf57_L1, ai, al, tx, lt_cast, h0]
    rw [ek]
    exact W_stop (hK h1 _ _ _ _ _ _ _ _ _ _ _ _ _ _ _ _ _ _ _ _ _ _ _ _ _ _ _ _ _ _ _ _ _ _ _ _ _ _ _ _ _ _ _ _ _ _ _ _ _ _ _)
  | succ m ih =>
    intro k hk h1 g12 o12 j3 j8 j9 j10 j11 j12 j13 j14 j15 j16 j17 j18 j19 j20 j21 j22 j23 j24 j25 j26 j27 j28 j29 j30 j31 j32 j33 j34 j35 j36 j37 j38 j39 j40 j41 j42 j43 j44 j45 j46 j47 j51 j52 j53 j54 j55 j56 j57 j58 j59
    have hk1 : k < l.length := by omega
    have h0 : decide (k < l.length) = true := decide_eq_true hk1
    have hgt : (l.map shP)[k]? = some (.ag [ai ((l.getD k (0, 0)).1 : Nat), ai ((l.getD k (0, 0)).2 : Nat)]) := by rw [List.getElem?_map, getD_at (d := (0, 0)) hk1]; rfl
    have wi : IntKind.i64.wrap ((k : Int) + 1) = ((k + 1 : Nat) : Int) := by rw [wrap_id (by omega) (by omega)]; simp
    have hin := hok _ (getD_in (d := (0, 0)) hk1)
    have klt : (k : Int) < l.length := by omega
    have knn : (0 : Int) ≤ k := by omega
    rw [drop_at (d := (0, 0)) hk1, List.all_cons] at h1
    generalize l.getD k (0, 0) = p at *
    have hfit := fits_run hg f hin.1 hin.2
    refine W_loop (W_run 80 ?_)
    simp (maxSteps := 2000000) only [SA, Nat.reduceDiv, Nat.reduceSub, Nat.reduceAdd, Int.reduceLT, Int.reduceLE, Int.reduceToNat, Nat.reduceMul, Nat.reduceEqDiff, reduceCtorEq, Nat.reduceBEq, Nat.reduceLeDiff, Nat.reduceLT, xf57_L1, ai, al, tx, lt_cast, h0, hgt, klt, knn, List.length_map, Int.toNat_natCast, List.map_cons, List.map_nil]
    refine W_call (args := [tx f V w, spn p.1 p.2]) rfl (noRefs_2 (noRef_tx _ _ _) rfl) hfit rfl (W_run 80 ?_)
    cases hf : fit (pf w) V p.1 p.2 with
    | true =>
      rw [hf, Bool.true_and] at h1
      simp (maxSteps := 2000000) only [SA, Nat.reduceDiv, Nat.reduceSub, Nat.reduceAdd, Int.reduceLT, Int.reduceLE, Int.reduceToNat, Nat.reduceMul, Nat.reduceEqDiff, reduceCtorEq, Nat.reduceBEq, Nat.reduceLeDiff, Nat.reduceLT, ai, ab, al, tx, wi]
      exact ih (k + 1) (by omega) h1 _ _ _ _ _ _ _ _ _ _ _ _ _ _ _ _ _ _ _ _ _ _ _ _ _ _ _ _ _ _ _ _ _ _ _ _ _ _ _ _ _ _ _ _ _ _ _ _ _ _ _ _
    | false =>
      rw [hf, Bool.false_and] at h1
      simp (maxSteps := 2000000) only [SA, Nat.reduceDiv, Nat.reduceSub, Nat.reduceAdd, Int.reduceLT, Int.reduceLE, Int.reduceToNat, Nat.reduceMul, Nat.reduceEqDiff, reduceCtorEq, Nat.reduceBEq, Nat.reduceLeDiff, Nat.reduceLT, ai, ab, al, tx, wi]
      exact W_ret1 (WX_pop (hR h1 k _ _ _ _ _ _ _ _ _ _ _ _ _ _ _ _ _ _ _ _ _ _ _ _ _ _ _ _ _ _ _ _ _ _ _ _ _ _ _ _ _ _ _ _ _ _ _ _ _ _ _))
def spanR (q : Nat → Int) (V : Int) (n : Nat) (E : List Nat) : AV := if fE q V n E = 0 then .tup [spR (spE 0 E), ai 0] else .tup [nilA, ai (fE q V n E)]
theorem spansOf_run {V : Int} {w : List Int} (hg : gX V w) (f g : Bool) {E : List Nat} (hE : E.length ≤ 100) : Runs Try.prog xf 57 [tx f V w, al g (nl E)] (spanR (pf w) V w.length E) := by
  have n10 := hg.n10
  have n00 : ((0 : Int) != 0) = false := rfl
  have hnl := nl_len E
  refine Runs.ofW (fn := xf57) 20 (by kernel_rfl) (W_run 80 ?_)
  simp (maxSteps := 2000000) only [SA, Nat.reduceDiv, Nat.reduceSub, Nat.reduceAdd, Int.reduceLT, Int.reduceLE, Int.reduceToNat, Nat.reduceMul, Nat.reduceEqDiff, reduceCtorEq, Nat.reduceBEq, Nat.reduceLeDiff, Nat.reduceLT, xf57, ai, al, tx]
  refine W_call (args := [tx f V w]) rfl (noRefs_1 (noRef_tx _ _ _)) (check_run hg f) rfl (W_run 80 ?_)
  simp (maxSteps := 2000000) only [SA, Nat.reduceDiv, Nat.reduceSub, Nat.reduceAdd, Int.reduceLT, Int.reduceLE, Int.reduceToNat, Nat.reduceMul, Nat.reduceEqDiff, reduceCtorEq, Nat.reduceBEq, Nat.reduceLeDiff, Nat.reduceLT, ai, al, tx, n00, hnl, List.map_nil]
  unfold spanR fE
  refine W_alone (spa_loop V w f g E n10 hE _ _ _ (fun l b hl hb j3 j9 j10 j11 j12 j13 j14 j15 j16 j17 j18 j22 j23 j24 j25 j26 j27 j28 j29 j30 j31 j32 j33 j34 j35 j36 j37 j38 j39 j40 j41 j42 j43 j44 j45 j46 j47 j48 j49 j50 j51 j52 j53 j54 j55 j56 j57 j58 j59 => W_run 80 ?_) (fun hne l b k j3 j9 j10 j11 j12 j13 j14 j15 j16 j17 j18 j22 j23 j24 j25 j26 j27 j28 j29 j30 j31 j32 j33 j34 j35 j36 j37 j38 j39 j40 j41 j42 j43 j44 j45 j46 j47 j48 j49 j50 j51 j52 j53 j54 j55 j56 j57 j58 j59 => ?_) E.length 0 (by omega) [] 0 (Nat.le_refl _) rfl rfl _ _ _ _ _ _ _ _ _ _ _ _ _ _ _ _ _ _ _ _ _ _ _ _ _ _ _ _ _ _ _ _ _ _ _ _ _ _ _ _ _ _ _ _ _ _ _ _ _)
  · have hll : l.length = E.length := by rw [hl, spE_len]
    simp (maxSteps := 2000000) only [SA, Nat.reduceDiv, Nat.reduceSub, Nat.reduceAdd, Int.reduceLT, Int.reduceLE, Int.reduceToNat, Nat.reduceMul, Nat.reduceEqDiff, reduceCtorEq, Nat.reduceBEq, Nat.reduceLeDiff, Nat.reduceLT, xf57_R1, ai, al, tx]
    refine W_call (args := [tx f V w]) rfl (noRefs_1 (noRef_tx _ _ _)) (last_run V w f) rfl (W_run 80 ?_)
    by_cases hbn : b = w.length
    · rw [if_pos hbn] at hb
      have d1 : ((b : Int) != (w.length : Int)) = false := by rw [hbn]; simp
      rw [hb, if_pos rfl]
      simp (maxSteps := 2000000) only [SA, Nat.reduceDiv, Nat.reduceSub, Nat.reduceAdd, Int.reduceLT, Int.reduceLE, Int.reduceToNat, Nat.reduceMul, Nat.reduceEqDiff, reduceCtorEq, Nat.reduceBEq, Nat.reduceLeDiff, Nat.reduceLT, ai, al, tx, d1]
      subst hl
      refine W_alone (W_named named18 (spb_loop V w hg f g E _ (spE 0 E) (by omega) (spE_ok E 0 hb) _ _ (fun h r12 j3 j8 j9 j10 j11 j12 j13 j14 j15 j16 j17 j18 j19 j20 j21 j22 j23 j24 j25 j26 j27 j28 j29 j30 j31 j32 j33 j34 j35 j36 j37 j38 j39 j40 j41 j42 j43 j44 j45 j46 j47 j51 j52 j53 j54 j55 j56 j57 j58 j59 => W_run 80 ?_) (fun h k r12 j3 j8 j9 j10 j11 j12 j13 j14 j15 j16 j17 j18 j19 j20 j21 j22 j23 j24 j25 j26 j27 j28 j29 j30 j31 j32 j33 j34 j35 j36 j37 j38 j39 j40 j41 j42 j43 j44 j45 j46 j47 j51 j52 j53 j54 j55 j56 j57 j58 j59 => ?_) (spE 0 E).length 0 (by omega) rfl _ _ _ _ _ _ _ _ _ _ _ _ _ _ _ _ _ _ _ _ _ _ _ _ _ _ _ _ _ _ _ _ _ _ _ _ _ _ _ _ _ _ _ _ _ _ _ _ _ _ _ _))
      · rw [h, if_pos rfl, if_pos rfl]
        simp (maxSteps := 2000000) only [SA, Nat.reduceDiv, Nat.reduceSub, Nat.reduceAdd, Int.reduceLT, Int.reduceLE, Int.reduceToNat, Nat.reduceMul, Nat.reduceEqDiff, reduceCtorEq, Nat.reduceBEq, Nat.reduceLeDiff, Nat.reduceLT, xf57_R0, ai, al, tx]
        refine W_ret1 (WX_nil ⟨.inl rfl, _, rfl, ?_⟩)
        show ([AV.os 18 1 (spE 0 E).length 2 0 (spE 0 E).length, ai 0].mapM (reify _ 19)).map AV.tup = _
        rw [List.mapM_cons, reify_os (fun p => elem_shP _ 17 p) rfl]; rfl
      · rw [h, if_neg (by simp)]
        exact WX_pop (WX_nil ⟨.inl rfl, _, rfl, rfl⟩)
    · rw [if_neg hbn] at hb
      have d1 : ((b : Int) != (w.length : Int)) = true := by rw [bne_iff_ne]; omega
      rw [hb]
      simp (maxSteps := 2000000) only [SA, Nat.reduceDiv, Nat.reduceSub, Nat.reduceAdd, Int.reduceLT, Int.reduceLE, Int.reduceToNat, Nat.reduceMul, Nat.reduceEqDiff, reduceCtorEq, Nat.reduceBEq, Nat.reduceLeDiff, Nat.reduceLT, ai, al, tx, d1]
      exact W_ret1 (WX_pop (WX_nil ⟨.inl rfl, _, rfl, rfl⟩))
  · rw [if_neg hne, if_neg hne]
    exact WX_pop (WX_nil ⟨.inl rfl, _, rfl, rfl⟩)
def pl (p : Nat → Int) (n : Nat) : List Int := (List.range n).map p
theorem pl_len (p : Nat → Int) (n : Nat) : (pl p n).length = n := by unfold pl; simp
theorem get_pl {p : Nat → Int} {n k : Nat} (h : k < n) : ((pl p n).map ai)[k]? = some (ai (p k)) := by
  unfold pl
  rw [List.map_map, List.getElem?_map, List.getElem?_range h]; rfl
end Go.Proofs.Ytdmffkknghianaa

