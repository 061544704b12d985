/-
  slices.IndexFunc and ContainsFunc of numbers; package table's checkPlan, Within, emptyColumns, checkNumbers, Proves.
-/
import Derived.Test.YtelkpfionifjgaaTc
set_option linter.unusedSimpArgs false
set_option linter.unusedVariables false
namespace Go.Proofs.Ytelkpfionifjgaa
open Go Go.Proofs.Eng
set_option maxRecDepth 100000
set_option maxHeartbeats 2000000
/-- the first place of which something holds, or -1 -/
def fxI {α : Type} (p : α → Bool) : List α → Nat → Int
  | [], _ => -1
  | s :: t, i => if p s = true then (i : Int) else fxI p t (i + 1)
theorem fxI_any {α : Type} (p : α → Bool) : ∀ (l : List α) (i : Nat), decide (0 ≤ fxI p l i) = l.any p
  | [], i => rfl
  | s :: t, i => by
    simp only [fxI, List.any_cons]
    by_cases h : p s = true
    · simp only [if_pos h]
      rw [h, Bool.true_or]
      exact decide_eq_true (by omega)
    · have h2 : p s = false := by simpa using h
      simp only [if_neg h]
      rw [h2, Bool.false_or]
      exact fxI_any p t (i + 1)
theorem drop_at {α : Type} {l : List α} {i : Nat} {d : α} (h : i < l.length) : l.drop i = l.getD i d :: l.drop (i + 1) := by
  rw [List.drop_eq_getElem_cons h, List.getD_eq_getElem?_getD, List.getElem?_eq_getElem h]; rfl
theorem ixf_loop (fN : Nat) (cs : List AV) (hcs : noRefs cs = true) (hc : callable Try.prog fN = true) (p : Int → Bool) (f : Bool) (l : List Int) (hn : l.length ≤ 1000) (hr : ∀ z, z ∈ l → Runs Try.prog xf fN (ai z :: cs) (ab (p z))) (K : List Fr) (Q : Out → Cfg → Prop)
    (hK : fxI p l 0 = -1 → ∀ j2 j3 j5 j9 j10 j11 j12 j13 j14 j15 j16 j17 j18 : AV, W Try.prog (RelU Try.prog xf) 0 K ⟨((al f l) :: (.fn fN cs) :: j2 :: j3 :: (ai 0) :: j5 :: (al f l) :: (ai l.length) :: (ai l.length) :: j9 :: j10 :: j11 :: j12 :: j13 :: j14 :: j15 :: j16 :: j17 :: j18 :: []), []⟩ Q)
    (hR : ∀ (i : Nat), ∀ j2 j3 j5 j9 j10 j11 j12 j13 j14 j15 j16 j17 j18 : AV, WX Try.prog (RelU Try.prog xf) 0 K .ret ⟨((al f l) :: (.fn fN cs) :: j2 :: j3 :: (ai (fxI p l 0)) :: j5 :: (al f l) :: (ai l.length) :: (ai i) :: j9 :: j10 :: j11 :: j12 :: j13 :: j14 :: j15 :: j16 :: j17 :: j18 :: []), []⟩ Q) :
    ∀ (k i : Nat), i + k = l.length → fxI p l 0 = fxI p (l.drop i) i → ∀ j2 j3 j5 j9 j10 j11 j12 j13 j14 j15 j16 j17 j18 : AV, W Try.prog (RelU Try.prog xf) 0 (.code (.loop xf67_L0) :: .blk 0 :: .stop :: K) ⟨((al f l) :: (.fn fN cs) :: j2 :: j3 :: (ai 0) :: j5 :: (al f l) :: (ai l.length) :: (ai i) :: j9 :: j10 :: j11 :: j12 :: j13 :: j14 :: j15 :: j16 :: j17 :: j18 :: []), []⟩ Q := by
  intro k
  induction k with
  | zero =>
    intro i hi hf j2 j3 j5 j9 j10 j11 j12 j13 j14 j15 j16 j17 j18
    have : i = l.length := by omega
    subst this
    have h0 : decide (l.length < l.length) = false := by simp
    rw [List.drop_length] at hf
    refine W_loop (W_run 80 ?_)
    simp (maxSteps := 2000000) only [SA, Nat.reduceDiv, Nat.reduceSub, Nat.reduceAdd, Int.reduceLT, Int.reduceLE, Int.reduceToNat, Nat.reduceMul, Nat.reduceEqDiff, reduceCtorEq, Nat.reduceBEq, Nat.reduceLeDiff, Nat.reduceLT, xf67_L0, ai, al, lt_cast, h0]
    exact W_stop (hK hf _ _ _ _ _ _ _ _ _ _ _ _ _)
  | succ k ih =>
    intro i hi hf j2 j3 j5 j9 j10 j11 j12 j13 j14 j15 j16 j17 j18
    have h1 : i < l.length := by omega
    have h0 : decide (i < l.length) = true := decide_eq_true h1
    rw [drop_at (d := 0) h1, fxI] at hf
    have hm := getD_mem (d := 0) h1
    have hg := get_al h1
    generalize hs : l.getD i 0 = s at *
    refine W_loop (W_run 80 ?_)
    simp (maxSteps := 2000000) only [SA, Nat.reduceDiv, Nat.reduceSub, Nat.reduceAdd, Int.reduceLT, Int.reduceLE, Int.reduceToNat, Nat.reduceMul, Nat.reduceEqDiff, reduceCtorEq, Nat.reduceBEq, Nat.reduceLeDiff, Nat.reduceLT, xf67_L0, ai, al, lt_cast, h0, hg]
    refine W_callvP (args := ai s :: cs) rfl hc rfl (by show (noRef (ai s) && noRefs cs) = true; rw [hcs]; rfl) (hr s hm) rfl (W_run 80 ?_)
    cases hp : p s with
    | true =>
      rw [hp, if_pos rfl] at hf
      simp (maxSteps := 2000000) only [SA, Nat.reduceDiv, Nat.reduceSub, Nat.reduceAdd, Int.reduceLT, Int.reduceLE, Int.reduceToNat, Nat.reduceMul, Nat.reduceEqDiff, reduceCtorEq, Nat.reduceBEq, Nat.reduceLeDiff, Nat.reduceLT, ai, ab]
      have := hR i
      rw [hf] at this
      exact W_ret1 (WX_pop (this _ _ _ _ _ _ _ _ _ _ _ _ _))
    | false =>
      rw [hp, if_neg (by simp)] at hf
      simp (maxSteps := 2000000) only [SA, Nat.reduceDiv, Nat.reduceSub, Nat.reduceAdd, Int.reduceLT, Int.reduceLE, Int.reduceToNat, Nat.reduceMul, Nat.reduceEqDiff, reduceCtorEq, Nat.reduceBEq, Nat.reduceLeDiff, Nat.reduceLT, ai, ab]
      rw [wrap_id (z := (i : Int) + 1) (by omega) (by omega)]
      exact ih (i + 1) (by omega) hf _ _ _ _ _ _ _ _ _ _ _ _ _
theorem ixf_run (fN : Nat) (cs : List AV) (hcs : noRefs cs = true) (hc : callable Try.prog fN = true) (p : Int → Bool) {x : AV} {l : List Int} (hl : isL x l) (hn : l.length ≤ 1000) (hr : ∀ z, z ∈ l → Runs Try.prog xf fN (ai z :: cs) (ab (p z))) :
    Runs Try.prog xf 67 [x, .fn fN cs] (ai (fxI p l 0)) := by
  refine Runs.ofW (fn := xf67) 20 (by kernel_rfl) (W_run 80 ?_)
  rcases hl with ⟨f, rfl⟩ | ⟨rfl, rfl⟩
  · simp (maxSteps := 2000000) only [SA, Nat.reduceDiv, Nat.reduceSub, Nat.reduceAdd, Int.reduceLT, Int.reduceLE, Int.reduceToNat, Nat.reduceMul, Nat.reduceEqDiff, reduceCtorEq, Nat.reduceBEq, Nat.reduceLeDiff, Nat.reduceLT, xf67, ai, al]
    refine W_alone (ixf_loop fN cs hcs hc p f l hn hr _ _ (fun hf j2 j3 j5 j9 j10 j11 j12 j13 j14 j15 j16 j17 j18 => W_run 80 ?_) (fun i j2 j3 j5 j9 j10 j11 j12 j13 j14 j15 j16 j17 j18 => ?_) l.length 0 (by omega) rfl _ _ _ _ _ _ _ _ _ _ _ _ _)
    · simp (maxSteps := 2000000) only [SA, Nat.reduceDiv, Nat.reduceSub, Nat.reduceAdd, Int.reduceLT, Int.reduceLE, Int.reduceToNat, Nat.reduceMul, Nat.reduceEqDiff, reduceCtorEq, Nat.reduceBEq, Nat.reduceLeDiff, Nat.reduceLT, xf67_R0, ai, al]
      rw [hf]
      exact W_ret1 (WX_nil ⟨.inl rfl, _, rfl, rfl⟩)
    · exact WX_pop (WX_nil ⟨.inl rfl, _, rfl, rfl⟩)
  · simp (maxSteps := 2000000) only [SA, Nat.reduceDiv, Nat.reduceSub, Nat.reduceAdd, Int.reduceLT, Int.reduceLE, Int.reduceToNat, Nat.reduceMul, Nat.reduceEqDiff, reduceCtorEq, Nat.reduceBEq, Nat.reduceLeDiff, Nat.reduceLT, xf67, ai, nilA]
    refine W_loop (W_run 80 ?_)
    simp (maxSteps := 2000000) only [SA, Nat.reduceDiv, Nat.reduceSub, Nat.reduceAdd, Int.reduceLT, Int.reduceLE, Int.reduceToNat, Nat.reduceMul, Nat.reduceEqDiff, reduceCtorEq, Nat.reduceBEq, Nat.reduceLeDiff, Nat.reduceLT, xf67_L0, xf67_R0, ai, d00]
    exact W_ret1 (WX_nil ⟨.inl rfl, _, rfl, rfl⟩)
theorem noRefs_fn {x : AV} (fN : Nat) {cs : List AV} (h : noRef x = true) (hcs : noRefs cs = true) : noRefs [x, .fn fN cs] = true := noRefs_2 h hcs
theorem cnf_run (fN : Nat) (cs : List AV) (hcs : noRefs cs = true) (hc : callable Try.prog fN = true) (p : Int → Bool) {x : AV} {l : List Int} (hl : isL x l) (hn : l.length ≤ 1000) (hr : ∀ z, z ∈ l → Runs Try.prog xf fN (ai z :: cs) (ab (p z))) :
    Runs Try.prog xf 30 [x, .fn fN cs] (ab (l.any p)) := by
  have h := ixf_run fN cs hcs hc p hl hn hr
  have e := fxI_any p l 0
  refine Runs.ofW (fn := xf30) 20 (by kernel_rfl) (W_run 80 ?_)
  simp (maxSteps := 2000000) only [SA, Nat.reduceDiv, Nat.reduceSub, Nat.reduceAdd, Int.reduceLT, Int.reduceLE, Int.reduceToNat, Nat.reduceMul, Nat.reduceEqDiff, reduceCtorEq, Nat.reduceBEq, Nat.reduceLeDiff, Nat.reduceLT, xf30, ai]
  refine W_call (args := [x, .fn fN cs]) rfl (noRefs_fn fN hl.ref hcs) h rfl (W_run 80 ?_)
  simp (maxSteps := 2000000) only [SA, Nat.reduceDiv, Nat.reduceSub, Nat.reduceAdd, Int.reduceLT, Int.reduceLE, Int.reduceToNat, Nat.reduceMul, Nat.reduceEqDiff, reduceCtorEq, Nat.reduceBEq, Nat.reduceLeDiff, Nat.reduceLT, ai, e]
  exact W_ret1 (WX_nil ⟨.inl rfl, _, rfl, rfl⟩)
/-- slices.Contains at a list that may be nil -/
theorem idn_run (p : Int) : Runs Try.prog xf 76 [nilA, ai p] (ai (-1)) := by
  refine Runs.ofW (fn := xf76) 20 (by kernel_rfl) (W_run 80 ?_)
  simp (maxSteps := 2000000) only [SA, Nat.reduceDiv, Nat.reduceSub, Nat.reduceAdd, Int.reduceLT, Int.reduceLE, Int.reduceToNat, Nat.reduceMul, Nat.reduceEqDiff, reduceCtorEq, Nat.reduceBEq, Nat.reduceLeDiff, Nat.reduceLT, xf76, ai, nilA]
  refine W_loop (W_run 80 ?_)
  simp (maxSteps := 2000000) only [SA, Nat.reduceDiv, Nat.reduceSub, Nat.reduceAdd, Int.reduceLT, Int.reduceLE, Int.reduceToNat, Nat.reduceMul, Nat.reduceEqDiff, reduceCtorEq, Nat.reduceBEq, Nat.reduceLeDiff, Nat.reduceLT, xf76_L0, xf76_R0, ai, d00]
  exact W_ret1 (WX_nil ⟨.inl rfl, _, rfl, rfl⟩)
theorem has_run {x : AV} {l : List Int} (hl : isL x l) (p : Int) (hn : l.length ≤ 100000) : Runs Try.prog xf 43 [x, ai p] (ab (memD l p)) := by
  rcases hl with ⟨f, rfl⟩ | ⟨rfl, rfl⟩
  · exact idx1_has f l p hn
  · refine Runs.ofW (fn := xf43) 20 (by kernel_rfl) (W_run 80 ?_)
    have dm : decide ((0 : Int) ≤ -1) = false := rfl
    simp (maxSteps := 2000000) only [SA, Nat.reduceDiv, Nat.reduceSub, Nat.reduceAdd, Int.reduceLT, Int.reduceLE, Int.reduceToNat, Nat.reduceMul, Nat.reduceEqDiff, reduceCtorEq, Nat.reduceBEq, Nat.reduceLeDiff, Nat.reduceLT, xf43, ai, nilA]
    refine W_call (args := [nilA, ai p]) rfl (noRefs_2 rfl rfl) (idn_run p) rfl (W_run 80 ?_)
    simp (maxSteps := 2000000) only [SA, Nat.reduceDiv, Nat.reduceSub, Nat.reduceAdd, Int.reduceLT, Int.reduceLE, Int.reduceToNat, Nat.reduceMul, Nat.reduceEqDiff, reduceCtorEq, Nat.reduceBEq, Nat.reduceLeDiff, Nat.reduceLT, ai, nilA, dm]
    exact W_ret1 (WX_nil ⟨.inl rfl, _, rfl, rfl⟩)
/-- what is wrong with the numbers of a plan -/
def cpE (n : Int) : List Int → List Int → Int
  | _, [] => 0
  | d, c :: t => if c < 0 ∨ n ≤ c then 2 else if c ∈ d then 6 else cpE n (d ++ [c]) t
theorem cpE_ok {n : Int} : ∀ (p d : List Int), cpE n d p = 0 ↔ (∀ c, c ∈ p → 0 ≤ c ∧ c < n) ∧ p.Nodup ∧ ∀ c, c ∈ p → c ∉ d
  | [], d => by simp [cpE]
  | c :: t, d => by
    unfold cpE
    split
    · rename_i h
      constructor
      · intro q; omega
      · rintro ⟨q, _, _⟩; have := q c List.mem_cons_self; omega
    · rename_i h
      split
      · rename_i h2
        constructor
        · intro q; omega
        · rintro ⟨_, _, q⟩; exact absurd h2 (q c List.mem_cons_self)
      · rename_i h2
        rw [cpE_ok t (d ++ [c])]
        simp only [List.mem_cons, List.nodup_cons, List.mem_append, List.mem_singleton, not_or, List.not_mem_nil, or_false]
        constructor
        · rintro ⟨a, b, e⟩
          refine ⟨fun x hx => ?_, ⟨fun q => (e c q).2 rfl, b⟩, fun x hx => ?_⟩
          · rcases hx with rfl | hx
            · omega
            · exact a x hx
          · rcases hx with rfl | hx
            · exact h2
            · exact (e x hx).1
        · rintro ⟨a, ⟨b1, b2⟩, e⟩
          exact ⟨fun x hx => a x (.inr hx), b2, fun x hx => ⟨e x (.inr hx), fun q => b1 (q ▸ hx)⟩⟩
theorem cpl_loop (n : Int) (p : List Int) (hn : p.length ≤ 1000) (K : List Fr) (Q : Out → Cfg → Prop)
    (hK : cpE n [] p = 0 → ∀ j2 j3 j5 j6 j7 j8 j9 j10 j14 j15 j16 j17 j18 j19 j20 j21 j22 j23 j24 j25 j26 j27 j28 j29 j30 : AV, W Try.prog (RelU Try.prog xf) 0 K ⟨((ai n) :: (al false p) :: j2 :: j3 :: (ai 0) :: j5 :: j6 :: j7 :: j8 :: j9 :: j10 :: (al false p) :: (ai p.length) :: (ai p.length) :: j14 :: j15 :: j16 :: j17 :: j18 :: j19 :: j20 :: j21 :: j22 :: j23 :: j24 :: j25 :: j26 :: j27 :: j28 :: j29 :: j30 :: []), []⟩ Q)
    (hR : cpE n [] p ≠ 0 → ∀ (i : Nat), ∀ j2 j3 j5 j6 j7 j8 j9 j10 j14 j15 j16 j17 j18 j19 j20 j21 j22 j23 j24 j25 j26 j27 j28 j29 j30 : AV, WX Try.prog (RelU Try.prog xf) 0 K .ret ⟨((ai n) :: (al false p) :: j2 :: j3 :: (ai (cpE n [] p)) :: j5 :: j6 :: j7 :: j8 :: j9 :: j10 :: (al false p) :: (ai p.length) :: (ai i) :: j14 :: j15 :: j16 :: j17 :: j18 :: j19 :: j20 :: j21 :: j22 :: j23 :: j24 :: j25 :: j26 :: j27 :: j28 :: j29 :: j30 :: []), []⟩ Q) :
    ∀ (k i : Nat), i + k = p.length → cpE n [] p = cpE n (p.take i) (p.drop i) → ∀ j2 j3 j5 j6 j7 j8 j9 j10 j14 j15 j16 j17 j18 j19 j20 j21 j22 j23 j24 j25 j26 j27 j28 j29 j30 : AV, W Try.prog (RelU Try.prog xf) 0 (.code (.loop xf62_L0) :: .blk 0 :: .stop :: K) ⟨((ai n) :: (al false p) :: j2 :: j3 :: (ai 0) :: j5 :: j6 :: j7 :: j8 :: j9 :: j10 :: (al false p) :: (ai p.length) :: (ai i) :: j14 :: j15 :: j16 :: j17 :: j18 :: j19 :: j20 :: j21 :: j22 :: j23 :: j24 :: j25 :: j26 :: j27 :: j28 :: j29 :: j30 :: []), []⟩ Q := by
  intro k
  induction k with
  | zero =>
    intro i hi hf j2 j3 j5 j6 j7 j8 j9 j10 j14 j15 j16 j17 j18 j19 j20 j21 j22 j23 j24 j25 j26 j27 j28 j29 j30
    have : i = p.length := by omega
    subst this
    have h0 : decide (p.length < p.length) = false := by simp
    rw [List.drop_length] at hf
    refine W_loop (W_run 80 ?_)
    simp (maxSteps := 2000000) only [SA, Nat.reduceDiv, Nat.reduceSub, Nat.reduceAdd, Int.reduceLT, Int.reduceLE, Int.reduceToNat, Nat.reduceMul, Nat.reduceEqDiff, reduceCtorEq, Nat.reduceBEq, Nat.reduceLeDiff, Nat.reduceLT, xf62_L0, ai, al, lt_cast, h0]
    exact W_stop (hK hf _ _ _ _ _ _ _ _ _ _ _ _ _ _ _ _ _ _ _ _ _ _ _ _ _)
  | succ k ih =>
    intro i hi hf j2 j3 j5 j6 j7 j8 j9 j10 j14 j15 j16 j17 j18 j19 j20 j21 j22 j23 j24 j25 j26 j27 j28 j29 j30
    have h1 : i < p.length := by omega
    have h0 : decide (i < p.length) = true := decide_eq_true h1
    have next := ih (i + 1) (by omega)
    have hi2 : i ≤ p.length := by omega
    rw [take_snoc (d := 0) h1] at next
    rw [drop_at (d := 0) h1, cpE] at hf
    have hg := get_al h1
    have htk : List.take i (p.map ai) = (p.take i).map ai := List.map_take.symm
    have hmem := idx1_has false (p.take i) (p.getD i 0) (by rw [List.length_take]; omega)
    generalize hs : p.getD i 0 = s at *
    refine W_loop (W_run 80 ?_)
    by_cases c1 : s < 0
    · have d1 : decide (s < 0) = true := decide_eq_true c1
      rw [if_pos (.inl c1)] at hf
      simp (maxSteps := 2000000) only [SA, Nat.reduceDiv, Nat.reduceSub, Nat.reduceAdd, Int.reduceLT, Int.reduceLE, Int.reduceToNat, Nat.reduceMul, Nat.reduceEqDiff, reduceCtorEq, Nat.reduceBEq, Nat.reduceLeDiff, Nat.reduceLT, xf62_L0, ai, al, lt_cast, h0, hg, d1]
      have := hR (by rw [hf]; decide) i
      rw [hf] at this
      exact W_ret1 (WX_pop (this _ _ _ _ _ _ _ _ _ _ _ _ _ _ _ _ _ _ _ _ _ _ _ _ _))
    · have d1 : decide (s < 0) = false := decide_eq_false c1
      by_cases c2 : n ≤ s
      · have d2 : decide (n ≤ s) = true := decide_eq_true c2
        rw [if_pos (.inr c2)] at hf
        simp (maxSteps := 2000000) only [SA, Nat.reduceDiv, Nat.reduceSub, Nat.reduceAdd, Int.reduceLT, Int.reduceLE, Int.reduceToNat, Nat.reduceMul, Nat.reduceEqDiff, reduceCtorEq, Nat.reduceBEq, Nat.reduceLeDiff, Nat.reduceLT, xf62_L0, ai, al, lt_cast, h0, hg, d1, d2]
        have := hR (by rw [hf]; decide) i
        rw [hf] at this
        exact W_ret1 (WX_pop (this _ _ _ _ _ _ _ _ _ _ _ _ _ _ _ _ _ _ _ _ _ _ _ _ _))
      · have d2 : decide (n ≤ s) = false := decide_eq_false c2
        rw [if_neg (by omega)] at hf
        simp (maxSteps := 2000000) only [SA, Nat.reduceDiv, Nat.reduceSub, Nat.reduceAdd, Int.reduceLT, Int.reduceLE, Int.reduceToNat, Nat.reduceMul, Nat.reduceEqDiff, reduceCtorEq, Nat.reduceBEq, Nat.reduceLeDiff, Nat.reduceLT, xf62_L0, ai, al, lt_cast, h0, hg, d1, d2, hi2, htk, Go.Proofs.Eng.fullOf, Bool.false_and]
        refine W_call (args := [al false (p.take i), ai s]) rfl (noRefs_2 (noRef_al _ _) rfl) hmem rfl (W_run 80 ?_)
        by_cases c3 : s ∈ p.take i
        · rw [if_pos c3] at hf
          have d3 := memD_iff.2 c3
          simp (maxSteps := 2000000) only [SA, Nat.reduceDiv, Nat.reduceSub, Nat.reduceAdd, Int.reduceLT, Int.reduceLE, Int.reduceToNat, Nat.reduceMul, Nat.reduceEqDiff, reduceCtorEq, Nat.reduceBEq, Nat.reduceLeDiff, Nat.reduceLT, ai, ab, d3]
          have := hR (by rw [hf]; decide) i
          rw [hf] at this
          exact W_ret1 (WX_pop (this _ _ _ _ _ _ _ _ _ _ _ _ _ _ _ _ _ _ _ _ _ _ _ _ _))
        · rw [if_neg c3] at hf
          have d3 : memD (p.take i) s = false := by
            cases q : memD (p.take i) s with
            | false => rfl
            | true => exact absurd (memD_iff.1 q) c3
          simp (maxSteps := 2000000) only [SA, Nat.reduceDiv, Nat.reduceSub, Nat.reduceAdd, Int.reduceLT, Int.reduceLE, Int.reduceToNat, Nat.reduceMul, Nat.reduceEqDiff, reduceCtorEq, Nat.reduceBEq, Nat.reduceLeDiff, Nat.reduceLT, ai, ab, d3]
          rw [wrap_id (z := (i : Int) + 1) (by omega) (by omega)]
          exact next hf _ _ _ _ _ _ _ _ _ _ _ _ _ _ _ _ _ _ _ _ _ _ _ _ _
/-- what checkPlan returns -/
def plE (n : Nat) (p : List Int) : Int := if p.length = n then cpE n [] p else 5
theorem plan_run (n : Nat) (p : List Int) (hn : p.length ≤ 1000) : Runs Try.prog xf 62 [ai n, al false p] (ai (plE n p)) := by
  refine Runs.ofW (fn := xf62) 20 (by kernel_rfl) (W_run 80 ?_)
  unfold plE
  by_cases h : p.length = n
  · have e1 : ((p.length : Int) != (n : Int)) = false := by rw [h]; simp
    rw [if_pos h]
    simp (maxSteps := 2000000) only [SA, Nat.reduceDiv, Nat.reduceSub, Nat.reduceAdd, Int.reduceLT, Int.reduceLE, Int.reduceToNat, Nat.reduceMul, Nat.reduceEqDiff, reduceCtorEq, Nat.reduceBEq, Nat.reduceLeDiff, Nat.reduceLT, xf62, ai, al, e1]
    refine W_alone (cpl_loop n p hn _ _ (fun hf j2 j3 j5 j6 j7 j8 j9 j10 j14 j15 j16 j17 j18 j19 j20 j21 j22 j23 j24 j25 j26 j27 j28 j29 j30 => W_run 80 ?_) (fun hf i j2 j3 j5 j6 j7 j8 j9 j10 j14 j15 j16 j17 j18 j19 j20 j21 j22 j23 j24 j25 j26 j27 j28 j29 j30 => ?_) p.length 0 (by omega) rfl _ _ _ _ _ _ _ _ _ _ _ _ _ _ _ _ _ _ _ _ _ _ _ _ _)
    · simp (maxSteps := 2000000) only [SA, Nat.reduceDiv, Nat.reduceSub, Nat.reduceAdd, Int.reduceLT, Int.reduceLE, Int.reduceToNat, Nat.reduceMul, Nat.reduceEqDiff, reduceCtorEq, Nat.reduceBEq, Nat.reduceLeDiff, Nat.reduceLT, xf62_R0, ai, al]
      rw [hf]
      exact W_ret1 (WX_nil ⟨.inl rfl, _, rfl, rfl⟩)
    · exact WX_pop (WX_nil ⟨.inl rfl, _, rfl, rfl⟩)
  · have e1 : ((p.length : Int) != (n : Int)) = true := by rw [bne_iff_ne]; omega
    rw [if_neg h]
    simp (maxSteps := 2000000) only [SA, Nat.reduceDiv, Nat.reduceSub, Nat.reduceAdd, Int.reduceLT, Int.reduceLE, Int.reduceToNat, Nat.reduceMul, Nat.reduceEqDiff, reduceCtorEq, Nat.reduceBEq, Nat.reduceLeDiff, Nat.reduceLT, xf62, ai, al, e1]
    exact W_ret1 (WX_pop (WX_nil ⟨.inl rfl, _, rfl, rfl⟩))
theorem plE_ok {n : Nat} {p : List Int} : plE n p = 0 ↔ p.length = n ∧ inC n p ∧ p.Nodup := by
  unfold plE
  split
  · rename_i h
    rw [cpE_ok]
    simp [h, inC]
  · rename_i h
    constructor
    · intro q; omega
    · rintro ⟨q, _⟩; exact absurd q h
/-- what Within returns -/
def wiE (n : Nat) (T : List (List Int)) (p : List Int) : Int := if plE n p = 0 then (if wgt T p = 0 then 12 else 0) else plE n p
theorem prI_zero : ∀ (l : List Int), prI l = 0 ↔ (0 : Int) ∈ l := by
  have key : ∀ (l : List Int) (a : Int), l.foldl (· * ·) a = 0 ↔ a = 0 ∨ (0 : Int) ∈ l := by
    intro l
    induction l with
    | nil => intro a; simp
    | cons x t ih =>
      intro a
      rw [List.foldl_cons, ih, Int.mul_eq_zero, List.mem_cons]
      constructor
      · rintro ((h | h) | h)
        · exact .inl h
        · exact .inr (.inl h.symm)
        · exact .inr (.inr h)
      · rintro (h | h | h)
        · exact .inl (.inl h)
        · exact .inl (.inr h.symm)
        · exact .inr h
  intro l
  unfold prI
  rw [key]
  simp
theorem within_run {n : Nat} {T : List (List Int)} (hg : gT n T) (p : List Int) (hn : p.length ≤ 1000) : Runs Try.prog xf 44 [aT T, al false p] (ai (wiE n T p)) := by
  have n00 : ((0 : Int) != 0) = false := rfl
  have hl := hg.len
  have hpl := plan_run n p hn
  rw [← hl] at hpl
  refine Runs.ofW (fn := xf44) 20 (by kernel_rfl) (W_run 80 ?_)
  simp (maxSteps := 2000000) only [SA, Nat.reduceDiv, Nat.reduceSub, Nat.reduceAdd, Int.reduceLT, Int.reduceLE, Int.reduceToNat, Nat.reduceMul, Nat.reduceEqDiff, reduceCtorEq, Nat.reduceBEq, Nat.reduceLeDiff, Nat.reduceLT, xf44, ai, al, aT]
  refine W_call (args := [aT T]) rfl (noRefs_1 (noRef_T _)) (check_run hg) rfl (W_run 80 ?_)
  simp (maxSteps := 2000000) only [SA, Nat.reduceDiv, Nat.reduceSub, Nat.reduceAdd, Int.reduceLT, Int.reduceLE, Int.reduceToNat, Nat.reduceMul, Nat.reduceEqDiff, reduceCtorEq, Nat.reduceBEq, Nat.reduceLeDiff, Nat.reduceLT, ai, al, aT, n00]
  refine W_call (args := [ai T.length, al false p]) rfl (noRefs_2 rfl (noRef_al _ _)) hpl rfl (W_run 80 ?_)
  unfold wiE
  by_cases h : plE n p = 0
  · rw [if_pos h, hl, h]
    obtain ⟨h1, h2, h3⟩ := plE_ok.1 h
    have hnu := nums_run hg false h2 (by omega)
    have hme := idx1_has false (nums T p) 0 (by rw [nums_len]; omega)
    simp (maxSteps := 2000000) only [SA, Nat.reduceDiv, Nat.reduceSub, Nat.reduceAdd, Int.reduceLT, Int.reduceLE, Int.reduceToNat, Nat.reduceMul, Nat.reduceEqDiff, reduceCtorEq, Nat.reduceBEq, Nat.reduceLeDiff, Nat.reduceLT, ai, al, aT, n00]
    refine W_call (args := [aT T, al false p]) rfl (noRefs_2 (noRef_T _) (noRef_al _ _)) hnu (noRef_al _ _) (W_run 80 ?_)
    simp (maxSteps := 2000000) only [SA, Nat.reduceDiv, Nat.reduceSub, Nat.reduceAdd, Int.reduceLT, Int.reduceLE, Int.reduceToNat, Nat.reduceMul, Nat.reduceEqDiff, reduceCtorEq, Nat.reduceBEq, Nat.reduceLeDiff, Nat.reduceLT, ai, al, aT]
    refine W_call (args := [al false (nums T p), ai 0]) rfl (noRefs_2 (noRef_al _ _) rfl) hme rfl (W_run 80 ?_)
    by_cases hz : wgt T p = 0
    · have d3 := memD_iff.2 ((prI_zero _).1 hz)
      rw [if_pos hz]
      simp (maxSteps := 2000000) only [SA, Nat.reduceDiv, Nat.reduceSub, Nat.reduceAdd, Int.reduceLT, Int.reduceLE, Int.reduceToNat, Nat.reduceMul, Nat.reduceEqDiff, reduceCtorEq, Nat.reduceBEq, Nat.reduceLeDiff, Nat.reduceLT, ai, ab, d3]
      exact W_ret1 (WX_pop (WX_nil ⟨.inl rfl, _, rfl, rfl⟩))
    · have d3 : memD (nums T p) 0 = false := by
        cases q : memD (nums T p) 0 with
        | false => rfl
        | true => exact absurd ((prI_zero _).2 (memD_iff.1 q)) hz
      rw [if_neg hz]
      simp (maxSteps := 2000000) only [SA, Nat.reduceDiv, Nat.reduceSub, Nat.reduceAdd, Int.reduceLT, Int.reduceLE, Int.reduceToNat, Nat.reduceMul, Nat.reduceEqDiff, reduceCtorEq, Nat.reduceBEq, Nat.reduceLeDiff, Nat.reduceLT, ai, ab, d3]
      exact W_ret1 (WX_nil ⟨.inl rfl, _, rfl, rfl⟩)
  · rw [if_neg h, hl]
    have e1 : (plE n p != 0) = true := by rw [bne_iff_ne]; exact h
    simp (maxSteps := 2000000) only [SA, Nat.reduceDiv, Nat.reduceSub, Nat.reduceAdd, Int.reduceLT, Int.reduceLE, Int.reduceToNat, Nat.reduceMul, Nat.reduceEqDiff, reduceCtorEq, Nat.reduceBEq, Nat.reduceLeDiff, Nat.reduceLT, ai, al, aT, e1]
    exact W_ret1 (WX_pop (WX_nil ⟨.inl rfl, _, rfl, rfl⟩))
end Go.Proofs.Ytelkpfionifjgaa

