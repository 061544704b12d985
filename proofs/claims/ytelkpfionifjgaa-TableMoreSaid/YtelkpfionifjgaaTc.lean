/-
  Tables as plain data; package table's Check, numbersAt, product, checkPlan, Within; the law's weight.
-/
import Derived.Test.YtelkpfionifjgaaTb
set_option linter.unusedSimpArgs false
set_option linter.unusedVariables false
namespace Go.Proofs.Ytelkpfionifjgaa
open Go Go.Proofs.Eng
set_option maxRecDepth 100000
set_option maxHeartbeats 2000000
theorem getD_at {α : Type} {l : List α} {i : Nat} {d : α} (h : i < l.length) : l[i]? = some (l.getD i d) := by
  rw [List.getD_eq_getElem?_getD, List.getElem?_eq_getElem h]; rfl
/-- a table -/
def aT (T : List (List Int)) : AV := .sl 1 false (T.map (al false))
theorem get_T {T : List (List Int)} {i : Nat} (h : i < T.length) : (T.map (al false))[i]? = some (al false (T.getD i [])) := by
  rw [List.getElem?_map, getD_at (d := []) h]; rfl
theorem noRef_T (T : List (List Int)) : noRef (aT T) = true := noRefs_of fun x hx => by obtain ⟨z, _, rfl⟩ := List.mem_map.1 hx; exact noRef_al _ _
theorem noRefs_1 {x : AV} (h : noRef x = true) : noRefs [x] = true := by simp [noRefs, h]
theorem noRefs_2 {x y : AV} (h : noRef x = true) (h2 : noRef y = true) : noRefs [x, y] = true := by simp [noRefs, h, h2]
theorem noRefs_3 {x y z : AV} (h : noRef x = true) (h2 : noRef y = true) (h3 : noRef z = true) : noRefs [x, y, z] = true := by simp [noRefs, h, h2, h3]
/-- a good table of n rows -/
structure gT (n : Nat) (T : List (List Int)) : Prop where
  len : T.length = n
  n1 : 1 ≤ n
  n4 : n ≤ 4
  row : ∀ r, r ∈ T → r.length = n
  cel : ∀ r, r ∈ T → ∀ x, x ∈ r → 0 ≤ x ∧ x ≤ 9
/-- the number of a row and a column -/
def cel (T : List (List Int)) (r c : Nat) : Int := (T.getD r []).getD c 0
theorem gT.rowlen {n : Nat} {T : List (List Int)} (h : gT n T) {r : Nat} (hr : r < n) : (T.getD r []).length = n := h.row _ (getD_mem (by rw [h.len]; exact hr))
theorem gT.b {n : Nat} {T : List (List Int)} (h : gT n T) {r c : Nat} (hr : r < n) (hc : c < n) : 0 ≤ Go.Proofs.Ytelkpfionifjgaa.cel T r c ∧ Go.Proofs.Ytelkpfionifjgaa.cel T r c ≤ 9 :=
  h.cel _ (getD_mem (by rw [h.len]; exact hr)) _ (getD_mem (by rw [h.rowlen hr]; exact hc))
theorem chk_loop (n : Nat) (T : List (List Int)) (hg : gT n T) (K : List Fr) (Q : Out → Cfg → Prop)
    (hK : ∀ j1 j3 j4 j5 j6 j7 j8 j9 j10 j14 j15 j16 j17 j18 j19 j20 j21 j22 j23 j24 j25 j26 j27 j28 j29 j30 : AV, W Try.prog (RelU Try.prog xf) 0 K ⟨((aT T) :: j1 :: (ai 0) :: j3 :: j4 :: j5 :: j6 :: j7 :: j8 :: j9 :: j10 :: (aT T) :: (ai T.length) :: (ai T.length) :: j14 :: j15 :: j16 :: j17 :: j18 :: j19 :: j20 :: j21 :: j22 :: j23 :: j24 :: j25 :: j26 :: j27 :: j28 :: j29 :: j30 :: []), []⟩ Q) :
    ∀ (k i : Nat), i + k = T.length → ∀ j1 j3 j4 j5 j6 j7 j8 j9 j10 j14 j15 j16 j17 j18 j19 j20 j21 j22 j23 j24 j25 j26 j27 j28 j29 j30 : AV, W Try.prog (RelU Try.prog xf) 0 (.code (.loop xf51_L0) :: .blk 0 :: .stop :: K) ⟨((aT T) :: j1 :: (ai 0) :: j3 :: j4 :: j5 :: j6 :: j7 :: j8 :: j9 :: j10 :: (aT T) :: (ai T.length) :: (ai i) :: j14 :: j15 :: j16 :: j17 :: j18 :: j19 :: j20 :: j21 :: j22 :: j23 :: j24 :: j25 :: j26 :: j27 :: j28 :: j29 :: j30 :: []), []⟩ Q := by
  intro k
  induction k with
  | zero =>
    intro i hi j1 j3 j4 j5 j6 j7 j8 j9 j10 j14 j15 j16 j17 j18 j19 j20 j21 j22 j23 j24 j25 j26 j27 j28 j29 j30
    have : i = T.length := by omega
    subst this
    have h0 : decide (T.length < T.length) = false := by simp
    refine W_loop (W_run 80 ?_)
    simp (maxSteps := 2000000) only [SA, Nat.reduceDiv, Nat.reduceSub, Nat.reduceAdd, Int.reduceLT, Int.reduceLE, Int.reduceToNat, Nat.reduceMul, Nat.reduceEqDiff, reduceCtorEq, Nat.reduceBEq, Nat.reduceLeDiff, Nat.reduceLT, xf51_L0, ai, aT, lt_cast, h0]
    exact W_stop (hK _ _ _ _ _ _ _ _ _ _ _ _ _ _ _ _ _ _ _ _ _ _ _ _ _ _)
  | succ k ih =>
    intro i hi j1 j3 j4 j5 j6 j7 j8 j9 j10 j14 j15 j16 j17 j18 j19 j20 j21 j22 j23 j24 j25 j26 j27 j28 j29 j30
    have h1 : i < T.length := by omega
    have h0 : decide (i < T.length) = true := decide_eq_true h1
    have hn4 := hg.n4
    have hn1 := hg.n1
    have hlen := hg.len
    have hr := getD_mem (d := []) h1
    have hrl := hg.row _ hr
    have hrc := hg.cel _ hr
    generalize hR : T.getD i [] = R at *
    have hne : R ≠ [] := by intro e; rw [e] at hrl; simp at hrl; omega
    have e1 : ((R.length : Int) != (T.length : Int)) = false := by rw [hrl, hlen]; simp
    have m1 := mnF_ge hne fun x hx => (hrc x hx).1
    have m2 := (mxF_le hne).2 fun x hx => (hrc x hx).2
    have d1 : decide (mnF R < 0) = false := decide_eq_false (by omega)
    have d2 : decide ((9 : Int) < mxF R) = false := decide_eq_false (by omega)
    have hgt := get_T h1
    rw [hR] at hgt
    refine W_loop (W_run 80 ?_)
    simp (maxSteps := 2000000) only [SA, Nat.reduceDiv, Nat.reduceSub, Nat.reduceAdd, Int.reduceLT, Int.reduceLE, Int.reduceToNat, Nat.reduceMul, Nat.reduceEqDiff, reduceCtorEq, Nat.reduceBEq, Nat.reduceLeDiff, Nat.reduceLT, xf51_L0, ai, aT, al, lt_cast, h0, hgt, e1]
    refine W_call (args := [al false R]) rfl (noRefs_1 (noRef_al _ _)) (min_run false R (by omega) (by omega)) rfl (W_run 80 ?_)
    simp (maxSteps := 2000000) only [SA, Nat.reduceDiv, Nat.reduceSub, Nat.reduceAdd, Int.reduceLT, Int.reduceLE, Int.reduceToNat, Nat.reduceMul, Nat.reduceEqDiff, reduceCtorEq, Nat.reduceBEq, Nat.reduceLeDiff, Nat.reduceLT, ai, aT, al, d1]
    refine W_call (args := [al false R]) rfl (noRefs_1 (noRef_al _ _)) (max_run false R (by omega) (by omega)) rfl (W_run 80 ?_)
    simp (maxSteps := 2000000) only [SA, Nat.reduceDiv, Nat.reduceSub, Nat.reduceAdd, Int.reduceLT, Int.reduceLE, Int.reduceToNat, Nat.reduceMul, Nat.reduceEqDiff, reduceCtorEq, Nat.reduceBEq, Nat.reduceLeDiff, Nat.reduceLT, ai, aT, al, d2]
    rw [wrap_id (z := (i : Int) + 1) (by omega) (by omega)]
    exact ih (i + 1) (by omega) _ _ _ _ _ _ _ _ _ _ _ _ _ _ _ _ _ _ _ _ _ _ _ _ _ _
theorem check_run {n : Nat} {T : List (List Int)} (hg : gT n T) : Runs Try.prog xf 51 [aT T] (ai 0) := by
  have hn4 := hg.n4
  have hn1 := hg.n1
  have hlen := hg.len
  have e1 : ((T.length : Int) == 0) = false := by rw [beq_eq_false_iff_ne]; omega
  have e2 : decide ((4 : Int) < (T.length : Int)) = false := decide_eq_false (by omega)
  refine Runs.ofW (fn := xf51) 20 (by kernel_rfl) (W_run 80 ?_)
  simp (maxSteps := 2000000) only [SA, Nat.reduceDiv, Nat.reduceSub, Nat.reduceAdd, Int.reduceLT, Int.reduceLE, Int.reduceToNat, Nat.reduceMul, Nat.reduceEqDiff, reduceCtorEq, Nat.reduceBEq, Nat.reduceLeDiff, Nat.reduceLT, xf51, ai, aT, e1, e2]
  refine W_alone (chk_loop n T hg _ _ (fun j1 j3 j4 j5 j6 j7 j8 j9 j10 j14 j15 j16 j17 j18 j19 j20 j21 j22 j23 j24 j25 j26 j27 j28 j29 j30 => W_run 80 ?_) T.length 0 (by omega) _ _ _ _ _ _ _ _ _ _ _ _ _ _ _ _ _ _ _ _ _ _ _ _ _ _)
  simp (maxSteps := 2000000) only [SA, Nat.reduceDiv, Nat.reduceSub, Nat.reduceAdd, Int.reduceLT, Int.reduceLE, Int.reduceToNat, Nat.reduceMul, Nat.reduceEqDiff, reduceCtorEq, Nat.reduceBEq, Nat.reduceLeDiff, Nat.reduceLT, xf51_R0, ai, aT]
  exact W_ret1 (WX_nil ⟨.inl rfl, _, rfl, rfl⟩)
/-- numbers at the places of a plan -/
def nums (T : List (List Int)) (p : List Int) : List Int := (List.range p.length).map fun r => cel T r (p.getD r 0).toNat
/-- numbers that are columns -/
def inC (n : Nat) (p : List Int) : Prop := ∀ c, c ∈ p → 0 ≤ c ∧ c < n
def numsK (T : List (List Int)) (p : List Int) (k : Nat) : List Int := (List.range k).map fun r => cel T r (p.getD r 0).toNat
theorem numsK_succ (T : List (List Int)) (p : List Int) (k : Nat) : numsK T p (k + 1) = numsK T p k ++ [cel T k (p.getD k 0).toNat] := by
  unfold numsK; rw [List.range_succ, List.map_append]; rfl
theorem numsK_len (T : List (List Int)) (p : List Int) (k : Nat) : (numsK T p k).length = k := by unfold numsK; simp
theorem nums_len (T : List (List Int)) (p : List Int) : (nums T p).length = p.length := numsK_len T p p.length
theorem get_cel {T : List (List Int)} {n r : Nat} {c : Int} (hg : gT n T) (hr : r < n) (hc : 0 ≤ c ∧ c < n) : ((T.getD r []).map ai)[c.toNat]? = some (ai (cel T r c.toNat)) :=
  get_al (by rw [hg.rowlen hr]; omega)
theorem named811 {q : Nat × Option Ob} (j : Nat) : Go.Proofs.Eng.look [(8, q)] j = Go.Proofs.Eng.look [(8, q)] j := rfl
theorem num_loop (n : Nat) (T : List (List Int)) (hg : gT n T) (f : Bool) (p : List Int) (hp : inC n p) (hl : p.length ≤ n) (K : List Fr) (Q : Out → Cfg → Prop)
    (hK : ∀ j2 j3 j4 j6 j7 j8 j12 j13 j14 j15 j16 j17 j18 j19 j20 j21 j22 j23 j24 j25 j26 j27 : AV, W Try.prog (RelU Try.prog xf) 0 K ⟨((aT T) :: (al f p) :: j2 :: j3 :: j4 :: (.os 8 1 p.length 1 0 p.length) :: j6 :: j7 :: j8 :: (al f p) :: (ai p.length) :: (ai p.length) :: j12 :: j13 :: j14 :: j15 :: j16 :: j17 :: j18 :: j19 :: j20 :: j21 :: j22 :: j23 :: j24 :: j25 :: j26 :: j27 :: []), [(8, (1, some ⟨3, 1, (nums T p).map ai⟩))]⟩ Q) :
    ∀ (k i : Nat), i + k = p.length → ∀ j2 j3 j4 j6 j7 j8 j12 j13 j14 j15 j16 j17 j18 j19 j20 j21 j22 j23 j24 j25 j26 j27 : AV, W Try.prog (RelU Try.prog xf) 0 (.code (.loop xf58_L0) :: .blk 0 :: .stop :: K) ⟨((aT T) :: (al f p) :: j2 :: j3 :: j4 :: (.os 8 1 i 1 0 i) :: j6 :: j7 :: j8 :: (al f p) :: (ai p.length) :: (ai i) :: j12 :: j13 :: j14 :: j15 :: j16 :: j17 :: j18 :: j19 :: j20 :: j21 :: j22 :: j23 :: j24 :: j25 :: j26 :: j27 :: []), [(8, (1, some ⟨3, 1, (numsK T p i).map ai⟩))]⟩ Q := by
  intro k
  induction k with
  | zero =>
    intro i hi j2 j3 j4 j6 j7 j8 j12 j13 j14 j15 j16 j17 j18 j19 j20 j21 j22 j23 j24 j25 j26 j27
    have : i = p.length := by omega
    subst this
    have h0 : decide (p.length < p.length) = false := by simp
    refine W_loop (W_run 80 ?_)
    simp (maxSteps := 2000000) only [SA, Nat.reduceDiv, Nat.reduceSub, Nat.reduceAdd, Int.reduceLT, Int.reduceLE, Int.reduceToNat, Nat.reduceMul, Nat.reduceEqDiff, reduceCtorEq, Nat.reduceBEq, Nat.reduceLeDiff, Nat.reduceLT, xf58_L0, ai, al, aT, lt_cast, h0]
    exact W_stop (hK _ _ _ _ _ _ _ _ _ _ _ _ _ _ _ _ _ _ _ _ _ _)
  | succ k ih =>
    intro i hi j2 j3 j4 j6 j7 j8 j12 j13 j14 j15 j16 j17 j18 j19 j20 j21 j22 j23 j24 j25 j26 j27
    have h1 : i < p.length := by omega
    have h0 : decide (i < p.length) = true := decide_eq_true h1
    have hn4 := hg.n4
    have hc := hp _ (getD_mem (d := 0) h1)
    have hgt := get_T (T := T) (i := i) (by rw [hg.len]; omega)
    have hcl := get_cel hg (r := i) (by omega) hc
    have hlk := numsK_len T p i
    have next := ih (i + 1) (by omega)
    rw [numsK_succ, List.map_append] at next
    generalize hC : p.getD i 0 = c at *
    have hga := get_al h1
    rw [hC] at hga
    have q1 : (i + 1) * 8 ≤ 100000000000000 := by omega
    have q2 : i + 1 ≤ 100000000000000 := by omega
    refine W_loop (W_run 80 ?_)
    simp (maxSteps := 2000000) only [SA, Nat.reduceDiv, Nat.reduceSub, Nat.reduceAdd, Int.reduceLT, Int.reduceLE, Int.reduceToNat, Nat.reduceMul, Nat.reduceEqDiff, reduceCtorEq, Nat.reduceBEq, Nat.reduceLeDiff, Nat.reduceLT, xf58_L0, ai, al, aT, lt_cast, h0, hga, hgt, hc.1, hcl, hlk, q1, q2, Go.Proofs.Eng.elems, List.map_cons, List.map_nil]
    rw [wrap_id (z := (i : Int) + 1) (by omega) (by omega)]
    exact next _ _ _ _ _ _ _ _ _ _ _ _ _ _ _ _ _ _ _ _ _ _
theorem nums_run {n : Nat} {T : List (List Int)} (hg : gT n T) (f : Bool) {p : List Int} (hp : inC n p) (hl : p.length ≤ n) : Runs Try.prog xf 58 [aT T, al f p] (al false (nums T p)) := by
  refine Runs.ofW (fn := xf58) 20 (by kernel_rfl) (W_run 80 ?_)
  simp (maxSteps := 2000000) only [SA, Nat.reduceDiv, Nat.reduceSub, Nat.reduceAdd, Int.reduceLT, Int.reduceLE, Int.reduceToNat, Nat.reduceMul, Nat.reduceEqDiff, reduceCtorEq, Nat.reduceBEq, Nat.reduceLeDiff, Nat.reduceLT, xf58, ai, al, aT, List.map_nil]
  refine W_alone (num_loop n T hg f p hp hl _ _ (fun j2 j3 j4 j6 j7 j8 j12 j13 j14 j15 j16 j17 j18 j19 j20 j21 j22 j23 j24 j25 j26 j27 => W_run 80 ?_) p.length 0 (by omega) _ _ _ _ _ _ _ _ _ _ _ _ _ _ _ _ _ _ _ _ _ _)
  simp (maxSteps := 2000000) only [SA, Nat.reduceDiv, Nat.reduceSub, Nat.reduceAdd, Int.reduceLT, Int.reduceLE, Int.reduceToNat, Nat.reduceMul, Nat.reduceEqDiff, reduceCtorEq, Nat.reduceBEq, Nat.reduceLeDiff, Nat.reduceLT, xf58_R0, ai, al, aT]
  refine W_ret1 (WX_nil ⟨.inl rfl, _, rfl, ?_⟩)
  have h := reify_ints (η := [(8, (1, some ⟨3, 1, (nums T p).map ai⟩))]) (k := 8) (g := 1) (e := 3) (l := nums T p) rfl
  rw [nums_len] at h
  exact h
def prI (l : List Int) : Int := l.foldl (· * ·) 1
theorem prI_snoc (l : List Int) (x : Int) : prI (l ++ [x]) = prI l * x := by simp [prI, List.foldl_append]
theorem prI_b : ∀ (m : Nat) (l : List Int), l.length ≤ m → m ≤ 4 → (∀ x, x ∈ l → 0 ≤ x ∧ x ≤ 9) → 0 ≤ prI l ∧ prI l ≤ 9 ^ m := by
  have key : ∀ (l : List Int) (a : Int), 0 ≤ a → (∀ x, x ∈ l → 0 ≤ x ∧ x ≤ 9) → 0 ≤ l.foldl (· * ·) a ∧ l.foldl (· * ·) a ≤ a * 9 ^ l.length := by
    intro l
    induction l with
    | nil => intro a ha _; simp; exact ha
    | cons x t ih =>
      intro a ha hx
      have hx0 := hx x List.mem_cons_self
      obtain ⟨i1, i2⟩ := ih (a * x) (Int.mul_nonneg ha hx0.1) fun y hy => hx y (List.mem_cons_of_mem _ hy)
      refine ⟨i1, Int.le_trans i2 ?_⟩
      have h9 : (0 : Int) ≤ 9 ^ t.length := Int.pow_nonneg (by omega)
      have h2 := Int.mul_le_mul_of_nonneg_right (Int.mul_le_mul_of_nonneg_left hx0.2 ha) h9
      have h3 : a * 9 ^ (t.length + 1) = a * 9 * 9 ^ t.length := by rw [Int.pow_succ, Int.mul_comm (9 ^ _) 9, Int.mul_assoc]
      rw [List.length_cons, h3]
      exact h2
  intro m l hl hm hx
  obtain ⟨h1, h2⟩ := key l 1 (by omega) hx
  refine ⟨h1, Int.le_trans h2 ?_⟩
  rw [Int.one_mul]
  exact_mod_cast Nat.pow_le_pow_right (by omega) hl
theorem p9 {m : Nat} (h : m ≤ 4) : (9 : Int) ^ m ≤ 6561 := by
  match m, h with
  | 0, _ | 1, _ | 2, _ | 3, _ | 4, _ => decide
theorem prI_big {l : List Int} (hl : l.length ≤ 4) (hx : ∀ x, x ∈ l → 0 ≤ x ∧ x ≤ 9) : 0 ≤ prI l ∧ prI l ≤ 6561 := by
  have := prI_b l.length l (Nat.le_refl _) hl hx
  have := p9 hl
  omega
theorem prd_loop (l : List Int) (hl : l.length ≤ 4) (hx : ∀ x, x ∈ l → 0 ≤ x ∧ x ≤ 9) (K : List Fr) (Q : Out → Cfg → Prop)
    (hK : ∀ j1 j2 j4 j5 j9 j10 j11 j12 j13 j14 j15 j16 : AV, W Try.prog (RelU Try.prog xf) 0 K ⟨((al false l) :: j1 :: j2 :: (ai (prI l)) :: j4 :: j5 :: (al false l) :: (ai l.length) :: (ai l.length) :: j9 :: j10 :: j11 :: j12 :: j13 :: j14 :: j15 :: j16 :: []), []⟩ Q) :
    ∀ (k i : Nat), i + k = l.length → ∀ j1 j2 j4 j5 j9 j10 j11 j12 j13 j14 j15 j16 : AV, W Try.prog (RelU Try.prog xf) 0 (.code (.loop xf74_L0) :: .blk 0 :: .stop :: K) ⟨((al false l) :: j1 :: j2 :: (ai (prI (l.take i))) :: j4 :: j5 :: (al false l) :: (ai l.length) :: (ai i) :: j9 :: j10 :: j11 :: j12 :: j13 :: j14 :: j15 :: j16 :: []), []⟩ Q := by
  intro k
  induction k with
  | zero =>
    intro i hi j1 j2 j4 j5 j9 j10 j11 j12 j13 j14 j15 j16
    have : i = l.length := by omega
    subst this
    have h0 : decide (l.length < l.length) = false := by simp
    rw [List.take_length]
    refine W_loop (W_run 80 ?_)
    simp (maxSteps := 2000000) only [SA, Nat.reduceDiv, Nat.reduceSub, Nat.reduceAdd, Int.reduceLT, Int.reduceLE, Int.reduceToNat, Nat.reduceMul, Nat.reduceEqDiff, reduceCtorEq, Nat.reduceBEq, Nat.reduceLeDiff, Nat.reduceLT, xf74_L0, ai, al, lt_cast, h0]
    exact W_stop (hK _ _ _ _ _ _ _ _ _ _ _ _)
  | succ k ih =>
    intro i hi j1 j2 j4 j5 j9 j10 j11 j12 j13 j14 j15 j16
    have h1 : i < l.length := by omega
    have h0 : decide (i < l.length) = true := decide_eq_true h1
    have hnx : prI (l.take (i + 1)) = prI (l.take i) * l.getD i 0 := by rw [take_snoc (d := 0) h1, prI_snoc]
    have hb := prI_big (l := l.take (i + 1)) (by rw [List.length_take]; omega) fun x q => hx x (List.mem_of_mem_take q)
    have next := ih (i + 1) (by omega)
    refine W_loop (W_run 80 ?_)
    simp (maxSteps := 2000000) only [SA, Nat.reduceDiv, Nat.reduceSub, Nat.reduceAdd, Int.reduceLT, Int.reduceLE, Int.reduceToNat, Nat.reduceMul, Nat.reduceEqDiff, reduceCtorEq, Nat.reduceBEq, Nat.reduceLeDiff, Nat.reduceLT, xf74_L0, ai, al, lt_cast, h0, get_al h1]
    rw [← hnx, wrap_id (z := prI (l.take (i + 1))) (by omega) (by omega), wrap_id (z := (i : Int) + 1) (by omega) (by omega)]
    exact next _ _ _ _ _ _ _ _ _ _ _ _
theorem product_run {l : List Int} (hl : l.length ≤ 4) (hx : ∀ x, x ∈ l → 0 ≤ x ∧ x ≤ 9) : Runs Try.prog xf 74 [al false l] (ai (prI l)) := by
  refine Runs.ofW (fn := xf74) 20 (by kernel_rfl) (W_run 80 ?_)
  simp (maxSteps := 2000000) only [SA, Nat.reduceDiv, Nat.reduceSub, Nat.reduceAdd, Int.reduceLT, Int.reduceLE, Int.reduceToNat, Nat.reduceMul, Nat.reduceEqDiff, reduceCtorEq, Nat.reduceBEq, Nat.reduceLeDiff, Nat.reduceLT, xf74, ai, al]
  refine W_alone (prd_loop l hl hx _ _ (fun j1 j2 j4 j5 j9 j10 j11 j12 j13 j14 j15 j16 => W_run 80 ?_) l.length 0 (by omega) _ _ _ _ _ _ _ _ _ _ _ _)
  simp (maxSteps := 2000000) only [SA, Nat.reduceDiv, Nat.reduceSub, Nat.reduceAdd, Int.reduceLT, Int.reduceLE, Int.reduceToNat, Nat.reduceMul, Nat.reduceEqDiff, reduceCtorEq, Nat.reduceBEq, Nat.reduceLeDiff, Nat.reduceLT, xf74_R0, ai, al]
  exact W_ret1 (WX_nil ⟨.inl rfl, _, rfl, rfl⟩)
theorem nums_mem {n : Nat} {T : List (List Int)} (hg : gT n T) {p : List Int} (hp : inC n p) (hl : p.length ≤ n) : ∀ x, x ∈ nums T p → 0 ≤ x ∧ x ≤ 9 := fun x hx => by
  unfold nums at hx
  obtain ⟨r, hr, rfl⟩ := List.mem_map.1 hx
  have hr := List.mem_range.1 hr
  have hc := hp _ (getD_mem (d := 0) hr)
  exact hg.b (by omega) (by omega)
/-- the weight of a plan -/
def wgt (T : List (List Int)) (p : List Int) : Int := prI (nums T p)
theorem wgt_b {n : Nat} {T : List (List Int)} (hg : gT n T) {p : List Int} (hp : inC n p) (hl : p.length ≤ n) : 0 ≤ wgt T p ∧ wgt T p ≤ 6561 := by
  have := hg.n4
  exact prI_big (by rw [nums_len]; omega) (nums_mem hg hp hl)
theorem wgt_loop (n : Nat) (T : List (List Int)) (hg : gT n T) (f : Bool) (p : List Int) (hp : inC n p) (hl : p.length ≤ n) (K : List Fr) (Q : Out → Cfg → Prop)
    (hK : ∀ j2 j3 j4 j6 j7 j11 j12 j13 j14 j15 j16 j17 j18 j19 j20 j21 j22 j23 j24 j25 : AV, W Try.prog (RelU Try.prog xf) 0 K ⟨((aT T) :: (al f p) :: j2 :: j3 :: j4 :: (ai (wgt T p)) :: j6 :: j7 :: (al f p) :: (ai p.length) :: (ai p.length) :: j11 :: j12 :: j13 :: j14 :: j15 :: j16 :: j17 :: j18 :: j19 :: j20 :: j21 :: j22 :: j23 :: j24 :: j25 :: []), []⟩ Q) :
    ∀ (k i : Nat), i + k = p.length → ∀ j2 j3 j4 j6 j7 j11 j12 j13 j14 j15 j16 j17 j18 j19 j20 j21 j22 j23 j24 j25 : AV, W Try.prog (RelU Try.prog xf) 0 (.code (.loop xf18_L0) :: .blk 0 :: .stop :: K) ⟨((aT T) :: (al f p) :: j2 :: j3 :: j4 :: (ai (prI (numsK T p i))) :: j6 :: j7 :: (al f p) :: (ai p.length) :: (ai i) :: j11 :: j12 :: j13 :: j14 :: j15 :: j16 :: j17 :: j18 :: j19 :: j20 :: j21 :: j22 :: j23 :: j24 :: j25 :: []), []⟩ Q := by
  intro k
  induction k with
  | zero =>
    intro i hi j2 j3 j4 j6 j7 j11 j12 j13 j14 j15 j16 j17 j18 j19 j20 j21 j22 j23 j24 j25
    have : i = p.length := by omega
    subst this
    have h0 : decide (p.length < p.length) = false := by simp
    refine W_loop (W_run 80 ?_)
    simp (maxSteps := 2000000) only [SA, Nat.reduceDiv, Nat.reduceSub, Nat.reduceAdd, Int.reduceLT, Int.reduceLE, Int.reduceToNat, Nat.reduceMul, Nat.reduceEqDiff, reduceCtorEq, Nat.reduceBEq, Nat.reduceLeDiff, Nat.reduceLT, xf18_L0, ai, al, aT, lt_cast, h0]
    exact W_stop (hK _ _ _ _ _ _ _ _ _ _ _ _ _ _ _ _ _ _ _ _)
  | succ k ih =>
    intro i hi j2 j3 j4 j6 j7 j11 j12 j13 j14 j15 j16 j17 j18 j19 j20 j21 j22 j23 j24 j25
    have h1 : i < p.length := by omega
    have h0 : decide (i < p.length) = true := decide_eq_true h1
    have hn4 := hg.n4
    have hc := hp _ (getD_mem (d := 0) h1)
    have hgt := get_T (T := T) (i := i) (by rw [hg.len]; omega)
    have hcl := get_cel hg (r := i) (by omega) hc
    have hb := prI_big (l := numsK T p (i + 1)) (by rw [numsK_len]; omega) fun x q => by
      unfold numsK at q
      obtain ⟨r, hr, rfl⟩ := List.mem_map.1 q
      have hr := List.mem_range.1 hr
      have hc := hp _ (getD_mem (d := 0) (i := r) (l := p) (by omega))
      exact hg.b (by omega) (by omega)
    have next := ih (i + 1) (by omega)
    rw [numsK_succ, prI_snoc] at next hb
    generalize hC : p.getD i 0 = c at *
    have hga := get_al h1
    rw [hC] at hga
    refine W_loop (W_run 80 ?_)
    simp (maxSteps := 2000000) only [SA, Nat.reduceDiv, Nat.reduceSub, Nat.reduceAdd, Int.reduceLT, Int.reduceLE, Int.reduceToNat, Nat.reduceMul, Nat.reduceEqDiff, reduceCtorEq, Nat.reduceBEq, Nat.reduceLeDiff, Nat.reduceLT, xf18_L0, ai, al, aT, lt_cast, h0, hga, hgt, hc.1, hcl]
    rw [wrap_id (z := prI (numsK T p i) * cel T i c.toNat) (by omega) (by omega), wrap_id (z := (i : Int) + 1) (by omega) (by omega)]
    exact next _ _ _ _ _ _ _ _ _ _ _ _ _ _ _ _ _ _ _ _
theorem wgt_run {n : Nat} {T : List (List Int)} (hg : gT n T) (f : Bool) {p : List Int} (hp : inC n p) (hl : p.length ≤ n) : Runs Try.prog xf 18 [aT T, al f p] (ai (wgt T p)) := by
  refine Runs.ofW (fn := xf18) 20 (by kernel_rfl) (W_run 80 ?_)
  simp (maxSteps := 2000000) only [SA, Nat.reduceDiv, Nat.reduceSub, Nat.reduceAdd, Int.reduceLT, Int.reduceLE, Int.reduceToNat, Nat.reduceMul, Nat.reduceEqDiff, reduceCtorEq, Nat.reduceBEq, Nat.reduceLeDiff, Nat.reduceLT, xf18, ai, al, aT]
  refine W_alone (wgt_loop n T hg f p hp hl _ _ (fun j2 j3 j4 j6 j7 j11 j12 j13 j14 j15 j16 j17 j18 j19 j20 j21 j22 j23 j24 j25 => W_run 80 ?_) p.length 0 (by omega) _ _ _ _ _ _ _ _ _ _ _ _ _ _ _ _ _ _ _ _)
  simp (maxSteps := 2000000) only [SA, Nat.reduceDiv, Nat.reduceSub, Nat.reduceAdd, Int.reduceLT, Int.reduceLE, Int.reduceToNat, Nat.reduceMul, Nat.reduceEqDiff, reduceCtorEq, Nat.reduceBEq, Nat.reduceLeDiff, Nat.reduceLT, xf18_R0, ai, al, aT]
  exact W_ret1 (WX_nil ⟨.inl rfl, _, rfl, rfl⟩)
end Go.Proofs.Ytelkpfionifjgaa

