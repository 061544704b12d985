/-
  Package table's emptyColumns, checkNumbers, Proves, listsOfRows, Bar; the law's lists of plans.
-/
import Derived.Test.YtelkpfionifjgaaTd
set_option linter.unusedSimpArgs false
set_option linter.unusedVariables false
namespace Go.Proofs.Ytelkpfionifjgaa
open Go Go.Proofs.Eng
set_option maxRecDepth 100000
set_option maxHeartbeats 2000000
theorem hasl_run {n : Nat} {T : List (List Int)} (hg : gT n T) (r : Int) (hr : 0 ≤ r ∧ r < n) (c : Nat) (hc : c < n) : Runs Try.prog xf 80 [ai r, .ptr (aT T), .ptr (ai c)] (ab (decide (0 < cel T r.toNat c))) := by
  have hlen := hg.len
  have hgt := get_T (T := T) (i := r.toNat) (by omega)
  have hcl := get_cel hg (r := r.toNat) (c := (c : Int)) (by omega) (by omega)
  rw [toNat_cast] at hcl
  have hr0 := hr.1
  refine Runs.ofW (fn := xf80) 20 (by kernel_rfl) (W_run 80 ?_)
  simp (maxSteps := 2000000) only [SA, Nat.reduceDiv, Nat.reduceSub, Nat.reduceAdd, Int.reduceLT, Int.reduceLE, Int.reduceToNat, Nat.reduceMul, Nat.reduceEqDiff, reduceCtorEq, Nat.reduceBEq, Nat.reduceLeDiff, Nat.reduceLT, xf80, ai, aT, al, hr0, hgt, hcl]
  exact W_ret1 (WX_nil ⟨.inl rfl, _, rfl, rfl⟩)
theorem call_hasl : callable Try.prog 80 = true := by kernel_rfl
/-- whether a column has 0 in all of some rows -/
def zerB (T : List (List Int)) (l : List Int) (c : Nat) : Bool := !(l.any fun r => decide (0 < cel T r.toNat c))
def zerK (T : List (List Int)) (l : List Int) (k : Nat) : List Int := ((List.range k).filter (zerB T l)).map fun (c : Nat) => (c : Int)
/-- the columns that have 0 in all of some rows -/
def zerC (n : Nat) (T : List (List Int)) (l : List Int) : List Int := zerK T l n
theorem zerK_succ (T : List (List Int)) (l : List Int) (k : Nat) : zerK T l (k + 1) = zerK T l k ++ (if zerB T l k = true then [(k : Int)] else []) := by
  unfold zerK
  rw [List.range_succ, List.filter_append, List.map_append, List.filter_cons, List.filter_nil]
  split <;> rfl
theorem zerK_len (T : List (List Int)) (l : List Int) (k : Nat) : (zerK T l k).length ≤ k := by
  unfold zerK
  rw [List.length_map]
  exact Nat.le_trans (List.length_filter_le _ _) (by simp)
theorem zerC_mem {n : Nat} {T : List (List Int)} {l : List Int} {c : Int} : c ∈ zerC n T l ↔ (0 ≤ c ∧ c < n) ∧ zerB T l c.toNat = true := by
  unfold zerC zerK
  rw [List.mem_map]
  constructor
  · rintro ⟨k, h, rfl⟩
    obtain ⟨h1, h2⟩ := List.mem_filter.1 h
    have := List.mem_range.1 h1
    exact ⟨by omega, by simpa using h2⟩
  · rintro ⟨h1, h2⟩
    exact ⟨c.toNat, List.mem_filter.2 ⟨List.mem_range.2 (by omega), h2⟩, by omega⟩
theorem named68 {q : Nat × Option Ob} (j : Nat) : Go.Proofs.Eng.look [(8, q)] j = Go.Proofs.Eng.look [(6, (0, (none : Option Ob))), (8, q)] j := by
  simp only [Go.Proofs.Eng.look]
  by_cases h : 6 = j
  · subst h; simp
  · simp [h]
theorem reify_isL {x : AV} {l : List Int} (hx : isL x l) (η : Heap) (n : Nat) : reify η (n + 3) x = some x := by
  rcases hx with ⟨f, rfl⟩ | ⟨rfl, _⟩
  · have h : ∀ l : List Int, (l.map ai).mapM (elemR (reify η (n + 2))) = some (l.map ai) := fun l => by
      induction l with
      | nil => rfl
      | cons a l ih => rw [List.map_cons, List.mapM_cons, ih]; rfl
    show Option.map (AV.sl 1 f) ((l.map ai).mapM (elemR (reify η (n + 2)))) = _
    rw [h]; rfl
  · rfl
theorem reify_T (T : List (List Int)) (η : Heap) (n : Nat) : reify η (n + 6) (aT T) = some (aT T) := by
  have h : ∀ l : List (List Int), (l.map (al false)).mapM (elemR (reify η (n + 5))) = some (l.map (al false)) := fun l => by
    induction l with
    | nil => rfl
    | cons a l ih =>
      rw [List.map_cons, List.mapM_cons, ih]
      have e : elemR (reify η (n + 5)) (al false a) = some (al false a) := reify_isL (.inl ⟨false, rfl⟩) η (n + 2)
      rw [e]; rfl
  show Option.map (AV.sl 1 false) ((T.map (al false)).mapM (elemR (reify η (n + 5)))) = _
  rw [h]; rfl
theorem reify_cnf {x : AV} {l : List Int} (hx : isL x l) {T : List (List Int)} {η : Heap} {f g : Nat} (c : Nat) (hk : Go.Proofs.Eng.look η 6 = (g, some ⟨3, 1, [ai c]⟩)) :
    [x, .fn f [.ptr (aT T), .o 6 g 1 0 0]].mapM (reify η 20) = some [x, .fn f [.ptr (aT T), .ptr (ai c)]] := by
  have h1 := reify_isL hx η 17
  have h2 := reify_T T η 12
  have h3 : reify η 19 (.o 6 g 1 0 0) = some (.ptr (ai c)) := by
    simp only [reify, hk]
    rfl
  have h5 : elemR (reify η 18) (aT T) = some (aT T) := h2
  have h6 : reify η 19 (.ptr (aT T)) = some (.ptr (aT T)) := by
    show (elemR (reify η 18) (aT T)).map AV.ptr = _
    rw [h5]; rfl
  have h4 : reify η 20 (.fn f [.ptr (aT T), .o 6 g 1 0 0]) = some (.fn f [.ptr (aT T), .ptr (ai c)]) := by
    show ([.ptr (aT T), .o 6 g 1 0 0].mapM (reify η 19)).map (AV.fn f) = _
    simp only [List.mapM_cons, List.mapM_nil, h3, h6]; rfl
  simp only [List.mapM_cons, List.mapM_nil, h1, h4]; rfl
theorem emp_loop (n : Nat) (T : List (List Int)) (hg : gT n T) (x : AV) (l : List Int) (hx : isL x l) (hin : inC n l) (hl : l.length ≤ 1000) (K : List Fr) (Q : Out → Cfg → Prop)
    (hK : ∀ (Z : List Int), Z = zerC n T l → ∀ (r6 : Nat × Option Ob), ∀ j0 j3 j4 j6 j7 j8 j9 j12 j13 j14 j15 j16 j17 j18 j19 j20 j21 j22 j23 j24 : AV, W Try.prog (RelU Try.prog xf) 0 K ⟨(j0 :: x :: (.ptr (aT T)) :: j3 :: j4 :: (.os 8 1 Z.length 1 0 Z.length) :: j6 :: j7 :: j8 :: j9 :: (ai T.length) :: (ai T.length) :: j12 :: j13 :: j14 :: j15 :: j16 :: j17 :: j18 :: j19 :: j20 :: j21 :: j22 :: j23 :: j24 :: []), [(6, r6), (8, (1, some ⟨3, 1, Z.map ai⟩))]⟩ Q) :
    ∀ (k i : Nat), i + k = T.length → ∀ (Z : List Int), Z = zerK T l i → ∀ (g6 : Nat) (o6 : Option Ob), ∀ j0 j3 j4 j6 j7 j8 j9 j12 j13 j14 j15 j16 j17 j18 j19 j20 j21 j22 j23 j24 : AV, W Try.prog (RelU Try.prog xf) 0 (.code (.loop xf66_L0) :: .blk 0 :: .stop :: K) ⟨(j0 :: x :: (.ptr (aT T)) :: j3 :: j4 :: (.os 8 1 Z.length 1 0 Z.length) :: j6 :: j7 :: j8 :: j9 :: (ai T.length) :: (ai i) :: j12 :: j13 :: j14 :: j15 :: j16 :: j17 :: j18 :: j19 :: j20 :: j21 :: j22 :: j23 :: j24 :: []), [(6, (g6, o6)), (8, (1, some ⟨3, 1, Z.map ai⟩))]⟩ Q := by
  intro k
  induction k with
  | zero =>
    intro i hi Z hZ g6 o6 j0 j3 j4 j6 j7 j8 j9 j12 j13 j14 j15 j16 j17 j18 j19 j20 j21 j22 j23 j24
    have : i = T.length := by omega
    subst this
    have h0 : decide (T.length < T.length) = false := by simp
    refine W_loop (W_run 80 ?_)
    simp (maxSteps := 2000000) only [SA, Nat.reduceDiv, Nat.reduceSub, Nat.reduceAdd, Int.reduceLT, Int.reduceLE, Int.reduceToNat, Nat.reduceMul, Nat.reduceEqDiff, reduceCtorEq, Nat.reduceBEq, Nat.reduceLeDiff, Nat.reduceLT, xf66_L0, ai, aT, lt_cast, h0]
    exact W_stop (hK Z (by rw [hZ, hg.len]; rfl) _ _ _ _ _ _ _ _ _ _ _ _ _ _ _ _ _ _ _ _ _)
  | succ k ih =>
    intro i hi Z hZ g6 o6 j0 j3 j4 j6 j7 j8 j9 j12 j13 j14 j15 j16 j17 j18 j19 j20 j21 j22 j23 j24
    have h1 : i < T.length := by omega
    have h0 : decide (i < T.length) = true := decide_eq_true h1
    have hn4 := hg.n4
    have hlen := hg.len
    have hcall := cnf_run 80 [.ptr (aT T), .ptr (ai i)] (noRefs_2 (noRef_T T) rfl) call_hasl (fun r => decide (0 < cel T r.toNat i)) hx hl fun z hz => hasl_run hg z (hin z hz) i (by omega)
    have hzl := zerK_len T l i
    rw [← hZ] at hzl
    refine W_loop (W_run 80 ?_)
    simp (maxSteps := 2000000) only [SA, Nat.reduceDiv, Nat.reduceSub, Nat.reduceAdd, Int.reduceLT, Int.reduceLE, Int.reduceToNat, Nat.reduceMul, Nat.reduceEqDiff, reduceCtorEq, Nat.reduceBEq, Nat.reduceLeDiff, Nat.reduceLT, xf66_L0, ai, aT, lt_cast, h0]
    refine W_look (fuel := 20) (args := [x, .fn 80 [.ptr (aT T), .o 6 (g6 + 1) 1 0 0]]) (args' := [x, .fn 80 [.ptr (aT T), .ptr (ai i)]]) rfl ?_ hcall rfl rfl (W_run 80 ?_)
    · exact reify_cnf hx i rfl
    have hnx := zerK_succ T l i
    rw [← hZ] at hnx
    cases hb : zerB T l i with
    | true =>
      have hb2 : (l.any fun r => decide (0 < cel T r.toNat i)) = false := by unfold zerB at hb; simpa using hb
      rw [hb, if_pos rfl] at hnx
      have next := ih (i + 1) (by omega) (Z ++ [(i : Int)]) hnx.symm
      rw [List.length_append, List.map_append] at next
      have q1 : (Z.length + 1) * 8 ≤ 100000000000000 := by omega
      have q2 : Z.length + 1 ≤ 100000000000000 := by omega
      simp (maxSteps := 2000000) only [SA, Nat.reduceDiv, Nat.reduceSub, Nat.reduceAdd, Int.reduceLT, Int.reduceLE, Int.reduceToNat, Nat.reduceMul, Nat.reduceEqDiff, reduceCtorEq, Nat.reduceBEq, Nat.reduceLeDiff, Nat.reduceLT, ai, ab, aT, hb2, q1, q2, Go.Proofs.Eng.elems, List.map_cons, List.map_nil]
      rw [wrap_id (z := (i : Int) + 1) (by omega) (by omega)]
      exact next _ _ _ _ _ _ _ _ _ _ _ _ _ _ _ _ _ _ _ _ _ _
    | false =>
      have hb2 : (l.any fun r => decide (0 < cel T r.toNat i)) = true := by unfold zerB at hb; simpa using hb
      rw [hb, if_neg (by simp), List.append_nil] at hnx
      have next := ih (i + 1) (by omega) Z hnx.symm
      simp (maxSteps := 2000000) only [SA, Nat.reduceDiv, Nat.reduceSub, Nat.reduceAdd, Int.reduceLT, Int.reduceLE, Int.reduceToNat, Nat.reduceMul, Nat.reduceEqDiff, reduceCtorEq, Nat.reduceBEq, Nat.reduceLeDiff, Nat.reduceLT, ai, ab, aT, hb2]
      rw [wrap_id (z := (i : Int) + 1) (by omega) (by omega)]
      exact next _ _ _ _ _ _ _ _ _ _ _ _ _ _ _ _ _ _ _ _ _ _
theorem empty_run {n : Nat} {T : List (List Int)} (hg : gT n T) {x : AV} {l : List Int} (hx : isL x l) (hin : inC n l) (hl : l.length ≤ 1000) : Runs Try.prog xf 66 [aT T, x] (al false (zerC n T l)) := by
  have hxr := hx.ref
  refine Runs.ofW (fn := xf66) 20 (by kernel_rfl) (W_run 80 ?_)
  simp (maxSteps := 2000000) only [SA, Nat.reduceDiv, Nat.reduceSub, Nat.reduceAdd, Int.reduceLT, Int.reduceLE, Int.reduceToNat, Nat.reduceMul, Nat.reduceEqDiff, reduceCtorEq, Nat.reduceBEq, Nat.reduceLeDiff, Nat.reduceLT, xf66, ai, al, aT, List.map_nil]
  refine W_alone (W_named named68 (emp_loop n T hg x l hx hin hl _ _ (fun Z hZ r6 j0 j3 j4 j6 j7 j8 j9 j12 j13 j14 j15 j16 j17 j18 j19 j20 j21 j22 j23 j24 => W_run 80 ?_) T.length 0 (by omega) [] rfl _ _ _ _ _ _ _ _ _ _ _ _ _ _ _ _ _ _ _ _ _ _))
  simp (maxSteps := 2000000) only [SA, Nat.reduceDiv, Nat.reduceSub, Nat.reduceAdd, Int.reduceLT, Int.reduceLE, Int.reduceToNat, Nat.reduceMul, Nat.reduceEqDiff, reduceCtorEq, Nat.reduceBEq, Nat.reduceLeDiff, Nat.reduceLT, xf66_R0, ai, al, aT]
  refine W_ret1 (WX_nil ⟨.inl rfl, _, rfl, ?_⟩)
  have h := reify_ints (η := [(6, r6), (8, (1, some ⟨3, 1, Z.map ai⟩))]) (k := 8) (g := 1) (e := 3) (l := Z) rfl
  rw [hZ] at h ⊢
  exact h
end Go.Proofs.Ytelkpfionifjgaa

