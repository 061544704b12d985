/-
  The first one of lines with the least sum: cmp.Compare, slices.MinFunc; what is kept of a line.
-/
import Derived.Test.YtdmffkknghianaaMc
set_option linter.unusedSimpArgs false
set_option linter.unusedVariables false
namespace Go.Proofs.Ytdmffkknghianaa
open Go Go.Proofs.Eng
set_option maxRecDepth 100000
set_option maxHeartbeats 4000000
def cm (x y : Int) : Int := if x < y then -1 else if y < x then 1 else 0
theorem nan_run (x : Int) : Runs Try.prog xf 64 [ai x] (ab false) := by
  have h : (x != x) = false := by simp
  refine Runs.ofW (fn := xf64) 20 (by kernel_rfl) (W_run 80 ?_)
  simp (maxSteps := 2000000) only [SA, Nat.reduceDiv, Nat.reduceSub, Nat.reduceAdd, Int.reduceLT, Int.reduceLE, Int.reduceToNat, Nat.reduceMul, Nat.reduceEqDiff, reduceCtorEq, Nat.reduceBEq, Nat.reduceLeDiff, Nat.reduceLT, xf64, ai, ab, h]
  first | exact W_ret1 (WX_pop (WX_nil ⟨.inl rfl, _, rfl, rfl⟩)) | exact W_ret1 (WX_nil ⟨.inl rfl, _, rfl, rfl⟩)
theorem cm_run (x y : Int) : Runs Try.prog xf 72 [ai x, ai y] (ai (cm x y)) := by
  refine Runs.ofW (fn := xf72) 20 (by kernel_rfl) (W_run 80 ?_)
  simp (maxSteps := 2000000) only [SA, Nat.reduceDiv, Nat.reduceSub, Nat.reduceAdd, Int.reduceLT, Int.reduceLE, Int.reduceToNat, Nat.reduceMul, Nat.reduceEqDiff, reduceCtorEq, Nat.reduceBEq, Nat.reduceLeDiff, Nat.reduceLT, xf72, ai, ab]
  refine W_call (args := [ai x]) rfl rfl (nan_run x) rfl (W_run 80 ?_)
  simp (maxSteps := 2000000) only [SA, Nat.reduceDiv, Nat.reduceSub, Nat.reduceAdd, Int.reduceLT, Int.reduceLE, Int.reduceToNat, Nat.reduceMul, Nat.reduceEqDiff, reduceCtorEq, Nat.reduceBEq, Nat.reduceLeDiff, Nat.reduceLT, ai, ab]
  refine W_call (args := [ai y]) rfl rfl (nan_run y) rfl (W_run 80 ?_)
  unfold cm
  by_cases h : x < y
  · have d : decide (x < y) = true := decide_eq_true h
    rw [if_pos h]
    simp (maxSteps := 2000000) only [SA, Nat.reduceDiv, Nat.reduceSub, Nat.reduceAdd, Int.reduceLT, Int.reduceLE, Int.reduceToNat, Nat.reduceMul, Nat.reduceEqDiff, reduceCtorEq, Nat.reduceBEq, Nat.reduceLeDiff, Nat.reduceLT, ai, ab, d]
    first | exact W_ret1 (WX_pop (WX_nil ⟨.inl rfl, _, rfl, rfl⟩)) | exact W_ret1 (WX_nil ⟨.inl rfl, _, rfl, rfl⟩)
  · have d : decide (x < y) = false := decide_eq_false h
    rw [if_neg h]
    by_cases h' : y < x
    · have d' : decide (y < x) = true := decide_eq_true h'
      rw [if_pos h']
      simp (maxSteps := 2000000) only [SA, Nat.reduceDiv, Nat.reduceSub, Nat.reduceAdd, Int.reduceLT, Int.reduceLE, Int.reduceToNat, Nat.reduceMul, Nat.reduceEqDiff, reduceCtorEq, Nat.reduceBEq, Nat.reduceLeDiff, Nat.reduceLT, ai, ab, d, d']
      first | exact W_ret1 (WX_pop (WX_nil ⟨.inl rfl, _, rfl, rfl⟩)) | exact W_ret1 (WX_nil ⟨.inl rfl, _, rfl, rfl⟩)
    · have d' : decide (y < x) = false := decide_eq_false h'
      rw [if_neg h']
      simp (maxSteps := 2000000) only [SA, Nat.reduceDiv, Nat.reduceSub, Nat.reduceAdd, Int.reduceLT, Int.reduceLE, Int.reduceToNat, Nat.reduceMul, Nat.reduceEqDiff, reduceCtorEq, Nat.reduceBEq, Nat.reduceLeDiff, Nat.reduceLT, ai, ab, d, d']
      first | exact W_ret1 (WX_pop (WX_nil ⟨.inl rfl, _, rfl, rfl⟩)) | exact W_ret1 (WX_nil ⟨.inl rfl, _, rfl, rfl⟩)
theorem cm_neg (x y : Int) : decide (cm x y < 0) = decide (x < y) := by
  unfold cm
  by_cases h : x < y
  · rw [if_pos h]; simp [h]
  · rw [if_neg h]
    split <;> simp [h]
/-- lines by numbers -/
def sg (sp : Nat → Nat × Nat) (x : Nat) : AV := spn (sp x).1 (sp x).2
def spL (sp : Nat → Nat × Nat) (l : List Nat) : AV := .sl 2 false (l.map (sg sp))
theorem noRef_spL (sp : Nat → Nat × Nat) (l : List Nat) : noRef (spL sp l) = true := noRefs_of fun x hx => by obtain ⟨z, _, rfl⟩ := List.mem_map.1 hx; rfl
theorem get_sg {sp : Nat → Nat × Nat} {l : List Nat} {k : Nat} (h : k < l.length) : (l.map (sg sp))[k]? = some (.ag [ai ((sp (l.getD k 0)).1 : Nat), ai ((sp (l.getD k 0)).2 : Nat)]) := by
  rw [List.getElem?_map, getD_at h]; rfl
theorem fwl1_run (sp : Nat → Nat × Nat) (F : Nat → Int) (fN : Nat) (cs : List AV) (hcs : noRefs cs = true) (hc : callable Try.prog fN = true) {x y : Nat} (hx : Runs Try.prog xf fN (sg sp x :: cs) (ai (F x))) (hy : Runs Try.prog xf fN (sg sp y :: cs) (ai (F y))) :
    Runs Try.prog xf 71 [sg sp x, sg sp y, .ptr (.fn fN cs)] (ai (cm (F x) (F y))) := by
  refine Runs.ofW (fn := xf71) 20 (by kernel_rfl) (W_run 80 ?_)
  simp (maxSteps := 2000000) only [SA, Nat.reduceDiv, Nat.reduceSub, Nat.reduceAdd, Int.reduceLT, Int.reduceLE, Int.reduceToNat, Nat.reduceMul, Nat.reduceEqDiff, reduceCtorEq, Nat.reduceBEq, Nat.reduceLeDiff, Nat.reduceLT, xf71, ai, sg, spn, shA]
  refine W_callvP (args := sg sp x :: cs) rfl hc rfl (by show (noRef (sg sp x) && noRefs cs) = true; rw [hcs]; rfl) hx rfl (W_run 80 ?_)
  simp (maxSteps := 2000000) only [SA, Nat.reduceDiv, Nat.reduceSub, Nat.reduceAdd, Int.reduceLT, Int.reduceLE, Int.reduceToNat, Nat.reduceMul, Nat.reduceEqDiff, reduceCtorEq, Nat.reduceBEq, Nat.reduceLeDiff, Nat.reduceLT, ai, sg, spn, shA]
  refine W_callvP (args := sg sp y :: cs) rfl hc rfl (by show (noRef (sg sp y) && noRefs cs) = true; rw [hcs]; rfl) hy rfl (W_run 80 ?_)
  simp (maxSteps := 2000000) only [SA, Nat.reduceDiv, Nat.reduceSub, Nat.reduceAdd, Int.reduceLT, Int.reduceLE, Int.reduceToNat, Nat.reduceMul, Nat.reduceEqDiff, reduceCtorEq, Nat.reduceBEq, Nat.reduceLeDiff, Nat.reduceLT, ai, sg, spn, shA]
  refine W_call (args := [ai (F x), ai (F y)]) rfl rfl (cm_run _ _) rfl (W_run 80 ?_)
  simp (maxSteps := 2000000) only [SA, Nat.reduceDiv, Nat.reduceSub, Nat.reduceAdd, Int.reduceLT, Int.reduceLE, Int.reduceToNat, Nat.reduceMul, Nat.reduceEqDiff, reduceCtorEq, Nat.reduceBEq, Nat.reduceLeDiff, Nat.reduceLT, ai]
  exact W_ret1 (WX_nil ⟨.inl rfl, _, rfl, rfl⟩)
theorem call_fwl1 : callable Try.prog 71 = true := by kernel_rfl
theorem named45 {q : Nat × Option Ob} (j : Nat) : Go.Proofs.Eng.look [(4, q)] j = Go.Proofs.Eng.look [(4, q), (5, (0, (none : Option Ob)))] j := by
  simp only [Go.Proofs.Eng.look]
  by_cases h : 4 = j
  · subst h; simp
  · simp [h]
def fmK (F : Nat → Int) (l : List Nat) (k : Nat) : Nat := fmL F ((l.take k).drop 1) (l.getD 0 0)
theorem fmK_succ {F : Nat → Int} {l : List Nat} {k : Nat} (h : k < l.length) (h1 : 1 ≤ k) : fmK F l (k + 1) = if F (l.getD k 0) < F (fmK F l k) then l.getD k 0 else fmK F l k := by
  unfold fmK
  rw [take_snoc (d := 0) h, List.drop_append_of_le_length (by rw [List.length_take]; omega), fmL_snoc]
theorem fmL_in (F : Nat → Int) : ∀ (l : List Nat) (m : Nat), fmL F l m = m ∨ fmL F l m ∈ l
  | [], _ => .inl rfl
  | y :: t, m => by
    rw [fmL]
    rcases fmL_in F t (if F y < F m then y else m) with h | h
    · rw [h]
      split
      · exact .inr List.mem_cons_self
      · exact .inl rfl
    · exact .inr (List.mem_cons_of_mem _ h)
theorem fmK_in {F : Nat → Int} {l : List Nat} {k : Nat} (h : 0 < l.length) : fmK F l k ∈ l := by
  unfold fmK
  rcases fmL_in F ((l.take k).drop 1) (l.getD 0 0) with q | q
  · rw [q]; exact getD_in h
  · exact List.mem_of_mem_take (List.mem_of_mem_drop q)
theorem min_loop (sp : Nat → Nat × Nat) (F : Nat → Int) (fN : Nat) (cs : List AV) (hcs : noRefs cs = true) (hc : callable Try.prog fN = true) (l : List Nat) (hn : l.length ≤ 1000) (h0 : 0 < l.length) (hr : ∀ x, x ∈ l → Runs Try.prog xf fN (sg sp x :: cs) (ai (F x))) (q4 : Nat × Option Ob) (K : List Fr) (Q : Out → Cfg → Prop)
    (hK : ∀ j2 j3 j7 j8 j9 j10 j11 j12 j13 j14 j15 j16 j17 j18 j19 j20 j21 j22 j23 j24 j25 j26 j27 j28 j29 j30 j31 j32 : AV, W Try.prog (RelU Try.prog xf) 0 K ⟨((spL sp l) :: (.fn 71 [.ptr (.fn fN cs)]) :: j2 :: j3 :: (.o 4 1 1 0 0) :: (.o 5 1 1 0 0) :: (ai l.length) :: j7 :: j8 :: j9 :: j10 :: j11 :: j12 :: j13 :: j14 :: j15 :: j16 :: j17 :: j18 :: j19 :: j20 :: j21 :: j22 :: j23 :: j24 :: j25 :: j26 :: j27 :: j28 :: j29 :: j30 :: j31 :: j32 :: []), [(4, q4), (5, (1, some ⟨77, 2, [sg sp (fmK F l l.length)]⟩))]⟩ Q) :
    ∀ (m k : Nat), k + m = l.length → 1 ≤ k → ∀ j2 j3 j7 j8 j9 j10 j11 j12 j13 j14 j15 j16 j17 j18 j19 j20 j21 j22 j23 j24 j25 j26 j27 j28 j29 j30 j31 j32 : AV, W Try.prog (RelU Try.prog xf) 0 (.code (.loop xf70_L0) :: .blk 0 :: .stop :: K) ⟨((spL sp l) :: (.fn 71 [.ptr (.fn fN cs)]) :: j2 :: j3 :: (.o 4 1 1 0 0) :: (.o 5 1 1 0 0) :: (ai k) :: j7 :: j8 :: j9 :: j10 :: j11 :: j12 :: j13 :: j14 :: j15 :: j16 :: j17 :: j18 :: j19 :: j20 :: j21 :: j22 :: j23 :: j24 :: j25 :: j26 :: j27 :: j28 :: j29 :: j30 :: j31 :: j32 :: []), [(4, q4), (5, (1, some ⟨77, 2, [sg sp (fmK F l k)]⟩))]⟩ Q := by
  intro m
  induction m with
  | zero =>
    intro k hk h1 j2 j3 j7 j8 j9 j10 j11 j12 j13 j14 j15 j16 j17 j18 j19 j20 j21 j22 j23 j24 j25 j26 j27 j28 j29 j30 j31 j32
    have e : k = l.length := by omega
    have hd : decide (k < l.length) = false := decide_eq_false (by omega)
    refine W_loop (W_run 80 ?_)
    simp (maxSteps := 2000000) only [SA, Nat.reduceDiv, Nat.reduceSub, Nat.reduceAdd, Int.reduceLT, Int.reduceLE, Int.reduceToNat, Nat.reduceMul, Nat.reduceEqDiff, reduceCtorEq, Nat.reduceBEq, Nat.reduceLeDiff, Nat.reduceLT, xf70_L0, ai, spL, lt_cast, hd]
    rw [e]
    exact W_stop (hK _ _ _ _ _ _ _ _ _ _ _ _ _ _ _ _ _ _ _ _ _ _ _ _ _ _ _ _)
  | succ m ih =>
    intro k hk h1 j2 j3 j7 j8 j9 j10 j11 j12 j13 j14 j15 j16 j17 j18 j19 j20 j21 j22 j23 j24 j25 j26 j27 j28 j29 j30 j31 j32
    have h2 : k < l.length := by omega
    have hd : decide (k < l.length) = true := decide_eq_true h2
    have hg := get_sg (sp := sp) h2
    have hm := getD_in (d := 0) h2
    have hm2 := fmK_in (F := F) (k := k) h0
    have hs := fmK_succ (F := F) h2 h1
    have hx := hr _ hm
    have hy := hr _ hm2
    generalize l.getD k 0 = x at *
    generalize fmK F l k = y at *
    have hcall := fwl1_run sp F fN cs hcs hc hx hy
    have wi : IntKind.i64.wrap ((k : Int) + 1) = ((k + 1 : Nat) : Int) := by rw [wrap_id (by omega) (by omega)]; simp
    refine W_loop (W_run 80 ?_)
    simp (maxSteps := 2000000) only [SA, Nat.reduceDiv, Nat.reduceSub, Nat.reduceAdd, Int.reduceLT, Int.reduceLE, Int.reduceToNat, Nat.reduceMul, Nat.reduceEqDiff, reduceCtorEq, Nat.reduceBEq, Nat.reduceLeDiff, Nat.reduceLT, xf70_L0, ai, spL, lt_cast, hd, hg, sg, spn, shA]
    refine W_callvP (args := [sg sp x, sg sp y, .ptr (.fn fN cs)]) rfl call_fwl1 rfl (by show (noRef (sg sp x) && (noRef (sg sp y) && (noRefs cs && true))) = true; rw [hcs]; rfl) hcall rfl (W_run 80 ?_)
    have hcn := cm_neg (F x) (F y)
    by_cases hlt : F x < F y
    · rw [if_pos hlt] at hs
      rw [decide_eq_true hlt] at hcn
      have next := ih (k + 1) (by omega) (by omega)
      rw [hs] at next
      simp (maxSteps := 2000000) only [SA, Nat.reduceDiv, Nat.reduceSub, Nat.reduceAdd, Int.reduceLT, Int.reduceLE, Int.reduceToNat, Nat.reduceMul, Nat.reduceEqDiff, reduceCtorEq, Nat.reduceBEq, Nat.reduceLeDiff, Nat.reduceLT, ai, spL, lt_cast, hg, hcn, wi, sg, spn, shA]
      exact next _ _ _ _ _ _ _ _ _ _ _ _ _ _ _ _ _ _ _ _ _ _ _ _ _ _ _ _
    · rw [if_neg hlt] at hs
      rw [decide_eq_false hlt] at hcn
      have next := ih (k + 1) (by omega) (by omega)
      rw [hs] at next
      simp (maxSteps := 2000000) only [SA, Nat.reduceDiv, Nat.reduceSub, Nat.reduceAdd, Int.reduceLT, Int.reduceLE, Int.reduceToNat, Nat.reduceMul, Nat.reduceEqDiff, reduceCtorEq, Nat.reduceBEq, Nat.reduceLeDiff, Nat.reduceLT, ai, spL, lt_cast, hg, hcn, wi, sg, spn, shA]
      exact next _ _ _ _ _ _ _ _ _ _ _ _ _ _ _ _ _ _ _ _ _ _ _ _ _ _ _ _
theorem minf_run (sp : Nat → Nat × Nat) (F : Nat → Int) (fN : Nat) (cs : List AV) (hcs : noRefs cs = true) (hc : callable Try.prog fN = true) (l : List Nat) (hn : l.length ≤ 1000) (h0 : 0 < l.length) (hr : ∀ x, x ∈ l → Runs Try.prog xf fN (sg sp x :: cs) (ai (F x))) :
    Runs Try.prog xf 70 [spL sp l, .fn 71 [.ptr (.fn fN cs)]] (sg sp (fmK F l l.length)) := by
  have hd : decide ((l.length : Int) < 1) = false := decide_eq_false (by omega)
  have hg := get_sg (sp := sp) h0
  have e1 : sg sp (l.getD 0 0) = sg sp (fmK F l 1) := by
    unfold fmK
    have : (l.take 1).drop 1 = [] := List.drop_eq_nil_of_le (by rw [List.length_take]; omega)
    rw [this]; rfl
  refine Runs.ofW (fn := xf70) 20 (by kernel_rfl) (W_run 80 ?_)
  simp (maxSteps := 2000000) only [SA, Nat.reduceDiv, Nat.reduceSub, Nat.reduceAdd, Int.reduceLT, Int.reduceLE, Int.reduceToNat, Nat.reduceMul, Nat.reduceEqDiff, reduceCtorEq, Nat.reduceBEq, Nat.reduceLeDiff, Nat.reduceLT, xf70, ai, spL, hd, hg, sg, spn, shA]
  have e0 : fmK F l 1 = l.getD 0 0 := by unfold fmK; rw [List.drop_eq_nil_of_le (by rw [List.length_take]; omega)]; rfl
  have hL := fun K Q hK => min_loop sp F fN cs hcs hc l hn h0 hr (1, some ⟨77, 2, [spn 0 0]⟩) K Q hK (l.length - 1) 1 (by omega) (Nat.le_refl 1)
  simp only [e0] at hL
  refine W_alone (hL _ _ (fun j2 j3 j7 j8 j9 j10 j11 j12 j13 j14 j15 j16 j17 j18 j19 j20 j21 j22 j23 j24 j25 j26 j27 j28 j29 j30 j31 j32 => W_run 80 ?_) _ _ _ _ _ _ _ _ _ _ _ _ _ _ _ _ _ _ _ _ _ _ _ _ _ _ _ _)
  simp (maxSteps := 2000000) only [SA, Nat.reduceDiv, Nat.reduceSub, Nat.reduceAdd, Int.reduceLT, Int.reduceLE, Int.reduceToNat, Nat.reduceMul, Nat.reduceEqDiff, reduceCtorEq, Nat.reduceBEq, Nat.reduceLeDiff, Nat.reduceLT, xf70_R0, ai, spL, sg, spn, shA]
  exact W_ret1 (WX_nil ⟨.inl rfl, _, rfl, rfl⟩)
theorem fwl_run (sp : Nat → Nat × Nat) (F : Nat → Int) (fN : Nat) (cs : List AV) (hcs : noRefs cs = true) (hc : callable Try.prog fN = true) (l : List Nat) (hn : l.length ≤ 1000) (h0 : 0 < l.length) (hr : ∀ x, x ∈ l → Runs Try.prog xf fN (sg sp x :: cs) (ai (F x))) :
    Runs Try.prog xf 67 [spL sp l, .fn fN cs] (sg sp (fmK F l l.length)) := by
  have h := minf_run sp F fN cs hcs hc l hn h0 hr
  refine Runs.ofW (fn := xf67) 20 (by kernel_rfl) (W_run 80 ?_)
  simp (maxSteps := 2000000) only [SA, Nat.reduceDiv, Nat.reduceSub, Nat.reduceAdd, Int.reduceLT, Int.reduceLE, Int.reduceToNat, Nat.reduceMul, Nat.reduceEqDiff, reduceCtorEq, Nat.reduceBEq, Nat.reduceLeDiff, Nat.reduceLT, xf67, ai, spL, List.map_cons, List.map_nil]
  refine W_call (args := [spL sp l, .fn 71 [.ptr (.fn fN cs)]]) rfl (by show (noRef (spL sp l) && ((((noRefs cs) && true)) && true)) = true; rw [noRef_spL, hcs]; rfl) h rfl (W_run 80 ?_)
  simp (maxSteps := 2000000) only [SA, Nat.reduceDiv, Nat.reduceSub, Nat.reduceAdd, Int.reduceLT, Int.reduceLE, Int.reduceToNat, Nat.reduceMul, Nat.reduceEqDiff, reduceCtorEq, Nat.reduceBEq, Nat.reduceLeDiff, Nat.reduceLT, ai, spL, sg, spn, shA]
  exact W_ret1 (WX_nil ⟨.inl rfl, _, rfl, rfl⟩)
theorem fmK_FM {F : Nat → Int} {l : List Nat} (h : 0 < l.length) (hs : l.Pairwise (· < ·)) {p : Nat → Prop} (hp : ∀ y, p y ↔ y ∈ l) : FM p F (fmK F l l.length) := by
  cases l with
  | nil => simp at h
  | cons x t =>
    unfold fmK
    rw [List.take_length]
    exact fmL_FM hs hp
/-! ### what is kept of a line -/
structure Kp (q : Nat → Int) (V : Int) (i j e : Nat) : Prop where
  lo : i < e
  hi : e ≤ j
  ok : fit q V i e = true
  no : ∀ k, e < k → k ≤ j → fit q V i k = false
theorem Kp.uniq {q : Nat → Int} {V : Int} {i j e e' : Nat} (h : Kp q V i j e) (h' : Kp q V i j e') : e = e' := by
  rcases Nat.lt_trichotomy e e' with c | c | c
  · have := h.no e' c h'.hi; rw [h'.ok] at this; cases this
  · exact c
  · have := h'.no e c h.hi; rw [h.ok] at this; cases this
theorem Kp.ex {q : Nat → Int} {V : Int} {n : Nat} (hp : Pos q n V) {i : Nat} : ∀ (m j : Nat), j - i ≤ m → i < j → j ≤ n → ∃ e, Kp q V i j e := by
  intro m
  induction m with
  | zero => intro j h1 h2 _; omega
  | succ m ih =>
    intro j h1 h2 hj
    cases hf : fit q V i j with
    | true => exact ⟨j, h2, Nat.le_refl _, hf, fun k a b => by omega⟩
    | false =>
      have hne : j ≠ i + 1 := fun e => by subst e; rw [fit_one hp (by omega)] at hf; cases hf
      obtain ⟨e, he⟩ := ih (j - 1) (by omega) (by omega) (by omega)
      refine ⟨e, he.lo, by have := he.hi; omega, he.ok, fun k a b => ?_⟩
      by_cases hk : k = j
      · subst hk; exact hf
      · exact he.no k a (by omega)
theorem kept_loop (V : Int) (w : List Int) (hg : gX V w) (f : Bool) (i j0 e : Nat) (hj0 : j0 ≤ w.length) (hk : Kp (pf w) V i j0 e) (q4 : Nat × Option Ob) (K : List Fr) (Q : Out → Cfg → Prop)
    (hK : ∀ j5 j6 j7 j8 j9 j10 j11 j12 j13 : AV, W Try.prog (RelU Try.prog xf) 0 K ⟨((tx f V w) :: (spn i j0) :: (.ptr (tx f V w)) :: (.o 3 1 1 0 0) :: (.o 4 1 1 0 0) :: j5 :: j6 :: j7 :: j8 :: j9 :: j10 :: j11 :: j12 :: j13 :: []), [(3, (1, some ⟨77, 2, [spn i e]⟩)), (4, q4)]⟩ Q) :
    ∀ (m : Nat), e + m ≤ j0 → ∀ j5 j6 j7 j8 j9 j10 j11 j12 j13 : AV, W Try.prog (RelU Try.prog xf) 0 (.code (.loop xf65_L0) :: .blk 0 :: .stop :: K) ⟨((tx f V w) :: (spn i j0) :: (.ptr (tx f V w)) :: (.o 3 1 1 0 0) :: (.o 4 1 1 0 0) :: j5 :: j6 :: j7 :: j8 :: j9 :: j10 :: j11 :: j12 :: j13 :: []), [(3, (1, some ⟨77, 2, [spn i (e + m)]⟩)), (4, q4)]⟩ Q := by
  have := hg.n10
  have hlo := hk.lo
  intro m
  induction m with
  | zero =>
    intro hm j5 j6 j7 j8 j9 j10 j11 j12 j13
    have hf := fits_run hg f hk.lo (by have := hk.hi; omega)
    rw [hk.ok] at hf
    refine W_loop (W_run 80 ?_)
    simp (maxSteps := 2000000) only [SA, Nat.reduceDiv, Nat.reduceSub, Nat.reduceAdd, Int.reduceLT, Int.reduceLE, Int.reduceToNat, Nat.reduceMul, Nat.reduceEqDiff, reduceCtorEq, Nat.reduceBEq, Nat.reduceLeDiff, Nat.reduceLT, xf65_L0, ai, al, tx, spn, shA, Nat.add_zero]
    refine W_call (args := [tx f V w, spn i e]) rfl (noRefs_2 (noRef_tx _ _ _) rfl) hf rfl (W_run 80 ?_)
    simp (maxSteps := 2000000) only [SA, Nat.reduceDiv, Nat.reduceSub, Nat.reduceAdd, Int.reduceLT, Int.reduceLE, Int.reduceToNat, Nat.reduceMul, Nat.reduceEqDiff, reduceCtorEq, Nat.reduceBEq, Nat.reduceLeDiff, Nat.reduceLT, ai, ab, al, tx, spn, shA]
    exact W_stop (hK _ _ _ _ _ _ _ _ _)
  | succ m ih =>
    intro hm j5 j6 j7 j8 j9 j10 j11 j12 j13
    have hf := fits_run hg f (i := i) (j := e + (m + 1)) (by omega) (by omega)
    rw [hk.no (e + (m + 1)) (by omega) (by omega)] at hf
    have wi : IntKind.i64.wrap (((e + (m + 1) : Nat) : Int) - 1) = ((e + m : Nat) : Int) := by rw [wrap_id (by omega) (by omega)]; omega
    refine W_loop (W_run 80 ?_)
    simp (maxSteps := 2000000) only [SA, Nat.reduceDiv, Nat.reduceSub, Nat.reduceAdd, Int.reduceLT, Int.reduceLE, Int.reduceToNat, Nat.reduceMul, Nat.reduceEqDiff, reduceCtorEq, Nat.reduceBEq, Nat.reduceLeDiff, Nat.reduceLT, xf65_L0, ai, al, tx, spn, shA]
    refine W_call (args := [tx f V w, spn i (e + (m + 1))]) rfl (noRefs_2 (noRef_tx _ _ _) rfl) hf rfl (W_run 80 ?_)
    simp (maxSteps := 2000000) only [SA, Nat.reduceDiv, Nat.reduceSub, Nat.reduceAdd, Int.reduceLT, Int.reduceLE, Int.reduceToNat, Nat.reduceMul, Nat.reduceEqDiff, reduceCtorEq, Nat.reduceBEq, Nat.reduceLeDiff, Nat.reduceLT, ai, ab, al, tx, spn, shA, wi]
    exact ih (by omega) _ _ _ _ _ _ _ _ _
theorem kept_run {V : Int} {w : List Int} (hg : gX V w) (f : Bool) {i j e : Nat} (hj : j ≤ w.length) (hk : Kp (pf w) V i j e) : Runs Try.prog xf 65 [tx f V w, spn i j] (spn i e) := by
  have hi := hk.hi
  have hL := fun q4 K Q hK => kept_loop V w hg f i j e hj hk q4 K Q hK (j - e) (by omega)
  simp only [show e + (j - e) = j by omega] at hL
  refine Runs.ofW (fn := xf65) 20 (by kernel_rfl) (W_run 80 ?_)
  simp (maxSteps := 2000000) only [SA, Nat.reduceDiv, Nat.reduceSub, Nat.reduceAdd, Int.reduceLT, Int.reduceLE, Int.reduceToNat, Nat.reduceMul, Nat.reduceEqDiff, reduceCtorEq, Nat.reduceBEq, Nat.reduceLeDiff, Nat.reduceLT, xf65, ai, al, tx, spn, shA, List.map_cons, List.map_nil]
  refine W_alone (hL _ _ _ (fun j5 j6 j7 j8 j9 j10 j11 j12 j13 => W_run 80 ?_) _ _ _ _ _ _ _ _ _)
  simp (maxSteps := 2000000) only [SA, Nat.reduceDiv, Nat.reduceSub, Nat.reduceAdd, Int.reduceLT, Int.reduceLE, Int.reduceToNat, Nat.reduceMul, Nat.reduceEqDiff, reduceCtorEq, Nat.reduceBEq, Nat.reduceLeDiff, Nat.reduceLT, xf65_R0, ai, al, tx, spn, shA]
  exact W_ret1 (WX_nil ⟨.inl rfl, _, rfl, rfl⟩)
end Go.Proofs.Ytdmffkknghianaa

