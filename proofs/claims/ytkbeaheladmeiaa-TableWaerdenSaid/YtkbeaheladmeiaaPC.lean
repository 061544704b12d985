/-
  The walk through the plans within a table: what it visits, whatever is made of each plan.
-/
import Derived.Test.YtkbeaheladmeiaaPB
set_option linter.unusedSimpArgs false
set_option linter.unusedVariables false
namespace Go.Proofs.Ytkbeaheladmeiaa
open Go Go.Proofs.Eng
set_option maxRecDepth 100000
set_option maxHeartbeats 2000000
/-- the plans within a table that begin so -/
def ext (n : Nat) (T : List (List Int)) : Nat → List Int → List (List Int)
  | 0, L => [L]
  | k + 1, L => (List.range n).flatMap fun c => if 0 < cel T L.length c ∧ (c : Int) ∉ L then ext n T k (L ++ [(c : Int)]) else []
def extG (n : Nat) (T : List (List Int)) (k : Nat) (L : List Int) (c : Nat) : List (List Int) := if 0 < cel T L.length c ∧ (c : Int) ∉ L then ext n T k (L ++ [(c : Int)]) else []
theorem ext_succ (n : Nat) (T : List (List Int)) (k : Nat) (L : List Int) : ext n T (k + 1) L = (List.range' 0 n).flatMap (extG n T k L) := by
  rw [← List.range_eq_range']; rfl
/-- the plans within a table, in their order -/
def withP (n : Nat) (T : List (List Int)) : List (List Int) := ext n T n []
def okP (n : Nat) (p : List Int) : Prop := p.length = n ∧ inC n p ∧ p.Nodup
theorem inC_snoc {n : Nat} {L : List Int} {c : Nat} (h : inC n L) (hc : c < n) : inC n (L ++ [(c : Int)]) := fun x hx => by
  rw [List.mem_append, List.mem_singleton] at hx
  rcases hx with q | rfl
  · exact h x q
  · omega
theorem nd_snoc {L : List Int} {c : Int} (h : L.Nodup) (hc : c ∉ L) : (L ++ [c]).Nodup := by
  rw [List.nodup_append]
  exact ⟨h, by simp, fun a ha b hb => by rw [List.mem_singleton] at hb; subst hb; exact fun e => hc (e ▸ ha)⟩
theorem ext_ok {n : Nat} {T : List (List Int)} : ∀ (k : Nat) (L : List Int), L.length + k = n → inC n L → L.Nodup → ∀ p, p ∈ ext n T k L → okP n p
  | 0, L, hl, hi, hd, p, hp => by
    simp only [ext, List.mem_singleton] at hp
    subst hp
    exact ⟨by omega, hi, hd⟩
  | k + 1, L, hl, hi, hd, p, hp => by
    simp only [ext, List.mem_flatMap] at hp
    obtain ⟨c, hc, hp⟩ := hp
    have hc := List.mem_range.1 hc
    split at hp
    · rename_i h
      exact ext_ok k _ (by simp; omega) (inC_snoc hi hc) (nd_snoc hd h.2) p hp
    · cases hp
theorem flat_le {α β : Type} {f : α → List β} {m : Nat} : ∀ (l : List α), (∀ a, a ∈ l → (f a).length ≤ m) → (l.flatMap f).length ≤ l.length * m
  | [], _ => by simp
  | a :: l, h => by
    have h1 := flat_le l fun b hb => h b (List.mem_cons_of_mem _ hb)
    have h2 := h a List.mem_cons_self
    rw [List.flatMap_cons, List.length_append, List.length_cons, Nat.add_mul, Nat.one_mul]
    omega
theorem ext_len {n : Nat} {T : List (List Int)} : ∀ (k : Nat) (L : List Int), (ext n T k L).length ≤ n ^ k
  | 0, L => by simp [ext]
  | k + 1, L => by
    have := flat_le (f := fun c => if 0 < cel T L.length c ∧ (c : Int) ∉ L then ext n T k (L ++ [(c : Int)]) else []) (m := n ^ k) (List.range n) fun c hc => by
      split
      · exact ext_len k _
      · simp
    rw [List.length_range] at this
    rw [Nat.pow_succ, Nat.mul_comm]
    exact this
theorem withP_len {n : Nat} {T : List (List Int)} (h : n ≤ 4) : (withP n T).length ≤ 256 := by
  refine Nat.le_trans (ext_len n []) ?_
  match n, h with
  | 0, _ | 1, _ | 2, _ | 3, _ | 4, _ => decide
theorem putAt_twice (η : Heap) (k : Nat) (a b : Nat × Option Ob) : Go.Proofs.Eng.putAt (Go.Proofs.Eng.putAt η k a) k b = Go.Proofs.Eng.putAt η k b := by
  induction η with
  | nil => simp [Go.Proofs.Eng.putAt]
  | cons p l ih =>
    obtain ⟨k', r⟩ := p
    simp only [Go.Proofs.Eng.putAt]
    by_cases h1 : k' = k
    · simp [h1, Go.Proofs.Eng.putAt]
    · by_cases h2 : k < k'
      · simp [h1, h2, Go.Proofs.Eng.putAt]
      · simp [h1, h2, Go.Proofs.Eng.putAt, ih]
theorem orders_mx : Try.prog.follows .mixedOrders = true := by kernel_rfl
theorem clone_run (f : Bool) (L : List Int) (hn : L.length ≤ 1000) (η : Heap) (g : Nat) (o : Option Ob) (hη : Go.Proofs.Eng.look η 1043 = (g, o)) :
    RunsR Try.prog xf 1038 38 [al f L] η (.os 1043 (g + 1) L.length 1 0 L.length) (Go.Proofs.Eng.putAt η 1043 (g + 1, some ⟨3, 1, L.map ai⟩)) := by
  have q1 : L.length * 8 ≤ 100000000000000 := by omega
  have q2 : L.length ≤ 100000000000000 := by omega
  refine RunsR.ofW (fn := xf38) (by kernel_rfl) (W_run 80 ?_)
  simp (maxSteps := 2000000) only [SA, Nat.reduceDiv, Nat.reduceSub, Nat.reduceAdd, Int.reduceLT, Int.reduceLE, Int.reduceToNat, Nat.reduceMul, Nat.reduceEqDiff, reduceCtorEq, Nat.reduceBEq, Nat.reduceLeDiff, Nat.reduceLT, xf38, ai, al, nilA, hη, q1, q2, look_putAt, putAt_twice, Go.Proofs.Eng.elems, List.map_cons, List.map_nil, List.nil_append, Nat.add_zero]
  exact W_ret1 (WX_nil ⟨.inl rfl, _, rfl, rfl, rfl⟩)
theorem clone_nil (η : Heap) : Runs Try.prog xf 38 [nilA] nilA := by
  refine Runs.ofW (fn := xf38) 20 (by kernel_rfl) (W_run 80 ?_)
  simp (maxSteps := 2000000) only [SA, Nat.reduceDiv, Nat.reduceSub, Nat.reduceAdd, Int.reduceLT, Int.reduceLE, Int.reduceToNat, Nat.reduceMul, Nat.reduceEqDiff, reduceCtorEq, Nat.reduceBEq, Nat.reduceLeDiff, Nat.reduceLT, xf38, ai, al, nilA]
  exact W_ret1 (WX_pop (WX_nil ⟨.inl rfl, _, rfl, rfl⟩))
def wA (T : List (List Int)) (fN : Nat) (cs : List AV) : AV := .ag [aT T, .fn fN cs]
inductive LS (L : List Int) : AV → Nat × Option Ob → Prop
  | a (r : Nat × Option Ob) (h : L = []) : LS L nilA r
  | b (g : Nat) (h : L ≠ []) : LS L (.os 1043 g L.length 1 0 L.length) (g, some ⟨3, 1, L.map ai⟩)
/-- what a walk is for: what has been visited is kept at H, whatever stands at key 1043 -/
structure Vis (n : Nat) (fN : Nat) (cs : List AV) (H : List (List Int) → Nat × Option Ob → Heap) : Prop where
  call : callable Try.prog fN = true
  lk : ∀ P r, Go.Proofs.Eng.look (H P r) 1043 = r
  pt : ∀ P r q, Go.Proofs.Eng.putAt (H P r) 1043 q = H P q
  run : ∀ P p g, P.length ≤ 1000 → (∀ q, q ∈ P → okP n q) → okP n p → RunsR Try.prog xf 2000 fN (al false p :: cs) (H P (g, none)) (.tup []) (H (P ++ [p]) (g, none))
def FromT (n : Nat) (T : List (List Int)) (fN : Nat) (cs : List AV) (H : List (List Int) → Nat × Option Ob → Heap) (k : Nat) : Prop :=
  ∀ (L : List Int) (P : List (List Int)) (lav : AV) (r : Nat × Option Ob), L.length + k = n → inC n L → L.Nodup → LS L lav r → (∀ q, q ∈ P → okP n q) → P.length + (ext n T k L).length ≤ 1000 →
    ∃ r', RunsR Try.prog xf 1000 70 [wA T fN cs, lav] (H P r) (.tup []) (H (P ++ ext n T k L) r')
def dv (L : List Int) : AV := match L with | [] => nilA | x :: t => al false (x :: t)
theorem dv_isL (L : List Int) : isL (dv L) L := by
  cases L with
  | nil => exact .inr ⟨rfl, rfl⟩
  | cons x t => exact .inl ⟨false, rfl⟩
theorem noRef_dv (L : List Int) : noRef (dv L) = true := (dv_isL L).ref
theorem frm_loop {n : Nat} {T : List (List Int)} (hg : gT n T) {fN : Nat} {cs : List AV} {H : List (List Int) → Nat × Option Ob → Heap} (hv : Vis n fN cs H) (m : Nat) (L : List Int) (hL : L.length + (m + 1) = n) (hi : inC n L) (hd : L.Nodup) (PF : List (List Int)) (hPF : PF.length ≤ 1000) (ih : FromT n T fN cs H m) (K : List Fr) (Q : Out → Cfg → Prop)
    (hK : ∀ (r : Nat × Option Ob) (x : Nat), ∀ j3 j5 j6 j7 j8 j9 j10 j11 j12 j13 j14 j15 j16 j17 j18 j21 j22 j23 j24 j25 j26 j27 j28 j29 j30 j31 j32 j33 j34 j35 j36 j37 j38 j39 j40 j41 j42 j43 j44 j45 : AV, W Try.prog (RelU Try.prog xf) 1000 K ⟨((wA T fN cs) :: (dv L) :: (.ptr (wA T fN cs)) :: j3 :: (ai L.length) :: j5 :: j6 :: j7 :: j8 :: j9 :: j10 :: j11 :: j12 :: j13 :: j14 :: j15 :: j16 :: j17 :: j18 :: (ai n) :: (ai x) :: j21 :: j22 :: j23 :: j24 :: j25 :: j26 :: j27 :: j28 :: j29 :: j30 :: j31 :: j32 :: j33 :: j34 :: j35 :: j36 :: j37 :: j38 :: j39 :: j40 :: j41 :: j42 :: j43 :: j44 :: j45 :: []), H PF r⟩ Q) :
    ∀ (k x : Nat), x + k = n → ∀ (P : List (List Int)) (g : Nat) (o : Option Ob), P ++ (List.range' x k).flatMap (extG n T m L) = PF → (∀ q, q ∈ P → okP n q) →
      ∀ j3 j5 j6 j7 j8 j9 j10 j11 j12 j13 j14 j15 j16 j17 j18 j21 j22 j23 j24 j25 j26 j27 j28 j29 j30 j31 j32 j33 j34 j35 j36 j37 j38 j39 j40 j41 j42 j43 j44 j45 : AV, W Try.prog (RelU Try.prog xf) 1000 (.code (.loop xf70_L0) :: .blk 0 :: .stop :: K) ⟨((wA T fN cs) :: (dv L) :: (.ptr (wA T fN cs)) :: j3 :: (ai L.length) :: j5 :: j6 :: j7 :: j8 :: j9 :: j10 :: j11 :: j12 :: j13 :: j14 :: j15 :: j16 :: j17 :: j18 :: (ai n) :: (ai x) :: j21 :: j22 :: j23 :: j24 :: j25 :: j26 :: j27 :: j28 :: j29 :: j30 :: j31 :: j32 :: j33 :: j34 :: j35 :: j36 :: j37 :: j38 :: j39 :: j40 :: j41 :: j42 :: j43 :: j44 :: j45 :: []), H P (g, o)⟩ Q := by
  intro k
  induction k with
  | zero =>
    intro x hx P g o h1 h2 j3 j5 j6 j7 j8 j9 j10 j11 j12 j13 j14 j15 j16 j17 j18 j21 j22 j23 j24 j25 j26 j27 j28 j29 j30 j31 j32 j33 j34 j35 j36 j37 j38 j39 j40 j41 j42 j43 j44 j45
    have d0 : decide ((x : Int) < (n : Int)) = false := decide_eq_false (by omega)
    have hst : P = PF := by rw [← h1]; simp
    subst hst
    have hK := hK (g, o) x
    generalize dv L = dl at *
    refine W_loop (W_run 80 ?_)
    simp (maxSteps := 2000000) only [SA, Nat.reduceDiv, Nat.reduceSub, Nat.reduceAdd, Int.reduceLT, Int.reduceLE, Int.reduceToNat, Nat.reduceMul, Nat.reduceEqDiff, reduceCtorEq, Nat.reduceBEq, Nat.reduceLeDiff, Nat.reduceLT, xf70_L0, ai, d0]
    exact W_stop (hK _ _ _ _ _ _ _ _ _ _ _ _ _ _ _ _ _ _ _ _ _ _ _ _ _ _ _ _ _ _ _ _ _ _ _ _ _ _ _ _)
  | succ k ihk =>
    intro x hx P g o h1 h2 j3 j5 j6 j7 j8 j9 j10 j11 j12 j13 j14 j15 j16 j17 j18 j21 j22 j23 j24 j25 j26 j27 j28 j29 j30 j31 j32 j33 j34 j35 j36 j37 j38 j39 j40 j41 j42 j43 j44 j45
    have hn4 := hg.n4
    have d0 : decide ((x : Int) < (n : Int)) = true := decide_eq_true (by omega)
    have wx : IntKind.i64.wrap ((x : Int) + 1) = ((x + 1 : Nat) : Int) := by rw [wrap_id (by omega) (by omega)]; simp
    have hgt := get_T (T := T) (i := L.length) (by rw [hg.len]; omega)
    have hcl := get_cel hg (r := L.length) (c := (x : Int)) (by omega) (by omega)
    rw [toNat_cast] at hcl
    have hmem := has_run (dv_isL L) (x : Int) (by omega)
    rw [List.range'_succ, List.flatMap_cons] at h1
    refine W_loop (W_run 160 ?_)
    by_cases c1 : 0 < cel T L.length x
    · have d1 : decide (0 < cel T L.length x) = true := decide_eq_true c1
      have hdr := noRef_dv L
      simp (maxSteps := 2000000) only [SA, Nat.reduceDiv, Nat.reduceSub, Nat.reduceAdd, Int.reduceLT, Int.reduceLE, Int.reduceToNat, Nat.reduceMul, Nat.reduceEqDiff, reduceCtorEq, Nat.reduceBEq, Nat.reduceLeDiff, Nat.reduceLT, xf70_L0, ai, aT, al, wA, d0, hgt, hcl, d1]
      refine W_call (args := [dv L, ai x]) rfl (noRefs_2 hdr rfl) hmem rfl (W_run 160 ?_)
      by_cases c2 : (x : Int) ∈ L
      · have d2 := memD_iff.2 c2
        have hG : extG n T m L x = [] := by unfold extG; rw [if_neg (by intro q; exact q.2 c2)]
        rw [hG, List.nil_append] at h1
        have next := ihk (x + 1) (by omega) P g o h1 h2
        simp (maxSteps := 2000000) only [SA, Nat.reduceDiv, Nat.reduceSub, Nat.reduceAdd, Int.reduceLT, Int.reduceLE, Int.reduceToNat, Nat.reduceMul, Nat.reduceEqDiff, reduceCtorEq, Nat.reduceBEq, Nat.reduceLeDiff, Nat.reduceLT, ai, ab, d2, wx]
        exact next _ _ _ _ _ _ _ _ _ _ _ _ _ _ _ _ _ _ _ _ _ _ _ _ _ _ _ _ _ _ _ _ _ _ _ _ _ _ _ _
      · have d2 : memD L (x : Int) = false := by
          cases q : memD L (x : Int) with
          | false => rfl
          | true => exact absurd (memD_iff.1 q) c2
        have hG : extG n T m L x = ext n T m (L ++ [(x : Int)]) := by unfold extG; rw [if_pos ⟨c1, c2⟩]
        rw [hG] at h1
        have hLl : (L ++ [(x : Int)]).length = L.length + 1 := by simp
        have hPl : P.length + (ext n T m (L ++ [(x : Int)])).length ≤ 1000 := by
          have := congrArg List.length h1
          simp only [List.length_append] at this
          omega
        have hi2 := inC_snoc hi (c := x) (by omega)
        have hd2 := nd_snoc hd c2
        have hok2 : ∀ q, q ∈ P ++ ext n T m (L ++ [(x : Int)]) → okP n q := fun q hq => by
          rcases List.mem_append.1 hq with q1 | q1
          · exact h2 q q1
          · exact ext_ok m _ (by rw [hLl]; omega) hi2 hd2 q q1
        rw [← List.append_assoc] at h1
        have next := fun r' : Nat × Option Ob => ihk (x + 1) (by omega) _ r'.1 r'.2 h1 hok2
        have hlk := hv.lk P
        have hpt := hv.pt P
        cases L with
        | nil =>
          obtain ⟨r', hrun⟩ := ih [(x : Int)] P (.os 1043 (g + 1) 1 1 0 1) (g + 1, some ⟨3, 1, [ai x]⟩) (by simp; simp at hL; omega) hi2 hd2 (.b (g + 1) (by simp)) h2 hPl
          have next := next r'
          simp only [dv] at next ⊢
          simp (maxSteps := 2000000) only [SA, Nat.reduceDiv, Nat.reduceSub, Nat.reduceAdd, Int.reduceLT, Int.reduceLE, Int.reduceToNat, Nat.reduceMul, Nat.reduceEqDiff, reduceCtorEq, Nat.reduceBEq, Nat.reduceLeDiff, Nat.reduceLT, ai, ab, d2, nilA]
          refine W_frF [.none, .none, .none, .none, .none, .wk 1043, .any] (by kernel_rfl) (W_run 160 ?_)
          simp (maxSteps := 2000000) only [SA, Nat.reduceDiv, Nat.reduceSub, Nat.reduceAdd, Int.reduceLT, Int.reduceLE, Int.reduceToNat, Nat.reduceMul, Nat.reduceEqDiff, reduceCtorEq, Nat.reduceBEq, Nat.reduceLeDiff, Nat.reduceLT, ai, ab, nilA]
          refine W_call (args := [nilA]) rfl (noRefs_1 rfl) (clone_nil []) rfl (W_run 160 ?_)
          simp (maxSteps := 2000000) only [SA, Nat.reduceDiv, Nat.reduceSub, Nat.reduceAdd, Int.reduceLT, Int.reduceLE, Int.reduceToNat, Nat.reduceMul, Nat.reduceEqDiff, reduceCtorEq, Nat.reduceBEq, Nat.reduceLeDiff, Nat.reduceLT, ai, ab, nilA, hlk, hpt, Go.Proofs.Eng.elems, List.map_cons, List.map_nil, List.nil_append]
          refine W_callR (kb' := 1000) (args := [wA T fN cs, .os 1043 (g + 1) 1 1 0 1]) rfl hrun rfl (W_run 160 ?_)
          simp (maxSteps := 2000000) only [SA, Nat.reduceDiv, Nat.reduceSub, Nat.reduceAdd, Int.reduceLT, Int.reduceLE, Int.reduceToNat, Nat.reduceMul, Nat.reduceEqDiff, reduceCtorEq, Nat.reduceBEq, Nat.reduceLeDiff, Nat.reduceLT, ai, wx]
          exact next _ _ _ _ _ _ _ _ _ _ _ _ _ _ _ _ _ _ _ _ _ _ _ _ _ _ _ _ _ _ _ _ _ _ _ _ _ _ _ _
        | cons y t =>
          obtain ⟨r', hrun⟩ := ih (y :: t ++ [(x : Int)]) P (.os 1043 (g + 1) (t.length + 1 + 1) 1 0 (t.length + 1 + 1)) (g + 1, some ⟨3, 1, (y :: t).map ai ++ [ai x]⟩) (by simp; simp at hL; omega) hi2 hd2 (by
            have := LS.b (L := y :: t ++ [(x : Int)]) (g + 1) (by simp)
            simpa using this) h2 hPl
          have next := next r'
          have hcln := clone_run false (y :: t) (by simp at hL; simp; omega)
          have q1 : (t.length + 1 + 1) * 8 ≤ 100000000000000 := by simp at hL; omega
          have q2 : t.length + 1 + 1 ≤ 100000000000000 := by simp at hL; omega
          simp only [dv] at next ⊢
          simp (maxSteps := 2000000) only [SA, Nat.reduceDiv, Nat.reduceSub, Nat.reduceAdd, Int.reduceLT, Int.reduceLE, Int.reduceToNat, Nat.reduceMul, Nat.reduceEqDiff, reduceCtorEq, Nat.reduceBEq, Nat.reduceLeDiff, Nat.reduceLT, ai, ab, d2]
          refine W_frF [.none, .none, .wk 1043, .none, .none, .wk 1043, .any] (by kernel_rfl) (W_run 160 ?_)
          simp (maxSteps := 2000000) only [SA, Nat.reduceDiv, Nat.reduceSub, Nat.reduceAdd, Int.reduceLT, Int.reduceLE, Int.reduceToNat, Nat.reduceMul, Nat.reduceEqDiff, reduceCtorEq, Nat.reduceBEq, Nat.reduceLeDiff, Nat.reduceLT, ai, ab]
          refine W_callU (k0 := 1043) (args := [al false (y :: t)]) rfl (fun η hη => (hcln η g o (hη.trans (hlk _))).pureR orders_mx xf_ok) rfl (W_run 160 ?_)
          simp (maxSteps := 2000000) only [SA, Nat.reduceDiv, Nat.reduceSub, Nat.reduceAdd, Int.reduceLT, Int.reduceLE, Int.reduceToNat, Nat.reduceMul, Nat.reduceEqDiff, reduceCtorEq, Nat.reduceBEq, Nat.reduceLeDiff, Nat.reduceLT, ai, ab, hlk, hpt, q1, q2, Go.Proofs.Eng.elems, List.map_cons, List.map_nil, List.nil_append]
          refine W_callR (kb' := 1000) (args := [wA T fN cs, .os 1043 (g + 1) (t.length + 1 + 1) 1 0 (t.length + 1 + 1)]) rfl hrun rfl (W_run 160 ?_)
          simp (maxSteps := 2000000) only [SA, Nat.reduceDiv, Nat.reduceSub, Nat.reduceAdd, Int.reduceLT, Int.reduceLE, Int.reduceToNat, Nat.reduceMul, Nat.reduceEqDiff, reduceCtorEq, Nat.reduceBEq, Nat.reduceLeDiff, Nat.reduceLT, ai, wx]
          exact next _ _ _ _ _ _ _ _ _ _ _ _ _ _ _ _ _ _ _ _ _ _ _ _ _ _ _ _ _ _ _ _ _ _ _ _ _ _ _ _
    · have d1 : decide (0 < cel T L.length x) = false := decide_eq_false c1
      have hG : extG n T m L x = [] := by unfold extG; rw [if_neg (by intro q; exact c1 q.1)]
      rw [hG, List.nil_append] at h1
      have next := ihk (x + 1) (by omega) P g o h1 h2
      simp (maxSteps := 2000000) only [SA, Nat.reduceDiv, Nat.reduceSub, Nat.reduceAdd, Int.reduceLT, Int.reduceLE, Int.reduceToNat, Nat.reduceMul, Nat.reduceEqDiff, reduceCtorEq, Nat.reduceBEq, Nat.reduceLeDiff, Nat.reduceLT, xf70_L0, ai, aT, al, wA, d0, hgt, hcl, d1, wx]
      exact next _ _ _ _ _ _ _ _ _ _ _ _ _ _ _ _ _ _ _ _ _ _ _ _ _ _ _ _ _ _ _ _ _ _ _ _ _ _ _ _
end Go.Proofs.Ytkbeaheladmeiaa

set_option linter.unusedSimpArgs false
set_option linter.unusedVariables false
namespace Go.Proofs.Ytkbeaheladmeiaa
open Go Go.Proofs.Eng
set_option maxRecDepth 100000
set_option maxHeartbeats 2000000
def FromG (H : List (List Int) → Nat × Option Ob → Heap) (PF : List (List Int)) (o : Out) (c : Cfg) : Prop := (o = .ret ∨ o = .normal) ∧ ∃ r', c.η = H PF r'
theorem FromG.run {H : List (List Int) → Nat × Option Ob → Heap} {PF : List (List Int)} {args : List AV} {η : Heap}
    (h : W Try.prog (RelU Try.prog xf) 1000 [.code xf70.body] (Go.Proofs.Eng.start xf70 args η) (FromG H PF)) :
    ∃ r', RunsR Try.prog xf 1000 70 args η (.tup []) (H PF r') := by
  obtain ⟨o, c, h1, ho, r', e⟩ := h
  exact ⟨r', RunsR.ofW (fn := xf70) (by kernel_rfl) ⟨o, c, h1, ho, [], rfl, rfl, e.symm⟩⟩
theorem from_all {n : Nat} {T : List (List Int)} (hg : gT n T) {fN : Nat} {cs : List AV} {H : List (List Int) → Nat × Option Ob → Heap} (hv : Vis n fN cs H) : ∀ (k : Nat), FromT n T fN cs H k := by
  have hn4 := hg.n4
  have hn1 := hg.n1
  have hlen := hg.len
  have lT : ((T.map (al false)).length : Int) = (n : Int) := by rw [List.length_map, hlen]
  intro k
  induction k with
  | zero =>
    intro L P lav r hL hi hd hls hP hb
    have hLn : L.length = n := by omega
    have e1 : ((L.length : Int) == (T.length : Int)) = true := by rw [hlen, hLn]; simp
    cases hls with
    | a r h => subst h; simp at hLn; omega
    | b g h =>
      have hrun := hv.run P L g (by omega) hP ⟨hLn, hi, hd⟩
      have hpt := hv.pt P
      refine FromG.run (W_giveC (t := 1) (giveT_row (k := 1043) (g := g) (e := 3) (s := 1) (xs := L.map ai) (n := L.length) rfl (hv.lk _ _) (by simp)) (W_run 120 ?_))
      simp (maxSteps := 2000000) only [SA, Nat.reduceDiv, Nat.reduceSub, Nat.reduceAdd, Int.reduceLT, Int.reduceLE, Int.reduceToNat, Nat.reduceMul, Nat.reduceEqDiff, reduceCtorEq, Nat.reduceBEq, Nat.reduceLeDiff, Nat.reduceLT, xf70, ai, aT, wA, e1, hpt, toData_os, toData_v, toData_ptr, toData_o, toData_ag, List.map_cons, List.map_nil]
      refine W_callvR (kb' := 2000) (caps := cs) rfl hv.call rfl hrun rfl (W_run 120 ?_)
      simp (maxSteps := 2000000) only [SA, Nat.reduceDiv, Nat.reduceSub, Nat.reduceAdd, Int.reduceLT, Int.reduceLE, Int.reduceToNat, Nat.reduceMul, Nat.reduceEqDiff, reduceCtorEq, Nat.reduceBEq, Nat.reduceLeDiff, Nat.reduceLT, ai]
      exact W_ret1 (WX_pop (WX_nil ⟨.inl rfl, (g, none), rfl⟩))
  | succ k ih =>
    intro L P lav r hL hi hd hls hP hb
    have e1 : ((L.length : Int) == (T.length : Int)) = false := by rw [beq_eq_false_iff_ne, hlen]; omega
    have hrec := ext_succ n T k L
    have hlp := frm_loop hg hv k L hL hi hd (P ++ ext n T (k + 1) L) (by rw [List.length_append]; exact hb) ih [] (FromG H (P ++ ext n T (k + 1) L)) (fun r' x j3 j5 j6 j7 j8 j9 j10 j11 j12 j13 j14 j15 j16 j17 j18 j21 j22 j23 j24 j25 j26 j27 j28 j29 j30 j31 j32 j33 j34 j35 j36 j37 j38 j39 j40 j41 j42 j43 j44 j45 => W_done ⟨.inr rfl, r', rfl⟩) n 0 (by omega) P
    rw [← hrec] at hlp
    cases hls with
    | a r h =>
      subst h
      obtain ⟨g, o⟩ := r
      have hlp := hlp g o rfl hP
      simp only [dv, wA] at hlp
      have e2 : ((0 : Int) == (T.length : Int)) = false := e1
      refine FromG.run (W_run 120 ?_)
      simp (maxSteps := 2000000) only [SA, Nat.reduceDiv, Nat.reduceSub, Nat.reduceAdd, Int.reduceLT, Int.reduceLE, Int.reduceToNat, Nat.reduceMul, Nat.reduceEqDiff, reduceCtorEq, Nat.reduceBEq, Nat.reduceLeDiff, Nat.reduceLT, xf70, ai, aT, nilA, wA, e2]
      rw [hlen]
      exact W_alone (hlp _ _ _ _ _ _ _ _ _ _ _ _ _ _ _ _ _ _ _ _ _ _ _ _ _ _ _ _ _ _ _ _ _ _ _ _ _ _ _ _)
    | b g h =>
      have hlp := hlp g none rfl hP
      have hpt := hv.pt P
      refine FromG.run (W_giveC (t := 1) (giveT_row (k := 1043) (g := g) (e := 3) (s := 1) (xs := L.map ai) (n := L.length) rfl (hv.lk _ _) (by simp)) (W_run 120 ?_))
      cases L with
      | nil => exact absurd rfl h
      | cons y t =>
        simp only [dv, wA] at hlp
        generalize hLL : y :: t = L at *
        simp (maxSteps := 2000000) only [SA, Nat.reduceDiv, Nat.reduceSub, Nat.reduceAdd, Int.reduceLT, Int.reduceLE, Int.reduceToNat, Nat.reduceMul, Nat.reduceEqDiff, reduceCtorEq, Nat.reduceBEq, Nat.reduceLeDiff, Nat.reduceLT, xf70, ai, aT, wA, e1, hpt, toData_os, toData_v, toData_ptr, toData_o, toData_ag, List.map_cons, List.map_nil]
        rw [hlen]
        exact W_alone (hlp _ _ _ _ _ _ _ _ _ _ _ _ _ _ _ _ _ _ _ _ _ _ _ _ _ _ _ _ _ _ _ _ _ _ _ _ _ _ _ _)
theorem walk_run {n : Nat} {T : List (List Int)} (hg : gT n T) {fN : Nat} {cs : List AV} {H : List (List Int) → Nat × Option Ob → Heap} (hv : Vis n fN cs H) (r : Nat × Option Ob) :
    ∃ r', RunsR Try.prog xf 1000 70 [wA T fN cs, nilA] (H [] r) (.tup []) (H (withP n T) r') := by
  have := from_all hg hv n [] [] nilA r (by simp) (fun c hc => by cases hc) List.nodup_nil (.a r rfl) (fun q hq => by cases hq) (by
    have := withP_len (T := T) hg.n4
    unfold withP at this
    simp; omega)
  exact this
/-! ### Count -/
theorem named1043 (j : Nat) : Go.Proofs.Eng.look [] j = Go.Proofs.Eng.look [(1043, (0, (none : Option Ob)))] j := by
  simp only [Go.Proofs.Eng.look]
  by_cases h2 : 1043 = j
  · subst h2; simp
  · simp [h2]
/-- how many plans are within a table -/
def cntP (n : Nat) (T : List (List Int)) : Nat := (withP n T).length
theorem noRefs_T (T : List (List Int)) : noRefs [aT T] = true := noRefs_1 (noRef_T T)
/-! ### Weight -/
def sumW (T : List (List Int)) (P : List (List Int)) : Int := sumI (P.map (wgt T))
theorem sumW_b {n : Nat} {T : List (List Int)} (hg : gT n T) {P : List (List Int)} (hP : ∀ q, q ∈ P → okP n q) : 0 ≤ sumW T P ∧ sumW T P ≤ 6561 * P.length := by
  have := sumI_b (l := P.map (wgt T)) (b := 6561) (by omega) fun x hx => by
    obtain ⟨p, hp, rfl⟩ := List.mem_map.1 hx
    obtain ⟨h1, h2, _⟩ := hP p hp
    exact wgt_b hg h2 (by omega)
  rw [List.length_map] at this
  exact this
def hWt (T : List (List Int)) (P : List (List Int)) (r : Nat × Option Ob) : Heap := [(5, (1, some ⟨3, 1, [ai (sumW T P)]⟩)), (1043, r)]
theorem vis_weight {n : Nat} {T : List (List Int)} (hg : gT n T) : Vis n 73 [.o 5 1 1 0 0, .ptr (aT T)] (hWt T) where
  call := by kernel_rfl
  lk := fun P r => rfl
  pt := fun P r q => rfl
  run := fun P p g hl hP hp => by
    obtain ⟨h1, h2, h3⟩ := hp
    have hn4 := hg.n4
    have hb := sumW_b hg hP
    have hw := wgt_b hg h2 (by omega)
    have hnu := nums_run hg false h2 (by omega)
    have hpr := product_run (l := nums T p) (by rw [nums_len]; omega) (nums_mem hg h2 (by omega))
    have e1 : sumW T (P ++ [p]) = sumW T P + wgt T p := by unfold sumW; rw [List.map_append, List.map_cons, List.map_nil, sumI_snoc]
    have w1 : IntKind.i64.wrap (sumW T P + prI (nums T p)) = sumW T P + prI (nums T p) := by
      have hw2 : 0 ≤ prI (nums T p) ∧ prI (nums T p) ≤ 6561 := hw
      rw [wrap_id (by omega) (by omega)]
    have e2 : hWt T (P ++ [p]) (g, none) = [(5, (1, some ⟨3, 1, [ai (sumW T P + prI (nums T p))]⟩)), (1043, (g, none))] := by
      unfold hWt; rw [e1]; rfl
    rw [e2]
    refine RunsR.ofW (fn := xf73) (by kernel_rfl) (W_run 120 ?_)
    simp (maxSteps := 2000000) only [SA, Nat.reduceDiv, Nat.reduceSub, Nat.reduceAdd, Int.reduceLT, Int.reduceLE, Int.reduceToNat, Nat.reduceMul, Nat.reduceEqDiff, reduceCtorEq, Nat.reduceBEq, Nat.reduceLeDiff, Nat.reduceLT, xf73, ai, al, aT, hWt]
    refine W_call (args := [aT T, al false p]) rfl (noRefs_2 (noRef_T T) (noRef_al _ _)) hnu (noRef_al _ _) (W_run 120 ?_)
    simp (maxSteps := 2000000) only [SA, Nat.reduceDiv, Nat.reduceSub, Nat.reduceAdd, Int.reduceLT, Int.reduceLE, Int.reduceToNat, Nat.reduceMul, Nat.reduceEqDiff, reduceCtorEq, Nat.reduceBEq, Nat.reduceLeDiff, Nat.reduceLT, ai, al, aT]
    refine W_call (args := [al false (nums T p)]) rfl (noRefs_1 (noRef_al _ _)) hpr rfl (W_run 120 ?_)
    simp (maxSteps := 2000000) only [SA, Nat.reduceDiv, Nat.reduceSub, Nat.reduceAdd, Int.reduceLT, Int.reduceLE, Int.reduceToNat, Nat.reduceMul, Nat.reduceEqDiff, reduceCtorEq, Nat.reduceBEq, Nat.reduceLeDiff, Nat.reduceLT, ai, al, aT, w1]
    exact W_done ⟨.inr rfl, [], rfl, rfl, rfl⟩
/-- the weight of a table -/
def wgtT (n : Nat) (T : List (List Int)) : Int := sumW T (withP n T)
theorem weight_run {n : Nat} {T : List (List Int)} (hg : gT n T) : Runs Try.prog xf 36 [aT T] (.tup [ai (wgtT n T), ai 0]) := by
  have n00 : ((0 : Int) != 0) = false := rfl
  obtain ⟨r', hrun⟩ := walk_run hg (vis_weight hg) (0, none)
  refine Runs.ofW (fn := xf36) 20 (by kernel_rfl) (W_named named1043 (W_run 80 ?_))
  simp (maxSteps := 2000000) only [SA, Nat.reduceDiv, Nat.reduceSub, Nat.reduceAdd, Int.reduceLT, Int.reduceLE, Int.reduceToNat, Nat.reduceMul, Nat.reduceEqDiff, reduceCtorEq, Nat.reduceBEq, Nat.reduceLeDiff, Nat.reduceLT, xf36, ai, aT]
  refine W_call (args := [aT T]) rfl (noRefs_T T) (check_run hg) rfl (W_run 80 ?_)
  simp (maxSteps := 2000000) only [SA, Nat.reduceDiv, Nat.reduceSub, Nat.reduceAdd, Int.reduceLT, Int.reduceLE, Int.reduceToNat, Nat.reduceMul, Nat.reduceEqDiff, reduceCtorEq, Nat.reduceBEq, Nat.reduceLeDiff, Nat.reduceLT, ai, aT, n00, Go.Proofs.Eng.fillA, List.map_cons, List.map_nil]
  refine W_callR (kb' := 1000) (args := [wA T 73 [.o 5 1 1 0 0, .ptr (aT T)], nilA]) rfl hrun rfl (W_run 80 ?_)
  simp (maxSteps := 2000000) only [SA, Nat.reduceDiv, Nat.reduceSub, Nat.reduceAdd, Int.reduceLT, Int.reduceLE, Int.reduceToNat, Nat.reduceMul, Nat.reduceEqDiff, reduceCtorEq, Nat.reduceBEq, Nat.reduceLeDiff, Nat.reduceLT, ai, aT, hWt]
  exact W_ret1 (WX_nil ⟨.inl rfl, _, rfl, rfl⟩)
/-! ### the list of the plans -/
theorem reify_TT {η : Heap} {k g e : Nat} {l : List (List Int)} (hk : Go.Proofs.Eng.look η k = (g, some ⟨e, 1, l.map (al false)⟩)) : reify η 20 (.os k g l.length 1 0 l.length) = some (aT l) :=
  reify_os (fun a => reify_isL (.inl ⟨false, rfl⟩) η 16) hk
end Go.Proofs.Ytkbeaheladmeiaa

