/-
  A table has a block just if no plan is within it; the first of the shortest lists of rows that make one; package table's Bar.
-/
import Derived.Test.YtelkpfionifjgaaTp
set_option linter.unusedSimpArgs false
set_option linter.unusedVariables false
namespace Go.Proofs.Ytelkpfionifjgaa
open Go Go.Proofs.Eng
set_option maxRecDepth 100000
set_option maxHeartbeats 2000000
/-- rows that make a block with all columns that have 0 in all of them -/
def blkP (n : Nat) (T : List (List Int)) (l : List Int) : Bool := decide (n < l.length + (zerC n T l).length)
def barF (n : Nat) (T : List (List Int)) : Option (List Int) := (lrL n).find? (blkP n T)
theorem allP_mem {n : Nat} : ∀ (k : Nat) (L t : List Int), L.length + k = n → t.length = k → (∀ c, c ∈ t → 0 ≤ c ∧ c < (n : Int)) → (L ++ t).Nodup → L ++ t ∈ allP n k L
  | 0, L, t, _, ht, _, _ => by
    have : t = [] := List.length_eq_zero_iff.1 ht
    subst this; simp [allP]
  | k + 1, L, [], _, ht, _, _ => by simp at ht
  | k + 1, L, c :: t, hl, ht, hi, hd => by
    have hc := hi c List.mem_cons_self
    simp only [allP, List.mem_flatMap]
    refine ⟨c.toNat, List.mem_range.2 (by omega), ?_⟩
    have e : ((c.toNat : Nat) : Int) = c := by omega
    rw [e]
    have hcL : c ∉ L := fun h => by
      rw [List.nodup_append] at hd
      exact hd.2.2 c h c List.mem_cons_self rfl
    rw [if_pos hcL]
    have := allP_mem k (L ++ [c]) t (by simp; omega) (by simpa using ht) (fun x hx => hi x (List.mem_cons_of_mem _ hx)) (by simpa using hd)
    simpa using this
theorem lrL_ok {n : Nat} (h1 : 1 ≤ n) (h4 : n ≤ 4) : ∀ l, l ∈ lrL n → l.Nodup ∧ inC n l ∧ l.length ≤ n := by
  have h : ∀ l, l ∈ lrL n → l.Nodup ∧ (∀ c, c ∈ l → 0 ≤ c ∧ c < (n : Int)) ∧ l.length ≤ n := by
    match n, h1, h4 with
    | 1, _, _ | 2, _, _ | 3, _, _ | 4, _, _ => decide +kernel
  exact h
theorem lrL_mem {n : Nat} (h1 : 1 ≤ n) (h4 : n ≤ 4) (p : Nat → Bool) : ((List.range n).filter p).map (fun (r : Nat) => (r : Int)) ∈ lrL n := by
  match n, h1, h4 with
  | 1, _, _ =>
    have e : List.range 1 = [0] := rfl
    rw [e]; cases h0 : p 0 <;> simp [List.filter_cons, h0, lrL]
  | 2, _, _ =>
    have e : List.range 2 = [0, 1] := rfl
    rw [e]; cases h0 : p 0 <;> cases h1 : p 1 <;> simp [List.filter_cons, h0, h1, lrL]
  | 3, _, _ =>
    have e : List.range 3 = [0, 1, 2] := rfl
    rw [e]; cases h0 : p 0 <;> cases h1 : p 1 <;> cases h2 : p 2 <;> simp [List.filter_cons, h0, h1, h2, lrL]
  | 4, _, _ =>
    have e : List.range 4 = [0, 1, 2, 3] := rfl
    rw [e]; cases h0 : p 0 <;> cases h1 : p 1 <;> cases h2 : p 2 <;> cases h3 : p 3 <;> simp [List.filter_cons, h0, h1, h2, h3, lrL]
theorem map_cast_any (A : List Nat) (f : Nat → Bool) : ((A.map fun (r : Nat) => (r : Int)).any fun r => f r.toNat) = A.any f := by
  rw [List.any_map]; rfl
/-- without a block there is a plan -/
theorem plan_of {n : Nat} {T : List (List Int)} (hg : gT n T) (hno : ∀ l, l ∈ lrL n → blkP n T l = false) : withP n T ≠ [] := by
  have hR : (List.range n).Nodup := List.nodup_range
  obtain ⟨g, g1, g2⟩ := hall (fun r c => decide (0 < cel T r c)) n (List.range n) (List.range n) (by simp) hR hR fun A hA hs => by
    have hlen : A.length ≤ ((List.range n).filter fun r => decide (r ∈ A)).length := nodup_le _ _ hA fun x hx => List.mem_filter.2 ⟨hs x hx, by simpa using hx⟩
    have hb := hno _ (lrL_mem hg.n1 hg.n4 fun r => decide (r ∈ A))
    unfold blkP at hb
    rw [List.length_map] at hb
    have hb := of_decide_eq_false hb
    have e : ∀ c, (((List.range n).filter fun r => decide (r ∈ A)).any fun r => decide (0 < cel T r c)) = A.any fun r => decide (0 < cel T r c) := fun c => by
      rw [Bool.eq_iff_iff, List.any_eq_true, List.any_eq_true]
      constructor
      · rintro ⟨r, hr, h⟩; exact ⟨r, by simpa using (List.mem_filter.1 hr).2, h⟩
      · rintro ⟨r, hr, h⟩; exact ⟨r, List.mem_filter.2 ⟨hs r hr, by simpa using hr⟩, h⟩
    have hz : (zerC n T (((List.range n).filter fun r => decide (r ∈ A)).map fun (r : Nat) => (r : Int))).length = ((List.range n).filter fun c => !(A.any fun r => decide (0 < cel T r c))).length := by
      unfold zerC zerK
      rw [List.length_map]
      congr 2
      funext c
      unfold zerB
      rw [map_cast_any _ fun r => decide (0 < cel T r c), e]
    have hn := filter_not (fun c => A.any fun r => decide (0 < cel T r c)) (List.range n)
    rw [List.length_range] at hn
    show A.length ≤ ((List.range n).filter fun c => A.any fun r => decide (0 < cel T r c)).length
    omega
  have hpl : ((List.range n).map fun r => (g r : Int)).length = n := by simp
  have hin : ∀ c, c ∈ (List.range n).map (fun r => (g r : Int)) → 0 ≤ c ∧ c < (n : Int) := fun c hc => by
    obtain ⟨r, hr, rfl⟩ := List.mem_map.1 hc
    have := List.mem_range.1 (g1 r hr).2
    omega
  have hnd : ((List.range n).map fun r => (g r : Int)).Nodup := by
    unfold List.Nodup
    rw [List.pairwise_map]
    exact hR.imp_of_mem fun {a b} ha hb hne e => g2 a b ha hb hne (by omega)
  have hm := allP_mem n [] _ (by simp) hpl hin (by simpa using hnd)
  have hpos : posF n T 0 ([] ++ (List.range n).map fun r => (g r : Int)) = true := by
    simp only [posF, List.all_eq_true, List.mem_range, Bool.or_eq_true, decide_eq_true_eq, List.nil_append]
    intro r hr
    right
    have e : ((List.range n).map fun r => (g r : Int)).getD r 0 = (g r : Int) := by
      rw [List.getD_eq_getElem?_getD, List.getElem?_map, List.getElem?_range hr]; rfl
    rw [e]
    simpa using (g1 r (List.mem_range.2 hr)).1
  unfold withP
  rw [ext_filter n [] (by simp)]
  exact List.ne_nil_of_mem (List.mem_filter.2 ⟨hm, hpos⟩)
theorem nd_getD {p : List Int} (hd : p.Nodup) {r s : Nat} (hr : r < p.length) (hs : s < p.length) (h : p.getD r 0 = p.getD s 0) : r = s := by
  rw [List.getD_eq_getElem?_getD, List.getD_eq_getElem?_getD, List.getElem?_eq_getElem hr, List.getElem?_eq_getElem hs] at h
  exact (List.getElem_inj hd).1 h
/-- where a plan is there is no block -/
theorem noblk_of {n : Nat} {T : List (List Int)} (hg : gT n T) {p : List Int} (hp : p ∈ withP n T) {l : List Int} (hl : l ∈ lrL n) : blkP n T l = false := by
  obtain ⟨l1, l2, l3⟩ := lrL_ok hg.n1 hg.n4 l hl
  obtain ⟨p1, p2, p3⟩ := withP_ok hp
  have hpos : ∀ r, r < n → 0 < cel T r (p.getD r 0).toNat := by
    unfold withP at hp
    rw [ext_filter n [] (by simp)] at hp
    have := (List.mem_filter.1 hp).2
    simp only [posF, List.all_eq_true, List.mem_range, Bool.or_eq_true, decide_eq_true_eq] at this
    intro r hr
    exact (this r hr).resolve_left (by simp)
  have hX := nodup_le (l.map (fun r => (p.getD r.toNat 0).toNat) ++ (List.range n).filter (zerB T l)) (List.range n) (by
    rw [List.nodup_append]
    refine ⟨?_, List.nodup_range.filter _, fun a ha b hb => ?_⟩
    · unfold List.Nodup
      rw [List.pairwise_map]
      refine l1.imp_of_mem fun {a b} ha hb hne e => ?_
      have ra := l2 a ha
      have rb := l2 b hb
      have ca := p2 _ (getD_mem (d := 0) (l := p) (i := a.toNat) (by omega))
      have cb := p2 _ (getD_mem (d := 0) (l := p) (i := b.toNat) (by omega))
      have := nd_getD p3 (r := a.toNat) (s := b.toNat) (by omega) (by omega) (by omega)
      exact hne (by omega)
    · obtain ⟨r, hr, rfl⟩ := List.mem_map.1 ha
      intro e
      subst e
      have hz := (List.mem_filter.1 hb).2
      have hr2 := l2 r hr
      have := hpos r.toNat (by omega)
      unfold zerB at hz
      rw [List.any_eq_true.2 ⟨r, hr, decide_eq_true this⟩] at hz
      cases hz) (fun x hx => by
    rcases List.mem_append.1 hx with q | q
    · obtain ⟨r, hr, rfl⟩ := List.mem_map.1 q
      have ra := l2 r hr
      have ca := p2 _ (getD_mem (d := 0) (l := p) (i := r.toNat) (by omega))
      exact List.mem_range.2 (by omega)
    · exact (List.mem_filter.1 q).1)
  rw [List.length_append, List.length_map, List.length_range] at hX
  unfold blkP zerC zerK
  rw [List.length_map]
  exact decide_eq_false (by omega)
theorem bar_iff {n : Nat} {T : List (List Int)} (hg : gT n T) : barF n T = none ↔ withP n T ≠ [] := by
  unfold barF
  rw [List.find?_eq_none]
  constructor
  · intro h
    exact plan_of hg fun l hl => by simpa using h l hl
  · intro h l hl
    obtain ⟨p, hp⟩ := List.exists_mem_of_ne_nil _ h
    rw [noblk_of hg hp hl]; simp
/-! ### the law's search of the first of the shortest lists -/
def cm (x y : Int) : Int := if x < y then -1 else if y < x then 1 else 0
def cmpL : List Int → List Int → Int
  | [], [] => 0
  | [], _ :: _ => -1
  | _ :: _, [] => 1
  | x :: s, y :: t => if cm x y = 0 then cmpL s t else cm x y
def ltL (a b : List Int) : Bool := decide (a.length < b.length) || (decide (a.length = b.length) && decide (cmpL a b < 0))
def updL (P : List Int → Bool) (R a : List Int) : List Int := if a ≠ [] ∧ P a = true ∧ (R = [] ∨ ltL a R = true) then a else R
theorem fold_min (P : List Int → Bool) (hir : ∀ a, ltL a a = false) (htr : ∀ a b c : List Int, ltL a b = true → ltL b c = true → ltL a c = true) : ∀ (S : List (List Int)) (R : List Int) (seen : List (List Int)),
    (R ≠ [] → P R = true ∧ R ∈ seen) → (∀ a, a ∈ seen → a ≠ [] → P a = true → R ≠ [] ∧ (a = R ∨ ltL a R = false)) →
    (S.foldl (updL P) R ≠ [] → P (S.foldl (updL P) R) = true ∧ S.foldl (updL P) R ∈ seen ++ S) ∧ ∀ a, a ∈ seen ++ S → a ≠ [] → P a = true → S.foldl (updL P) R ≠ [] ∧ (a = S.foldl (updL P) R ∨ ltL a (S.foldl (updL P) R) = false)
  | [], R, seen, h1, h2 => by simpa using ⟨h1, h2⟩
  | s :: S, R, seen, h1, h2 => by
    have := fold_min P hir htr S (updL P R s) (seen ++ [s]) (fun hne => by
      unfold updL at hne ⊢
      split
      · rename_i q; exact ⟨q.2.1, by simp⟩
      · rename_i q
        rw [if_neg q] at hne
        exact ⟨(h1 hne).1, List.mem_append_left _ (h1 hne).2⟩) (fun a ha hne hp => by
      unfold updL
      rcases List.mem_append.1 ha with q | q
      · obtain ⟨r1, r2⟩ := h2 a q hne hp
        split
        · rename_i u
          refine ⟨u.1, ?_⟩
          have hlt := u.2.2.resolve_left r1
          right
          rcases r2 with rfl | r2
          · cases e : ltL a s with
            | false => rfl
            | true => have := htr _ _ _ hlt e; rw [hir] at this; cases this
          · cases e : ltL a s with
            | false => rfl
            | true => have := htr _ _ _ e hlt; rw [r2] at this; cases this
        · exact ⟨r1, r2⟩
      · rw [List.mem_singleton] at q
        subst q
        by_cases u : R = [] ∨ ltL a R = true
        · rw [if_pos ⟨hne, hp, u⟩]; exact ⟨hne, .inl rfl⟩
        · rw [if_neg (fun v => u v.2.2)]
          refine ⟨fun e => u (.inl e), .inr ?_⟩
          cases e : ltL a R with
          | false => rfl
          | true => exact absurd (.inr e) u)
    simpa using this
theorem cm_lt {x y : Int} : cm x y < 0 ↔ x < y := by unfold cm; split <;> (try split) <;> omega
theorem cm_eq {x y : Int} : cm x y = 0 ↔ x = y := by unfold cm; split <;> (try split) <;> omega
theorem cmpL_self : ∀ a : List Int, cmpL a a = 0
  | [] => rfl
  | x :: t => by rw [cmpL, if_pos (cm_eq.2 rfl)]; exact cmpL_self t
theorem cmpL_tr : ∀ a b c : List Int, cmpL a b < 0 → cmpL b c < 0 → cmpL a c < 0
  | [], [], _, h, _ => by simp [cmpL] at h
  | [], _ :: _, [], _, h => by simp [cmpL] at h
  | [], _ :: _, _ :: _, _, _ => by simp [cmpL]
  | _ :: _, [], _, h, _ => by simp [cmpL] at h
  | _ :: _, _ :: _, [], _, h => by simp [cmpL] at h
  | x :: s, y :: t, z :: u, h1, h2 => by
    rw [cmpL] at h1 h2 ⊢
    by_cases e1 : cm x y = 0
    · rw [if_pos e1] at h1
      have := cm_eq.1 e1
      subst this
      by_cases e2 : cm x z = 0
      · rw [if_pos e2] at h2 ⊢; exact cmpL_tr s t u h1 h2
      · rw [if_neg e2] at h2 ⊢; exact h2
    · rw [if_neg e1] at h1
      have h1 := cm_lt.1 h1
      by_cases e2 : cm y z = 0
      · have := cm_eq.1 e2
        subst this
        rw [if_neg e1]; exact cm_lt.2 h1
      · rw [if_neg e2] at h2
        have h2 := cm_lt.1 h2
        have h3 : cm x z < 0 := cm_lt.2 (by omega)
        rw [if_neg (by omega)]; exact h3
theorem ltL_ir (a : List Int) : ltL a a = false := by
  have := cmpL_self a
  unfold ltL
  simp [this]
theorem ltL_tr (a b c : List Int) (h1 : ltL a b = true) (h2 : ltL b c = true) : ltL a c = true := by
  unfold ltL at h1 h2 ⊢
  simp only [Bool.or_eq_true, Bool.and_eq_true, decide_eq_true_eq] at h1 h2 ⊢
  rcases h1 with h1 | ⟨h1, h1'⟩
  · rcases h2 with h2 | ⟨h2, _⟩ <;> (left; omega)
  · rcases h2 with h2 | ⟨h2, h2'⟩
    · left; omega
    · right; exact ⟨by omega, cmpL_tr a b c h1' h2'⟩
/-- the rows of a set by bits -/
def bitI (s k : Nat) : Bool := (IntKind.i64.wrap ((BitVec.ofInt IntKind.i64.bits ((s : Int).fdiv (2 ^ min k IntKind.i64.bits)) &&& BitVec.ofInt IntKind.i64.bits 1).toNat : Int)) == 1
def bitL (s k : Nat) : List Int := ((List.range k).filter (bitI s)).map fun (c : Nat) => (c : Int)
theorem bitL_succ (s k : Nat) : bitL s (k + 1) = bitL s k ++ (if bitI s k = true then [(k : Int)] else []) := by
  unfold bitL
  rw [List.range_succ, List.filter_append, List.map_append, List.filter_cons, List.filter_nil]
  split <;> rfl
def setL (n : Nat) : List (List Int) := (List.range (2 ^ n)).map fun s => bitL s n
theorem set_facts {n : Nat} (h1 : 1 ≤ n) (h4 : n ≤ 4) : (∀ a, a ∈ setL n → a ∈ lrL n) ∧ (∀ a, a ∈ lrL n → a ∈ setL n) ∧ (lrL n).Pairwise fun a b => ltL a b = true := by
  match n, h1, h4 with
  | 1, _, _ | 2, _, _ | 3, _, _ | 4, _, _ => decide +kernel
theorem blk_nil (n : Nat) (T : List (List Int)) : blkP n T [] = false := by
  unfold blkP
  refine decide_eq_false ?_
  have := zerK_len T [] n
  unfold zerC
  simp only [List.length_nil]; omega
/-- what the law finds is what Bar returns -/
theorem law_bar {n : Nat} {T : List (List Int)} (hg : gT n T) : (setL n).foldl (updL (blkP n T)) [] = (barF n T).getD [] := by
  obtain ⟨f1, f2, f3⟩ := set_facts hg.n1 hg.n4
  obtain ⟨h1, h2⟩ := fold_min (blkP n T) ltL_ir ltL_tr (setL n) [] [] (fun h => absurd rfl h) (fun a ha => by cases ha)
  simp only [List.nil_append] at h1 h2
  generalize (setL n).foldl (updL (blkP n T)) [] = R at *
  unfold barF
  cases hf : (lrL n).find? (blkP n T) with
  | none =>
    rw [List.find?_eq_none] at hf
    show R = []
    by_cases hR : R = []
    · exact hR
    · obtain ⟨q1, q2⟩ := h1 hR
      exact absurd q1 (hf R (f1 R q2))
  | some l =>
    obtain ⟨hl, us, vs, hsp, has⟩ := List.find?_eq_some_iff_append.1 hf
    show R = l
    have hlm : l ∈ lrL n := by rw [hsp]; simp
    have hne : l ≠ [] := fun e => by rw [e, blk_nil] at hl; cases hl
    obtain ⟨hR, hor⟩ := h2 l (f2 l hlm) hne hl
    rcases hor with e | hlt
    · exact e.symm
    · obtain ⟨q1, q2⟩ := h1 hR
      have hRm := f1 R q2
      rw [hsp] at hRm f3
      rcases List.mem_append.1 hRm with q | q
      · have := has R q
        rw [q1] at this; simp at this
      · rcases List.mem_cons.1 q with e | q
        · exact e
        · have := (List.pairwise_cons.1 (List.pairwise_append.1 f3).2.1).1 R q
          rw [hlt] at this; cases this
/-! ### Bar -/
theorem bar_loop {n : Nat} {T : List (List Int)} (hg : gT n T) (Ls : List (List Int)) (hLs : ∀ l, l ∈ Ls → inC n l ∧ l.length ≤ n) (hn : Ls.length ≤ 100) (K : List Fr) (Q : Out → Cfg → Prop)
    (hK : Ls.find? (blkP n T) = none → ∀ j1 j5 j6 j7 j8 j9 j10 j11 j12 j13 j14 j15 j19 j20 j21 j22 j23 j24 j25 j26 j27 j28 j29 j30 j31 j32 j33 j34 j35 : AV, W Try.prog (RelU Try.prog xf) 0 K ⟨((aT T) :: j1 :: nilA :: nilA :: (ai 0) :: j5 :: j6 :: j7 :: j8 :: j9 :: j10 :: j11 :: j12 :: j13 :: j14 :: j15 :: (aLv Ls) :: (ai Ls.length) :: (ai Ls.length) :: j19 :: j20 :: j21 :: j22 :: j23 :: j24 :: j25 :: j26 :: j27 :: j28 :: j29 :: j30 :: j31 :: j32 :: j33 :: j34 :: j35 :: []), []⟩ Q)
    (hR : ∀ l, Ls.find? (blkP n T) = some l → ∀ (i : Nat), ∀ j1 j5 j6 j7 j8 j9 j10 j11 j12 j13 j14 j15 j19 j20 j21 j22 j23 j24 j25 j26 j27 j28 j29 j30 j31 j32 j33 j34 j35 : AV, WX Try.prog (RelU Try.prog xf) 0 K .ret ⟨((aT T) :: j1 :: (lv l) :: (al false (zerC n T l)) :: (ai 0) :: j5 :: j6 :: j7 :: j8 :: j9 :: j10 :: j11 :: j12 :: j13 :: j14 :: j15 :: (aLv Ls) :: (ai Ls.length) :: (ai i) :: j19 :: j20 :: j21 :: j22 :: j23 :: j24 :: j25 :: j26 :: j27 :: j28 :: j29 :: j30 :: j31 :: j32 :: j33 :: j34 :: j35 :: []), []⟩ Q) :
    ∀ (k i : Nat), i + k = Ls.length → Ls.find? (blkP n T) = (Ls.drop i).find? (blkP n T) → ∀ j1 j5 j6 j7 j8 j9 j10 j11 j12 j13 j14 j15 j19 j20 j21 j22 j23 j24 j25 j26 j27 j28 j29 j30 j31 j32 j33 j34 j35 : AV, W Try.prog (RelU Try.prog xf) 0 (.code (.loop xf26_L0) :: .blk 0 :: .stop :: K) ⟨((aT T) :: j1 :: nilA :: nilA :: (ai 0) :: j5 :: j6 :: j7 :: j8 :: j9 :: j10 :: j11 :: j12 :: j13 :: j14 :: j15 :: (aLv Ls) :: (ai Ls.length) :: (ai i) :: j19 :: j20 :: j21 :: j22 :: j23 :: j24 :: j25 :: j26 :: j27 :: j28 :: j29 :: j30 :: j31 :: j32 :: j33 :: j34 :: j35 :: []), []⟩ Q := by
  intro k
  induction k with
  | zero =>
    intro i hi hf j1 j5 j6 j7 j8 j9 j10 j11 j12 j13 j14 j15 j19 j20 j21 j22 j23 j24 j25 j26 j27 j28 j29 j30 j31 j32 j33 j34 j35
    have : i = Ls.length := by omega
    subst this
    have h0 : decide (Ls.length < Ls.length) = false := by simp
    rw [List.drop_length] at hf
    refine W_loop (W_run 80 ?_)
    simp (maxSteps := 2000000) only [SA, Nat.reduceDiv, Nat.reduceSub, Nat.reduceAdd, Int.reduceLT, Int.reduceLE, Int.reduceToNat, Nat.reduceMul, Nat.reduceEqDiff, reduceCtorEq, Nat.reduceBEq, Nat.reduceLeDiff, Nat.reduceLT, xf26_L0, ai, lt_cast, h0]
    exact W_stop (hK hf _ _ _ _ _ _ _ _ _ _ _ _ _ _ _ _ _ _ _ _ _ _ _ _ _ _ _ _ _)
  | succ k ih =>
    intro i hi hf j1 j5 j6 j7 j8 j9 j10 j11 j12 j13 j14 j15 j19 j20 j21 j22 j23 j24 j25 j26 j27 j28 j29 j30 j31 j32 j33 j34 j35
    have h1 : i < Ls.length := by omega
    have h0 : decide (i < Ls.length) = true := decide_eq_true h1
    have hn4 := hg.n4
    have hlen := hg.len
    rw [drop_at (d := []) h1, List.find?_cons] at hf
    obtain ⟨l1, l2⟩ := hLs _ (getD_mem (d := []) h1)
    have hget : (Ls.map lv)[i]? = some (lv (Ls.getD i [])) := by rw [List.getElem?_map, getD_at (d := []) h1]; rfl
    generalize Ls.getD i [] = l at *
    have hemp := empty_run hg (lv_isL l) l1 (by omega)
    have hzl := zerK_len T l n
    have hZ : zerK T l n = zerC n T l := rfl
    rw [hZ] at hzl
    have wl : IntKind.i64.wrap ((l.length : Int) + ((zerC n T l).length : Int)) = (l.length : Int) + ((zerC n T l).length : Int) := by rw [wrap_id (by omega) (by omega)]
    have hd : decide ((T.length : Int) < (l.length : Int) + ((zerC n T l).length : Int)) = blkP n T l := decide_eq_decide.2 (by omega)
    have wi : IntKind.i64.wrap ((i : Int) + 1) = ((i + 1 : Nat) : Int) := by rw [wrap_id (by omega) (by omega)]; simp
    have next := ih (i + 1) (by omega)
    have hret := hR l
    have hnr := (lv_isL l).ref
    generalize hZZ : zerC n T l = Z at *
    cases l with
    | nil =>
      have wl0 : IntKind.i64.wrap (0 + (Z.length : Int)) = 0 + (Z.length : Int) := by have := wl; simpa using this
      have hb : blkP n T [] = false := blk_nil n T
      have hd0 : decide ((T.length : Int) < 0 + (Z.length : Int)) = false := by have := hd; rw [hb] at this; simpa using this
      rw [hb] at hf
      have next := next hf
      refine W_loop (W_run 80 ?_)
      simp (maxSteps := 2000000) only [SA, Nat.reduceDiv, Nat.reduceSub, Nat.reduceAdd, Int.reduceLT, Int.reduceLE, Int.reduceToNat, Nat.reduceMul, Nat.reduceEqDiff, reduceCtorEq, Nat.reduceBEq, Nat.reduceLeDiff, Nat.reduceLT, xf26_L0, ai, aLv, lv, nilA, lt_cast, h0, hget]
      refine W_call (args := [aT T, nilA]) rfl (noRefs_2 (noRef_T _) rfl) hemp (noRef_al _ _) (W_run 80 ?_)
      simp (maxSteps := 2000000) only [SA, Nat.reduceDiv, Nat.reduceSub, Nat.reduceAdd, Int.reduceLT, Int.reduceLE, Int.reduceToNat, Nat.reduceMul, Nat.reduceEqDiff, reduceCtorEq, Nat.reduceBEq, Nat.reduceLeDiff, Nat.reduceLT, ai, al, aT, nilA, wl0, hd0, wi]
      exact next _ _ _ _ _ _ _ _ _ _ _ _ _ _ _ _ _ _ _ _ _ _ _ _ _ _ _ _ _
    | cons x t =>
      simp only [List.length_cons] at wl hd
      cases hb : blkP n T (x :: t) with
      | true =>
        rw [hb] at hf hd
        have hret := hret hf i
        refine W_loop (W_run 80 ?_)
        simp (maxSteps := 2000000) only [SA, Nat.reduceDiv, Nat.reduceSub, Nat.reduceAdd, Int.reduceLT, Int.reduceLE, Int.reduceToNat, Nat.reduceMul, Nat.reduceEqDiff, reduceCtorEq, Nat.reduceBEq, Nat.reduceLeDiff, Nat.reduceLT, xf26_L0, ai, al, aLv, lv, lt_cast, h0, hget]
        refine W_call (args := [aT T, al false (x :: t)]) rfl (noRefs_2 (noRef_T _) (noRef_al _ _)) hemp (noRef_al _ _) (W_run 80 ?_)
        simp (maxSteps := 2000000) only [SA, Nat.reduceDiv, Nat.reduceSub, Nat.reduceAdd, Int.reduceLT, Int.reduceLE, Int.reduceToNat, Nat.reduceMul, Nat.reduceEqDiff, reduceCtorEq, Nat.reduceBEq, Nat.reduceLeDiff, Nat.reduceLT, ai, al, aT, wl, hd]
        exact W_ret1 (WX_pop (hret _ _ _ _ _ _ _ _ _ _ _ _ _ _ _ _ _ _ _ _ _ _ _ _ _ _ _ _ _))
      | false =>
        rw [hb] at hf hd
        have next := next hf
        refine W_loop (W_run 80 ?_)
        simp (maxSteps := 2000000) only [SA, Nat.reduceDiv, Nat.reduceSub, Nat.reduceAdd, Int.reduceLT, Int.reduceLE, Int.reduceToNat, Nat.reduceMul, Nat.reduceEqDiff, reduceCtorEq, Nat.reduceBEq, Nat.reduceLeDiff, Nat.reduceLT, xf26_L0, ai, al, aLv, lv, lt_cast, h0, hget]
        refine W_call (args := [aT T, al false (x :: t)]) rfl (noRefs_2 (noRef_T _) (noRef_al _ _)) hemp (noRef_al _ _) (W_run 80 ?_)
        simp (maxSteps := 2000000) only [SA, Nat.reduceDiv, Nat.reduceSub, Nat.reduceAdd, Int.reduceLT, Int.reduceLE, Int.reduceToNat, Nat.reduceMul, Nat.reduceEqDiff, reduceCtorEq, Nat.reduceBEq, Nat.reduceLeDiff, Nat.reduceLT, ai, al, aT, wl, hd, wi]
        exact next _ _ _ _ _ _ _ _ _ _ _ _ _ _ _ _ _ _ _ _ _ _ _ _ _ _ _ _ _
def barV (n : Nat) (T : List (List Int)) : AV := match barF n T with | some l => .tup [lv l, al false (zerC n T l), ai 0] | none => .tup [nilA, nilA, ai 13]
theorem bar_run {n : Nat} {T : List (List Int)} (hg : gT n T) : Runs Try.prog xf 26 [aT T] (barV n T) := by
  have n00 : ((0 : Int) != 0) = false := rfl
  have hlr := lr_run hg.n1 hg.n4
  have hn4 := hg.n4
  have hll : (lrL n).length ≤ 100 := by
    have h : ∀ n, n ≤ 4 → (lrL n).length ≤ 100 := by decide +kernel
    exact h n hg.n4
  have hok := fun l hl => (lrL_ok hg.n1 hg.n4 l hl).2
  have hbf : barF n T = (lrL n).find? (blkP n T) := rfl
  rw [← hg.len] at hlr
  have hnrL : noRef (aLv (lrL T.length)) = true := noRefs_of fun x hx => by obtain ⟨z, _, rfl⟩ := List.mem_map.1 hx; exact (lv_isL z).ref
  rw [hg.len] at hnrL
  have e : T.length = n := hg.len
  refine Runs.ofW (fn := xf26) 20 (by kernel_rfl) (W_run 80 ?_)
  simp (maxSteps := 2000000) only [SA, Nat.reduceDiv, Nat.reduceSub, Nat.reduceAdd, Int.reduceLT, Int.reduceLE, Int.reduceToNat, Nat.reduceMul, Nat.reduceEqDiff, reduceCtorEq, Nat.reduceBEq, Nat.reduceLeDiff, Nat.reduceLT, xf26, ai, aT]
  refine W_call (args := [aT T]) rfl (noRefs_T T) (check_run hg) rfl (W_run 80 ?_)
  simp (maxSteps := 2000000) only [SA, Nat.reduceDiv, Nat.reduceSub, Nat.reduceAdd, Int.reduceLT, Int.reduceLE, Int.reduceToNat, Nat.reduceMul, Nat.reduceEqDiff, reduceCtorEq, Nat.reduceBEq, Nat.reduceLeDiff, Nat.reduceLT, ai, aT, n00]
  refine W_call (args := [ai T.length]) rfl rfl hlr (by rw [e]; exact hnrL) (W_run 80 ?_)
  rw [e]
  generalize lrL n = Ls at *
  simp (maxSteps := 2000000) only [SA, Nat.reduceDiv, Nat.reduceSub, Nat.reduceAdd, Int.reduceLT, Int.reduceLE, Int.reduceToNat, Nat.reduceMul, Nat.reduceEqDiff, reduceCtorEq, Nat.reduceBEq, Nat.reduceLeDiff, Nat.reduceLT, ai, aT, aLv]
  refine W_alone (bar_loop hg Ls hok hll _ _ (fun hf j1 j5 j6 j7 j8 j9 j10 j11 j12 j13 j14 j15 j19 j20 j21 j22 j23 j24 j25 j26 j27 j28 j29 j30 j31 j32 j33 j34 j35 => W_run 80 ?_) (fun l hf i j1 j5 j6 j7 j8 j9 j10 j11 j12 j13 j14 j15 j19 j20 j21 j22 j23 j24 j25 j26 j27 j28 j29 j30 j31 j32 j33 j34 j35 => ?_) Ls.length 0 (by omega) rfl _ _ _ _ _ _ _ _ _ _ _ _ _ _ _ _ _ _ _ _ _ _ _ _ _ _ _ _ _)
  · simp (maxSteps := 2000000) only [SA, Nat.reduceDiv, Nat.reduceSub, Nat.reduceAdd, Int.reduceLT, Int.reduceLE, Int.reduceToNat, Nat.reduceMul, Nat.reduceEqDiff, reduceCtorEq, Nat.reduceBEq, Nat.reduceLeDiff, Nat.reduceLT, xf26_R0, ai, aT]
    unfold barV
    rw [hbf, hf]
    exact W_ret1 (WX_nil ⟨.inl rfl, _, rfl, rfl⟩)
  · unfold barV
    rw [hbf, hf]
    refine WX_pop (WX_nil ⟨.inl rfl, _, rfl, ?_⟩)
    show ([lv l, al false (zerC n T l), ai 0].mapM (reify _ 19)).map AV.tup = _
    rw [List.mapM_cons, reify_isL (lv_isL l) _ 16, List.mapM_cons, reify_isL (.inl ⟨false, rfl⟩) _ 16]; rfl
end Go.Proofs.Ytelkpfionifjgaa

