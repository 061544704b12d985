/-
  The plans within a table among all plans; rows that have enough columns have a plan.
-/
import Derived.Test.YtkbeaheladmeiaaNC
import Derived.Test.YtkbeaheladmeiaaND
set_option linter.unusedSimpArgs false
set_option linter.unusedVariables false
namespace Go.Proofs.Ytkbeaheladmeiaa
open Go Go.Proofs.Eng
set_option maxRecDepth 100000
set_option maxHeartbeats 2000000
/-! ### the plans within a table among all plans -/
def allP (n : Nat) : Nat → List Int → List (List Int)
  | 0, L => [L]
  | k + 1, L => (List.range n).flatMap fun (c : Nat) => if (c : Int) ∉ L then allP n k (L ++ [(c : Int)]) else []
theorem allP_pl {n : Nat} (h1 : 1 ≤ n) (h4 : n ≤ 4) : allP n n [] = plL n := by
  match n, h1, h4 with
  | 1, _, _ | 2, _, _ | 3, _, _ | 4, _, _ => decide +kernel
/-- all numbers from row b on are above 0 -/
def posF (n : Nat) (T : List (List Int)) (b : Nat) (p : List Int) : Bool := (List.range n).all fun r => decide (r < b) || decide (0 < cel T r (p.getD r 0).toNat)
theorem posF_step {n : Nat} {T : List (List Int)} {b : Nat} {p : List Int} (hb : b < n) : posF n T b p = (decide (0 < cel T b (p.getD b 0).toNat) && posF n T (b + 1) p) := by
  rw [Bool.eq_iff_iff, Bool.and_eq_true]
  simp only [posF, List.all_eq_true, List.mem_range, Bool.or_eq_true, decide_eq_true_eq]
  constructor
  · intro h
    refine ⟨(h b hb).resolve_left (by omega), fun r hr => ?_⟩
    rcases h r hr with q | q
    · exact .inl (by omega)
    · exact .inr q
  · rintro ⟨h1, h2⟩ r hr
    rcases Nat.lt_trichotomy r b with q | rfl | q
    · exact .inl q
    · exact .inr h1
    · exact (h2 r hr).elim (fun q2 => by omega) .inr
theorem allP_pre {n : Nat} : ∀ (k : Nat) (L : List Int) (p : List Int), p ∈ allP n k L → ∃ t, p = L ++ t ∧ t.length = k
  | 0, L, p, h => ⟨[], by simpa [allP] using h, rfl⟩
  | k + 1, L, p, h => by
    simp only [allP, List.mem_flatMap] at h
    obtain ⟨c, hc, h⟩ := h
    split at h
    · obtain ⟨t, h1, h2⟩ := allP_pre k _ p h
      exact ⟨(c : Int) :: t, by rw [h1]; simp, by simp [h2]⟩
    · cases h
theorem getD_pre {L t : List Int} {c : Int} : (L ++ [c] ++ t).getD L.length 0 = c := by
  rw [List.getD_eq_getElem?_getD, List.append_assoc, List.getElem?_append_right (Nat.le_refl _)]; simp
theorem ext_filter {n : Nat} {T : List (List Int)} : ∀ (k : Nat) (L : List Int), L.length + k = n → ext n T k L = (allP n k L).filter (posF n T L.length)
  | 0, L, hl => by
    have : posF n T L.length L = true := by
      simp only [posF, List.all_eq_true, List.mem_range, Bool.or_eq_true, decide_eq_true_eq]
      intro r hr; exact .inl (by omega)
    simp [ext, allP, this]
  | k + 1, L, hl => by
    simp only [ext, allP, List.filter_flatMap]
    congr 1
    funext c
    by_cases h1 : (c : Int) ∈ L
    · rw [if_neg (fun q => q.2 h1), if_neg (fun q => q h1)]; rfl
    · rw [if_pos h1]
      have hstep : ∀ p, p ∈ allP n k (L ++ [(c : Int)]) → posF n T L.length p = (decide (0 < cel T L.length c) && posF n T (L.length + 1) p) := fun p hp => by
        obtain ⟨t, rfl, _⟩ := allP_pre k _ p hp
        rw [posF_step (by omega), getD_pre]; rfl
      by_cases h2 : 0 < cel T L.length c
      · rw [if_pos ⟨h2, h1⟩, ext_filter k _ (by simp; omega), List.length_append]
        refine List.filter_congr fun p hp => ?_
        rw [hstep p hp, decide_eq_true h2, Bool.true_and]; rfl
      · rw [if_neg (fun q => h2 q.1)]
        symm
        rw [List.filter_eq_nil_iff]
        intro p hp
        rw [hstep p hp, decide_eq_false h2]; simp
theorem plL_len {n : Nat} (h1 : 1 ≤ n) (h4 : n ≤ 4) : ∀ p, p ∈ plL n → okP n p := by
  have h : ∀ p, p ∈ plL n → p.length = n ∧ (∀ c, c ∈ p → 0 ≤ c ∧ c < (n : Int)) ∧ p.Nodup := by
    match n, h1, h4 with
    | 1, _, _ | 2, _, _ | 3, _, _ | 4, _, _ => decide +kernel
  exact h
theorem wgt_pos {n : Nat} {T : List (List Int)} (hg : gT n T) {p : List Int} (hp : okP n p) : decide (0 < wgt T p) = posF n T 0 p := by
  obtain ⟨hl, hi, hd⟩ := hp
  have hb := wgt_b hg hi (by omega)
  have hz := prI_zero (nums T p)
  rw [Bool.eq_iff_iff]
  simp only [posF, List.all_eq_true, List.mem_range, Bool.or_eq_true, decide_eq_true_eq]
  have hnn : wgt T p ≠ 0 ↔ (0 : Int) ∉ nums T p := not_congr hz
  constructor
  · intro h r hr
    right
    have h0 : (0 : Int) ∉ nums T p := hnn.1 (by omega)
    have hc := hi _ (getD_mem (d := 0) (l := p) (i := r) (by omega))
    have := (hg.b (r := r) (c := (p.getD r 0).toNat) hr (by omega)).1
    rcases Int.lt_or_eq_of_le this with q | q
    · exact q
    · exact absurd (List.mem_map.2 ⟨r, List.mem_range.2 (by omega), q.symm⟩) h0
  · intro h
    have : wgt T p ≠ 0 := hnn.2 fun q => by
      obtain ⟨r, hr, e⟩ := List.mem_map.1 q
      have hr := List.mem_range.1 hr
      rcases h r (by omega) with q2 | q2
      · omega
      · omega
    omega
/-- the plans within a table are those of all plans whose weight is above 0 -/
theorem withP_eq {n : Nat} {T : List (List Int)} (hg : gT n T) : withP n T = (plL n).filter fun p => decide (0 < wgt T p) := by
  unfold withP
  rw [ext_filter n [] (by simp), allP_pl hg.n1 hg.n4]
  refine List.filter_congr fun p hp => ?_
  rw [wgt_pos hg (plL_len hg.n1 hg.n4 p hp)]; rfl
/-! ### lists without repetition -/
theorem nodup_le : ∀ (A R : List Nat), A.Nodup → (∀ x, x ∈ A → x ∈ R) → A.length ≤ R.length
  | [], _, _, _ => Nat.zero_le _
  | a :: A, R, hd, hs => by
    rw [List.nodup_cons] at hd
    have ha := hs a List.mem_cons_self
    have h1 := nodup_le A (R.erase a) hd.2 fun x hx => (List.mem_erase_of_ne (fun e : x = a => hd.1 (by rw [← e]; exact hx))).2 (hs x (List.mem_cons_of_mem _ hx))
    have h2 := List.length_erase_of_mem ha
    have h3 : 0 < R.length := List.length_pos_of_mem ha
    rw [List.length_cons]; omega
theorem filter_or (p q : Nat → Bool) : ∀ C : List Nat, (C.filter fun c => p c || q c).length = (C.filter p).length + ((C.filter fun c => !p c).filter q).length
  | [] => rfl
  | c :: C => by
    have ih := filter_or p q C
    cases hp : p c <;> cases hq : q c <;> simp [hp, hq, ih] <;> omega
theorem filter_not (p : Nat → Bool) : ∀ C : List Nat, (C.filter p).length + (C.filter fun c => !p c).length = C.length
  | [] => rfl
  | c :: C => by
    have ih := filter_not p C
    cases hp : p c <;> simp [hp] <;> omega
theorem filter_drop1 (p : Nat → Bool) (x : Nat) : ∀ C : List Nat, C.Nodup → (C.filter p).length ≤ ((C.filter fun c => !(c == x)).filter p).length + 1
  | [], _ => Nat.zero_le _
  | c :: C, hd => by
    rw [List.nodup_cons] at hd
    have ih := filter_drop1 p x C hd.2
    by_cases hc : c = x
    · subst hc
      have e : (C.filter fun d => !(d == c)) = C := List.filter_eq_self.2 fun d hdm => by
        simp only [Bool.not_eq_true', beq_eq_false_iff_ne]
        exact fun q => hd.1 (q ▸ hdm)
      rw [List.filter_cons_of_neg (p := fun d => !(d == c)) (by simp), e, List.filter_cons]
      split
      · simp
      · omega
    · rw [List.filter_cons_of_pos (p := fun d => !(d == x)) (by simpa using hc)]
      cases hp : p c <;> simp only [List.filter_cons, hp, Bool.false_eq_true, if_false, if_true, List.length_cons] <;> omega
/-- the columns that some of the rows have -/
def nbr (adj : Nat → Nat → Bool) (C A : List Nat) : List Nat := C.filter fun c => A.any fun r => adj r c
theorem nbr_app (adj : Nat → Nat → Bool) (C A B : List Nat) : (nbr adj C (A ++ B)).length = (nbr adj C A).length + (nbr adj (C.filter fun c => !(A.any fun r => adj r c)) B).length := by
  unfold nbr
  rw [← filter_or]
  congr 2
  funext c
  rw [List.any_append]
/-- if any rows have at least as many columns as they are, each has one of its own -/
theorem hall (adj : Nat → Nat → Bool) : ∀ (m : Nat) (R C : List Nat), R.length ≤ m → R.Nodup → C.Nodup → (∀ A : List Nat, A.Nodup → (∀ x, x ∈ A → x ∈ R) → A.length ≤ (nbr adj C A).length) →
    ∃ g : Nat → Nat, (∀ r, r ∈ R → adj r (g r) = true ∧ g r ∈ C) ∧ ∀ r s, r ∈ R → s ∈ R → r ≠ s → g r ≠ g s := by
  intro m
  induction m with
  | zero =>
    intro R C hm _ _ _
    have : R = [] := List.length_eq_zero_iff.1 (by omega)
    subst this
    exact ⟨id, fun r h => (by cases h), fun r s h => (by cases h)⟩
  | succ m ih =>
    intro R C hm hR hC hc
    by_cases ht : ∃ A : List Nat, A.Nodup ∧ (∀ x, x ∈ A → x ∈ R) ∧ A ≠ [] ∧ A.length < R.length ∧ (nbr adj C A).length = A.length
    · obtain ⟨A, hA, hs, hne, hlt, htight⟩ := ht
      have hA0 : 0 < A.length := List.length_pos_iff.2 hne
      obtain ⟨gA, a1, a2⟩ := ih A C (by omega) hA hC fun A2 h1 h2 => hc A2 h1 fun x hx => hs x (h2 x hx)
      have hBl : (R.filter fun r => !decide (r ∈ A)).length ≤ m := by
        have h1 := filter_not (fun r => decide (r ∈ A)) R
        have h2 := nodup_le A (R.filter fun r => decide (r ∈ A)) hA fun x hx => List.mem_filter.2 ⟨hs x hx, by simpa using hx⟩
        omega
      obtain ⟨gB, b1, b2⟩ := ih (R.filter fun r => !decide (r ∈ A)) (C.filter fun c => !(A.any fun r => adj r c)) hBl (hR.filter _) (hC.filter _) fun B h1 h2 => by
        have h3 := hc (A ++ B) (by
          rw [List.nodup_append]
          refine ⟨hA, h1, fun a ha b hb => ?_⟩
          have := (List.mem_filter.1 (h2 b hb)).2
          intro e
          subst e
          simp [ha] at this) fun x hx => by
          rcases List.mem_append.1 hx with q | q
          · exact hs x q
          · exact (List.mem_filter.1 (h2 x q)).1
        rw [nbr_app, List.length_append, htight] at h3
        omega
      have hcross : ∀ r s, r ∈ A → s ∈ R → s ∉ A → gA r ≠ gB s := fun r s hr hs2 hsA e => by
        have h1 := a1 r hr
        have h2 := (List.mem_filter.1 (b1 s (List.mem_filter.2 ⟨hs2, by simpa using hsA⟩)).2).2
        rw [← e] at h2
        have h3 : (A.any fun r => adj r (gA r)) = true ∨ True := .inr trivial
        have : (A.any fun r' => adj r' (gA r)) = true := List.any_eq_true.2 ⟨r, hr, h1.1⟩
        rw [this] at h2; cases h2
      refine ⟨fun r => if r ∈ A then gA r else gB r, fun r hr => ?_, fun r s hr hs2 hne2 => ?_⟩
      · by_cases q : r ∈ A
        · simp only [if_pos q]; exact a1 r q
        · simp only [if_neg q]
          have := b1 r (List.mem_filter.2 ⟨hr, by simpa using q⟩)
          exact ⟨this.1, (List.mem_filter.1 this.2).1⟩
      · by_cases q : r ∈ A <;> by_cases q2 : s ∈ A
        · simp only [if_pos q, if_pos q2]; exact a2 r s q q2 hne2
        · simp only [if_pos q, if_neg q2]; exact hcross r s q hs2 q2
        · simp only [if_neg q, if_pos q2]; exact fun e => hcross s r q2 hr q e.symm
        · simp only [if_neg q, if_neg q2]
          exact b2 r s (List.mem_filter.2 ⟨hr, by simpa using q⟩) (List.mem_filter.2 ⟨hs2, by simpa using q2⟩) hne2
    · cases R with
      | nil => exact ⟨id, fun r h => (by cases h), fun r s h => (by cases h)⟩
      | cons r0 R =>
        rw [List.nodup_cons] at hR
        have h1 := hc [r0] (by simp) (fun x hx => by rw [List.mem_singleton] at hx; subst hx; exact List.mem_cons_self)
        obtain ⟨c0, hc0⟩ : ∃ c0, c0 ∈ nbr adj C [r0] := List.exists_mem_of_length_pos (by simp only [List.length_cons, List.length_nil] at h1; omega)
        obtain ⟨hcC, hadj⟩ := List.mem_filter.1 hc0
        have hadj : adj r0 c0 = true := by simpa using hadj
        obtain ⟨g, g1, g2⟩ := ih R (C.filter fun c => !(c == c0)) (by simp only [List.length_cons] at hm; omega) hR.2 (hC.filter _) fun A hA hs => by
          by_cases hn : A = []
          · subst hn; exact Nat.zero_le _
          · have hle := nodup_le A R hA hs
            have h2 := hc A hA fun x hx => List.mem_cons_of_mem _ (hs x hx)
            have h3 : (nbr adj C A).length ≠ A.length := fun e => ht ⟨A, hA, fun x hx => List.mem_cons_of_mem _ (hs x hx), hn, by simp only [List.length_cons]; omega, e⟩
            have h4 := filter_drop1 (fun c => A.any fun r => adj r c) c0 C hC
            unfold nbr at h2 h3 ⊢
            omega
        have hg0 : ∀ s, s ∈ R → g s ≠ c0 := fun s hs e => by
          have := (List.mem_filter.1 (g1 s hs).2).2
          rw [e] at this; simp at this
        refine ⟨fun r => if r = r0 then c0 else g r, fun r hr => ?_, fun r s hr hs hne => ?_⟩
        · by_cases q : r = r0
          · simp only [if_pos q]; subst q; exact ⟨hadj, hcC⟩
          · simp only [if_neg q]
            have := g1 r ((List.mem_cons.1 hr).resolve_left q)
            exact ⟨this.1, (List.mem_filter.1 this.2).1⟩
        · by_cases q : r = r0 <;> by_cases q2 : s = r0
          · exact absurd (q.trans q2.symm) hne
          · simp only [if_pos q, if_neg q2]
            exact fun e => hg0 s ((List.mem_cons.1 hs).resolve_left q2) e.symm
          · simp only [if_neg q, if_pos q2]
            exact hg0 r ((List.mem_cons.1 hr).resolve_left q)
          · simp only [if_neg q, if_neg q2]
            exact g2 r s ((List.mem_cons.1 hr).resolve_left q) ((List.mem_cons.1 hs).resolve_left q2) hne
end Go.Proofs.Ytkbeaheladmeiaa

set_option linter.unusedSimpArgs false
set_option linter.unusedVariables false
namespace Go.Proofs.Ytkbeaheladmeiaa
open Go Go.Proofs.Eng
set_option maxRecDepth 100000
set_option maxHeartbeats 2000000
/-- rows that make a block with all columns that have 0 in all of them -/
def blkP (n : Nat) (T : List (List Int)) (l : List Int) : Bool := decide (n < l.length + (zerC n T l).length)
def barF (n : Nat) (T : List (List Int)) : Option (List Int) := (lrL n).find? (blkP n T)
theorem allP_mem {n : Nat} : ∀ (k : Nat) (L t : List Int), L.length + k = n → t.length = k → (∀ c, c ∈ t → 0 ≤ c ∧ c < (n : Int)) → (L ++ t).Nodup → L ++ t ∈ allP n k L
  | 0, L, t, _, ht, _, _ => by
    have : t = [] := List.length_eq_zero_iff.1 ht
    subst this; simp [allP]
  | k + 1, L, [], _, ht, _, _ => by simp at ht
  | k + 1, L, c :: t, hl, ht, hi, hd => by
    have hc := hi c List.mem_cons_self
    simp only [allP, List.mem_flatMap]
    refine ⟨c.toNat, List.mem_range.2 (by omega), ?_⟩
    have e : ((c.toNat : Nat) : Int) = c := by omega
    rw [e]
    have hcL : c ∉ L := fun h => by
      rw [List.nodup_append] at hd
      exact hd.2.2 c h c List.mem_cons_self rfl
    rw [if_pos hcL]
    have := allP_mem k (L ++ [c]) t (by simp; omega) (by simpa using ht) (fun x hx => hi x (List.mem_cons_of_mem _ hx)) (by simpa using hd)
    simpa using this
theorem lrL_ok {n : Nat} (h1 : 1 ≤ n) (h4 : n ≤ 4) : ∀ l, l ∈ lrL n → l.Nodup ∧ inC n l ∧ l.length ≤ n := by
  have h : ∀ l, l ∈ lrL n → l.Nodup ∧ (∀ c, c ∈ l → 0 ≤ c ∧ c < (n : Int)) ∧ l.length ≤ n := by
    match n, h1, h4 with
    | 1, _, _ | 2, _, _ | 3, _, _ | 4, _, _ => decide +kernel
  exact h
theorem lrL_mem {n : Nat} (h1 : 1 ≤ n) (h4 : n ≤ 4) (p : Nat → Bool) : ((List.range n).filter p).map (fun (r : Nat) => (r : Int)) ∈ lrL n := by
  match n, h1, h4 with
  | 1, _, _ =>
    have e : List.range 1 = [0] := rfl
    rw [e]; cases h0 : p 0 <;> simp [List.filter_cons, h0, lrL]
  | 2, _, _ =>
    have e : List.range 2 = [0, 1] := rfl
    rw [e]; cases h0 : p 0 <;> cases h1 : p 1 <;> simp [List.filter_cons, h0, h1, lrL]
  | 3, _, _ =>
    have e : List.range 3 = [0, 1, 2] := rfl
    rw [e]; cases h0 : p 0 <;> cases h1 : p 1 <;> cases h2 : p 2 <;> simp [List.filter_cons, h0, h1, h2, lrL]
  | 4, _, _ =>
    have e : List.range 4 = [0, 1, 2, 3] := rfl
    rw [e]; cases h0 : p 0 <;> cases h1 : p 1 <;> cases h2 : p 2 <;> cases h3 : p 3 <;> simp [List.filter_cons, h0, h1, h2, h3, lrL]
theorem map_cast_any (A : List Nat) (f : Nat → Bool) : ((A.map fun (r : Nat) => (r : Int)).any fun r => f r.toNat) = A.any f := by
  rw [List.any_map]; rfl
/-- without a block there is a plan -/
theorem plan_of {n : Nat} {T : List (List Int)} (hg : gT n T) (hno : ∀ l, l ∈ lrL n → blkP n T l = false) : withP n T ≠ [] := by
  have hR : (List.range n).Nodup := List.nodup_range
  obtain ⟨g, g1, g2⟩ := hall (fun r c => decide (0 < cel T r c)) n (List.range n) (List.range n) (by simp) hR hR fun A hA hs => by
    have hlen : A.length ≤ ((List.range n).filter fun r => decide (r ∈ A)).length := nodup_le _ _ hA fun x hx => List.mem_filter.2 ⟨hs x hx, by simpa using hx⟩
    have hb := hno _ (lrL_mem hg.n1 hg.n4 fun r => decide (r ∈ A))
    unfold blkP at hb
    rw [List.length_map] at hb
    have hb := of_decide_eq_false hb
    have e : ∀ c, (((List.range n).filter fun r => decide (r ∈ A)).any fun r => decide (0 < cel T r c)) = A.any fun r => decide (0 < cel T r c) := fun c => by
      rw [Bool.eq_iff_iff, List.any_eq_true, List.any_eq_true]
      constructor
      · rintro ⟨r, hr, h⟩; exact ⟨r, by simpa using (List.mem_filter.1 hr).2, h⟩
      · rintro ⟨r, hr, h⟩; exact ⟨r, List.mem_filter.2 ⟨hs r hr, by simpa using hr⟩, h⟩
    have hz : (zerC n T (((List.range n).filter fun r => decide (r ∈ A)).map fun (r : Nat) => (r : Int))).length = ((List.range n).filter fun c => !(A.any fun r => decide (0 < cel T r c))).length := by
      unfold zerC zerK
      rw [List.length_map]
      congr 2
      funext c
      unfold zerB
      rw [map_cast_any _ fun r => decide (0 < cel T r c), e]
    have hn := filter_not (fun c => A.any fun r => decide (0 < cel T r c)) (List.range n)
    rw [List.length_range] at hn
    show A.length ≤ ((List.range n).filter fun c => A.any fun r => decide (0 < cel T r c)).length
    omega
  have hpl : ((List.range n).map fun r => (g r : Int)).length = n := by simp
  have hin : ∀ c, c ∈ (List.range n).map (fun r => (g r : Int)) → 0 ≤ c ∧ c < (n : Int) := fun c hc => by
    obtain ⟨r, hr, rfl⟩ := List.mem_map.1 hc
    have := List.mem_range.1 (g1 r hr).2
    omega
  have hnd : ((List.range n).map fun r => (g r : Int)).Nodup := by
    unfold List.Nodup
    rw [List.pairwise_map]
    exact hR.imp_of_mem fun {a b} ha hb hne e => g2 a b ha hb hne (by omega)
  have hm := allP_mem n [] _ (by simp) hpl hin (by simpa using hnd)
  have hpos : posF n T 0 ([] ++ (List.range n).map fun r => (g r : Int)) = true := by
    simp only [posF, List.all_eq_true, List.mem_range, Bool.or_eq_true, decide_eq_true_eq, List.nil_append]
    intro r hr
    right
    have e : ((List.range n).map fun r => (g r : Int)).getD r 0 = (g r : Int) := by
      rw [List.getD_eq_getElem?_getD, List.getElem?_map, List.getElem?_range hr]; rfl
    rw [e]
    simpa using (g1 r (List.mem_range.2 hr)).1
  unfold withP
  rw [ext_filter n [] (by simp)]
  exact List.ne_nil_of_mem (List.mem_filter.2 ⟨hm, hpos⟩)
theorem nd_getD {p : List Int} (hd : p.Nodup) {r s : Nat} (hr : r < p.length) (hs : s < p.length) (h : p.getD r 0 = p.getD s 0) : r = s := by
  rw [List.getD_eq_getElem?_getD, List.getD_eq_getElem?_getD, List.getElem?_eq_getElem hr, List.getElem?_eq_getElem hs] at h
  exact (List.getElem_inj hd).1 h
/-- where a plan is there is no block -/
theorem noblk_of {n : Nat} {T : List (List Int)} (hg : gT n T) {p : List Int} (hp : p ∈ withP n T) {l : List Int} (hl : l ∈ lrL n) : blkP n T l = false := by
  obtain ⟨l1, l2, l3⟩ := lrL_ok hg.n1 hg.n4 l hl
  obtain ⟨p1, p2, p3⟩ := withP_ok hp
  have hpos : ∀ r, r < n → 0 < cel T r (p.getD r 0).toNat := by
    unfold withP at hp
    rw [ext_filter n [] (by simp)] at hp
    have := (List.mem_filter.1 hp).2
    simp only [posF, List.all_eq_true, List.mem_range, Bool.or_eq_true, decide_eq_true_eq] at this
    intro r hr
    exact (this r hr).resolve_left (by simp)
  have hX := nodup_le (l.map (fun r => (p.getD r.toNat 0).toNat) ++ (List.range n).filter (zerB T l)) (List.range n) (by
    rw [List.nodup_append]
    refine ⟨?_, List.nodup_range.filter _, fun a ha b hb => ?_⟩
    · unfold List.Nodup
      rw [List.pairwise_map]
      refine l1.imp_of_mem fun {a b} ha hb hne e => ?_
      have ra := l2 a ha
      have rb := l2 b hb
      have ca := p2 _ (getD_mem (d := 0) (l := p) (i := a.toNat) (by omega))
      have cb := p2 _ (getD_mem (d := 0) (l := p) (i := b.toNat) (by omega))
      have := nd_getD p3 (r := a.toNat) (s := b.toNat) (by omega) (by omega) (by omega)
      exact hne (by omega)
    · obtain ⟨r, hr, rfl⟩ := List.mem_map.1 ha
      intro e
      subst e
      have hz := (List.mem_filter.1 hb).2
      have hr2 := l2 r hr
      have := hpos r.toNat (by omega)
      unfold zerB at hz
      rw [List.any_eq_true.2 ⟨r, hr, decide_eq_true this⟩] at hz
      cases hz) (fun x hx => by
    rcases List.mem_append.1 hx with q | q
    · obtain ⟨r, hr, rfl⟩ := List.mem_map.1 q
      have ra := l2 r hr
      have ca := p2 _ (getD_mem (d := 0) (l := p) (i := r.toNat) (by omega))
      exact List.mem_range.2 (by omega)
    · exact (List.mem_filter.1 q).1)
  rw [List.length_append, List.length_map, List.length_range] at hX
  unfold blkP zerC zerK
  rw [List.length_map]
  exact decide_eq_false (by omega)
theorem bar_iff {n : Nat} {T : List (List Int)} (hg : gT n T) : barF n T = none ↔ withP n T ≠ [] := by
  unfold barF
  rw [List.find?_eq_none]
  constructor
  · intro h
    exact plan_of hg fun l hl => by simpa using h l hl
  · intro h l hl
    obtain ⟨p, hp⟩ := List.exists_mem_of_ne_nil _ h
    rw [noblk_of hg hp hl]; simp
/-! ### the law's search of the first of the shortest lists -/
theorem blk_nil (n : Nat) (T : List (List Int)) : blkP n T [] = false := by
  unfold blkP
  refine decide_eq_false ?_
  have := zerK_len T [] n
  unfold zerC
  simp only [List.length_nil]; omega
/-! ### Bar -/
theorem bar_loop {n : Nat} {T : List (List Int)} (hg : gT n T) (Ls : List (List Int)) (hLs : ∀ l, l ∈ Ls → inC n l ∧ l.length ≤ n) (hn : Ls.length ≤ 100) (K : List Fr) (Q : Out → Cfg → Prop)
    (hK : Ls.find? (blkP n T) = none → ∀ j1 j5 j6 j7 j8 j9 j10 j11 j12 j13 j14 j15 j19 j20 j21 j22 j23 j24 j25 j26 j27 j28 j29 j30 j31 j32 j33 j34 j35 : AV, W Try.prog (RelU Try.prog xf) 0 K ⟨((aT T) :: j1 :: nilA :: nilA :: (ai 0) :: j5 :: j6 :: j7 :: j8 :: j9 :: j10 :: j11 :: j12 :: j13 :: j14 :: j15 :: (aLv Ls) :: (ai Ls.length) :: (ai Ls.length) :: j19 :: j20 :: j21 :: j22 :: j23 :: j24 :: j25 :: j26 :: j27 :: j28 :: j29 :: j30 :: j31 :: j32 :: j33 :: j34 :: j35 :: []), []⟩ Q)
    (hR : ∀ l, Ls.find? (blkP n T) = some l → ∀ (i : Nat), ∀ j1 j5 j6 j7 j8 j9 j10 j11 j12 j13 j14 j15 j19 j20 j21 j22 j23 j24 j25 j26 j27 j28 j29 j30 j31 j32 j33 j34 j35 : AV, WX Try.prog (RelU Try.prog xf) 0 K .ret ⟨((aT T) :: j1 :: (lv l) :: (al false (zerC n T l)) :: (ai 0) :: j5 :: j6 :: j7 :: j8 :: j9 :: j10 :: j11 :: j12 :: j13 :: j14 :: j15 :: (aLv Ls) :: (ai Ls.length) :: (ai i) :: j19 :: j20 :: j21 :: j22 :: j23 :: j24 :: j25 :: j26 :: j27 :: j28 :: j29 :: j30 :: j31 :: j32 :: j33 :: j34 :: j35 :: []), []⟩ Q) :
    ∀ (k i : Nat), i + k = Ls.length → Ls.find? (blkP n T) = (Ls.drop i).find? (blkP n T) → ∀ j1 j5 j6 j7 j8 j9 j10 j11 j12 j13 j14 j15 j19 j20 j21 j22 j23 j24 j25 j26 j27 j28 j29 j30 j31 j32 j33 j34 j35 : AV, W Try.prog (RelU Try.prog xf) 0 (.code (.loop xf26_L0) :: .blk 0 :: .stop :: K) ⟨((aT T) :: j1 :: nilA :: nilA :: (ai 0) :: j5 :: j6 :: j7 :: j8 :: j9 :: j10 :: j11 :: j12 :: j13 :: j14 :: j15 :: (aLv Ls) :: (ai Ls.length) :: (ai i) :: j19 :: j20 :: j21 :: j22 :: j23 :: j24 :: j25 :: j26 :: j27 :: j28 :: j29 :: j30 :: j31 :: j32 :: j33 :: j34 :: j35 :: []), []⟩ Q := by
  intro k
  induction k with
  | zero =>
    intro i hi hf j1 j5 j6 j7 j8 j9 j10 j11 j12 j13 j14 j15 j19 j20 j21 j22 j23 j24 j25 j26 j27 j28 j29 j30 j31 j32 j33 j34 j35
    have : i = Ls.length := by omega
    subst this
    have h0 : decide (Ls.length < Ls.length) = false := by simp
    rw [List.drop_length] at hf
    refine W_loop (W_run 80 ?_)
    simp (maxSteps := 2000000) only [SA, Nat.reduceDiv, Nat.reduceSub, Nat.reduceAdd, Int.reduceLT, Int.reduceLE, Int.reduceToNat, Nat.reduceMul, Nat.reduceEqDiff, reduceCtorEq, Nat.reduceBEq, Nat.reduceLeDiff, Nat.reduceLT, xf26_L0, ai, lt_cast, h0]
    exact W_stop (hK hf _ _ _ _ _ _ _ _ _ _ _ _ _ _ _ _ _ _ _ _ _ _ _ _ _ _ _ _ _)
  | succ k ih =>
    intro i hi hf j1 j5 j6 j7 j8 j9 j10 j11 j12 j13 j14 j15 j19 j20 j21 j22 j23 j24 j25 j26 j27 j28 j29 j30 j31 j32 j33 j34 j35
    have h1 : i < Ls.length := by omega
    have h0 : decide (i < Ls.length) = true := decide_eq_true h1
    have hn4 := hg.n4
    have hlen := hg.len
    rw [drop_at (d := []) h1, List.find?_cons] at hf
    obtain ⟨l1, l2⟩ := hLs _ (getD_mem (d := []) h1)
    have hget : (Ls.map lv)[i]? = some (lv (Ls.getD i [])) := by rw [List.getElem?_map, getD_at (d := []) h1]; rfl
    generalize Ls.getD i [] = l at *
    have hemp := empty_run hg (lv_isL l) l1 (by omega)
    have hzl := zerK_len T l n
    have hZ : zerK T l n = zerC n T l := rfl
    rw [hZ] at hzl
    have wl : IntKind.i64.wrap ((l.length : Int) + ((zerC n T l).length : Int)) = (l.length : Int) + ((zerC n T l).length : Int) := by rw [wrap_id (by omega) (by omega)]
    have hd : decide ((T.length : Int) < (l.length : Int) + ((zerC n T l).length : Int)) = blkP n T l := decide_eq_decide.2 (by omega)
    have wi : IntKind.i64.wrap ((i : Int) + 1) = ((i + 1 : Nat) : Int) := by rw [wrap_id (by omega) (by omega)]; simp
    have next := ih (i + 1) (by omega)
    have hret := hR l
    have hnr := (lv_isL l).ref
    generalize hZZ : zerC n T l = Z at *
    cases l with
    | nil =>
      have wl0 : IntKind.i64.wrap (0 + (Z.length : Int)) = 0 + (Z.length : Int) := by have := wl; simpa using this
      have hb : blkP n T [] = false := blk_nil n T
      have hd0 : decide ((T.length : Int) < 0 + (Z.length : Int)) = false := by have := hd; rw [hb] at this; simpa using this
      rw [hb] at hf
      have next := next hf
      refine W_loop (W_run 80 ?_)
      simp (maxSteps := 2000000) only [SA, Nat.reduceDiv, Nat.reduceSub, Nat.reduceAdd, Int.reduceLT, Int.reduceLE, Int.reduceToNat, Nat.reduceMul, Nat.reduceEqDiff, reduceCtorEq, Nat.reduceBEq, Nat.reduceLeDiff, Nat.reduceLT, xf26_L0, ai, aLv, lv, nilA, lt_cast, h0, hget]
      refine W_call (args := [aT T, nilA]) rfl (noRefs_2 (noRef_T _) rfl) hemp (noRef_al _ _) (W_run 80 ?_)
      simp (maxSteps := 2000000) only [SA, Nat.reduceDiv, Nat.reduceSub, Nat.reduceAdd, Int.reduceLT, Int.reduceLE, Int.reduceToNat, Nat.reduceMul, Nat.reduceEqDiff, reduceCtorEq, Nat.reduceBEq, Nat.reduceLeDiff, Nat.reduceLT, ai, al, aT, nilA, wl0, hd0, wi]
      exact next _ _ _ _ _ _ _ _ _ _ _ _ _ _ _ _ _ _ _ _ _ _ _ _ _ _ _ _ _
    | cons x t =>
      simp only [List.length_cons] at wl hd
      cases hb : blkP n T (x :: t) with
      | true =>
        rw [hb] at hf hd
        have hret := hret hf i
        refine W_loop (W_run 80 ?_)
        simp (maxSteps := 2000000) only [SA, Nat.reduceDiv, Nat.reduceSub, Nat.reduceAdd, Int.reduceLT, Int.reduceLE, Int.reduceToNat, Nat.reduceMul, Nat.reduceEqDiff, reduceCtorEq, Nat.reduceBEq, Nat.reduceLeDiff, Nat.reduceLT, xf26_L0, ai, al, aLv, lv, lt_cast, h0, hget]
        refine W_call (args := [aT T, al false (x :: t)]) rfl (noRefs_2 (noRef_T _) (noRef_al _ _)) hemp (noRef_al _ _) (W_run 80 ?_)
        simp (maxSteps := 2000000) only [SA, Nat.reduceDiv, Nat.reduceSub, Nat.reduceAdd, Int.reduceLT, Int.reduceLE, Int.reduceToNat, Nat.reduceMul, Nat.reduceEqDiff, reduceCtorEq, Nat.reduceBEq, Nat.reduceLeDiff, Nat.reduceLT, ai, al, aT, wl, hd]
        exact W_ret1 (WX_pop (hret _ _ _ _ _ _ _ _ _ _ _ _ _ _ _ _ _ _ _ _ _ _ _ _ _ _ _ _ _))
      | false =>
        rw [hb] at hf hd
        have next := next hf
        refine W_loop (W_run 80 ?_)
        simp (maxSteps := 2000000) only [SA, Nat.reduceDiv, Nat.reduceSub, Nat.reduceAdd, Int.reduceLT, Int.reduceLE, Int.reduceToNat, Nat.reduceMul, Nat.reduceEqDiff, reduceCtorEq, Nat.reduceBEq, Nat.reduceLeDiff, Nat.reduceLT, xf26_L0, ai, al, aLv, lv, lt_cast, h0, hget]
        refine W_call (args := [aT T, al false (x :: t)]) rfl (noRefs_2 (noRef_T _) (noRef_al _ _)) hemp (noRef_al _ _) (W_run 80 ?_)
        simp (maxSteps := 2000000) only [SA, Nat.reduceDiv, Nat.reduceSub, Nat.reduceAdd, Int.reduceLT, Int.reduceLE, Int.reduceToNat, Nat.reduceMul, Nat.reduceEqDiff, reduceCtorEq, Nat.reduceBEq, Nat.reduceLeDiff, Nat.reduceLT, ai, al, aT, wl, hd, wi]
        exact next _ _ _ _ _ _ _ _ _ _ _ _ _ _ _ _ _ _ _ _ _ _ _ _ _ _ _ _ _
def barV (n : Nat) (T : List (List Int)) : AV := match barF n T with | some l => .tup [lv l, al false (zerC n T l), ai 0] | none => .tup [nilA, nilA, ai 13]
theorem bar_run {n : Nat} {T : List (List Int)} (hg : gT n T) : Runs Try.prog xf 26 [aT T] (barV n T) := by
  have n00 : ((0 : Int) != 0) = false := rfl
  have hlr := lr_run hg.n1 hg.n4
  have hn4 := hg.n4
  have hll : (lrL n).length ≤ 100 := by
    have h : ∀ n, n ≤ 4 → (lrL n).length ≤ 100 := by decide +kernel
    exact h n hg.n4
  have hok := fun l hl => (lrL_ok hg.n1 hg.n4 l hl).2
  have hbf : barF n T = (lrL n).find? (blkP n T) := rfl
  rw [← hg.len] at hlr
  have hnrL : noRef (aLv (lrL T.length)) = true := noRefs_of fun x hx => by obtain ⟨z, _, rfl⟩ := List.mem_map.1 hx; exact (lv_isL z).ref
  rw [hg.len] at hnrL
  have e : T.length = n := hg.len
  refine Runs.ofW (fn := xf26) 20 (by kernel_rfl) (W_run 80 ?_)
  simp (maxSteps := 2000000) only [SA, Nat.reduceDiv, Nat.reduceSub, Nat.reduceAdd, Int.reduceLT, Int.reduceLE, Int.reduceToNat, Nat.reduceMul, Nat.reduceEqDiff, reduceCtorEq, Nat.reduceBEq, Nat.reduceLeDiff, Nat.reduceLT, xf26, ai, aT]
  refine W_call (args := [aT T]) rfl (noRefs_T T) (check_run hg) rfl (W_run 80 ?_)
  simp (maxSteps := 2000000) only [SA, Nat.reduceDiv, Nat.reduceSub, Nat.reduceAdd, Int.reduceLT, Int.reduceLE, Int.reduceToNat, Nat.reduceMul, Nat.reduceEqDiff, reduceCtorEq, Nat.reduceBEq, Nat.reduceLeDiff, Nat.reduceLT, ai, aT, n00]
  refine W_call (args := [ai T.length]) rfl rfl hlr (by rw [e]; exact hnrL) (W_run 80 ?_)
  rw [e]
  generalize lrL n = Ls at *
  simp (maxSteps := 2000000) only [SA, Nat.reduceDiv, Nat.reduceSub, Nat.reduceAdd, Int.reduceLT, Int.reduceLE, Int.reduceToNat, Nat.reduceMul, Nat.reduceEqDiff, reduceCtorEq, Nat.reduceBEq, Nat.reduceLeDiff, Nat.reduceLT, ai, aT, aLv]
  refine W_alone (bar_loop hg Ls hok hll _ _ (fun hf j1 j5 j6 j7 j8 j9 j10 j11 j12 j13 j14 j15 j19 j20 j21 j22 j23 j24 j25 j26 j27 j28 j29 j30 j31 j32 j33 j34 j35 => W_run 80 ?_) (fun l hf i j1 j5 j6 j7 j8 j9 j10 j11 j12 j13 j14 j15 j19 j20 j21 j22 j23 j24 j25 j26 j27 j28 j29 j30 j31 j32 j33 j34 j35 => ?_) Ls.length 0 (by omega) rfl _ _ _ _ _ _ _ _ _ _ _ _ _ _ _ _ _ _ _ _ _ _ _ _ _ _ _ _ _)
  · simp (maxSteps := 2000000) only [SA, Nat.reduceDiv, Nat.reduceSub, Nat.reduceAdd, Int.reduceLT, Int.reduceLE, Int.reduceToNat, Nat.reduceMul, Nat.reduceEqDiff, reduceCtorEq, Nat.reduceBEq, Nat.reduceLeDiff, Nat.reduceLT, xf26_R0, ai, aT]
    unfold barV
    rw [hbf, hf]
    exact W_ret1 (WX_nil ⟨.inl rfl, _, rfl, rfl⟩)
  · unfold barV
    rw [hbf, hf]
    refine WX_pop (WX_nil ⟨.inl rfl, _, rfl, ?_⟩)
    show ([lv l, al false (zerC n T l), ai 0].mapM (reify _ 19)).map AV.tup = _
    rw [List.mapM_cons, reify_isL (lv_isL l) _ 16, List.mapM_cons, reify_isL (.inl ⟨false, rfl⟩) _ 16]; rfl
end Go.Proofs.Ytkbeaheladmeiaa

set_option linter.unusedSimpArgs false
set_option linter.unusedVariables false
namespace Go.Proofs.Ytkbeaheladmeiaa
open Go Go.Proofs.Eng
set_option maxRecDepth 100000
set_option maxHeartbeats 2000000
/-! ### the heap of the law -/
def bx (T : List (List Int)) : Nat × Option Ob := (1, some ⟨26, 1, [aT T]⟩)
def wr (W : List (List Int)) : Nat × Option Ob := match W with | [] => (0, none) | x :: t => (1, some ⟨37, 1, al false x :: t.map (al false)⟩)
/-! ### the plans within -/
/-! ### the rows of a set -/
/-! ### the columns of a set of rows -/
end Go.Proofs.Ytkbeaheladmeiaa

set_option linter.unusedSimpArgs false
set_option linter.unusedVariables false
namespace Go.Proofs.Ytkbeaheladmeiaa
open Go Go.Proofs.Eng
set_option maxRecDepth 100000
set_option maxHeartbeats 2000000
def rawN (x y : AV) (fb : Option Res) : Option Res :=
  match x, y with
  | .v (.bool a), .v (.bool b) => some (.val (.v (.bool (a != b))))
  | _, _ => fb
theorem raw_bne (dst : Nat) (c : Cfg) (x y : Operand) (ty : TypeId) :
    stF_raw Try.prog dst c (.binOp .neq 4 x y 4) ty = rawN (opA c.σ x) (opA c.σ y) (rawX Try.prog dst c (.binOp .neq 4 x y 4) ty) := by
  unfold rawN
  split
  · rename_i a b hi hj
    have e1 := toVal_opB hi
    have e2 := toVal_opB hj
    unfold stF_raw
    rw [if_pos ⟨rfl, by simp [Op.operands, e1, e2]⟩]
    have h3 : pureRun Try.prog (execOp (fun x => ((argT x).bind fun xa => toVal (evalF c.σ xa)).getD (.bool false)) { dst := none, op := .binOp .neq 4 x y 4, type := ty, pos := "", after := #[], guard := none }) = some (.value (.bool (a != b))) := by
      simp only [execOp, e1, e2, Option.getD_some]
      have hg : ∀ u v : Value, u = .bool a → v = .bool b → pureRun Try.prog (eqGuard .neq 4 x y u v) = some () := fun u v hu hv => by
        have grd : Try.prog.eqGuardType Try.prog.depth 4 = false := by kernel_rfl
        subst hu hv
        simp only [eqGuard, pureRun_bind, pureRun_program, Option.bind_some, grd, Bool.not_false, if_true, pureRun_pure]
        rfl
      have h4 : pureRun Try.prog (binOp .neq 4 (.bool a) (.bool b)) = some (.bool (a != b)) := by cases a <;> cases b <;> kernel_rfl
      rw [pureRun_bind, pureRun_bind, hg _ _ rfl rfl, Option.bind_some, h4]; rfl
    rw [h3]; rfl
  · rfl

/-! ### same -/
theorem same_loop (f g : Bool) (l : List Int) (hn : l.length ≤ 100) (K : List Fr) (Q : Out → Cfg → Prop)
    (hK : ∀ j2 j3 j6 j7 j8 j9 j10 j11 j12 j13 j14 j15 j16 j17 j18 j19 j20 j21 j22 j23 j24 j25 : AV, W Try.prog (RelU Try.prog xf) 0 K ⟨((al f l) :: (al g l) :: j2 :: j3 :: (ab false) :: (ai l.length) :: j6 :: j7 :: j8 :: j9 :: j10 :: j11 :: j12 :: j13 :: j14 :: j15 :: j16 :: j17 :: j18 :: j19 :: j20 :: j21 :: j22 :: j23 :: j24 :: j25 :: []), []⟩ Q) :
    ∀ (k i : Nat), i + k = l.length → ∀ j2 j3 j6 j7 j8 j9 j10 j11 j12 j13 j14 j15 j16 j17 j18 j19 j20 j21 j22 j23 j24 j25 : AV, W Try.prog (RelU Try.prog xf) 0 (.code (.loop xf22_L0) :: .blk 0 :: .stop :: K) ⟨((al f l) :: (al g l) :: j2 :: j3 :: (ab false) :: (ai i) :: j6 :: j7 :: j8 :: j9 :: j10 :: j11 :: j12 :: j13 :: j14 :: j15 :: j16 :: j17 :: j18 :: j19 :: j20 :: j21 :: j22 :: j23 :: j24 :: j25 :: []), []⟩ Q := by
  intro k
  induction k with
  | zero =>
    intro i hi j2 j3 j6 j7 j8 j9 j10 j11 j12 j13 j14 j15 j16 j17 j18 j19 j20 j21 j22 j23 j24 j25
    have : i = l.length := by omega
    subst this
    have h0 : decide (l.length < l.length) = false := by simp
    refine W_loop (W_run 80 ?_)
    simp (maxSteps := 2000000) only [SA, Nat.reduceDiv, Nat.reduceSub, Nat.reduceAdd, Int.reduceLT, Int.reduceLE, Int.reduceToNat, Nat.reduceMul, Nat.reduceEqDiff, reduceCtorEq, Nat.reduceBEq, Nat.reduceLeDiff, Nat.reduceLT, xf22_L0, ai, al, lt_cast, h0]
    exact W_stop (hK _ _ _ _ _ _ _ _ _ _ _ _ _ _ _ _ _ _ _ _ _ _)
  | succ k ih =>
    intro i hi j2 j3 j6 j7 j8 j9 j10 j11 j12 j13 j14 j15 j16 j17 j18 j19 j20 j21 j22 j23 j24 j25
    have h1 : i < l.length := by omega
    have h0 : decide (i < l.length) = true := decide_eq_true h1
    have hga := get_al h1
    have next := ih (i + 1) (by omega)
    have wi : IntKind.i64.wrap ((i : Int) + 1) = ((i + 1 : Nat) : Int) := by rw [wrap_id (by omega) (by omega)]; simp
    generalize l.getD i 0 = x at *
    have e : (x != x) = false := by simp
    refine W_loop (W_run 80 ?_)
    simp (maxSteps := 2000000) only [SA, Nat.reduceDiv, Nat.reduceSub, Nat.reduceAdd, Int.reduceLT, Int.reduceLE, Int.reduceToNat, Nat.reduceMul, Nat.reduceEqDiff, reduceCtorEq, Nat.reduceBEq, Nat.reduceLeDiff, Nat.reduceLT, xf22_L0, ai, al, lt_cast, h0, hga, e, wi]
    exact next _ _ _ _ _ _ _ _ _ _ _ _ _ _ _ _ _ _ _ _ _ _
theorem same_al (f g : Bool) (l : List Int) (hn : l.length ≤ 100) : Runs Try.prog xf 22 [al f l, al g l] (ab true) := by
  have e : ((l.length : Int) != (l.length : Int)) = false := by simp
  refine Runs.ofW (fn := xf22) 20 (by kernel_rfl) (W_run 80 ?_)
  simp (maxSteps := 2000000) only [SA, Nat.reduceDiv, Nat.reduceSub, Nat.reduceAdd, Int.reduceLT, Int.reduceLE, Int.reduceToNat, Nat.reduceMul, Nat.reduceEqDiff, reduceCtorEq, Nat.reduceBEq, Nat.reduceLeDiff, Nat.reduceLT, xf22, ai, al, ab, e]
  refine W_alone (same_loop f g l hn _ _ (fun j2 j3 j6 j7 j8 j9 j10 j11 j12 j13 j14 j15 j16 j17 j18 j19 j20 j21 j22 j23 j24 j25 => W_run 80 ?_) l.length 0 (by omega) _ _ _ _ _ _ _ _ _ _ _ _ _ _ _ _ _ _ _ _ _ _)
  simp (maxSteps := 2000000) only [SA, Nat.reduceDiv, Nat.reduceSub, Nat.reduceAdd, Int.reduceLT, Int.reduceLE, Int.reduceToNat, Nat.reduceMul, Nat.reduceEqDiff, reduceCtorEq, Nat.reduceBEq, Nat.reduceLeDiff, Nat.reduceLT, xf22_R0, ai, al, ab]
  exact W_ret1 (WX_nil ⟨.inl rfl, _, rfl, rfl⟩)
/-! ### one set: whether its rows are taken -/
end Go.Proofs.Ytkbeaheladmeiaa

