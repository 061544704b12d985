/-
  Even tables are added up by plans (mathematics).
-/
import Derived.Test.YtkbeaheladmeiaaNH
set_option linter.unusedSimpArgs false
set_option linter.unusedVariables false
namespace Go.Proofs.Ytkbeaheladmeiaa
open Go Go.Proofs.Eng
set_option maxRecDepth 100000
set_option maxHeartbeats 4000000
theorem sumI_append (a b : List Int) : sumI (a ++ b) = sumI a + sumI b := by
  induction a with
  | nil => rw [List.nil_append, sumI_nil]; omega
  | cons x a ih => rw [List.cons_append, sumI_cons, sumI_cons, ih]; omega
theorem sum_le {α : Type} (f g : α → Int) : ∀ l : List α, (∀ x, x ∈ l → f x ≤ g x) → sumI (l.map f) ≤ sumI (l.map g)
  | [], _ => Int.le_refl _
  | x :: l, h => by
    have ih := sum_le f g l fun y hy => h y (List.mem_cons_of_mem _ hy)
    have := h x List.mem_cons_self
    rw [List.map_cons, List.map_cons, sumI_cons, sumI_cons]; omega
theorem sum_add {α : Type} (f g : α → Int) : ∀ l : List α, sumI (l.map fun x => f x + g x) = sumI (l.map f) + sumI (l.map g)
  | [] => rfl
  | x :: l => by rw [List.map_cons, List.map_cons, List.map_cons, sumI_cons, sumI_cons, sumI_cons, sum_add f g l]; omega
theorem sum_const {α : Type} (k : Int) : ∀ l : List α, sumI (l.map fun _ => k) = k * l.length
  | [] => by simp [sumI]
  | x :: l => by
    rw [List.map_cons, sumI_cons, sum_const k l, List.length_cons, show (((l.length + 1 : Nat)) : Int) = (l.length : Int) + 1 by omega, Int.mul_add]; omega
theorem sum_swap {α β : Type} (f : α → β → Int) : ∀ (A : List α) (N : List β), sumI (A.map fun r => sumI (N.map (f r))) = sumI (N.map fun c => sumI (A.map fun r => f r c))
  | [], N => by
    show (0 : Int) = sumI (N.map fun _ => 0)
    rw [sum_const]; omega
  | r :: A, N => by
    rw [List.map_cons, sumI_cons, sum_swap f A N, ← sum_add]
    congr 1
    exact List.map_congr_left fun c _ => by rw [List.map_cons, sumI_cons]
theorem sum_filt {α : Type} (f : α → Int) (P : α → Bool) : ∀ l : List α, (∀ x, x ∈ l → P x = false → f x = 0) → sumI ((l.filter P).map f) = sumI (l.map f)
  | [], _ => rfl
  | x :: l, h => by
    have ih := sum_filt f P l fun y hy => h y (List.mem_cons_of_mem _ hy)
    rw [List.filter_cons]
    cases hP : P x
    · have := h x List.mem_cons_self hP
      rw [if_neg (by simp), ih, List.map_cons, sumI_cons, this]; omega
    · rw [if_pos rfl, List.map_cons, List.map_cons, sumI_cons, sumI_cons, ih]
theorem sum_sub (f : Nat → Int) (hf : ∀ x, 0 ≤ f x) : ∀ (A R : List Nat), A.Nodup → (∀ x, x ∈ A → x ∈ R) → sumI (A.map f) ≤ sumI (R.map f)
  | [], R, _, _ => by
    show 0 ≤ _
    exact (sum_nn (R.map f) fun x hx => by obtain ⟨y, _, rfl⟩ := List.mem_map.1 hx; exact hf y).1
  | x :: A, R, hd, hs => by
    obtain ⟨s, t, rfl⟩ := List.append_of_mem (hs x List.mem_cons_self)
    obtain ⟨h1, h2⟩ := List.nodup_cons.1 hd
    have ih := sum_sub f hf A (s ++ t) h2 fun y hy => by
      have := hs y (List.mem_cons_of_mem _ hy)
      rw [List.mem_append, List.mem_cons] at this
      rcases this with q | q | q
      · exact List.mem_append.2 (.inl q)
      · subst q; exact absurd hy h1
      · exact List.mem_append.2 (.inr q)
    rw [List.map_append, sumI_append] at ih ⊢
    rw [List.map_cons, List.map_cons, sumI_cons, sumI_cons]; omega
theorem range_getD {α : Type} (l : List α) (d : α) : (List.range l.length).map (fun i => l.getD i d) = l := by
  apply List.ext_getElem?
  intro j
  rw [List.getElem?_map]
  by_cases h : j < l.length
  · rw [List.getElem?_range h, getD_at (d := d) h]; rfl
  · rw [List.getElem?_eq_none (by rw [List.length_range]; omega), List.getElem?_eq_none (by omega)]; rfl
theorem row_sum {n : Nat} {T : List (List Int)} (hg : gT n T) {r : Nat} (hr : r < n) : sumI (T.getD r []) = sumI ((List.range n).map fun c => cel T r c) := by
  have := range_getD (T.getD r []) 0
  rw [hg.rowlen hr] at this
  exact congrArg sumI (this.symm.trans (List.map_congr_left fun c _ => rfl))
/-- an even table with a sum above 0 has a plan -/
theorem ev_plan {n : Nat} {T : List (List Int)} {k : Int} (hg : gT n T) (he : EvT n T k) (hk : 0 < k) : withP n T ≠ [] := plan_of hg fun l hl => by
  obtain ⟨l1, l2, l3⟩ := lrL_ok hg.n1 hg.n4 l hl
  have hAl : (l.map Int.toNat).length = l.length := List.length_map ..
  have hA : (l.map Int.toNat).Nodup := by
    unfold List.Nodup
    rw [List.pairwise_map]
    exact l1.imp_of_mem fun {a b} ha hb hne e => by have := l2 a ha; have := l2 b hb; omega
  have hAr : ∀ x, x ∈ l.map Int.toNat → x ∈ List.range n := fun x hx => by
    obtain ⟨y, hy, rfl⟩ := List.mem_map.1 hx
    have := l2 y hy
    exact List.mem_range.2 (by omega)
  have hN := filter_not (zerB T l) (List.range n)
  rw [List.length_range] at hN
  have hz : (zerC n T l).length = ((List.range n).filter (zerB T l)).length := by unfold zerC zerK; rw [List.length_map]
  have e1 : sumI ((l.map Int.toNat).map fun r => sumI (((List.range n).filter fun c => !zerB T l c).map fun c => cel T r c)) = k * l.length := by
    rw [← hAl, ← sum_const k (l.map Int.toNat)]
    congr 1
    refine List.map_congr_left fun r hr => ?_
    have hrn := List.mem_range.1 (hAr r hr)
    rw [← he.row r hrn, row_sum hg hrn]
    refine sum_filt _ _ _ fun c hc hzb => ?_
    have hc := List.mem_range.1 hc
    have hb := hg.b hrn hc
    obtain ⟨y, hy, rfl⟩ := List.mem_map.1 hr
    have hzb : zerB T l c = true := by simpa using hzb
    unfold zerB at hzb
    have hno : ¬ 0 < cel T y.toNat c := fun q => by
      rw [List.any_eq_true.2 ⟨y, hy, decide_eq_true q⟩] at hzb; cases hzb
    omega
  rw [sum_swap] at e1
  have e2 : sumI (((List.range n).filter fun c => !zerB T l c).map fun c => sumI ((l.map Int.toNat).map fun r => cel T r c)) ≤ sumI (((List.range n).filter fun c => !zerB T l c).map fun _ => k) := by
    refine sum_le _ _ _ fun c hc => ?_
    have hc := List.mem_range.1 (List.mem_filter.1 hc).1
    rw [← he.col c hc]
    have f0 : ∀ r, 0 ≤ (if r < n then cel T r c else 0) := fun r => by split <;> rename_i q <;> first | exact (hg.b q hc).1 | exact Int.le_refl _
    have h1 := sum_sub (fun r => if r < n then cel T r c else 0) f0 (l.map Int.toNat) (List.range n) hA hAr
    have c1 : ((l.map Int.toNat).map fun r => if r < n then cel T r c else 0) = (l.map Int.toNat).map fun r => cel T r c := List.map_congr_left fun r hr => if_pos (List.mem_range.1 (hAr r hr))
    have c2 : ((List.range n).map fun r => if r < n then cel T r c else 0) = (List.range n).map fun r => cel T r c := List.map_congr_left fun r hr => if_pos (List.mem_range.1 hr)
    rw [c1, c2] at h1
    exact h1
  rw [e1, sum_const] at e2
  have e3 := Int.le_of_mul_le_mul_left e2 hk
  unfold blkP
  exact decide_eq_false (by omega)
theorem nn_zero {l : List Int} (h : ∀ x, x ∈ l → 0 ≤ x) (hs : sumI l = 0) : ∀ x, x ∈ l → x = 0 := fun x hx => by
  have := (sum_nn l h).2 x hx
  have := h x hx
  omega
theorem ev_zero {n : Nat} {T : List (List Int)} (hg : gT n T) (he : EvT n T 0) : T = zerT n := by
  have h := range_get T
  rw [hg.len] at h
  rw [← h]
  unfold zerT
  refine List.map_congr_left fun r hr => ?_
  have hr := List.mem_range.1 hr
  exact List.eq_replicate_iff.2 ⟨hg.rowlen hr, nn_zero (fun x hx => (hg.cel _ (getD_mem (by rw [hg.len]; exact hr)) x hx).1) (he.row r hr)⟩
theorem within_iff {n : Nat} {T : List (List Int)} (hg : gT n T) {p : List Int} : p ∈ withP n T ↔ p ∈ plL n ∧ ∀ r, r < n → 0 < cel T r (p.getD r 0).toNat := by
  rw [withP_eq hg, List.mem_filter]
  constructor
  · rintro ⟨h1, h2⟩
    refine ⟨h1, fun r hr => ?_⟩
    rw [wgt_pos hg (plL_len hg.n1 hg.n4 p h1)] at h2
    unfold posF at h2
    have := (List.all_eq_true.1 h2) r (List.mem_range.2 hr)
    simpa using this
  · rintro ⟨h1, h2⟩
    refine ⟨h1, ?_⟩
    rw [wgt_pos hg (plL_len hg.n1 hg.n4 p h1)]
    unfold posF
    rw [List.all_eq_true]
    intro r hr
    rw [decide_eq_true (h2 r (List.mem_range.1 hr))]; exact Bool.or_true _
def splL (n : Nat) : Nat → List (List Int) → List (List Int × Int)
  | 0, _ => []
  | f + 1, T => match withP n T with
    | [] => []
    | p :: _ => (p, mnF (nums T p)) :: splL n f (addT T p (-(mnF (nums T p))))
theorem splL_nil {n f : Nat} {T : List (List Int)} (h : withP n T = []) : splL n f T = [] := by
  cases f with
  | zero => rfl
  | succ f => rw [splL, h]
theorem splL_cons {n f : Nat} {T : List (List Int)} {p : List Int} {t : List (List Int)} (h : withP n T = p :: t) : splL n (f + 1) T = (p, mnF (nums T p)) :: splL n f (addT T p (-(mnF (nums T p)))) := by
  rw [splL, h]
structure StepF (n : Nat) (T : List (List Int)) (k : Int) (p : List Int) (m : Int) : Prop where
  pl : p ∈ plL n
  ok : okP n p
  m1 : 1 ≤ m
  mle : m ≤ k
  m9 : m ≤ 9
  g2 : gT n (addT T p (-m))
  e2 : EvT n (addT T p (-m)) (k - m)
  ce : ∀ r c, r < n → c < n → cel (addT T p (-m)) r c = cel T r c - if decide ((p.getD r 0).toNat = c) = true then m else 0
  wt : ∃ r, r < n ∧ cel (addT T p (-m)) r (p.getD r 0).toNat = 0
theorem spl_step {n : Nat} {T : List (List Int)} {k : Int} {p : List Int} {t : List (List Int)} (hg : gT n T) (he : EvT n T k) (h : withP n T = p :: t) : StepF n T k p (mnF (nums T p)) := by
  have hm : p ∈ withP n T := by rw [h]; exact List.mem_cons_self
  obtain ⟨hpl, hpos⟩ := (within_iff hg).1 hm
  have hok := plL_len hg.n1 hg.n4 p hpl
  obtain ⟨r, hr, hw⟩ := mn_wit hg hok
  have hms := mn_row hg hok
  have hp1 := hpos r hr
  have hc := hok.2.1 _ (getD_mem (d := 0) (l := p) (i := r) (by rw [hok.1]; exact hr))
  have hb := hg.b (r := r) (c := (p.getD r 0).toNat) hr (by omega)
  have hs : shT n 9 T := ⟨hg.len, hg.row, fun r hr x hx => by have := hg.cel r hr x hx; omega⟩
  have hrow := he.row 0 hg.n1
  obtain ⟨m, hmn⟩ : ∃ m : Nat, mnF (nums T p) = m := ⟨(mnF (nums T p)).toNat, by omega⟩
  have ce : ∀ r c, r < n → c < n → cel (addT T p (-(mnF (nums T p)))) r c = cel T r c - if decide ((p.getD r 0).toNat = c) = true then mnF (nums T p) else 0 := fun r c hr hc => by
    rw [cel_add hs hok hr hc]; split <;> omega
  exact { pl := hpl, ok := hok, m1 := by omega, mle := by rw [← hrow]; exact hms.2, m9 := by omega
          g2 := by have := gT_sub hg hok (t := (m : Int)) (by omega) (by omega); rw [← hmn] at this; exact this
          e2 := by have := ev_add hs hg.n1 hg.n4 he hpl (z := -(mnF (nums T p))); rw [show k + -(mnF (nums T p)) = k - mnF (nums T p) by omega] at this; exact this
          ce := ce
          wt := ⟨r, hr, by rw [ce r _ hr (by omega), if_pos (decide_eq_true rfl), hw]; omega⟩ }
theorem step_sub {n : Nat} {T : List (List Int)} {k m : Int} {p : List Int} (hg : gT n T) (h : StepF n T k p m) {q : List Int} (hq : q ∈ withP n (addT T p (-m))) : q ∈ withP n T ∧ q ≠ p := by
  obtain ⟨h1, h2⟩ := (within_iff h.g2).1 hq
  have hok := plL_len hg.n1 hg.n4 q h1
  refine ⟨(within_iff hg).2 ⟨h1, fun r hr => ?_⟩, fun e => ?_⟩
  · have h3 := h2 r hr
    have hc := hok.2.1 _ (getD_mem (d := 0) (l := q) (i := r) (by rw [hok.1]; exact hr))
    rw [h.ce r _ hr (by omega)] at h3
    have := h.m1
    split at h3 <;> omega
  · subst e
    obtain ⟨r, hr, hw⟩ := h.wt
    have := h2 r hr
    omega
theorem spl_in {n : Nat} : ∀ (f : Nat) (T : List (List Int)) (k : Int), gT n T → EvT n T k → ∀ s, s ∈ splL n f T → s.1 ∈ withP n T ∧ 1 ≤ s.2 ∧ s.2 ≤ 9
  | 0, _, _, _, _, s, hs => by cases hs
  | f + 1, T, k, hg, he, s, hs => by
    cases hw : withP n T with
    | nil => rw [splL_nil hw] at hs; cases hs
    | cons p t =>
      rw [splL_cons hw] at hs
      have h := spl_step hg he hw
      rcases List.mem_cons.1 hs with rfl | q
      · exact ⟨List.mem_cons_self, h.m1, h.m9⟩
      · obtain ⟨i1, i2⟩ := spl_in f _ _ h.g2 h.e2 s q
        have := (step_sub hg h i1).1
        rw [hw] at this
        exact ⟨this, i2⟩
theorem spl_nd {n : Nat} : ∀ (f : Nat) (T : List (List Int)) (k : Int), gT n T → EvT n T k → (splL n f T).Pairwise fun a b => a.1 ≠ b.1
  | 0, _, _, _, _ => List.Pairwise.nil
  | f + 1, T, k, hg, he => by
    cases hw : withP n T with
    | nil => rw [splL_nil hw]; exact List.Pairwise.nil
    | cons p t =>
      rw [splL_cons hw]
      have h := spl_step hg he hw
      exact List.Pairwise.cons (fun s hs => ((step_sub hg h (spl_in f _ _ h.g2 h.e2 s hs).1).2).symm) (spl_nd f _ _ h.g2 h.e2)
theorem spl_end {n : Nat} {T : List (List Int)} {k : Int} (hg : gT n T) (he : EvT n T k) (hw : withP n T = []) : k = 0 := by
  have h0 := he.row 0 hg.n1
  have hnn := (sum_nn (T.getD 0 []) fun x hx => (hg.cel _ (getD_mem (by rw [hg.len]; exact hg.n1)) x hx).1).1
  have : ¬ 0 < k := fun q => ev_plan hg he q hw
  omega
theorem spl_tot {n : Nat} : ∀ (f : Nat) (T : List (List Int)) (k : Int), gT n T → EvT n T k → k ≤ f → sumI ((splL n f T).map Prod.snd) = k
  | 0, T, k, hg, he, hf => by
    have h0 := he.row 0 hg.n1
    have hnn := (sum_nn (T.getD 0 []) fun x hx => (hg.cel _ (getD_mem (by rw [hg.len]; exact hg.n1)) x hx).1).1
    show 0 = k
    omega
  | f + 1, T, k, hg, he, hf => by
    cases hw : withP n T with
    | nil => rw [splL_nil hw, spl_end hg he hw]; rfl
    | cons p t =>
      rw [splL_cons hw]
      have h := spl_step hg he hw
      have := h.m1
      rw [List.map_cons, sumI_cons, spl_tot f _ _ h.g2 h.e2 (by omega)]
      show mnF (nums T p) + (k - mnF (nums T p)) = k
      omega
def atC (r c : Nat) (s : List Int × Int) : Int := if decide ((s.1.getD r 0).toNat = c) = true then s.2 else 0
theorem spl_cel {n : Nat} {r c : Nat} (hr : r < n) (hc : c < n) : ∀ (f : Nat) (T : List (List Int)) (k : Int), gT n T → EvT n T k → k ≤ f → cel T r c = sumI ((splL n f T).map (atC r c))
  | 0, T, k, hg, he, hf => by
    have h0 := he.row 0 hg.n1
    have hnn := (sum_nn (T.getD 0 []) fun x hx => (hg.cel _ (getD_mem (by rw [hg.len]; exact hg.n1)) x hx).1).1
    have hk : k = 0 := by omega
    subst hk
    rw [ev_zero hg he]
    have := (zer_sh n).b hr hc
    show cel (zerT n) r c = 0
    omega
  | f + 1, T, k, hg, he, hf => by
    cases hw : withP n T with
    | nil =>
      have hk := spl_end hg he hw
      subst hk
      rw [splL_nil hw, ev_zero hg he]
      have := (zer_sh n).b hr hc
      show cel (zerT n) r c = 0
      omega
    | cons p t =>
      rw [splL_cons hw]
      have h := spl_step hg he hw
      have := h.m1
      have ih := spl_cel hr hc f _ _ h.g2 h.e2 (by omega)
      rw [h.ce r c hr hc] at ih
      rw [List.map_cons, sumI_cons, ← ih]
      unfold atC
      try simp only
      omega
theorem sh_addS {n : Nat} (h1 : 1 ≤ n) (h4 : n ≤ 4) {d : Int} (hd : 0 ≤ d) : ∀ (S : List (List Int × Int)) (Z : List (List Int)) (b : Int), 0 ≤ b → shT n b Z → (∀ s, s ∈ S → s.1 ∈ plL n ∧ 0 ≤ s.2 ∧ s.2 ≤ d) → shT n (b + d * S.length) (addS Z S) ∧ ∀ r c, r < n → c < n → cel (addS Z S) r c = cel Z r c + sumI (S.map (atC r c))
  | [], Z, b, hb, hs, _ => ⟨(show b + d * (([] : List (List Int × Int)).length : Int) = b by simp).symm ▸ hs, fun r c _ _ => by show cel Z r c = cel Z r c + 0; omega⟩
  | s :: S, Z, b, hb, hs, h => by
    obtain ⟨g1, g2⟩ := h s List.mem_cons_self
    have hok := plL_len h1 h4 _ g1
    obtain ⟨i1, i2⟩ := sh_addS h1 h4 hd S (addT Z s.1 s.2) (b + d) (by omega) (shT_add hs hok (z := s.2) (d := d) (by omega) hb) fun x hx => h x (List.mem_cons_of_mem _ hx)
    refine ⟨?_, fun r c hr hc => ?_⟩
    · have e : b + d * ((s :: S).length : Int) = b + d + d * (S.length : Int) := by
        rw [List.length_cons, show (((S.length + 1 : Nat)) : Int) = (S.length : Int) + 1 by omega, Int.mul_add]; omega
      rw [e]; exact i1
    · show cel (addS (addT Z s.1 s.2) S) r c = _
      rw [i2 r c hr hc, cel_add hs hok hr hc, List.map_cons, sumI_cons]
      unfold atC
      try simp only
      omega
theorem tab_ext {n : Nat} {T S : List (List Int)} (hT : T.length = n) (hTr : ∀ R, R ∈ T → R.length = n) (hS : S.length = n) (hSr : ∀ R, R ∈ S → R.length = n) (h : ∀ r c, r < n → c < n → cel T r c = cel S r c) : T = S := by
  have e1 := range_getD T []
  have e2 := range_getD S []
  rw [hT] at e1
  rw [hS] at e2
  rw [← e1, ← e2]
  refine List.map_congr_left fun r hr => ?_
  have hr := List.mem_range.1 hr
  have l1 := hTr _ (getD_mem (d := []) (l := T) (i := r) (by omega))
  have l2 := hSr _ (getD_mem (d := []) (l := S) (i := r) (by omega))
  have f1 := range_getD (T.getD r []) 0
  have f2 := range_getD (S.getD r []) 0
  rw [l1] at f1
  rw [l2] at f2
  rw [← f1, ← f2]
  exact List.map_congr_left fun c hc => h r c hr (List.mem_range.1 hc)
/-- what the shares of a split add up to -/
theorem spl_back {n : Nat} {T : List (List Int)} {k : Int} {f : Nat} (hg : gT n T) (he : EvT n T k) (hf : k ≤ f) : addS (zerT n) (splL n f T) = T := by
  have hin := spl_in f T k hg he
  obtain ⟨s1, s2⟩ := sh_addS hg.n1 hg.n4 (d := 9) (by omega) (splL n f T) (zerT n) 0 (Int.le_refl _) (zer_sh n) fun s hs => ⟨((within_iff hg).1 (hin s hs).1).1, by have := hin s hs; omega⟩
  refine tab_ext s1.len s1.row hg.len hg.row fun r c hr hc => ?_
  rw [s2 r c hr hc, ← spl_cel hr hc f T k hg he hf]
  have := (zer_sh n).b hr hc
  omega
theorem sumV_spl {n : Nat} {T : List (List Int)} {k : Int} {f : Nat} (hg : gT n T) (he : EvT n T k) (hf : k ≤ f) : sumV n (splL n f T) = .tup [aT T, ai 0] := by
  have hin := spl_in f T k hg he
  have h1 := hg.n1
  unfold sumV
  rw [if_pos (smE_ok _ fun s hs => by
    unfold shE
    have := hin s hs
    rw [if_pos (plE_ok.2 (plL_len hg.n1 hg.n4 _ ((within_iff hg).1 this.1).1)), if_neg (by omega)]), spl_back hg he hf]
  rw [if_neg]
  have hne : T.flatten ≠ [] := fun e => by
    have hr := getD_mem (d := []) (l := T) (i := 0) (by rw [hg.len]; omega)
    have hl := hg.rowlen (r := 0) (by omega)
    have hc := getD_mem (d := 0) (l := T.getD 0 []) (i := 0) (by omega)
    have := List.mem_flatten.2 ⟨_, hr, hc⟩
    rw [e] at this; cases this
  have := (mxF_le (b := 9) hne).2 fun x hx => by
    obtain ⟨R, hR, hx⟩ := List.mem_flatten.1 hx
    exact (hg.cel R hR x hx).2
  omega
theorem len_tot : ∀ (S : List (List Int × Int)), (∀ s, s ∈ S → 1 ≤ s.2) → (S.length : Int) ≤ sumI (S.map Prod.snd)
  | [], _ => Int.le_refl _
  | s :: S, h => by
    have ih := len_tot S fun x hx => h x (List.mem_cons_of_mem _ hx)
    have := h s List.mem_cons_self
    rw [List.map_cons, sumI_cons, List.length_cons]; omega
theorem nodup_leL {α : Type} : ∀ (A R : List α), A.Nodup → (∀ x, x ∈ A → x ∈ R) → A.length ≤ R.length
  | [], R, _, _ => Nat.zero_le _
  | x :: A, R, hd, hs => by
    obtain ⟨s, t, rfl⟩ := List.append_of_mem (hs x List.mem_cons_self)
    obtain ⟨h1, h2⟩ := List.nodup_cons.1 hd
    have ih := nodup_leL A (s ++ t) h2 fun y hy => by
      have := hs y (List.mem_cons_of_mem _ hy)
      rw [List.mem_append, List.mem_cons] at this
      rcases this with q | q | q
      · exact List.mem_append.2 (.inl q)
      · subst q; exact absurd hy h1
      · exact List.mem_append.2 (.inr q)
    rw [List.length_append] at ih ⊢
    rw [List.length_cons, List.length_cons]; omega
theorem two_at : ∀ p, p ∈ plL 3 → ∀ r, r < 3 → ∃ q, q ∈ plL 3 ∧ q ≠ p ∧ q.getD r 0 = p.getD r 0 := by decide +kernel
theorem pl_lens : (plL 1).length = 1 ∧ (plL 2).length = 2 ∧ (plL 3).length = 6 := by decide +kernel
/-- how many shares a split has -/
theorem spl_len {n : Nat} {T : List (List Int)} {k : Int} {f : Nat} (hg : gT n T) (he : EvT n T k) (hf : k ≤ f) (hk : k ≤ 8) : (splL n f T).length ≤ (n - 1) * (n - 1) + 1 ∧ (splL n f T).length ≤ 8 := by
  have hin := spl_in f T k hg he
  have hnd := spl_nd f T k hg he
  have htot := spl_tot f T k hg he hf
  have hl := len_tot (splL n f T) fun s hs => (hin s hs).2.1
  have h8 : (splL n f T).length ≤ 8 := by omega
  refine ⟨?_, h8⟩
  have hndm : ((splL n f T).map Prod.fst).Nodup := by
    unfold List.Nodup
    rw [List.pairwise_map]
    exact hnd
  have hsub : ∀ p, p ∈ (splL n f T).map Prod.fst → p ∈ plL n := fun p hp => by
    obtain ⟨s, hs, rfl⟩ := List.mem_map.1 hp
    exact ((within_iff hg).1 (hin s hs).1).1
  have hle := nodup_leL _ _ hndm hsub
  rw [List.length_map] at hle
  have h1 := hg.n1
  have h4 := hg.n4
  obtain ⟨q1, q2, q3⟩ := pl_lens
  rcases (by omega : n = 1 ∨ n = 2 ∨ n = 3 ∨ n = 4) with rfl | rfl | rfl | rfl
  · omega
  · omega
  · rcases Nat.lt_or_ge (splL 3 f T).length 6 with q | q
    · omega
    · exfalso
      cases f with
      | zero => simp [splL] at q
      | succ f =>
        cases hw : withP 3 T with
        | nil => rw [splL_nil hw] at q; simp at q
        | cons p t =>
          have h := spl_step hg he hw
          obtain ⟨r, hr, hz⟩ := h.wt
          obtain ⟨x, x1, x2, x3⟩ := two_at p h.pl r hr
          rw [splL_cons hw] at hndm hsub q
          have hx : x ∈ ((p, mnF (nums T p)) :: splL 3 f (addT T p (-(mnF (nums T p))))).map Prod.fst := by
            by_cases hx : x ∈ ((p, mnF (nums T p)) :: splL 3 f (addT T p (-(mnF (nums T p))))).map Prod.fst
            · exact hx
            · have := nodup_leL (x :: ((p, mnF (nums T p)) :: splL 3 f (addT T p (-(mnF (nums T p))))).map Prod.fst) (plL 3) (List.nodup_cons.2 ⟨hx, hndm⟩) fun y hy => by
                rcases List.mem_cons.1 hy with rfl | hy
                · exact x1
                · exact hsub y hy
              rw [List.length_cons, List.length_map] at this
              omega
          rw [List.map_cons] at hx
          rcases List.mem_cons.1 hx with e | e
          · exact x2 e
          · obtain ⟨s, hs, rfl⟩ := List.mem_map.1 e
            have := ((within_iff h.g2).1 (spl_in f _ _ h.g2 h.e2 s hs).1).2 r hr
            rw [x3] at this
            omega
  · show _ ≤ 3 * 3 + 1
    omega
/-- through each number above 0 there is a plan -/
theorem thr_ei {n : Nat} (h1 : 1 ≤ n) (h4 : n ≤ 4) {S : List (List Int × Int)} {T : List (List Int)} (h : EI n S T) (hS : S.length ≤ 9) {r c : Nat} (hr : r < n) (hc : c < n) : ((plL n).any fun p => decide (p.getD r 0 = (c : Int)) && decide (0 < wgt T p)) = decide (0 < cel T r c) := by
  have hg := ei_gT h1 h4 h hS
  obtain ⟨s1, s2⟩ := sh_addS h1 h4 (d := 1) (by omega) S (zerT n) 0 (Int.le_refl _) (zer_sh n) fun s hs => ⟨(h.good s hs).1, by have := (h.good s hs).2; omega⟩
  rw [← h.eq] at s2
  have hnnA : ∀ r c x, x ∈ S.map (atC r c) → 0 ≤ x := fun r c x hx => by
    obtain ⟨s, hs, rfl⟩ := List.mem_map.1 hx
    have := (h.good s hs).2
    unfold atC
    split <;> omega
  rw [Bool.eq_iff_iff, List.any_eq_true, decide_eq_true_iff]
  constructor
  · rintro ⟨p, hp, hq⟩
    rw [Bool.and_eq_true, decide_eq_true_iff] at hq
    have hw : p ∈ withP n T := by rw [withP_eq hg]; exact List.mem_filter.2 ⟨hp, hq.2⟩
    have := ((within_iff hg).1 hw).2 r hr
    rw [hq.1] at this
    exact this
  · intro hpos
    have hz := (zer_sh n).b hr hc
    rw [s2 r c hr hc] at hpos
    have hex : ∃ s, s ∈ S ∧ 0 < atC r c s := by
      by_cases q : ∃ s, s ∈ S ∧ 0 < atC r c s
      · exact q
      · exfalso
        have := sum_le (atC r c) (fun _ => 0) S fun s hs => Int.not_lt.1 fun hlt => q ⟨s, hs, hlt⟩
        rw [sum_const] at this
        omega
    obtain ⟨s, hs, hps⟩ := hex
    obtain ⟨g1, g2⟩ := h.good s hs
    have hok := plL_len h1 h4 _ g1
    refine ⟨s.1, g1, ?_⟩
    have hcp := hok.2.1 _ (getD_mem (d := 0) (l := s.1) (i := r) (by rw [hok.1]; exact hr))
    have hw : s.1 ∈ withP n T := (within_iff hg).2 ⟨g1, fun r' hr' => by
      have hcp' := hok.2.1 _ (getD_mem (d := 0) (l := s.1) (i := r') (by rw [hok.1]; exact hr'))
      have hz' := (zer_sh n).b (r := r') (c := (s.1.getD r' 0).toNat) hr' (by omega)
      rw [s2 r' _ hr' (by omega)]
      have := (sum_nn _ (hnnA r' (s.1.getD r' 0).toNat)).2 _ (List.mem_map.2 ⟨s, hs, rfl⟩)
      unfold atC at this
      rw [if_pos (decide_eq_true rfl)] at this
      unfold atC
      omega⟩
    rw [withP_eq hg] at hw
    have e : s.1.getD r 0 = (c : Int) := by
      unfold atC at hps
      split at hps
      · rename_i q
        have := of_decide_eq_true q
        omega
      · omega
    rw [decide_eq_true e, (List.mem_filter.1 hw).2]; rfl
theorem fxI_first {α : Type} (q : α → Bool) (d : α) {p : α} {t : List α} : ∀ (l : List α) (i : Nat), l.filter q = p :: t → ∃ j : Nat, fxI q l i = ((i + j : Nat) : Int) ∧ j < l.length ∧ l.getD j d = p
  | [], i, h => by simp at h
  | x :: l, i, h => by
    rw [List.filter_cons] at h
    cases hq : q x
    · rw [hq, if_neg (by simp)] at h
      obtain ⟨j, j1, j2, j3⟩ := fxI_first q d l (i + 1) h
      refine ⟨j + 1, ?_, by rw [List.length_cons]; omega, j3⟩
      rw [fxI, hq, if_neg (by simp), j1]; congr 1; omega
    · rw [hq, if_pos rfl] at h
      injection h with h1 _
      refine ⟨0, ?_, by rw [List.length_cons]; omega, h1⟩
      rw [fxI, hq, if_pos rfl]; rfl
def lst (m : Int) (T : List (List Int)) (p : List Int) (k : Nat) : Int := (List.range k).foldl (fun m r => mn2 m (cel T r (p.getD r 0).toNat)) m
theorem lst_min {n : Nat} {T : List (List Int)} (hg : gT n T) {p : List Int} (hp : okP n p) : lst 9 T p n = mnF (nums T p) := by
  obtain ⟨r, hr, hw⟩ := mn_wit hg hp
  have hlow : ∀ r, r < n → mnF (nums T p) ≤ cel T r (p.getD r 0).toNat := fun r hr => mnF_le (List.mem_map.2 ⟨r, List.mem_range.2 (by rw [hp.1]; exact hr), rfl⟩)
  have hc := hp.2.1 _ (getD_mem (d := 0) (l := p) (i := r) (by rw [hp.1]; exact hr))
  have hb := hg.b (r := r) (c := (p.getD r 0).toNat) hr (by omega)
  have key : ∀ k, k ≤ n → mnF (nums T p) ≤ lst 9 T p k ∧ ∀ r, r < k → lst 9 T p k ≤ cel T r (p.getD r 0).toNat := by
    intro k
    induction k with
    | zero => intro _; exact ⟨by show _ ≤ (9 : Int); omega, fun r hr => by omega⟩
    | succ k ih =>
      intro hk
      obtain ⟨i1, i2⟩ := ih (by omega)
      have e : lst 9 T p (k + 1) = mn2 (lst 9 T p k) (cel T k (p.getD k 0).toNat) := by unfold lst; rw [List.range_succ, List.foldl_append]; rfl
      have h1 := hlow k (by omega)
      rw [e]
      unfold mn2
      refine ⟨by split <;> omega, fun r hr => ?_⟩
      rcases Nat.lt_or_ge r k with q | q
      · have := i2 r q; split <;> omega
      · have : r = k := by omega
        subst this; split <;> omega
  obtain ⟨k1, k2⟩ := key n (Nat.le_refl _)
  have := k2 r hr
  omega
end Go.Proofs.Ytkbeaheladmeiaa

set_option linter.unusedSimpArgs false
set_option linter.unusedVariables false
namespace Go.Proofs.Ytkbeaheladmeiaa
open Go Go.Proofs.Eng
set_option maxRecDepth 100000
set_option maxHeartbeats 4000000
theorem ixT_loop (fN : Nat) (cs : List AV) (hcs : noRefs cs = true) (hc : callable Try.prog fN = true) (p : List Int → Bool) (l : List (List Int)) (hn : l.length ≤ 1000) (hr : ∀ z, z ∈ l → Runs Try.prog xf fN (al false z :: cs) (ab (p z))) (K : List Fr) (Q : Out → Cfg → Prop)
    (hK : fxI p l 0 = -1 → ∀ j2 j3 j5 j9 j10 j11 j12 j13 j14 j15 j16 j17 j18 : AV, W Try.prog (RelU Try.prog xf) 0 K ⟨((aT l) :: (.fn fN cs) :: j2 :: j3 :: (ai 0) :: j5 :: (aT l) :: (ai l.length) :: (ai l.length) :: j9 :: j10 :: j11 :: j12 :: j13 :: j14 :: j15 :: j16 :: j17 :: j18 :: []), []⟩ Q)
    (hR : ∀ (i : Nat), ∀ j2 j3 j5 j9 j10 j11 j12 j13 j14 j15 j16 j17 j18 : AV, WX Try.prog (RelU Try.prog xf) 0 K .ret ⟨((aT l) :: (.fn fN cs) :: j2 :: j3 :: (ai (fxI p l 0)) :: j5 :: (aT l) :: (ai l.length) :: (ai i) :: j9 :: j10 :: j11 :: j12 :: j13 :: j14 :: j15 :: j16 :: j17 :: j18 :: []), []⟩ Q) :
    ∀ (k i : Nat), i + k = l.length → fxI p l 0 = fxI p (l.drop i) i → ∀ j2 j3 j5 j9 j10 j11 j12 j13 j14 j15 j16 j17 j18 : AV, W Try.prog (RelU Try.prog xf) 0 (.code (.loop xf20_L0) :: .blk 0 :: .stop :: K) ⟨((aT l) :: (.fn fN cs) :: j2 :: j3 :: (ai 0) :: j5 :: (aT l) :: (ai l.length) :: (ai i) :: j9 :: j10 :: j11 :: j12 :: j13 :: j14 :: j15 :: j16 :: j17 :: j18 :: []), []⟩ Q := by
  intro k
  induction k with
  | zero =>
    intro i hi hf j2 j3 j5 j9 j10 j11 j12 j13 j14 j15 j16 j17 j18
    have : i = l.length := by omega
    subst this
    have h0 : decide (l.length < l.length) = false := by simp
    rw [List.drop_length] at hf
    refine W_loop (W_run 80 ?_)
    simp (maxSteps := 2000000) only [SA, Nat.reduceDiv, Nat.reduceSub, Nat.reduceAdd, Int.reduceLT, Int.reduceLE, Int.reduceToNat, Nat.reduceMul, Nat.reduceEqDiff, reduceCtorEq, Nat.reduceBEq, Nat.reduceLeDiff, Nat.reduceLT, xf20_L0, ai, aT, al, lt_cast, h0]
    exact W_stop (hK hf _ _ _ _ _ _ _ _ _ _ _ _ _)
  | succ k ih =>
    intro i hi hf j2 j3 j5 j9 j10 j11 j12 j13 j14 j15 j16 j17 j18
    have h1 : i < l.length := by omega
    have h0 : decide (i < l.length) = true := decide_eq_true h1
    rw [drop_at (d := []) h1, fxI] at hf
    have hm := getD_mem (d := []) h1
    have hg := get_T h1
    generalize hs : l.getD i [] = z at *
    refine W_loop (W_run 80 ?_)
    simp (maxSteps := 2000000) only [SA, Nat.reduceDiv, Nat.reduceSub, Nat.reduceAdd, Int.reduceLT, Int.reduceLE, Int.reduceToNat, Nat.reduceMul, Nat.reduceEqDiff, reduceCtorEq, Nat.reduceBEq, Nat.reduceLeDiff, Nat.reduceLT, xf20_L0, ai, aT, al, lt_cast, h0, hg]
    refine W_callvP (args := al false z :: cs) rfl hc rfl (by show (noRef (al false z) && noRefs cs) = true; rw [hcs, noRef_al false z]; rfl) (hr z hm) rfl (W_run 80 ?_)
    cases hp : p z with
    | true =>
      rw [hp, if_pos rfl] at hf
      simp (maxSteps := 2000000) only [SA, Nat.reduceDiv, Nat.reduceSub, Nat.reduceAdd, Int.reduceLT, Int.reduceLE, Int.reduceToNat, Nat.reduceMul, Nat.reduceEqDiff, reduceCtorEq, Nat.reduceBEq, Nat.reduceLeDiff, Nat.reduceLT, ai, ab]
      have := hR i
      rw [hf] at this
      exact W_ret1 (WX_pop (this _ _ _ _ _ _ _ _ _ _ _ _ _))
    | false =>
      rw [hp, if_neg (by simp)] at hf
      simp (maxSteps := 2000000) only [SA, Nat.reduceDiv, Nat.reduceSub, Nat.reduceAdd, Int.reduceLT, Int.reduceLE, Int.reduceToNat, Nat.reduceMul, Nat.reduceEqDiff, reduceCtorEq, Nat.reduceBEq, Nat.reduceLeDiff, Nat.reduceLT, ai, ab]
      rw [wrap_id (z := (i : Int) + 1) (by omega) (by omega)]
      exact ih (i + 1) (by omega) hf _ _ _ _ _ _ _ _ _ _ _ _ _
theorem ixT_run (fN : Nat) (cs : List AV) (hcs : noRefs cs = true) (hc : callable Try.prog fN = true) (p : List Int → Bool) (l : List (List Int)) (hn : l.length ≤ 1000) (hr : ∀ z, z ∈ l → Runs Try.prog xf fN (al false z :: cs) (ab (p z))) :
    Runs Try.prog xf 20 [aT l, .fn fN cs] (ai (fxI p l 0)) := by
  refine Runs.ofW (fn := xf20) 20 (by kernel_rfl) (W_run 80 ?_)
  simp (maxSteps := 2000000) only [SA, Nat.reduceDiv, Nat.reduceSub, Nat.reduceAdd, Int.reduceLT, Int.reduceLE, Int.reduceToNat, Nat.reduceMul, Nat.reduceEqDiff, reduceCtorEq, Nat.reduceBEq, Nat.reduceLeDiff, Nat.reduceLT, xf20, ai, aT, al]
  refine W_alone (ixT_loop fN cs hcs hc p l hn hr _ _ (fun hf j2 j3 j5 j9 j10 j11 j12 j13 j14 j15 j16 j17 j18 => W_run 80 ?_) (fun i j2 j3 j5 j9 j10 j11 j12 j13 j14 j15 j16 j17 j18 => ?_) l.length 0 (by omega) rfl _ _ _ _ _ _ _ _ _ _ _ _ _)
  · simp (maxSteps := 2000000) only [SA, Nat.reduceDiv, Nat.reduceSub, Nat.reduceAdd, Int.reduceLT, Int.reduceLE, Int.reduceToNat, Nat.reduceMul, Nat.reduceEqDiff, reduceCtorEq, Nat.reduceBEq, Nat.reduceLeDiff, Nat.reduceLT, xf20_R0, ai, aT, al]
    rw [hf]
    exact W_ret1 (WX_nil ⟨.inl rfl, _, rfl, rfl⟩)
  · exact WX_pop (WX_nil ⟨.inl rfl, _, rfl, rfl⟩)
theorem cnT_run (fN : Nat) (cs : List AV) (hcs : noRefs cs = true) (hc : callable Try.prog fN = true) (p : List Int → Bool) (l : List (List Int)) (hn : l.length ≤ 1000) (hr : ∀ z, z ∈ l → Runs Try.prog xf fN (al false z :: cs) (ab (p z))) :
    Runs Try.prog xf 16 [aT l, .fn fN cs] (ab (l.any p)) := by
  have h := ixT_run fN cs hcs hc p l hn hr
  have e := fxI_any p l 0
  refine Runs.ofW (fn := xf16) 20 (by kernel_rfl) (W_run 80 ?_)
  simp (maxSteps := 2000000) only [SA, Nat.reduceDiv, Nat.reduceSub, Nat.reduceAdd, Int.reduceLT, Int.reduceLE, Int.reduceToNat, Nat.reduceMul, Nat.reduceEqDiff, reduceCtorEq, Nat.reduceBEq, Nat.reduceLeDiff, Nat.reduceLT, xf16, ai, aT, al]
  refine W_call (args := [aT l, .fn fN cs]) rfl (noRefs_fn fN (noRef_T l) hcs) h rfl (W_run 80 ?_)
  simp (maxSteps := 2000000) only [SA, Nat.reduceDiv, Nat.reduceSub, Nat.reduceAdd, Int.reduceLT, Int.reduceLE, Int.reduceToNat, Nat.reduceMul, Nat.reduceEqDiff, reduceCtorEq, Nat.reduceBEq, Nat.reduceLeDiff, Nat.reduceLT, ai, e]
  exact W_ret1 (WX_nil ⟨.inl rfl, _, rfl, rfl⟩)
theorem noRef_shV (z : List Int × Int) : noRef (shV z) = true := by
  show (noRef (al false z.1) && (noRef (ai z.2) && true)) = true
  rw [noRef_al]; rfl
theorem noRef_aSh (f : Bool) (l : List (List Int × Int)) : noRef (aSh f l) = true := noRefs_of fun x hx => by obtain ⟨z, _, rfl⟩ := List.mem_map.1 hx; exact noRef_shV z
theorem ixS_loop (fN : Nat) (cs : List AV) (hcs : noRefs cs = true) (hc : callable Try.prog fN = true) (p : List Int × Int → Bool) (f : Bool) (l : List (List Int × Int)) (hn : l.length ≤ 1000) (hr : ∀ z, z ∈ l → Runs Try.prog xf fN (shV z :: cs) (ab (p z))) (K : List Fr) (Q : Out → Cfg → Prop)
    (hK : fxI p l 0 = -1 → ∀ j2 j3 j5 j9 j10 j11 j12 j13 j14 j15 j16 j17 j18 : AV, W Try.prog (RelU Try.prog xf) 0 K ⟨((aSh f l) :: (.fn fN cs) :: j2 :: j3 :: (ai 0) :: j5 :: (aSh f l) :: (ai l.length) :: (ai l.length) :: j9 :: j10 :: j11 :: j12 :: j13 :: j14 :: j15 :: j16 :: j17 :: j18 :: []), []⟩ Q)
    (hR : ∀ (i : Nat), ∀ j2 j3 j5 j9 j10 j11 j12 j13 j14 j15 j16 j17 j18 : AV, WX Try.prog (RelU Try.prog xf) 0 K .ret ⟨((aSh f l) :: (.fn fN cs) :: j2 :: j3 :: (ai (fxI p l 0)) :: j5 :: (aSh f l) :: (ai l.length) :: (ai i) :: j9 :: j10 :: j11 :: j12 :: j13 :: j14 :: j15 :: j16 :: j17 :: j18 :: []), []⟩ Q) :
    ∀ (k i : Nat), i + k = l.length → fxI p l 0 = fxI p (l.drop i) i → ∀ j2 j3 j5 j9 j10 j11 j12 j13 j14 j15 j16 j17 j18 : AV, W Try.prog (RelU Try.prog xf) 0 (.code (.loop xf60_L0) :: .blk 0 :: .stop :: K) ⟨((aSh f l) :: (.fn fN cs) :: j2 :: j3 :: (ai 0) :: j5 :: (aSh f l) :: (ai l.length) :: (ai i) :: j9 :: j10 :: j11 :: j12 :: j13 :: j14 :: j15 :: j16 :: j17 :: j18 :: []), []⟩ Q := by
  intro k
  induction k with
  | zero =>
    intro i hi hf j2 j3 j5 j9 j10 j11 j12 j13 j14 j15 j16 j17 j18
    have : i = l.length := by omega
    subst this
    have h0 : decide (l.length < l.length) = false := by simp
    rw [List.drop_length] at hf
    refine W_loop (W_run 80 ?_)
    simp (maxSteps := 2000000) only [SA, Nat.reduceDiv, Nat.reduceSub, Nat.reduceAdd, Int.reduceLT, Int.reduceLE, Int.reduceToNat, Nat.reduceMul, Nat.reduceEqDiff, reduceCtorEq, Nat.reduceBEq, Nat.reduceLeDiff, Nat.reduceLT, xf60_L0, ai, aSh, shV, lt_cast, h0]
    exact W_stop (hK hf _ _ _ _ _ _ _ _ _ _ _ _ _)
  | succ k ih =>
    intro i hi hf j2 j3 j5 j9 j10 j11 j12 j13 j14 j15 j16 j17 j18
    have h1 : i < l.length := by omega
    have h0 : decide (i < l.length) = true := decide_eq_true h1
    rw [drop_at (d := ([], 0)) h1, fxI] at hf
    have hm := getD_mem (d := ([], 0)) h1
    have hg := get_sv h1
    generalize hs : l.getD i ([], 0) = z at *
    refine W_loop (W_run 80 ?_)
    simp (maxSteps := 2000000) only [SA, Nat.reduceDiv, Nat.reduceSub, Nat.reduceAdd, Int.reduceLT, Int.reduceLE, Int.reduceToNat, Nat.reduceMul, Nat.reduceEqDiff, reduceCtorEq, Nat.reduceBEq, Nat.reduceLeDiff, Nat.reduceLT, xf60_L0, ai, aSh, shV, lt_cast, h0, hg]
    refine W_callvP (args := shV z :: cs) rfl hc rfl (by show (noRef (shV z) && noRefs cs) = true; rw [hcs, noRef_shV z]; rfl) (hr z hm) rfl (W_run 80 ?_)
    cases hp : p z with
    | true =>
      rw [hp, if_pos rfl] at hf
      simp (maxSteps := 2000000) only [SA, Nat.reduceDiv, Nat.reduceSub, Nat.reduceAdd, Int.reduceLT, Int.reduceLE, Int.reduceToNat, Nat.reduceMul, Nat.reduceEqDiff, reduceCtorEq, Nat.reduceBEq, Nat.reduceLeDiff, Nat.reduceLT, ai, ab]
      have := hR i
      rw [hf] at this
      exact W_ret1 (WX_pop (this _ _ _ _ _ _ _ _ _ _ _ _ _))
    | false =>
      rw [hp, if_neg (by simp)] at hf
      simp (maxSteps := 2000000) only [SA, Nat.reduceDiv, Nat.reduceSub, Nat.reduceAdd, Int.reduceLT, Int.reduceLE, Int.reduceToNat, Nat.reduceMul, Nat.reduceEqDiff, reduceCtorEq, Nat.reduceBEq, Nat.reduceLeDiff, Nat.reduceLT, ai, ab]
      rw [wrap_id (z := (i : Int) + 1) (by omega) (by omega)]
      exact ih (i + 1) (by omega) hf _ _ _ _ _ _ _ _ _ _ _ _ _
theorem ixS_run (fN : Nat) (cs : List AV) (hcs : noRefs cs = true) (hc : callable Try.prog fN = true) (p : List Int × Int → Bool) (f : Bool) (l : List (List Int × Int)) (hn : l.length ≤ 1000) (hr : ∀ z, z ∈ l → Runs Try.prog xf fN (shV z :: cs) (ab (p z))) :
    Runs Try.prog xf 60 [aSh f l, .fn fN cs] (ai (fxI p l 0)) := by
  refine Runs.ofW (fn := xf60) 20 (by kernel_rfl) (W_run 80 ?_)
  simp (maxSteps := 2000000) only [SA, Nat.reduceDiv, Nat.reduceSub, Nat.reduceAdd, Int.reduceLT, Int.reduceLE, Int.reduceToNat, Nat.reduceMul, Nat.reduceEqDiff, reduceCtorEq, Nat.reduceBEq, Nat.reduceLeDiff, Nat.reduceLT, xf60, ai, aSh, shV]
  refine W_alone (ixS_loop fN cs hcs hc p f l hn hr _ _ (fun hf j2 j3 j5 j9 j10 j11 j12 j13 j14 j15 j16 j17 j18 => W_run 80 ?_) (fun i j2 j3 j5 j9 j10 j11 j12 j13 j14 j15 j16 j17 j18 => ?_) l.length 0 (by omega) rfl _ _ _ _ _ _ _ _ _ _ _ _ _)
  · simp (maxSteps := 2000000) only [SA, Nat.reduceDiv, Nat.reduceSub, Nat.reduceAdd, Int.reduceLT, Int.reduceLE, Int.reduceToNat, Nat.reduceMul, Nat.reduceEqDiff, reduceCtorEq, Nat.reduceBEq, Nat.reduceLeDiff, Nat.reduceLT, xf60_R0, ai, aSh, shV]
    rw [hf]
    exact W_ret1 (WX_nil ⟨.inl rfl, _, rfl, rfl⟩)
  · exact WX_pop (WX_nil ⟨.inl rfl, _, rfl, rfl⟩)
theorem cnS_run (fN : Nat) (cs : List AV) (hcs : noRefs cs = true) (hc : callable Try.prog fN = true) (p : List Int × Int → Bool) (f : Bool) (l : List (List Int × Int)) (hn : l.length ≤ 1000) (hr : ∀ z, z ∈ l → Runs Try.prog xf fN (shV z :: cs) (ab (p z))) :
    Runs Try.prog xf 23 [aSh f l, .fn fN cs] (ab (l.any p)) := by
  have h := ixS_run fN cs hcs hc p f l hn hr
  have e := fxI_any p l 0
  refine Runs.ofW (fn := xf23) 20 (by kernel_rfl) (W_run 80 ?_)
  simp (maxSteps := 2000000) only [SA, Nat.reduceDiv, Nat.reduceSub, Nat.reduceAdd, Int.reduceLT, Int.reduceLE, Int.reduceToNat, Nat.reduceMul, Nat.reduceEqDiff, reduceCtorEq, Nat.reduceBEq, Nat.reduceLeDiff, Nat.reduceLT, xf23, ai, aSh, shV]
  refine W_call (args := [aSh f l, .fn fN cs]) rfl (noRefs_fn fN (noRef_aSh f l) hcs) h rfl (W_run 80 ?_)
  simp (maxSteps := 2000000) only [SA, Nat.reduceDiv, Nat.reduceSub, Nat.reduceAdd, Int.reduceLT, Int.reduceLE, Int.reduceToNat, Nat.reduceMul, Nat.reduceEqDiff, reduceCtorEq, Nat.reduceBEq, Nat.reduceLeDiff, Nat.reduceLT, ai, e]
  exact W_ret1 (WX_nil ⟨.inl rfl, _, rfl, rfl⟩)
/-! ### same at two lists as long as one another -/
theorem sameg_loop (f g : Bool) (a b : List Int) (hab : a.length = b.length) (hn : a.length ≤ 100) (K : List Fr) (Q : Out → Cfg → Prop)
    (hK : a = b → ∀ j2 j3 j6 j7 j8 j9 j10 j11 j12 j13 j14 j15 j16 j17 j18 j19 j20 j21 j22 j23 j24 j25 : AV, W Try.prog (RelU Try.prog xf) 0 K ⟨((al f a) :: (al g b) :: j2 :: j3 :: (ab false) :: (ai a.length) :: j6 :: j7 :: j8 :: j9 :: j10 :: j11 :: j12 :: j13 :: j14 :: j15 :: j16 :: j17 :: j18 :: j19 :: j20 :: j21 :: j22 :: j23 :: j24 :: j25 :: []), []⟩ Q)
    (hR : a ≠ b → ∀ (i : Nat), ∀ j2 j3 j6 j7 j8 j9 j10 j11 j12 j13 j14 j15 j16 j17 j18 j19 j20 j21 j22 j23 j24 j25 : AV, WX Try.prog (RelU Try.prog xf) 0 K .ret ⟨((al f a) :: (al g b) :: j2 :: j3 :: (ab false) :: (ai i) :: j6 :: j7 :: j8 :: j9 :: j10 :: j11 :: j12 :: j13 :: j14 :: j15 :: j16 :: j17 :: j18 :: j19 :: j20 :: j21 :: j22 :: j23 :: j24 :: j25 :: []), []⟩ Q) :
    ∀ (k i : Nat), i + k = a.length → a.take i = b.take i → ∀ j2 j3 j6 j7 j8 j9 j10 j11 j12 j13 j14 j15 j16 j17 j18 j19 j20 j21 j22 j23 j24 j25 : AV, W Try.prog (RelU Try.prog xf) 0 (.code (.loop xf22_L0) :: .blk 0 :: .stop :: K) ⟨((al f a) :: (al g b) :: j2 :: j3 :: (ab false) :: (ai i) :: j6 :: j7 :: j8 :: j9 :: j10 :: j11 :: j12 :: j13 :: j14 :: j15 :: j16 :: j17 :: j18 :: j19 :: j20 :: j21 :: j22 :: j23 :: j24 :: j25 :: []), []⟩ Q := by
  intro k
  induction k with
  | zero =>
    intro i hi ht j2 j3 j6 j7 j8 j9 j10 j11 j12 j13 j14 j15 j16 j17 j18 j19 j20 j21 j22 j23 j24 j25
    have : i = a.length := by omega
    subst this
    have h0 : decide (a.length < a.length) = false := by simp
    have he : a = b := by rw [List.take_of_length_le (by omega), List.take_of_length_le (by omega)] at ht; exact ht
    refine W_loop (W_run 80 ?_)
    simp (maxSteps := 2000000) only [SA, Nat.reduceDiv, Nat.reduceSub, Nat.reduceAdd, Int.reduceLT, Int.reduceLE, Int.reduceToNat, Nat.reduceMul, Nat.reduceEqDiff, reduceCtorEq, Nat.reduceBEq, Nat.reduceLeDiff, Nat.reduceLT, xf22_L0, ai, al, lt_cast, h0]
    exact W_stop (hK he _ _ _ _ _ _ _ _ _ _ _ _ _ _ _ _ _ _ _ _ _ _)
  | succ k ih =>
    intro i hi ht j2 j3 j6 j7 j8 j9 j10 j11 j12 j13 j14 j15 j16 j17 j18 j19 j20 j21 j22 j23 j24 j25
    have h1 : i < a.length := by omega
    have h2 : i < b.length := by omega
    have h0 : decide (i < a.length) = true := decide_eq_true h1
    have hb0 : decide (i < b.length) = true := decide_eq_true h2
    have hga := get_al h1
    have hgb := get_al h2
    have wi : IntKind.i64.wrap ((i : Int) + 1) = ((i + 1 : Nat) : Int) := by rw [wrap_id (by omega) (by omega)]; simp
    by_cases hxy : a.getD i 0 = b.getD i 0
    · have next := ih (i + 1) (by omega) (by rw [take_snoc (d := 0) h1, take_snoc (d := 0) h2, ht, hxy])
      rw [hxy] at hga
      generalize b.getD i 0 = y at *
      have e : (y != y) = false := by simp
      refine W_loop (W_run 80 ?_)
      simp (maxSteps := 2000000) only [SA, Nat.reduceDiv, Nat.reduceSub, Nat.reduceAdd, Int.reduceLT, Int.reduceLE, Int.reduceToNat, Nat.reduceMul, Nat.reduceEqDiff, reduceCtorEq, Nat.reduceBEq, Nat.reduceLeDiff, Nat.reduceLT, xf22_L0, ai, al, lt_cast, h0, hb0, hga, hgb, e, wi]
      exact next _ _ _ _ _ _ _ _ _ _ _ _ _ _ _ _ _ _ _ _ _ _
    · have hne : a ≠ b := fun q => hxy (by rw [q])
      have e : (a.getD i 0 != b.getD i 0) = true := by simpa using hxy
      have hR := hR hne i
      generalize a.getD i 0 = x at *
      generalize b.getD i 0 = y at *
      refine W_loop (W_run 80 ?_)
      simp (maxSteps := 2000000) only [SA, Nat.reduceDiv, Nat.reduceSub, Nat.reduceAdd, Int.reduceLT, Int.reduceLE, Int.reduceToNat, Nat.reduceMul, Nat.reduceEqDiff, reduceCtorEq, Nat.reduceBEq, Nat.reduceLeDiff, Nat.reduceLT, xf22_L0, ai, al, lt_cast, h0, hb0, hga, hgb, e]
      exact W_ret1 (WX_pop (hR _ _ _ _ _ _ _ _ _ _ _ _ _ _ _ _ _ _ _ _ _ _))
theorem same_gen (f g : Bool) (a b : List Int) (hab : a.length = b.length) (hn : a.length ≤ 100) : Runs Try.prog xf 22 [al f a, al g b] (ab (decide (a = b))) := by
  have e : ((a.length : Int) != (b.length : Int)) = false := by rw [hab]; simp
  refine Runs.ofW (fn := xf22) 20 (by kernel_rfl) (W_run 80 ?_)
  simp (maxSteps := 2000000) only [SA, Nat.reduceDiv, Nat.reduceSub, Nat.reduceAdd, Int.reduceLT, Int.reduceLE, Int.reduceToNat, Nat.reduceMul, Nat.reduceEqDiff, reduceCtorEq, Nat.reduceBEq, Nat.reduceLeDiff, Nat.reduceLT, xf22, ai, al, ab, e]
  refine W_alone (sameg_loop f g a b hab hn _ _ (fun he j2 j3 j6 j7 j8 j9 j10 j11 j12 j13 j14 j15 j16 j17 j18 j19 j20 j21 j22 j23 j24 j25 => W_run 80 ?_) (fun hne i j2 j3 j6 j7 j8 j9 j10 j11 j12 j13 j14 j15 j16 j17 j18 j19 j20 j21 j22 j23 j24 j25 => ?_) a.length 0 (by omega) rfl _ _ _ _ _ _ _ _ _ _ _ _ _ _ _ _ _ _ _ _ _ _)
  · rw [decide_eq_true he]
    simp (maxSteps := 2000000) only [SA, Nat.reduceDiv, Nat.reduceSub, Nat.reduceAdd, Int.reduceLT, Int.reduceLE, Int.reduceToNat, Nat.reduceMul, Nat.reduceEqDiff, reduceCtorEq, Nat.reduceBEq, Nat.reduceLeDiff, Nat.reduceLT, xf22_R0, ai, al, ab]
    exact W_ret1 (WX_nil ⟨.inl rfl, _, rfl, rfl⟩)
  · rw [decide_eq_false hne]
    exact WX_pop (WX_nil ⟨.inl rfl, _, rfl, rfl⟩)
/-! ### the law's closures -/
theorem c17_run {n : Nat} {T : List (List Int)} (hg : gT n T) {p : List Int} (hp : okP n p) {r c : Nat} (hr : r < n) (hc : c < n) : Runs Try.prog xf 17 [al false p, .ptr (ai r), .ptr (ai c), .ptr (aT T)] (ab (decide (p.getD r 0 = (c : Int)) && decide (0 < wgt T p))) := by
  have hw := wgt_run hg false hp.2.1 (by have := hp.1; omega)
  have hpl := hp.1
  have hgp := get_al (l := p) (i := r) (by omega)
  have hrp : (r : Int) < (n : Int) := by omega
  generalize wgt T p = w at *
  generalize p.getD r 0 = x at *
  refine Runs.ofW (fn := xf17) 20 (by kernel_rfl) (W_run 80 ?_)
  by_cases e : x = (c : Int)
  · have e1 : (x == (c : Int)) = true := by rw [beq_iff_eq]; exact e
    rw [decide_eq_true e, Bool.true_and]
    simp (maxSteps := 2000000) only [SA, Nat.reduceDiv, Nat.reduceSub, Nat.reduceAdd, Int.reduceLT, Int.reduceLE, Int.reduceToNat, Nat.reduceMul, Nat.reduceEqDiff, reduceCtorEq, Nat.reduceBEq, Nat.reduceLeDiff, Nat.reduceLT, xf17, ai, al, aT, hpl, hgp, hrp, e1]
    refine W_call (args := [aT T, al false p]) rfl (noRefs_2 (noRef_T _) (noRef_al _ _)) hw rfl (W_run 80 ?_)
    simp (maxSteps := 2000000) only [SA, Nat.reduceDiv, Nat.reduceSub, Nat.reduceAdd, Int.reduceLT, Int.reduceLE, Int.reduceToNat, Nat.reduceMul, Nat.reduceEqDiff, reduceCtorEq, Nat.reduceBEq, Nat.reduceLeDiff, Nat.reduceLT, ai, ab]
    exact W_ret1 (WX_nil ⟨.inl rfl, _, rfl, rfl⟩)
  · have e1 : (x == (c : Int)) = false := by rw [beq_eq_false_iff_ne]; exact e
    rw [decide_eq_false e, Bool.false_and]
    simp (maxSteps := 2000000) only [SA, Nat.reduceDiv, Nat.reduceSub, Nat.reduceAdd, Int.reduceLT, Int.reduceLE, Int.reduceToNat, Nat.reduceMul, Nat.reduceEqDiff, reduceCtorEq, Nat.reduceBEq, Nat.reduceLeDiff, Nat.reduceLT, xf17, ai, al, aT, hpl, hgp, hrp, e1]
    exact W_ret1 (WX_nil ⟨.inl rfl, _, rfl, rfl⟩)
theorem c21_run {n : Nat} {T : List (List Int)} (hg : gT n T) {p : List Int} (hp : okP n p) : Runs Try.prog xf 21 [al false p, .ptr (aT T)] (ab (decide (0 < wgt T p))) := by
  have hw := wgt_run hg false hp.2.1 (by have := hp.1; omega)
  generalize wgt T p = w at *
  refine Runs.ofW (fn := xf21) 20 (by kernel_rfl) (W_run 80 ?_)
  simp (maxSteps := 2000000) only [SA, Nat.reduceDiv, Nat.reduceSub, Nat.reduceAdd, Int.reduceLT, Int.reduceLE, Int.reduceToNat, Nat.reduceMul, Nat.reduceEqDiff, reduceCtorEq, Nat.reduceBEq, Nat.reduceLeDiff, Nat.reduceLT, xf21, ai, al, aT]
  refine W_call (args := [aT T, al false p]) rfl (noRefs_2 (noRef_T _) (noRef_al _ _)) hw rfl (W_run 80 ?_)
  simp (maxSteps := 2000000) only [SA, Nat.reduceDiv, Nat.reduceSub, Nat.reduceAdd, Int.reduceLT, Int.reduceLE, Int.reduceToNat, Nat.reduceMul, Nat.reduceEqDiff, reduceCtorEq, Nat.reduceBEq, Nat.reduceLeDiff, Nat.reduceLT, ai, ab]
  exact W_ret1 (WX_nil ⟨.inl rfl, _, rfl, rfl⟩)
theorem c24_run (o x : List Int × Int) (h : o.1.length = x.1.length) (hn : o.1.length ≤ 100) : Runs Try.prog xf 24 [shV o, .ptr (shV x)] (ab (decide (o.1 = x.1))) := by
  have hs := same_gen false false o.1 x.1 h hn
  obtain ⟨a, s⟩ := o
  obtain ⟨b, t⟩ := x
  simp only at hs
  refine Runs.ofW (fn := xf24) 20 (by kernel_rfl) (W_run 80 ?_)
  simp (maxSteps := 2000000) only [SA, Nat.reduceDiv, Nat.reduceSub, Nat.reduceAdd, Int.reduceLT, Int.reduceLE, Int.reduceToNat, Nat.reduceMul, Nat.reduceEqDiff, reduceCtorEq, Nat.reduceBEq, Nat.reduceLeDiff, Nat.reduceLT, xf24, ai, al, shV]
  refine W_call (args := [al false a, al false b]) rfl (noRefs_2 (noRef_al _ _) (noRef_al _ _)) hs rfl (W_run 80 ?_)
  simp (maxSteps := 2000000) only [SA, Nat.reduceDiv, Nat.reduceSub, Nat.reduceAdd, Int.reduceLT, Int.reduceLE, Int.reduceToNat, Nat.reduceMul, Nat.reduceEqDiff, reduceCtorEq, Nat.reduceBEq, Nat.reduceLeDiff, Nat.reduceLT, ai, ab]
  exact W_ret1 (WX_nil ⟨.inl rfl, _, rfl, rfl⟩)
/-! ### Split -/
def h18 (S : List (List Int × Int)) : Heap := [(18, (1, some ⟨41, 2, S.map shV⟩))]
theorem sp_loop {n : Nat} (K : List Fr) (Q : Out → Cfg → Prop) (SS : List (List Int × Int)) (hSS : SS.length ≤ 100)
    (hK : ∀ (T : List (List Int)) (S : List (List Int × Int)), S = SS → ∀ j1 j2 j3 j4 j5 j8 j9 j10 j11 j12 j13 j14 j15 j16 j17 j18 j19 j20 j21 j22 j23 j24 j25 j26 j27 j28 j29 j30 j31 j32 j33 j34 j35 j36 j37 j38 j39 j40 j41 j42 j43 j44 : AV, W Try.prog (RelU Try.prog xf) 0 K ⟨((aT T) :: j1 :: j2 :: j3 :: j4 :: j5 :: (.os 18 1 S.length 2 0 S.length) :: (plv (withP n T)) :: j8 :: j9 :: j10 :: j11 :: j12 :: j13 :: j14 :: j15 :: j16 :: j17 :: j18 :: j19 :: j20 :: j21 :: j22 :: j23 :: j24 :: j25 :: j26 :: j27 :: j28 :: j29 :: j30 :: j31 :: j32 :: j33 :: j34 :: j35 :: j36 :: j37 :: j38 :: j39 :: j40 :: j41 :: j42 :: j43 :: j44 :: []), h18 S⟩ Q) :
    ∀ (f : Nat) (T : List (List Int)) (k : Int), gT n T → EvT n T k → k ≤ f → ∀ S, S ++ splL n f T = SS → ∀ j1 j2 j3 j4 j5 j8 j9 j10 j11 j12 j13 j14 j15 j16 j17 j18 j19 j20 j21 j22 j23 j24 j25 j26 j27 j28 j29 j30 j31 j32 j33 j34 j35 j36 j37 j38 j39 j40 j41 j42 j43 j44 : AV, W Try.prog (RelU Try.prog xf) 0 (.code (.loop xf14_L0) :: .blk 0 :: .stop :: K) ⟨((aT T) :: j1 :: j2 :: j3 :: j4 :: j5 :: (.os 18 1 S.length 2 0 S.length) :: (plv (withP n T)) :: j8 :: j9 :: j10 :: j11 :: j12 :: j13 :: j14 :: j15 :: j16 :: j17 :: j18 :: j19 :: j20 :: j21 :: j22 :: j23 :: j24 :: j25 :: j26 :: j27 :: j28 :: j29 :: j30 :: j31 :: j32 :: j33 :: j34 :: j35 :: j36 :: j37 :: j38 :: j39 :: j40 :: j41 :: j42 :: j43 :: j44 :: []), h18 S⟩ Q := by
  intro f
  induction f with
  | zero =>
    intro T k hg he hf S hS j1 j2 j3 j4 j5 j8 j9 j10 j11 j12 j13 j14 j15 j16 j17 j18 j19 j20 j21 j22 j23 j24 j25 j26 j27 j28 j29 j30 j31 j32 j33 j34 j35 j36 j37 j38 j39 j40 j41 j42 j43 j44
    have hw : withP n T = [] := by
      cases hw : withP n T with
      | nil => rfl
      | cons p t => have h := spl_step hg he hw; have h1 := h.m1; have h2 := h.mle; omega
    have hS2 : S = SS := by rw [← hS, splL, List.append_nil]
    have hK := hK T S hS2
    rw [hw] at hK ⊢
    generalize h18 S = w2 at *
    refine W_loop (W_run 80 ?_)
    simp (maxSteps := 2000000) only [SA, Nat.reduceDiv, Nat.reduceSub, Nat.reduceAdd, Int.reduceLT, Int.reduceLE, Int.reduceToNat, Nat.reduceMul, Nat.reduceEqDiff, reduceCtorEq, Nat.reduceBEq, Nat.reduceLeDiff, Nat.reduceLT, xf14_L0, ai, plv, aT]
    exact W_stop (hK _ _ _ _ _ _ _ _ _ _ _ _ _ _ _ _ _ _ _ _ _ _ _ _ _ _ _ _ _ _ _ _ _ _ _ _ _ _ _ _ _ _)
  | succ f ih =>
    intro T k hg he hf S hS j1 j2 j3 j4 j5 j8 j9 j10 j11 j12 j13 j14 j15 j16 j17 j18 j19 j20 j21 j22 j23 j24 j25 j26 j27 j28 j29 j30 j31 j32 j33 j34 j35 j36 j37 j38 j39 j40 j41 j42 j43 j44
    cases hw : withP n T with
    | nil =>
      have hS2 : S = SS := by rw [← hS, splL_nil hw, List.append_nil]
      have hK := hK T S hS2
      rw [hw] at hK
      generalize h18 S = w2 at *
      refine W_loop (W_run 80 ?_)
      simp (maxSteps := 2000000) only [SA, Nat.reduceDiv, Nat.reduceSub, Nat.reduceAdd, Int.reduceLT, Int.reduceLE, Int.reduceToNat, Nat.reduceMul, Nat.reduceEqDiff, reduceCtorEq, Nat.reduceBEq, Nat.reduceLeDiff, Nat.reduceLT, xf14_L0, ai, plv, aT]
      exact W_stop (hK _ _ _ _ _ _ _ _ _ _ _ _ _ _ _ _ _ _ _ _ _ _ _ _ _ _ _ _ _ _ _ _ _ _ _ _ _ _ _ _ _ _)
    | cons p t =>
      have h := spl_step hg he hw
      have hok := h.ok
      have hpl := hok.1
      have hn4 := hg.n4
      have hn1 := hg.n1
      have hm9 := h.m9
      have hm1 := h.m1
      rw [splL_cons hw] at hS
      have hsh : shT n 9 T := ⟨hg.len, hg.row, fun r hr x hx => by have := hg.cel r hr x hx; omega⟩
      have hnu := nums_run hg false hok.2.1 (by omega)
      have hnl := nums_len T p
      have hmr := min_run false (nums T p) (by rw [hnl]; omega) (by rw [hnl]; omega)
      have hadd := added_run hsh (by omega) hok hn4 (z := -(mnF (nums T p))) (by omega)
      have hpw := pw_run h.g2
      have next := ih _ _ h.g2 h.e2 (by omega) (S ++ [(p, mnF (nums T p))]) (by rw [List.append_assoc]; exact hS)
      have hSl : S.length ≤ 100 := by have := congrArg List.length hS; rw [List.length_append] at this; omega
      have hnl2 := noRef_plv (withP n (addT T p (-(mnF (nums T p)))))
      have hnT := noRef_T (addT T p (-(mnF (nums T p))))
      clear hK ih hS
      generalize withP n (addT T p (-(mnF (nums T p)))) = PW at *
      generalize plv PW = pv at *
      generalize addT T p (-(mnF (nums T p))) = T2 at *
      generalize mnF (nums T p) = m at *
      generalize nums T p = nu at *
      have wn : IntKind.i64.wrap (0 - m) = -m := by rw [wrap_id (by omega) (by omega)]; omega
      have lt : (0 : Int) < ((t.length : Nat) : Int) + 1 := by omega
      have lt2 : (0 : Int) < (((t.length + 1) : Nat) : Int) := by omega
      have dlt : decide ((0 : Int) < ((t.length : Nat) : Int) + 1) = true := decide_eq_true lt
      have dlt2 : decide ((0 : Int) < (((t.length + 1) : Nat) : Int)) = true := decide_eq_true lt2
      have dlt3 : decide (0 < t.length + 1) = true := decide_eq_true (by omega)
      refine W_loop (W_run 120 ?_)
      have q1 : (S.length + 1) * 32 ≤ 100000000000000 := by omega
      have q2 : S.length + 1 ≤ 100000000000000 := by omega
      have e2 : (S ++ [(p, m)]).length = S.length + 1 := by simp
      have eS : shV (p, m) = .ag [al false p, ai m] := rfl
      unfold h18 at next ⊢
      rw [e2, List.map_append, List.map_cons, List.map_nil, eS] at next
      simp (maxSteps := 2000000) only [SA, Nat.reduceDiv, Nat.reduceSub, Nat.reduceAdd, Int.reduceLT, Int.reduceLE, Int.reduceToNat, Nat.reduceMul, Nat.reduceEqDiff, reduceCtorEq, Nat.reduceBEq, Nat.reduceLeDiff, Nat.reduceLT, xf14_L0, ai, al, plv, aT, lt, lt2, dlt, dlt2, dlt3, List.map_cons]
      refine W_call (args := [aT T, al false p]) rfl (noRefs_2 (noRef_T _) (noRef_al _ _)) hnu (noRef_al _ _) (W_run 120 ?_)
      simp (maxSteps := 2000000) only [SA, Nat.reduceDiv, Nat.reduceSub, Nat.reduceAdd, Int.reduceLT, Int.reduceLE, Int.reduceToNat, Nat.reduceMul, Nat.reduceEqDiff, reduceCtorEq, Nat.reduceBEq, Nat.reduceLeDiff, Nat.reduceLT, ai, al, aT]
      refine W_call (args := [al false nu]) rfl (noRefs_1 (noRef_al _ _)) hmr rfl (W_run 120 ?_)
      simp (maxSteps := 2000000) only [SA, Nat.reduceDiv, Nat.reduceSub, Nat.reduceAdd, Int.reduceLT, Int.reduceLE, Int.reduceToNat, Nat.reduceMul, Nat.reduceEqDiff, reduceCtorEq, Nat.reduceBEq, Nat.reduceLeDiff, Nat.reduceLT, ai, al, aT, wn, q1, q2, Go.Proofs.Eng.fillA, Go.Proofs.Eng.elems, List.map_cons, List.map_nil, List.length_map]
      refine W_call (args := [aT T, al false p, ai (-m)]) rfl (noRefs_3 (noRef_T _) (noRef_al _ _) rfl) hadd hnT (W_run 120 ?_)
      simp (maxSteps := 2000000) only [SA, Nat.reduceDiv, Nat.reduceSub, Nat.reduceAdd, Int.reduceLT, Int.reduceLE, Int.reduceToNat, Nat.reduceMul, Nat.reduceEqDiff, reduceCtorEq, Nat.reduceBEq, Nat.reduceLeDiff, Nat.reduceLT, ai, aT]
      refine W_call (args := [aT T2]) rfl (noRefs_T _) hpw hnl2 (W_run 120 ?_)
      simp (maxSteps := 2000000) only [SA, Nat.reduceDiv, Nat.reduceSub, Nat.reduceAdd, Int.reduceLT, Int.reduceLE, Int.reduceToNat, Nat.reduceMul, Nat.reduceEqDiff, reduceCtorEq, Nat.reduceBEq, Nat.reduceLeDiff, Nat.reduceLT, ai]
      exact next _ _ _ _ _ _ _ _ _ _ _ _ _ _ _ _ _ _ _ _ _ _ _ _ _ _ _ _ _ _ _ _ _ _ _ _ _ _ _ _ _ _
theorem split_run {n : Nat} {T : List (List Int)} {k : Int} {f : Nat} (hg : gT n T) (he : EvT n T k) (hf : k ≤ f) (hk : k ≤ 8) : Runs Try.prog xf 14 [aT T] (.tup [aSh false (splL n f T), ai 0]) := by
  have hev := even_run hg
  obtain ⟨e1, e2⟩ := evB_of hg.n1 hg.len he
  unfold evE at hev
  rw [if_pos e1, e2] at hev
  have hpw := pw_run hg
  have n00 : ((0 : Int) != 0) = false := rfl
  have hl := (spl_len hg he hf hk).2
  have hlp := fun (K : List Fr) (Q : Out → Cfg → Prop) => sp_loop (n := n) K Q (splL n f T) (by omega)
  have hnp := noRef_plv (withP n T)
  refine Runs.ofW (fn := xf14) 20 (by kernel_rfl) (W_run 120 ?_)
  simp (maxSteps := 2000000) only [SA, Nat.reduceDiv, Nat.reduceSub, Nat.reduceAdd, Int.reduceLT, Int.reduceLE, Int.reduceToNat, Nat.reduceMul, Nat.reduceEqDiff, reduceCtorEq, Nat.reduceBEq, Nat.reduceLeDiff, Nat.reduceLT, xf14, ai, aT]
  refine W_call (args := [aT T]) rfl (noRefs_T _) hev rfl (W_run 120 ?_)
  simp (maxSteps := 2000000) only [SA, Nat.reduceDiv, Nat.reduceSub, Nat.reduceAdd, Int.reduceLT, Int.reduceLE, Int.reduceToNat, Nat.reduceMul, Nat.reduceEqDiff, reduceCtorEq, Nat.reduceBEq, Nat.reduceLeDiff, Nat.reduceLT, ai, n00, aT, Go.Proofs.Eng.fillA, Go.Proofs.Eng.elems, List.map_nil]
  refine W_call (args := [aT T]) rfl (noRefs_T _) hpw hnp (W_run 120 ?_)
  simp (maxSteps := 2000000) only [SA, Nat.reduceDiv, Nat.reduceSub, Nat.reduceAdd, Int.reduceLT, Int.reduceLE, Int.reduceToNat, Nat.reduceMul, Nat.reduceEqDiff, reduceCtorEq, Nat.reduceBEq, Nat.reduceLeDiff, Nat.reduceLT, ai]
  refine W_alone (hlp _ _ (fun T' S hS j1 j2 j3 j4 j5 j8 j9 j10 j11 j12 j13 j14 j15 j16 j17 j18 j19 j20 j21 j22 j23 j24 j25 j26 j27 j28 j29 j30 j31 j32 j33 j34 j35 j36 j37 j38 j39 j40 j41 j42 j43 j44 => W_run 80 ?_) f T k hg he hf [] (by rw [List.nil_append]) _ _ _ _ _ _ _ _ _ _ _ _ _ _ _ _ _ _ _ _ _ _ _ _ _ _ _ _ _ _ _ _ _ _ _ _ _ _ _ _ _ _)
  rw [← hS]
  unfold h18
  simp (maxSteps := 2000000) only [SA, Nat.reduceDiv, Nat.reduceSub, Nat.reduceAdd, Int.reduceLT, Int.reduceLE, Int.reduceToNat, Nat.reduceMul, Nat.reduceEqDiff, reduceCtorEq, Nat.reduceBEq, Nat.reduceLeDiff, Nat.reduceLT, xf14_R0, ai]
  refine W_ret1 (WX_nil ⟨.inl rfl, _, rfl, ?_⟩)
  have hm : ∀ (η : Heap) (l : List (List Int × Int)), (l.map shV).mapM (elemR (reify η 18)) = some (l.map shV) := fun η l => by
    induction l with
    | nil => rfl
    | cons a l ih => rw [List.map_cons, List.mapM_cons, elem_sv _ 13 a, ih]; rfl
  have h := reify_osX (n := 18) (η := h18 S) (k := 18) (g := 1) (e := 41) (s := 2) (xs := S.map shV) (m := S.length) (by simp) rfl
  rw [hm] at h
  show ([.os 18 1 S.length 2 0 S.length, ai 0].mapM (reify (h18 S) 19)).map AV.tup = _
  rw [List.mapM_cons, h]; rfl
end Go.Proofs.Ytkbeaheladmeiaa

set_option linter.unusedSimpArgs false
set_option linter.unusedVariables false
namespace Go.Proofs.Ytkbeaheladmeiaa
open Go Go.Proofs.Eng
set_option maxRecDepth 100000
set_option maxHeartbeats 4000000
def hT (T : List (List Int)) (r g : Nat) (q12 : Nat × Option Ob) : Heap := [(3, bx T), (11, (g, some ⟨3, 1, [ai r]⟩)), (12, q12)]
def hU (T : List (List Int)) (q11 q12 : Nat × Option Ob) : Heap := [(3, bx T), (11, q11), (12, q12)]
theorem call_17 : callable Try.prog 17 = true := by kernel_rfl
theorem call_21 : callable Try.prog 21 = true := by kernel_rfl
theorem call_24 : callable Try.prog 24 = true := by kernel_rfl
theorem reify_17 {Ps T : List (List Int)} {r c : Nat} {η : Heap} {f g g' : Nat} (h3 : Go.Proofs.Eng.look η 3 = bx T) (h11 : Go.Proofs.Eng.look η 11 = (g, some ⟨3, 1, [ai r]⟩)) (h12 : Go.Proofs.Eng.look η 12 = (g', some ⟨3, 1, [ai c]⟩)) :
    [aT Ps, .fn f [.o 11 g 1 0 0, .o 12 g' 1 0 0, .o 3 1 1 0 0]].mapM (reify η 20) = some [aT Ps, .fn f [.ptr (ai r), .ptr (ai c), .ptr (aT T)]] := by
  have h1 := reify_T Ps η 14
  have h2 : elemR (reify η 18) (aT T) = some (aT T) := reify_T T η 12
  have e1 : reify η 19 (.o 3 1 1 0 0) = some (.ptr (aT T)) := by rw [reify_box (n := 18) h3, h2]; rfl
  have e2 : reify η 19 (.o 11 g 1 0 0) = some (.ptr (ai r)) := by rw [reify_box (n := 18) h11]; rfl
  have e3 : reify η 19 (.o 12 g' 1 0 0) = some (.ptr (ai c)) := by rw [reify_box (n := 18) h12]; rfl
  have h4 : reify η 20 (.fn f [.o 11 g 1 0 0, .o 12 g' 1 0 0, .o 3 1 1 0 0]) = some (.fn f [.ptr (ai r), .ptr (ai c), .ptr (aT T)]) := by
    show ([.o 11 g 1 0 0, .o 12 g' 1 0 0, .o 3 1 1 0 0].mapM (reify η 19)).map (AV.fn f) = _
    simp only [List.mapM_cons, List.mapM_nil, e1, e2, e3]; rfl
  simp only [List.mapM_cons, List.mapM_nil, h1, h4]; rfl
theorem thrI {n : Nat} {T : List (List Int)} (hg : gT n T) (Ps : List (List Int)) (hPs : ∀ p, p ∈ Ps → okP n p) (hl : Ps.length ≤ 24) (SS : List (List Int × Int)) (k : Int) (r g : Nat) (hr : r < n) (hthr : ∀ c, c < n → (Ps.any fun p => decide (p.getD r 0 = (c : Int)) && decide (0 < wgt T p)) = decide (0 < cel T r c)) (K : List Fr) (Q : Out → Cfg → Prop)
    (hK : ∀ q12, ∀ j0 j1 j2 j6 j7 j9 j12 j13 j14 j15 j16 j17 j18 j19 j20 j21 j22 j23 j24 j25 j26 j27 j28 j29 j30 j31 j32 j33 j34 j35 j36 j37 j38 j39 j40 j41 j42 j43 j44 j45 j46 j47 j48 j49 j50 j51 j52 j53 j54 j55 j56 j57 j58 j59 j60 j61 j62 j63 j64 j65 j66 j69 j70 j73 j74 j75 j76 j77 j78 j79 j80 j81 j82 j83 j84 j85 j86 j87 j88 j89 j90 j91 j92 j93 j94 j95 j96 j97 j98 j99 j100 j101 j102 j103 j104 j105 j106 j107 j108 j109 j110 j111 j112 j113 j114 j115 j116 j117 j118 j119 j120 j121 j122 j123 j124 j125 j126 j127 j128 j129 j130 j131 j132 j133 j134 j135 j136 j137 j138 j139 j140 j141 j142 j143 j144 j145 j146 j147 j148 j149 j150 j151 j152 j153 j154 j155 j156 j157 j158 j159 j160 j161 j162 j163 j164 j165 j166 j167 j168 j169 j170 j171 j172 j173 j174 j175 j176 j177 j178 j179 j180 j181 j182 j183 j184 j185 j186 j187 j188 j189 j190 j191 j192 j193 j194 j195 j196 j197 j198 j199 j200 j201 j202 j203 j204 j205 j206 j207 j208 j209 j210 j211 j212 j213 j214 j215 j216 j217 j218 j219 j220 j221 : AV, W Try.prog (RelU Try.prog xf) 0 K ⟨(j0 :: j1 :: j2 :: (.o 3 1 1 0 0) :: (ai k) :: (ai n) :: j6 :: j7 :: (aSh false SS) :: j9 :: (aT Ps) :: (.o 11 g 1 0 0) :: j12 :: j13 :: j14 :: j15 :: j16 :: j17 :: j18 :: j19 :: j20 :: j21 :: j22 :: j23 :: j24 :: j25 :: j26 :: j27 :: j28 :: j29 :: j30 :: j31 :: j32 :: j33 :: j34 :: j35 :: j36 :: j37 :: j38 :: j39 :: j40 :: j41 :: j42 :: j43 :: j44 :: j45 :: j46 :: j47 :: j48 :: j49 :: j50 :: j51 :: j52 :: j53 :: j54 :: j55 :: j56 :: j57 :: j58 :: j59 :: j60 :: j61 :: j62 :: j63 :: j64 :: j65 :: j66 :: (ai n) :: (ai r) :: j69 :: j70 :: (ai n) :: (ai n) :: j73 :: j74 :: j75 :: j76 :: j77 :: j78 :: j79 :: j80 :: j81 :: j82 :: j83 :: j84 :: j85 :: j86 :: j87 :: j88 :: j89 :: j90 :: j91 :: j92 :: j93 :: j94 :: j95 :: j96 :: j97 :: j98 :: j99 :: j100 :: j101 :: j102 :: j103 :: j104 :: j105 :: j106 :: j107 :: j108 :: j109 :: j110 :: j111 :: j112 :: j113 :: j114 :: j115 :: j116 :: j117 :: j118 :: j119 :: j120 :: j121 :: j122 :: j123 :: j124 :: j125 :: j126 :: j127 :: j128 :: j129 :: j130 :: j131 :: j132 :: j133 :: j134 :: j135 :: j136 :: j137 :: j138 :: j139 :: j140 :: j141 :: j142 :: j143 :: j144 :: j145 :: j146 :: j147 :: j148 :: j149 :: j150 :: j151 :: j152 :: j153 :: j154 :: j155 :: j156 :: j157 :: j158 :: j159 :: j160 :: j161 :: j162 :: j163 :: j164 :: j165 :: j166 :: j167 :: j168 :: j169 :: j170 :: j171 :: j172 :: j173 :: j174 :: j175 :: j176 :: j177 :: j178 :: j179 :: j180 :: j181 :: j182 :: j183 :: j184 :: j185 :: j186 :: j187 :: j188 :: j189 :: j190 :: j191 :: j192 :: j193 :: j194 :: j195 :: j196 :: j197 :: j198 :: j199 :: j200 :: j201 :: j202 :: j203 :: j204 :: j205 :: j206 :: j207 :: j208 :: j209 :: j210 :: j211 :: j212 :: j213 :: j214 :: j215 :: j216 :: j217 :: j218 :: j219 :: j220 :: j221 :: []), hT T r g q12⟩ Q) :
    ∀ (m c : Nat), c + m = n → ∀ (g12 : Nat) (o12 : Option Ob), ∀ j0 j1 j2 j6 j7 j9 j12 j13 j14 j15 j16 j17 j18 j19 j20 j21 j22 j23 j24 j25 j26 j27 j28 j29 j30 j31 j32 j33 j34 j35 j36 j37 j38 j39 j40 j41 j42 j43 j44 j45 j46 j47 j48 j49 j50 j51 j52 j53 j54 j55 j56 j57 j58 j59 j60 j61 j62 j63 j64 j65 j66 j69 j70 j73 j74 j75 j76 j77 j78 j79 j80 j81 j82 j83 j84 j85 j86 j87 j88 j89 j90 j91 j92 j93 j94 j95 j96 j97 j98 j99 j100 j101 j102 j103 j104 j105 j106 j107 j108 j109 j110 j111 j112 j113 j114 j115 j116 j117 j118 j119 j120 j121 j122 j123 j124 j125 j126 j127 j128 j129 j130 j131 j132 j133 j134 j135 j136 j137 j138 j139 j140 j141 j142 j143 j144 j145 j146 j147 j148 j149 j150 j151 j152 j153 j154 j155 j156 j157 j158 j159 j160 j161 j162 j163 j164 j165 j166 j167 j168 j169 j170 j171 j172 j173 j174 j175 j176 j177 j178 j179 j180 j181 j182 j183 j184 j185 j186 j187 j188 j189 j190 j191 j192 j193 j194 j195 j196 j197 j198 j199 j200 j201 j202 j203 j204 j205 j206 j207 j208 j209 j210 j211 j212 j213 j214 j215 j216 j217 j218 j219 j220 j221 : AV, W Try.prog (RelU Try.prog xf) 0 (.code (.loop xf3_L0) :: .blk 2 :: .stop :: K) ⟨(j0 :: j1 :: j2 :: (.o 3 1 1 0 0) :: (ai k) :: (ai n) :: j6 :: j7 :: (aSh false SS) :: j9 :: (aT Ps) :: (.o 11 g 1 0 0) :: j12 :: j13 :: j14 :: j15 :: j16 :: j17 :: j18 :: j19 :: j20 :: j21 :: j22 :: j23 :: j24 :: j25 :: j26 :: j27 :: j28 :: j29 :: j30 :: j31 :: j32 :: j33 :: j34 :: j35 :: j36 :: j37 :: j38 :: j39 :: j40 :: j41 :: j42 :: j43 :: j44 :: j45 :: j46 :: j47 :: j48 :: j49 :: j50 :: j51 :: j52 :: j53 :: j54 :: j55 :: j56 :: j57 :: j58 :: j59 :: j60 :: j61 :: j62 :: j63 :: j64 :: j65 :: j66 :: (ai n) :: (ai r) :: j69 :: j70 :: (ai n) :: (ai c) :: j73 :: j74 :: j75 :: j76 :: j77 :: j78 :: j79 :: j80 :: j81 :: j82 :: j83 :: j84 :: j85 :: j86 :: j87 :: j88 :: j89 :: j90 :: j91 :: j92 :: j93 :: j94 :: j95 :: j96 :: j97 :: j98 :: j99 :: j100 :: j101 :: j102 :: j103 :: j104 :: j105 :: j106 :: j107 :: j108 :: j109 :: j110 :: j111 :: j112 :: j113 :: j114 :: j115 :: j116 :: j117 :: j118 :: j119 :: j120 :: j121 :: j122 :: j123 :: j124 :: j125 :: j126 :: j127 :: j128 :: j129 :: j130 :: j131 :: j132 :: j133 :: j134 :: j135 :: j136 :: j137 :: j138 :: j139 :: j140 :: j141 :: j142 :: j143 :: j144 :: j145 :: j146 :: j147 :: j148 :: j149 :: j150 :: j151 :: j152 :: j153 :: j154 :: j155 :: j156 :: j157 :: j158 :: j159 :: j160 :: j161 :: j162 :: j163 :: j164 :: j165 :: j166 :: j167 :: j168 :: j169 :: j170 :: j171 :: j172 :: j173 :: j174 :: j175 :: j176 :: j177 :: j178 :: j179 :: j180 :: j181 :: j182 :: j183 :: j184 :: j185 :: j186 :: j187 :: j188 :: j189 :: j190 :: j191 :: j192 :: j193 :: j194 :: j195 :: j196 :: j197 :: j198 :: j199 :: j200 :: j201 :: j202 :: j203 :: j204 :: j205 :: j206 :: j207 :: j208 :: j209 :: j210 :: j211 :: j212 :: j213 :: j214 :: j215 :: j216 :: j217 :: j218 :: j219 :: j220 :: j221 :: []), hT T r g (g12, o12)⟩ Q := by
  intro m
  induction m with
  | zero =>
    intro c hc g12 o12 j0 j1 j2 j6 j7 j9 j12 j13 j14 j15 j16 j17 j18 j19 j20 j21 j22 j23 j24 j25 j26 j27 j28 j29 j30 j31 j32 j33 j34 j35 j36 j37 j38 j39 j40 j41 j42 j43 j44 j45 j46 j47 j48 j49 j50 j51 j52 j53 j54 j55 j56 j57 j58 j59 j60 j61 j62 j63 j64 j65 j66 j69 j70 j73 j74 j75 j76 j77 j78 j79 j80 j81 j82 j83 j84 j85 j86 j87 j88 j89 j90 j91 j92 j93 j94 j95 j96 j97 j98 j99 j100 j101 j102 j103 j104 j105 j106 j107 j108 j109 j110 j111 j112 j113 j114 j115 j116 j117 j118 j119 j120 j121 j122 j123 j124 j125 j126 j127 j128 j129 j130 j131 j132 j133 j134 j135 j136 j137 j138 j139 j140 j141 j142 j143 j144 j145 j146 j147 j148 j149 j150 j151 j152 j153 j154 j155 j156 j157 j158 j159 j160 j161 j162 j163 j164 j165 j166 j167 j168 j169 j170 j171 j172 j173 j174 j175 j176 j177 j178 j179 j180 j181 j182 j183 j184 j185 j186 j187 j188 j189 j190 j191 j192 j193 j194 j195 j196 j197 j198 j199 j200 j201 j202 j203 j204 j205 j206 j207 j208 j209 j210 j211 j212 j213 j214 j215 j216 j217 j218 j219 j220 j221
    have : c = n := by omega
    subst this
    have h0 : decide (c < c) = false := by simp
    have hK := hK (g12, o12)
    generalize hT T r g (g12, o12) = hh at *
    generalize aSh false SS = ss at *
    refine W_loop (W_run 80 ?_)
    simp (maxSteps := 2000000) only [SA, Nat.reduceDiv, Nat.reduceSub, Nat.reduceAdd, Int.reduceLT, Int.reduceLE, Int.reduceToNat, Nat.reduceMul, Nat.reduceEqDiff, reduceCtorEq, Nat.reduceBEq, Nat.reduceLeDiff, Nat.reduceLT, xf3_L0, ai, lt_cast, h0]
    exact W_stop (hK _ _ _ _ _ _ _ _ _ _ _ _ _ _ _ _ _ _ _ _ _ _ _ _ _ _ _ _ _ _ _ _ _ _ _ _ _ _ _ _ _ _ _ _ _ _ _ _ _ _ _ _ _ _ _ _ _ _ _ _ _ _ _ _ _ _ _ _ _ _ _ _ _ _ _ _ _ _ _ _ _ _ _ _ _ _ _ _ _ _ _ _ _ _ _ _ _ _ _ _ _ _ _ _ _ _ _ _ _ _ _ _ _ _ _ _ _ _ _ _ _ _ _ _ _ _ _ _ _ _ _ _ _ _ _ _ _ _ _ _ _ _ _ _ _ _ _ _ _ _ _ _ _ _ _ _ _ _ _ _ _ _ _ _ _ _ _ _ _ _ _ _ _ _ _ _ _ _ _ _ _ _ _ _ _ _ _ _ _ _ _ _ _ _ _ _ _ _ _ _ _ _ _ _ _ _ _ _ _ _ _ _)
  | succ m ih =>
    intro c hc g12 o12 j0 j1 j2 j6 j7 j9 j12 j13 j14 j15 j16 j17 j18 j19 j20 j21 j22 j23 j24 j25 j26 j27 j28 j29 j30 j31 j32 j33 j34 j35 j36 j37 j38 j39 j40 j41 j42 j43 j44 j45 j46 j47 j48 j49 j50 j51 j52 j53 j54 j55 j56 j57 j58 j59 j60 j61 j62 j63 j64 j65 j66 j69 j70 j73 j74 j75 j76 j77 j78 j79 j80 j81 j82 j83 j84 j85 j86 j87 j88 j89 j90 j91 j92 j93 j94 j95 j96 j97 j98 j99 j100 j101 j102 j103 j104 j105 j106 j107 j108 j109 j110 j111 j112 j113 j114 j115 j116 j117 j118 j119 j120 j121 j122 j123 j124 j125 j126 j127 j128 j129 j130 j131 j132 j133 j134 j135 j136 j137 j138 j139 j140 j141 j142 j143 j144 j145 j146 j147 j148 j149 j150 j151 j152 j153 j154 j155 j156 j157 j158 j159 j160 j161 j162 j163 j164 j165 j166 j167 j168 j169 j170 j171 j172 j173 j174 j175 j176 j177 j178 j179 j180 j181 j182 j183 j184 j185 j186 j187 j188 j189 j190 j191 j192 j193 j194 j195 j196 j197 j198 j199 j200 j201 j202 j203 j204 j205 j206 j207 j208 j209 j210 j211 j212 j213 j214 j215 j216 j217 j218 j219 j220 j221
    have hcn : c < n := by omega
    have hn4 := hg.n4
    have h0 : decide (c < n) = true := decide_eq_true hcn
    have wc : IntKind.i64.wrap ((c : Int) + 1) = ((c + 1 : Nat) : Int) := by rw [wrap_id (by omega) (by omega)]; simp
    have hcall := cnT_run 17 [.ptr (ai r), .ptr (ai c), .ptr (aT T)] (noRefs_3 rfl rfl (noRef_T T)) call_17 (fun p => decide (p.getD r 0 = (c : Int)) && decide (0 < wgt T p)) Ps (by omega) fun p hp => c17_run hg (hPs p hp) hr hcn
    rw [hthr c hcn] at hcall
    have hgt := get_T (T := T) (i := r) (by rw [hg.len]; exact hr)
    have hrl := hg.rowlen hr
    have hTl : (r : Int) < (T.length : Int) := by rw [hg.len]; omega
    have hgc : ((T.getD r []).map ai)[c]? = some (ai (cel T r c)) := get_al (by omega)
    have hcl : (c : Int) < ((T.getD r []).length : Int) := by rw [hrl]; omega
    have hrf := fun η h3 h11 h12 => reify_17 (Ps := Ps) (T := T) (r := r) (c := c) (η := η) (f := 17) (g := g) (g' := g12 + 1) h3 h11 h12
    have next := ih (c + 1) (by omega) (g12 + 1) (some ⟨3, 1, [ai c]⟩)
    generalize aSh false SS = ss at *
    generalize T.getD r [] = R at *
    generalize cel T r c = y at *
    have hb : (decide (0 < y) != decide (0 < y)) = false := by simp
    refine W_loop (W_run 120 ?_)
    simp (maxSteps := 2000000) only [SA, Nat.reduceDiv, Nat.reduceSub, Nat.reduceAdd, Int.reduceLT, Int.reduceLE, Int.reduceToNat, Nat.reduceMul, Nat.reduceEqDiff, reduceCtorEq, Nat.reduceBEq, Nat.reduceLeDiff, Nat.reduceLT, xf3_L0, ai, aT, hT, bx, lt_cast, h0]
    refine W_look (fuel := 20) (args := [aT Ps, .fn 17 [.o 11 g 1 0 0, .o 12 (g12 + 1) 1 0 0, .o 3 1 1 0 0]]) (args' := [aT Ps, .fn 17 [.ptr (ai r), .ptr (ai c), .ptr (aT T)]]) rfl (hrf _ rfl rfl rfl) hcall rfl rfl (W_run 120 ?_)
    simp (maxSteps := 2000000) only [SA, Nat.reduceDiv, Nat.reduceSub, Nat.reduceAdd, Int.reduceLT, Int.reduceLE, Int.reduceToNat, Nat.reduceMul, Nat.reduceEqDiff, reduceCtorEq, Nat.reduceBEq, Nat.reduceLeDiff, Nat.reduceLT, ai, al, ab, aT, hgt, hTl, hgc, hcl, wc, raw_bne, rawN, opA, argT, Option.elim, toVal, hb, bne_self_eq_false]
    exact next _ _ _ _ _ _ _ _ _ _ _ _ _ _ _ _ _ _ _ _ _ _ _ _ _ _ _ _ _ _ _ _ _ _ _ _ _ _ _ _ _ _ _ _ _ _ _ _ _ _ _ _ _ _ _ _ _ _ _ _ _ _ _ _ _ _ _ _ _ _ _ _ _ _ _ _ _ _ _ _ _ _ _ _ _ _ _ _ _ _ _ _ _ _ _ _ _ _ _ _ _ _ _ _ _ _ _ _ _ _ _ _ _ _ _ _ _ _ _ _ _ _ _ _ _ _ _ _ _ _ _ _ _ _ _ _ _ _ _ _ _ _ _ _ _ _ _ _ _ _ _ _ _ _ _ _ _ _ _ _ _ _ _ _ _ _ _ _ _ _ _ _ _ _ _ _ _ _ _ _ _ _ _ _ _ _ _ _ _ _ _ _ _ _ _ _ _ _ _ _ _ _ _ _ _ _ _ _ _ _ _ _
theorem thrO {n : Nat} {T : List (List Int)} (hg : gT n T) (Ps : List (List Int)) (hPs : ∀ p, p ∈ Ps → okP n p) (hl : Ps.length ≤ 24) (SS : List (List Int × Int)) (k : Int) (hthr : ∀ r c, r < n → c < n → (Ps.any fun p => decide (p.getD r 0 = (c : Int)) && decide (0 < wgt T p)) = decide (0 < cel T r c)) (K : List Fr) (Q : Out → Cfg → Prop)
    (hK : ∀ q11 q12, ∀ j0 j1 j2 j6 j7 j9 j11 j12 j13 j14 j15 j16 j17 j18 j19 j20 j21 j22 j23 j24 j25 j26 j27 j28 j29 j30 j31 j32 j33 j34 j35 j36 j37 j38 j39 j40 j41 j42 j43 j44 j45 j46 j47 j48 j49 j50 j51 j52 j53 j54 j55 j56 j57 j58 j59 j60 j61 j62 j63 j64 j65 j66 j69 j70 j71 j72 j73 j74 j75 j76 j77 j78 j79 j80 j81 j82 j83 j84 j85 j86 j87 j88 j89 j90 j91 j92 j93 j94 j95 j96 j97 j98 j99 j100 j101 j102 j103 j104 j105 j106 j107 j108 j109 j110 j111 j112 j113 j114 j115 j116 j117 j118 j119 j120 j121 j122 j123 j124 j125 j126 j127 j128 j129 j130 j131 j132 j133 j134 j135 j136 j137 j138 j139 j140 j141 j142 j143 j144 j145 j146 j147 j148 j149 j150 j151 j152 j153 j154 j155 j156 j157 j158 j159 j160 j161 j162 j163 j164 j165 j166 j167 j168 j169 j170 j171 j172 j173 j174 j175 j176 j177 j178 j179 j180 j181 j182 j183 j184 j185 j186 j187 j188 j189 j190 j191 j192 j193 j194 j195 j196 j197 j198 j199 j200 j201 j202 j203 j204 j205 j206 j207 j208 j209 j210 j211 j212 j213 j214 j215 j216 j217 j218 j219 j220 j221 : AV, W Try.prog (RelU Try.prog xf) 0 K ⟨(j0 :: j1 :: j2 :: (.o 3 1 1 0 0) :: (ai k) :: (ai n) :: j6 :: j7 :: (aSh false SS) :: j9 :: (aT Ps) :: j11 :: j12 :: j13 :: j14 :: j15 :: j16 :: j17 :: j18 :: j19 :: j20 :: j21 :: j22 :: j23 :: j24 :: j25 :: j26 :: j27 :: j28 :: j29 :: j30 :: j31 :: j32 :: j33 :: j34 :: j35 :: j36 :: j37 :: j38 :: j39 :: j40 :: j41 :: j42 :: j43 :: j44 :: j45 :: j46 :: j47 :: j48 :: j49 :: j50 :: j51 :: j52 :: j53 :: j54 :: j55 :: j56 :: j57 :: j58 :: j59 :: j60 :: j61 :: j62 :: j63 :: j64 :: j65 :: j66 :: (ai n) :: (ai n) :: j69 :: j70 :: j71 :: j72 :: j73 :: j74 :: j75 :: j76 :: j77 :: j78 :: j79 :: j80 :: j81 :: j82 :: j83 :: j84 :: j85 :: j86 :: j87 :: j88 :: j89 :: j90 :: j91 :: j92 :: j93 :: j94 :: j95 :: j96 :: j97 :: j98 :: j99 :: j100 :: j101 :: j102 :: j103 :: j104 :: j105 :: j106 :: j107 :: j108 :: j109 :: j110 :: j111 :: j112 :: j113 :: j114 :: j115 :: j116 :: j117 :: j118 :: j119 :: j120 :: j121 :: j122 :: j123 :: j124 :: j125 :: j126 :: j127 :: j128 :: j129 :: j130 :: j131 :: j132 :: j133 :: j134 :: j135 :: j136 :: j137 :: j138 :: j139 :: j140 :: j141 :: j142 :: j143 :: j144 :: j145 :: j146 :: j147 :: j148 :: j149 :: j150 :: j151 :: j152 :: j153 :: j154 :: j155 :: j156 :: j157 :: j158 :: j159 :: j160 :: j161 :: j162 :: j163 :: j164 :: j165 :: j166 :: j167 :: j168 :: j169 :: j170 :: j171 :: j172 :: j173 :: j174 :: j175 :: j176 :: j177 :: j178 :: j179 :: j180 :: j181 :: j182 :: j183 :: j184 :: j185 :: j186 :: j187 :: j188 :: j189 :: j190 :: j191 :: j192 :: j193 :: j194 :: j195 :: j196 :: j197 :: j198 :: j199 :: j200 :: j201 :: j202 :: j203 :: j204 :: j205 :: j206 :: j207 :: j208 :: j209 :: j210 :: j211 :: j212 :: j213 :: j214 :: j215 :: j216 :: j217 :: j218 :: j219 :: j220 :: j221 :: []), hU T q11 q12⟩ Q) :
    ∀ (m r : Nat), r + m = n → ∀ (g11 : Nat) (o11 : Option Ob) (g12 : Nat) (o12 : Option Ob), ∀ j0 j1 j2 j6 j7 j9 j11 j12 j13 j14 j15 j16 j17 j18 j19 j20 j21 j22 j23 j24 j25 j26 j27 j28 j29 j30 j31 j32 j33 j34 j35 j36 j37 j38 j39 j40 j41 j42 j43 j44 j45 j46 j47 j48 j49 j50 j51 j52 j53 j54 j55 j56 j57 j58 j59 j60 j61 j62 j63 j64 j65 j66 j69 j70 j71 j72 j73 j74 j75 j76 j77 j78 j79 j80 j81 j82 j83 j84 j85 j86 j87 j88 j89 j90 j91 j92 j93 j94 j95 j96 j97 j98 j99 j100 j101 j102 j103 j104 j105 j106 j107 j108 j109 j110 j111 j112 j113 j114 j115 j116 j117 j118 j119 j120 j121 j122 j123 j124 j125 j126 j127 j128 j129 j130 j131 j132 j133 j134 j135 j136 j137 j138 j139 j140 j141 j142 j143 j144 j145 j146 j147 j148 j149 j150 j151 j152 j153 j154 j155 j156 j157 j158 j159 j160 j161 j162 j163 j164 j165 j166 j167 j168 j169 j170 j171 j172 j173 j174 j175 j176 j177 j178 j179 j180 j181 j182 j183 j184 j185 j186 j187 j188 j189 j190 j191 j192 j193 j194 j195 j196 j197 j198 j199 j200 j201 j202 j203 j204 j205 j206 j207 j208 j209 j210 j211 j212 j213 j214 j215 j216 j217 j218 j219 j220 j221 : AV, W Try.prog (RelU Try.prog xf) 0 (.code (.loop xf3_L1) :: .blk 0 :: .stop :: K) ⟨(j0 :: j1 :: j2 :: (.o 3 1 1 0 0) :: (ai k) :: (ai n) :: j6 :: j7 :: (aSh false SS) :: j9 :: (aT Ps) :: j11 :: j12 :: j13 :: j14 :: j15 :: j16 :: j17 :: j18 :: j19 :: j20 :: j21 :: j22 :: j23 :: j24 :: j25 :: j26 :: j27 :: j28 :: j29 :: j30 :: j31 :: j32 :: j33 :: j34 :: j35 :: j36 :: j37 :: j38 :: j39 :: j40 :: j41 :: j42 :: j43 :: j44 :: j45 :: j46 :: j47 :: j48 :: j49 :: j50 :: j51 :: j52 :: j53 :: j54 :: j55 :: j56 :: j57 :: j58 :: j59 :: j60 :: j61 :: j62 :: j63 :: j64 :: j65 :: j66 :: (ai n) :: (ai r) :: j69 :: j70 :: j71 :: j72 :: j73 :: j74 :: j75 :: j76 :: j77 :: j78 :: j79 :: j80 :: j81 :: j82 :: j83 :: j84 :: j85 :: j86 :: j87 :: j88 :: j89 :: j90 :: j91 :: j92 :: j93 :: j94 :: j95 :: j96 :: j97 :: j98 :: j99 :: j100 :: j101 :: j102 :: j103 :: j104 :: j105 :: j106 :: j107 :: j108 :: j109 :: j110 :: j111 :: j112 :: j113 :: j114 :: j115 :: j116 :: j117 :: j118 :: j119 :: j120 :: j121 :: j122 :: j123 :: j124 :: j125 :: j126 :: j127 :: j128 :: j129 :: j130 :: j131 :: j132 :: j133 :: j134 :: j135 :: j136 :: j137 :: j138 :: j139 :: j140 :: j141 :: j142 :: j143 :: j144 :: j145 :: j146 :: j147 :: j148 :: j149 :: j150 :: j151 :: j152 :: j153 :: j154 :: j155 :: j156 :: j157 :: j158 :: j159 :: j160 :: j161 :: j162 :: j163 :: j164 :: j165 :: j166 :: j167 :: j168 :: j169 :: j170 :: j171 :: j172 :: j173 :: j174 :: j175 :: j176 :: j177 :: j178 :: j179 :: j180 :: j181 :: j182 :: j183 :: j184 :: j185 :: j186 :: j187 :: j188 :: j189 :: j190 :: j191 :: j192 :: j193 :: j194 :: j195 :: j196 :: j197 :: j198 :: j199 :: j200 :: j201 :: j202 :: j203 :: j204 :: j205 :: j206 :: j207 :: j208 :: j209 :: j210 :: j211 :: j212 :: j213 :: j214 :: j215 :: j216 :: j217 :: j218 :: j219 :: j220 :: j221 :: []), hU T (g11, o11) (g12, o12)⟩ Q := by
  intro m
  induction m with
  | zero =>
    intro r hr g11 o11 g12 o12 j0 j1 j2 j6 j7 j9 j11 j12 j13 j14 j15 j16 j17 j18 j19 j20 j21 j22 j23 j24 j25 j26 j27 j28 j29 j30 j31 j32 j33 j34 j35 j36 j37 j38 j39 j40 j41 j42 j43 j44 j45 j46 j47 j48 j49 j50 j51 j52 j53 j54 j55 j56 j57 j58 j59 j60 j61 j62 j63 j64 j65 j66 j69 j70 j71 j72 j73 j74 j75 j76 j77 j78 j79 j80 j81 j82 j83 j84 j85 j86 j87 j88 j89 j90 j91 j92 j93 j94 j95 j96 j97 j98 j99 j100 j101 j102 j103 j104 j105 j106 j107 j108 j109 j110 j111 j112 j113 j114 j115 j116 j117 j118 j119 j120 j121 j122 j123 j124 j125 j126 j127 j128 j129 j130 j131 j132 j133 j134 j135 j136 j137 j138 j139 j140 j141 j142 j143 j144 j145 j146 j147 j148 j149 j150 j151 j152 j153 j154 j155 j156 j157 j158 j159 j160 j161 j162 j163 j164 j165 j166 j167 j168 j169 j170 j171 j172 j173 j174 j175 j176 j177 j178 j179 j180 j181 j182 j183 j184 j185 j186 j187 j188 j189 j190 j191 j192 j193 j194 j195 j196 j197 j198 j199 j200 j201 j202 j203 j204 j205 j206 j207 j208 j209 j210 j211 j212 j213 j214 j215 j216 j217 j218 j219 j220 j221
    have : r = n := by omega
    subst this
    have h0 : decide (r < r) = false := by simp
    have hK := hK (g11, o11) (g12, o12)
    generalize hU T (g11, o11) (g12, o12) = hh at *
    generalize aSh false SS = ss at *
    refine W_loop (W_run 80 ?_)
    simp (maxSteps := 2000000) only [SA, Nat.reduceDiv, Nat.reduceSub, Nat.reduceAdd, Int.reduceLT, Int.reduceLE, Int.reduceToNat, Nat.reduceMul, Nat.reduceEqDiff, reduceCtorEq, Nat.reduceBEq, Nat.reduceLeDiff, Nat.reduceLT, xf3_L1, ai, lt_cast, h0]
    exact W_stop (hK _ _ _ _ _ _ _ _ _ _ _ _ _ _ _ _ _ _ _ _ _ _ _ _ _ _ _ _ _ _ _ _ _ _ _ _ _ _ _ _ _ _ _ _ _ _ _ _ _ _ _ _ _ _ _ _ _ _ _ _ _ _ _ _ _ _ _ _ _ _ _ _ _ _ _ _ _ _ _ _ _ _ _ _ _ _ _ _ _ _ _ _ _ _ _ _ _ _ _ _ _ _ _ _ _ _ _ _ _ _ _ _ _ _ _ _ _ _ _ _ _ _ _ _ _ _ _ _ _ _ _ _ _ _ _ _ _ _ _ _ _ _ _ _ _ _ _ _ _ _ _ _ _ _ _ _ _ _ _ _ _ _ _ _ _ _ _ _ _ _ _ _ _ _ _ _ _ _ _ _ _ _ _ _ _ _ _ _ _ _ _ _ _ _ _ _ _ _ _ _ _ _ _ _ _ _ _ _ _ _ _ _ _ _ _)
  | succ m ih =>
    intro r hr g11 o11 g12 o12 j0 j1 j2 j6 j7 j9 j11 j12 j13 j14 j15 j16 j17 j18 j19 j20 j21 j22 j23 j24 j25 j26 j27 j28 j29 j30 j31 j32 j33 j34 j35 j36 j37 j38 j39 j40 j41 j42 j43 j44 j45 j46 j47 j48 j49 j50 j51 j52 j53 j54 j55 j56 j57 j58 j59 j60 j61 j62 j63 j64 j65 j66 j69 j70 j71 j72 j73 j74 j75 j76 j77 j78 j79 j80 j81 j82 j83 j84 j85 j86 j87 j88 j89 j90 j91 j92 j93 j94 j95 j96 j97 j98 j99 j100 j101 j102 j103 j104 j105 j106 j107 j108 j109 j110 j111 j112 j113 j114 j115 j116 j117 j118 j119 j120 j121 j122 j123 j124 j125 j126 j127 j128 j129 j130 j131 j132 j133 j134 j135 j136 j137 j138 j139 j140 j141 j142 j143 j144 j145 j146 j147 j148 j149 j150 j151 j152 j153 j154 j155 j156 j157 j158 j159 j160 j161 j162 j163 j164 j165 j166 j167 j168 j169 j170 j171 j172 j173 j174 j175 j176 j177 j178 j179 j180 j181 j182 j183 j184 j185 j186 j187 j188 j189 j190 j191 j192 j193 j194 j195 j196 j197 j198 j199 j200 j201 j202 j203 j204 j205 j206 j207 j208 j209 j210 j211 j212 j213 j214 j215 j216 j217 j218 j219 j220 j221
    have hrn : r < n := by omega
    have hn4 := hg.n4
    have h0 : decide (r < n) = true := decide_eq_true hrn
    have wr : IntKind.i64.wrap ((r : Int) + 1) = ((r + 1 : Nat) : Int) := by rw [wrap_id (by omega) (by omega)]; simp
    have hin := fun (K : List Fr) (Q : Out → Cfg → Prop) => thrI hg Ps hPs hl SS k r (g11 + 1) hrn (fun c hc => hthr r c hrn hc) K Q
    have next := fun q12 : Nat × Option Ob => ih (r + 1) (by omega) (g11 + 1) (some ⟨3, 1, [ai r]⟩) q12.1 q12.2
    refine W_loop (W_run 120 ?_)
    generalize hss : aSh false SS = ss at *
    simp (maxSteps := 2000000) only [SA, Nat.reduceDiv, Nat.reduceSub, Nat.reduceAdd, Int.reduceLT, Int.reduceLE, Int.reduceToNat, Nat.reduceMul, Nat.reduceEqDiff, reduceCtorEq, Nat.reduceBEq, Nat.reduceLeDiff, Nat.reduceLT, xf3_L1, ai, aT, hU, bx, lt_cast, h0]
    refine W_alone (hin _ _ (fun q12 j0 j1 j2 j6 j7 j9 j12 j13 j14 j15 j16 j17 j18 j19 j20 j21 j22 j23 j24 j25 j26 j27 j28 j29 j30 j31 j32 j33 j34 j35 j36 j37 j38 j39 j40 j41 j42 j43 j44 j45 j46 j47 j48 j49 j50 j51 j52 j53 j54 j55 j56 j57 j58 j59 j60 j61 j62 j63 j64 j65 j66 j69 j70 j73 j74 j75 j76 j77 j78 j79 j80 j81 j82 j83 j84 j85 j86 j87 j88 j89 j90 j91 j92 j93 j94 j95 j96 j97 j98 j99 j100 j101 j102 j103 j104 j105 j106 j107 j108 j109 j110 j111 j112 j113 j114 j115 j116 j117 j118 j119 j120 j121 j122 j123 j124 j125 j126 j127 j128 j129 j130 j131 j132 j133 j134 j135 j136 j137 j138 j139 j140 j141 j142 j143 j144 j145 j146 j147 j148 j149 j150 j151 j152 j153 j154 j155 j156 j157 j158 j159 j160 j161 j162 j163 j164 j165 j166 j167 j168 j169 j170 j171 j172 j173 j174 j175 j176 j177 j178 j179 j180 j181 j182 j183 j184 j185 j186 j187 j188 j189 j190 j191 j192 j193 j194 j195 j196 j197 j198 j199 j200 j201 j202 j203 j204 j205 j206 j207 j208 j209 j210 j211 j212 j213 j214 j215 j216 j217 j218 j219 j220 j221 => W_run 80 ?_) n 0 (by omega) g12 o12 _ _ _ _ _ _ _ _ _ _ _ _ _ _ _ _ _ _ _ _ _ _ _ _ _ _ _ _ _ _ _ _ _ _ _ _ _ _ _ _ _ _ _ _ _ _ _ _ _ _ _ _ _ _ _ _ _ _ _ _ _ _ _ _ _ _ _ _ _ _ _ _ _ _ _ _ _ _ _ _ _ _ _ _ _ _ _ _ _ _ _ _ _ _ _ _ _ _ _ _ _ _ _ _ _ _ _ _ _ _ _ _ _ _ _ _ _ _ _ _ _ _ _ _ _ _ _ _ _ _ _ _ _ _ _ _ _ _ _ _ _ _ _ _ _ _ _ _ _ _ _ _ _ _ _ _ _ _ _ _ _ _ _ _ _ _ _ _ _ _ _ _ _ _ _ _ _ _ _ _ _ _ _ _ _ _ _ _ _ _ _ _ _ _ _ _ _ _ _ _ _ _ _ _ _ _ _ _ _ _ _ _)
    simp (maxSteps := 2000000) only [SA, Nat.reduceDiv, Nat.reduceSub, Nat.reduceAdd, Int.reduceLT, Int.reduceLE, Int.reduceToNat, Nat.reduceMul, Nat.reduceEqDiff, reduceCtorEq, Nat.reduceBEq, Nat.reduceLeDiff, Nat.reduceLT, xf3_R0, ai, wr]
    exact next q12 _ _ _ _ _ _ _ _ _ _ _ _ _ _ _ _ _ _ _ _ _ _ _ _ _ _ _ _ _ _ _ _ _ _ _ _ _ _ _ _ _ _ _ _ _ _ _ _ _ _ _ _ _ _ _ _ _ _ _ _ _ _ _ _ _ _ _ _ _ _ _ _ _ _ _ _ _ _ _ _ _ _ _ _ _ _ _ _ _ _ _ _ _ _ _ _ _ _ _ _ _ _ _ _ _ _ _ _ _ _ _ _ _ _ _ _ _ _ _ _ _ _ _ _ _ _ _ _ _ _ _ _ _ _ _ _ _ _ _ _ _ _ _ _ _ _ _ _ _ _ _ _ _ _ _ _ _ _ _ _ _ _ _ _ _ _ _ _ _ _ _ _ _ _ _ _ _ _ _ _ _ _ _ _ _ _ _ _ _ _ _ _ _ _ _ _ _ _ _ _ _ _ _ _ _ _ _ _ _ _ _ _ _ _ _
/-! ### a row of the table that is taken away from -/
theorem rerow {η : Heap} {k e m f : Nat} {R : List Int} (hm : R.length = m) (hk : Go.Proofs.Eng.look η k = (1, some ⟨e, 1, R.map ai⟩)) : elemR (reify η (f + 2)) (.os k 1 m 1 0 m) = some (al false R) := by
  subst hm
  exact reify_os (n := f + 1) (elem_ai η f) hk
theorem reify_S (S : List (List Int × Int)) (fl : Bool) (η : Heap) : reify η 20 (aSh fl S) = some (aSh fl S) := by
  have h : ∀ l : List (List Int × Int), (l.map shV).mapM (elemR (reify η 19)) = some (l.map shV) := fun l => by
    induction l with
    | nil => rfl
    | cons a l ih => rw [List.map_cons, List.mapM_cons, elem_sv η 14 a, ih]; rfl
  show Option.map (AV.sl 2 fl) ((S.map shV).mapM (elemR (reify η 19))) = _
  rw [h]; rfl
theorem reify_24 {A : List (List Int × Int)} {fl : Bool} {x : List Int × Int} {η : Heap} {f g : Nat} (h18 : Go.Proofs.Eng.look η 18 = (g, some ⟨41, 2, [.ag [al false x.1, ai x.2]]⟩)) :
    [aSh fl A, .fn f [.o 18 g 1 0 0]].mapM (reify η 20) = some [aSh fl A, .fn f [.ptr (shV x)]] := by
  have h1 := reify_S A fl η
  have h2 : elemR (reify η 18) (.ag [al false x.1, ai x.2]) = some (shV x) := elem_sv η 13 x
  have e1 : reify η 19 (.o 18 g 1 0 0) = some (.ptr (shV x)) := by rw [reify_box (n := 18) h18, h2]; rfl
  have h4 : reify η 20 (.fn f [.o 18 g 1 0 0]) = some (.fn f [.ptr (shV x)]) := by
    show ([.o 18 g 1 0 0].mapM (reify η 19)).map (AV.fn f) = _
    simp only [List.mapM_cons, List.mapM_nil, e1]; rfl
  simp only [List.mapM_cons, List.mapM_nil, h1, h4]; rfl
theorem reify_21 {Ps M : List (List Int)} {y : AV} {η : Heap} {f : Nat} (h14 : Go.Proofs.Eng.look η 14 = (1, some ⟨26, 1, [y]⟩)) (hy : elemR (reify η 18) y = some (aT M)) :
    [aT Ps, .fn f [.o 14 1 1 0 0]].mapM (reify η 20) = some [aT Ps, .fn f [.ptr (aT M)]] := by
  have h1 := reify_T Ps η 14
  have e1 : reify η 19 (.o 14 1 1 0 0) = some (.ptr (aT M)) := by rw [reify_box (n := 18) h14, hy]; rfl
  have h4 : reify η 20 (.fn f [.o 14 1 1 0 0]) = some (.fn f [.ptr (aT M)]) := by
    show ([.o 14 1 1 0 0].mapM (reify η 19)).map (AV.fn f) = _
    simp only [List.mapM_cons, List.mapM_nil, e1]; rfl
  simp only [List.mapM_cons, List.mapM_nil, h1, h4]; rfl
/-! ### what Bar returns at an even table -/
theorem bar_zer : ∀ n, n ≤ 4 → 1 ≤ n → withP n (zerT n) = [] := by decide +kernel
theorem bar_ev {n : Nat} {T : List (List Int)} {k : Int} (hg : gT n T) (he : EvT n T k) (h0 : 0 ≤ k) : ∃ x y, barV n T = .tup [x, y, ai (if 0 < k then 13 else 0)] ∧ noRef x = true ∧ noRef y = true := by
  by_cases hk : 0 < k
  · have hb := (bar_iff hg).2 (ev_plan hg he hk)
    refine ⟨nilA, nilA, ?_, rfl, rfl⟩
    unfold barV
    rw [hb, if_pos hk]
  · have hk0 : k = 0 := by omega
    subst hk0
    have hT := ev_zero hg he
    have hb : barF n T ≠ none := fun q => by
      have := (bar_iff hg).1 q
      rw [hT, bar_zer n hg.n4 hg.n1] at this
      exact this rfl
    cases hbf : barF n T with
    | none => exact absurd hbf hb
    | some l =>
      refine ⟨lv l, al false (zerC n T l), ?_, (lv_isL l).ref, noRef_al _ _⟩
      unfold barV
      rw [hbf, if_neg hk]
theorem emD_1 : Runs Try.prog xf 19 [ai 1] (aT (zerT 1)) := Runs.exec (fr := fun _ => false) (fuel := 1000) 20 (by kernel_rfl)
theorem emD_2 : Runs Try.prog xf 19 [ai 2] (aT (zerT 2)) := Runs.exec (fr := fun _ => false) (fuel := 1000) 20 (by kernel_rfl)
theorem emD_3 : Runs Try.prog xf 19 [ai 3] (aT (zerT 3)) := Runs.exec (fr := fun _ => false) (fuel := 1000) 20 (by kernel_rfl)
theorem emD_4 : Runs Try.prog xf 19 [ai 4] (aT (zerT 4)) := Runs.exec (fr := fun _ => false) (fuel := 1000) 20 (by kernel_rfl)
end Go.Proofs.Ytkbeaheladmeiaa

