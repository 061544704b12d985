/-
  Even tables are added up by plans (mathematics).
-/
import Derived.Test.YtkbeaheladmeiaaPH
set_option linter.unusedSimpArgs false
set_option linter.unusedVariables false
namespace Go.Proofs.Ytkbeaheladmeiaa
open Go Go.Proofs.Eng
set_option maxRecDepth 100000
set_option maxHeartbeats 4000000
theorem sumI_append (a b : List Int) : sumI (a ++ b) = sumI a + sumI b := by
  induction a with
  | nil => rw [List.nil_append, sumI_nil]; omega
  | cons x a ih => rw [List.cons_append, sumI_cons, sumI_cons, ih]; omega
theorem sum_add {α : Type} (f g : α → Int) : ∀ l : List α, sumI (l.map fun x => f x + g x) = sumI (l.map f) + sumI (l.map g)
  | [] => rfl
  | x :: l => by rw [List.map_cons, List.map_cons, List.map_cons, sumI_cons, sumI_cons, sumI_cons, sum_add f g l]; omega
theorem sum_const {α : Type} (k : Int) : ∀ l : List α, sumI (l.map fun _ => k) = k * l.length
  | [] => by simp [sumI]
  | x :: l => by
    rw [List.map_cons, sumI_cons, sum_const k l, List.length_cons, show (((l.length + 1 : Nat)) : Int) = (l.length : Int) + 1 by omega, Int.mul_add]; omega
theorem sum_swap {α β : Type} (f : α → β → Int) : ∀ (A : List α) (N : List β), sumI (A.map fun r => sumI (N.map (f r))) = sumI (N.map fun c => sumI (A.map fun r => f r c))
  | [], N => by
    show (0 : Int) = sumI (N.map fun _ => 0)
    rw [sum_const]; omega
  | r :: A, N => by
    rw [List.map_cons, sumI_cons, sum_swap f A N, ← sum_add]
    congr 1
    exact List.map_congr_left fun c _ => by rw [List.map_cons, sumI_cons]
theorem range_getD {α : Type} (l : List α) (d : α) : (List.range l.length).map (fun i => l.getD i d) = l := by
  apply List.ext_getElem?
  intro j
  rw [List.getElem?_map]
  by_cases h : j < l.length
  · rw [List.getElem?_range h, getD_at (d := d) h]; rfl
  · rw [List.getElem?_eq_none (by rw [List.length_range]; omega), List.getElem?_eq_none (by omega)]; rfl
theorem row_sum {n : Nat} {T : List (List Int)} (hg : gT n T) {r : Nat} (hr : r < n) : sumI (T.getD r []) = sumI ((List.range n).map fun c => cel T r c) := by
  have := range_getD (T.getD r []) 0
  rw [hg.rowlen hr] at this
  exact congrArg sumI (this.symm.trans (List.map_congr_left fun c _ => rfl))
structure StepF (n : Nat) (T : List (List Int)) (k : Int) (p : List Int) (m : Int) : Prop where
  pl : p ∈ plL n
  ok : okP n p
  m1 : 1 ≤ m
  mle : m ≤ k
  m9 : m ≤ 9
  g2 : gT n (addT T p (-m))
  e2 : EvT n (addT T p (-m)) (k - m)
  ce : ∀ r c, r < n → c < n → cel (addT T p (-m)) r c = cel T r c - if decide ((p.getD r 0).toNat = c) = true then m else 0
  wt : ∃ r, r < n ∧ cel (addT T p (-m)) r (p.getD r 0).toNat = 0
theorem tab_ext {n : Nat} {T S : List (List Int)} (hT : T.length = n) (hTr : ∀ R, R ∈ T → R.length = n) (hS : S.length = n) (hSr : ∀ R, R ∈ S → R.length = n) (h : ∀ r c, r < n → c < n → cel T r c = cel S r c) : T = S := by
  have e1 := range_getD T []
  have e2 := range_getD S []
  rw [hT] at e1
  rw [hS] at e2
  rw [← e1, ← e2]
  refine List.map_congr_left fun r hr => ?_
  have hr := List.mem_range.1 hr
  have l1 := hTr _ (getD_mem (d := []) (l := T) (i := r) (by omega))
  have l2 := hSr _ (getD_mem (d := []) (l := S) (i := r) (by omega))
  have f1 := range_getD (T.getD r []) 0
  have f2 := range_getD (S.getD r []) 0
  rw [l1] at f1
  rw [l2] at f2
  rw [← f1, ← f2]
  exact List.map_congr_left fun c hc => h r c hr (List.mem_range.1 hc)
end Go.Proofs.Ytkbeaheladmeiaa

set_option linter.unusedSimpArgs false
set_option linter.unusedVariables false
namespace Go.Proofs.Ytkbeaheladmeiaa
open Go Go.Proofs.Eng
set_option maxRecDepth 100000
set_option maxHeartbeats 4000000
/-! ### same at two lists as long as one another -/
/-! ### the law's closures -/
/-! ### Split -/
end Go.Proofs.Ytkbeaheladmeiaa

set_option linter.unusedSimpArgs false
set_option linter.unusedVariables false
namespace Go.Proofs.Ytkbeaheladmeiaa
open Go Go.Proofs.Eng
set_option maxRecDepth 100000
set_option maxHeartbeats 4000000
theorem sumI_perm {a b : List Int} (h : a.Perm b) : sumI a = sumI b := by
  induction h with
  | nil => rfl
  | cons x _ ih => rw [sumI_cons, sumI_cons, ih]
  | swap x y l => rw [sumI_cons, sumI_cons, sumI_cons, sumI_cons]; omega
  | trans _ _ i1 i2 => exact i1.trans i2
theorem prI_cons (x : Int) (l : List Int) : prI (x :: l) = x * prI l := by
  have key : ∀ (l : List Int) (a : Int), l.foldl (· * ·) a = a * l.foldl (· * ·) 1 := by
    intro l
    induction l with
    | nil => intro a; simp
    | cons y t ih => intro a; rw [List.foldl_cons, List.foldl_cons, ih (a * y), ih (1 * y), Int.one_mul, Int.mul_assoc]
  unfold prI
  rw [List.foldl_cons, key l (1 * x), Int.one_mul]
theorem prI_perm {a b : List Int} (h : a.Perm b) : prI a = prI b := by
  induction h with
  | nil => rfl
  | cons x _ ih => rw [prI_cons, prI_cons, ih]
  | swap x y l => rw [prI_cons, prI_cons, prI_cons, prI_cons, Int.mul_left_comm]
  | trans _ _ i1 i2 => exact i1.trans i2
theorem mnF_perm {a b : List Int} (h : a.Perm b) : mnF a = mnF b := by
  by_cases hb : b = []
  · subst hb; rw [h.eq_nil]
  · have ha : a ≠ [] := fun e => hb (by subst e; exact h.symm.eq_nil)
    have h1 := mnF_ge ha fun x hx => mnF_le (h.mem_iff.1 hx)
    have h2 := mnF_ge hb fun x hx => mnF_le (h.mem_iff.2 hx)
    omega
/-- a plan that goes where cells go -/
structure Rel (n : Nat) (s1 s2 : Nat → Nat → Nat) (f : List Int → List Int) : Prop where
  pl : ∀ y, y ∈ plL n → f y ∈ plL n
  at_ : ∀ y, y ∈ plL n → ∀ r, r < n → ∀ c, c < n → s1 r c < n ∧ s2 r c < n ∧ ((f y).getD (s1 r c) 0 = (s2 r c : Int) ↔ y.getD r 0 = (c : Int))
  rows : ∀ y, y ∈ plL n → ((List.range n).map fun r => s1 r (y.getD r 0).toNat).Perm (List.range n)
  all : ((plL n).map f).Perm (plL n)
def RT (n : Nat) (s1 s2 : Nat → Nat → Nat) (T S : List (List Int)) : Prop := ∀ r c, r < n → c < n → cel S (s1 r c) (s2 r c) = cel T r c
def ivL (p : List Int) (r : Nat) : Nat := p.idxOf (r : Int)
def rowF (n : Nat) (p y : List Int) : List Int := (List.range n).map fun r => y.getD (ivL p r) 0
def colF (n : Nat) (y : List Int) : List Int := (List.range n).map fun c => ((ivL y c : Nat) : Int)
def rowB (n : Nat) (p : List Int) : Bool := ((plL n).all fun y => decide (rowF n p y ∈ plL n) && (((List.range n).all fun r => (List.range n).all fun c => decide ((p.getD r 0).toNat < n) && (decide ((rowF n p y).getD (p.getD r 0).toNat 0 = (c : Int)) == decide (y.getD r 0 = (c : Int)))) && ((List.range n).map fun r => (p.getD r 0).toNat).isPerm (List.range n))) && ((plL n).map (rowF n p)).isPerm (plL n)
def colB (n : Nat) : Bool := ((plL n).all fun y => decide (colF n y ∈ plL n) && (((List.range n).all fun r => (List.range n).all fun c => (decide ((colF n y).getD c 0 = (r : Int)) == decide (y.getD r 0 = (c : Int)))) && ((List.range n).map fun r => (y.getD r 0).toNat).isPerm (List.range n))) && ((plL n).map (colF n)).isPerm (plL n)
theorem row_decB : ∀ n, n ≤ 4 → 1 ≤ n → (plL n).all (rowB n) = true := by decide +kernel
theorem col_decB : ∀ n, n ≤ 4 → 1 ≤ n → colB n = true := by decide +kernel
theorem row_dec (n : Nat) (h4 : n ≤ 4) (h1 : 1 ≤ n) (p : List Int) (hp : p ∈ plL n) : (∀ y, y ∈ plL n → rowF n p y ∈ plL n ∧ (∀ r, r < n → ∀ c, c < n → (p.getD r 0).toNat < n ∧ c < n ∧ ((rowF n p y).getD (p.getD r 0).toNat 0 = (c : Int) ↔ y.getD r 0 = (c : Int))) ∧ ((List.range n).map fun r => (p.getD r 0).toNat).isPerm (List.range n) = true) ∧ ((plL n).map (rowF n p)).isPerm (plL n) = true := by
  have h := (List.all_eq_true.1 (row_decB n h4 h1)) p hp
  unfold rowB at h
  rw [Bool.and_eq_true, List.all_eq_true] at h
  refine ⟨fun y hy => ?_, h.2⟩
  have hy := h.1 y hy
  rw [Bool.and_eq_true, Bool.and_eq_true, List.all_eq_true] at hy
  refine ⟨of_decide_eq_true hy.1, fun r hr c hc => ?_, hy.2.2⟩
  have hrc := (List.all_eq_true.1 (hy.2.1 r (List.mem_range.2 hr))) c (List.mem_range.2 hc)
  rw [Bool.and_eq_true] at hrc
  exact ⟨of_decide_eq_true hrc.1, hc, decide_eq_decide.1 (beq_iff_eq.1 hrc.2)⟩
theorem col_dec (n : Nat) (h4 : n ≤ 4) (h1 : 1 ≤ n) : (∀ y, y ∈ plL n → colF n y ∈ plL n ∧ (∀ r, r < n → ∀ c, c < n → ((colF n y).getD c 0 = (r : Int) ↔ y.getD r 0 = (c : Int))) ∧ ((List.range n).map fun r => (y.getD r 0).toNat).isPerm (List.range n) = true) ∧ ((plL n).map (colF n)).isPerm (plL n) = true := by
  have h := col_decB n h4 h1
  unfold colB at h
  rw [Bool.and_eq_true, List.all_eq_true] at h
  refine ⟨fun y hy => ?_, h.2⟩
  have hy := h.1 y hy
  rw [Bool.and_eq_true, Bool.and_eq_true, List.all_eq_true] at hy
  refine ⟨of_decide_eq_true hy.1, fun r hr c hc => ?_, hy.2.2⟩
  have hrc := (List.all_eq_true.1 (hy.2.1 r (List.mem_range.2 hr))) c (List.mem_range.2 hc)
  exact decide_eq_decide.1 (beq_iff_eq.1 hrc)
def ivB (n : Nat) (p : List Int) : Bool := ((List.range n).all fun r => decide (ivL p r < n) && (decide (ivL p (p.getD r 0).toNat = r) && decide ((p.getD (ivL p r) 0).toNat = r))) && ((List.range n).map (ivL p)).isPerm (List.range n)
theorem iv_decB : ∀ n, n ≤ 4 → 1 ≤ n → (plL n).all (ivB n) = true := by decide +kernel
theorem iv_dec (n : Nat) (h4 : n ≤ 4) (h1 : 1 ≤ n) (p : List Int) (hp : p ∈ plL n) : (∀ r, r < n → ivL p r < n ∧ ivL p (p.getD r 0).toNat = r ∧ (p.getD (ivL p r) 0).toNat = r) ∧ ((List.range n).map (ivL p)).isPerm (List.range n) = true := by
  have h := (List.all_eq_true.1 (iv_decB n h4 h1)) p hp
  unfold ivB at h
  rw [Bool.and_eq_true, List.all_eq_true] at h
  refine ⟨fun r hr => ?_, h.2⟩
  have h := h.1 r (List.mem_range.2 hr)
  rw [Bool.and_eq_true, Bool.and_eq_true] at h
  exact ⟨of_decide_eq_true h.1, of_decide_eq_true h.2.1, of_decide_eq_true h.2.2⟩
theorem rel_row {n : Nat} (h1 : 1 ≤ n) (h4 : n ≤ 4) {p : List Int} (hp : p ∈ plL n) : Rel n (fun r _ => (p.getD r 0).toNat) (fun _ c => c) (rowF n p) :=
  have h := row_dec n h4 h1 p hp
  ⟨fun y hy => (h.1 y hy).1, fun y hy => (h.1 y hy).2.1, fun y hy => List.isPerm_iff.1 (h.1 y hy).2.2, List.isPerm_iff.1 h.2⟩
theorem rel_col {n : Nat} (h1 : 1 ≤ n) (h4 : n ≤ 4) : Rel n (fun _ c => c) (fun r _ => r) (colF n) :=
  have h := col_dec n h4 h1
  ⟨fun y hy => (h.1 y hy).1, fun y hy r hr c hc => ⟨hc, hr, (h.1 y hy).2.1 r hr c hc⟩, fun y hy => List.isPerm_iff.1 (h.1 y hy).2.2, List.isPerm_iff.1 h.2⟩
theorem rel_nums {n : Nat} (h1 : 1 ≤ n) (h4 : n ≤ 4) {s1 s2 : Nat → Nat → Nat} {f : List Int → List Int} (hR : Rel n s1 s2 f) {T S : List (List Int)} (hT : RT n s1 s2 T S) {y : List Int} (hy : y ∈ plL n) : (nums S (f y)).Perm (nums T y) := by
  have hok := plL_len h1 h4 y hy
  have hfy := plL_len h1 h4 _ (hR.pl y hy)
  unfold nums
  rw [hfy.1, hok.1]
  refine ((hR.rows y hy).map fun r' => cel S r' ((f y).getD r' 0).toNat).symm.trans ?_
  rw [List.map_map]
  refine List.Perm.of_eq (List.map_congr_left fun r hr => ?_)
  have hr := List.mem_range.1 hr
  have hc := hok.2.1 _ (getD_mem (d := 0) (l := y) (i := r) (by rw [hok.1]; exact hr))
  obtain ⟨a1, a2, a3⟩ := hR.at_ y hy r hr (y.getD r 0).toNat (by omega)
  have e := a3.2 (by omega)
  show cel S (s1 r (y.getD r 0).toNat) ((f y).getD (s1 r (y.getD r 0).toNat) 0).toNat = _
  rw [e, Int.toNat_natCast]
  exact hT r _ hr (by omega)
theorem rel_wgt {n : Nat} (h1 : 1 ≤ n) (h4 : n ≤ 4) {s1 s2 : Nat → Nat → Nat} {f : List Int → List Int} (hR : Rel n s1 s2 f) {T S : List (List Int)} (hT : RT n s1 s2 T S) {y : List Int} (hy : y ∈ plL n) : wgt S (f y) = wgt T y := prI_perm (rel_nums h1 h4 hR hT hy)
theorem rel_add {n : Nat} {s1 s2 : Nat → Nat → Nat} {f : List Int → List Int} (hR : Rel n s1 s2 f) {T S : List (List Int)} (hg : gT n T) (hs : gT n S) (hT : RT n s1 s2 T S) {y : List Int} (hy : y ∈ plL n) (z : Int) : RT n s1 s2 (addT T y z) (addT S (f y) z) := fun r c hr hc => by
  have hok := plL_len hg.n1 hg.n4 y hy
  have hfy := plL_len hg.n1 hg.n4 _ (hR.pl y hy)
  have hsT : shT n 9 T := ⟨hg.len, hg.row, fun r hr x hx => by have := hg.cel r hr x hx; omega⟩
  have hsS : shT n 9 S := ⟨hs.len, hs.row, fun r hr x hx => by have := hs.cel r hr x hx; omega⟩
  obtain ⟨a1, a2, a3⟩ := hR.at_ y hy r hr c hc
  have hcy := hok.2.1 _ (getD_mem (d := 0) (l := y) (i := r) (by rw [hok.1]; exact hr))
  have hcf := hfy.2.1 _ (getD_mem (d := 0) (l := f y) (i := s1 r c) (by rw [hfy.1]; exact a1))
  rw [cel_add hsS hfy a1 a2, cel_add hsT hok hr hc, hT r c hr hc]
  congr 1
  have e : decide (((f y).getD (s1 r c) 0).toNat = s2 r c) = decide ((y.getD r 0).toNat = c) := by
    rw [decide_eq_decide]
    constructor
    · intro q; have := a3.1 (by omega); omega
    · intro q; have := a3.2 (by omega); omega
  rw [e]
theorem csL_ev {n : Nat} {T : List (List Int)} {k : Int} (hg : gT n T) (he : EvT n T k) {p : List Int} (hp : p ∈ plL n) (P : List (List Int)) : csL (p :: P) T = sumI ((List.range ((mnF (nums T p)).toNat + 1)).map fun (t : Nat) => csL P (addT T p (-(t : Int)))) := by
  have hok := plL_len hg.n1 hg.n4 p hp
  rw [csL.eq_2]
  split
  · rename_i hz
    have hk : k = 0 := by rw [← he.row 0 hg.n1, hz]
    subst hk
    have hm : mnF (nums T p) = 0 := by
      have := mn_row hg hok
      rw [hz] at this
      omega
    rw [hm]
    show 1 = sumI [csL P (addT T p (-((0 : Nat) : Int)))]
    have e : (-((0 : Nat) : Int)) = 0 := rfl
    rw [e, addT_0 (by rw [hok.1, hg.len]), csL_0 _ hz]; rfl
  · rfl
theorem ev_sub {n : Nat} {T : List (List Int)} {k : Int} (hg : gT n T) (he : EvT n T k) {p : List Int} (hp : p ∈ plL n) {t : Nat} (ht : (t : Int) ≤ mnF (nums T p)) : gT n (addT T p (-(t : Int))) ∧ EvT n (addT T p (-(t : Int))) (k - t) := by
  have hs : shT n 9 T := ⟨hg.len, hg.row, fun r hr x hx => by have := hg.cel r hr x hx; omega⟩
  refine ⟨gT_sub hg (plL_len hg.n1 hg.n4 p hp) (by omega) ht, ?_⟩
  have := ev_add hs hg.n1 hg.n4 he hp (z := -(t : Int))
  rw [show k + -(t : Int) = k - t by omega] at this
  exact this
/-- plans and tables moved together -/
theorem csL_rel {n : Nat} {s1 s2 : Nat → Nat → Nat} {f : List Int → List Int} (hR : Rel n s1 s2 f) : ∀ (P : List (List Int)) (T S : List (List Int)) (k : Int), (∀ p, p ∈ P → p ∈ plL n) → gT n T → gT n S → EvT n T k → EvT n S k → RT n s1 s2 T S → csL (P.map f) S = csL P T
  | [], T, S, k, _, hg, hs, he, hf, _ => by
    show csL [] S = csL [] T
    rw [csL, csL, he.row 0 hg.n1, hf.row 0 hg.n1]
  | p :: P, T, S, k, hP, hg, hs, he, hf, hT => by
    have hp := hP p List.mem_cons_self
    have hm := mnF_perm (rel_nums hg.n1 hg.n4 hR hT hp)
    have hmn := (mn_row hg (plL_len hg.n1 hg.n4 p hp)).1
    rw [List.map_cons, csL_ev hs hf (hR.pl p hp), csL_ev hg he hp, hm]
    congr 1
    refine List.map_congr_left fun t ht => ?_
    have ht := List.mem_range.1 ht
    obtain ⟨g1, e1⟩ := ev_sub hg he hp (t := t) (by omega)
    obtain ⟨g2, e2⟩ := ev_sub hs hf (hR.pl p hp) (t := t) (by rw [hm]; omega)
    exact csL_rel hR P _ _ (k - t) (fun q hq => hP q (List.mem_cons_of_mem _ hq)) g1 g2 e1 e2 (rel_add hR hg hs hT hp _)
theorem mn_iff {n : Nat} {T : List (List Int)} (hg : gT n T) {p : List Int} (hp : okP n p) {t : Int} : t ≤ mnF (nums T p) ↔ ∀ r, r < n → t ≤ cel T r (p.getD r 0).toNat := by
  constructor
  · intro h r hr
    have := mnF_le (l := nums T p) (x := cel T r (p.getD r 0).toNat) (List.mem_map.2 ⟨r, List.mem_range.2 (by rw [hp.1]; exact hr), rfl⟩)
    omega
  · intro h
    obtain ⟨r, hr, hw⟩ := mn_wit hg hp
    rw [← hw]
    exact h r hr
theorem sum_upto {m N : Nat} (h : m ≤ N) (g : Nat → Int) : sumI ((List.range m).map g) = sumI ((List.range N).map fun t => if t < m then g t else 0) := by
  induction N with
  | zero => have : m = 0 := by omega
            subst this; rfl
  | succ N ih =>
    rw [List.range_succ, List.map_append, sumI_append]
    show _ = _ + sumI [if N < m then g N else 0]
    rcases Nat.lt_or_ge N m with q | q
    · have : m = N + 1 := by omega
      subst this
      rw [if_pos q, List.range_succ, List.map_append, sumI_append]
      congr 2
      exact List.map_congr_left fun t ht => by rw [if_pos (by have := List.mem_range.1 ht; omega)]
    · rw [if_neg (by omega), ih q]
      show _ = _ + ((0 : Int) + 0)
      omega
theorem add_comm2 {n : Nat} {T : List (List Int)} (hg : gT n T) {p q : List Int} (hp : p ∈ plL n) (hq : q ∈ plL n) (a b : Int) (ha : -9 ≤ a ∧ a ≤ 9) (hb : -9 ≤ b ∧ b ≤ 9) : addT (addT T p a) q b = addT (addT T q b) p a := by
  have hok := plL_len hg.n1 hg.n4 p hp
  have hoq := plL_len hg.n1 hg.n4 q hq
  have hs : shT n 9 T := ⟨hg.len, hg.row, fun r hr x hx => by have := hg.cel r hr x hx; omega⟩
  have s1 := shT_add hs hok (z := a) (d := 9) ha (by omega)
  have s2 := shT_add hs hoq (z := b) (d := 9) hb (by omega)
  have s3 := shT_add s1 hoq (z := b) (d := 9) hb (by omega)
  have s4 := shT_add s2 hok (z := a) (d := 9) ha (by omega)
  refine tab_ext s3.len s3.row s4.len s4.row fun r c hr hc => ?_
  rw [cel_add s1 hoq hr hc, cel_add hs hok hr hc, cel_add s2 hok hr hc, cel_add hs hoq hr hc]
  omega
/-- two plans exchanged -/
theorem csL_swap {n : Nat} {T : List (List Int)} {k : Int} (hg : gT n T) (he : EvT n T k) {p q : List Int} (hp : p ∈ plL n) (hq : q ∈ plL n) (P : List (List Int)) : csL (p :: q :: P) T = csL (q :: p :: P) T := by
  have hok := plL_len hg.n1 hg.n4 p hp
  have hoq := plL_len hg.n1 hg.n4 q hq
  have hs : shT n 9 T := ⟨hg.len, hg.row, fun r hr x hx => by have := hg.cel r hr x hx; omega⟩
  have m9 : ∀ {p : List Int} {T : List (List Int)}, gT n T → okP n p → 0 ≤ mnF (nums T p) ∧ mnF (nums T p) ≤ 9 := fun {p T} hg hp => by
    obtain ⟨r, hr, hw⟩ := mn_wit hg hp
    have hc := hp.2.1 _ (getD_mem (d := 0) (l := p) (i := r) (by rw [hp.1]; exact hr))
    have := hg.b (r := r) (c := (p.getD r 0).toNat) hr (by omega)
    omega
  have one : ∀ {p q : List Int}, p ∈ plL n → q ∈ plL n → csL (p :: q :: P) T = sumI ((List.range 10).map fun t => sumI ((List.range 10).map fun u => if ((t : Nat) : Int) ≤ mnF (nums T p) ∧ ((u : Nat) : Int) ≤ mnF (nums (addT T p (-(t : Int))) q) then csL P (addT (addT T p (-(t : Int))) q (-(u : Int))) else 0)) := fun {p q} hp hq => by
    have hok := plL_len hg.n1 hg.n4 p hp
    have hoq := plL_len hg.n1 hg.n4 q hq
    have hm := m9 hg hok
    rw [csL_ev hg he hp, sum_upto (N := 10) (by omega)]
    congr 1
    refine List.map_congr_left fun t ht => ?_
    have ht10 := List.mem_range.1 ht
    by_cases htm : t < (mnF (nums T p)).toNat + 1
    · rw [if_pos htm]
      obtain ⟨g1, e1⟩ := ev_sub hg he hp (t := t) (by omega)
      have hm2 := m9 g1 hoq
      rw [csL_ev g1 e1 hq, sum_upto (N := 10) (by omega)]
      congr 1
      refine List.map_congr_left fun u hu => ?_
      by_cases hum : u < (mnF (nums (addT T p (-(t : Int))) q)).toNat + 1
      · rw [if_pos hum, if_pos ⟨by omega, by omega⟩]
      · rw [if_neg hum, if_neg (fun x => hum (by omega))]
    · rw [if_neg htm]
      have : ((List.range 10).map fun u => if ((t : Nat) : Int) ≤ mnF (nums T p) ∧ ((u : Nat) : Int) ≤ mnF (nums (addT T p (-(t : Int))) q) then csL P (addT (addT T p (-(t : Int))) q (-(u : Int))) else 0) = (List.range 10).map fun _ => (0 : Int) := List.map_congr_left fun u _ => if_neg fun x => htm (by omega)
      rw [this, sum_const]; omega
  rw [one hp hq, one hq hp, sum_swap]
  congr 1
  refine List.map_congr_left fun u hu => ?_
  congr 1
  refine List.map_congr_left fun t ht => ?_
  have hu := List.mem_range.1 hu
  have ht := List.mem_range.1 ht
  rw [add_comm2 hg hp hq (-(t : Int)) (-(u : Int)) (by omega) (by omega)]
  have sym : ∀ {p q : List Int} (hp : p ∈ plL n) (hq : q ∈ plL n) (t u : Nat), (((t : Nat) : Int) ≤ mnF (nums T p) ∧ ((u : Nat) : Int) ≤ mnF (nums (addT T p (-(t : Int))) q)) → (((u : Nat) : Int) ≤ mnF (nums T q) ∧ ((t : Nat) : Int) ≤ mnF (nums (addT T q (-(u : Int))) p)) := fun {p q} hp hq t u h => by
    have hok := plL_len hg.n1 hg.n4 p hp
    have hoq := plL_len hg.n1 hg.n4 q hq
    obtain ⟨a1, a2⟩ := h
    obtain ⟨g1, _⟩ := ev_sub hg he hp (t := t) a1
    have b1 := (mn_iff hg hok).1 a1
    have b2 := (mn_iff g1 hoq).1 a2
    have key : ∀ r, r < n → (u : Int) ≤ cel T r (q.getD r 0).toNat ∧ ((q.getD r 0).toNat = (p.getD r 0).toNat → (t : Int) + u ≤ cel T r (q.getD r 0).toNat) := fun r hr => by
      have hc := hoq.2.1 _ (getD_mem (d := 0) (l := q) (i := r) (by rw [hoq.1]; exact hr))
      have h2 := b2 r hr
      rw [cel_add hs hok hr (by omega)] at h2
      split at h2
      · exact ⟨by omega, fun _ => by omega⟩
      · rename_i hne
        exact ⟨by omega, fun e => absurd (decide_eq_true e.symm) hne⟩
    have c1 : (u : Int) ≤ mnF (nums T q) := (mn_iff hg hoq).2 fun r hr => (key r hr).1
    obtain ⟨g2, _⟩ := ev_sub hg he hq (t := u) c1
    refine ⟨c1, (mn_iff g2 hok).2 fun r hr => ?_⟩
    have hc := hok.2.1 _ (getD_mem (d := 0) (l := p) (i := r) (by rw [hok.1]; exact hr))
    rw [cel_add hs hoq hr (by omega)]
    have h1 := b1 r hr
    split
    · rename_i e
      have e := of_decide_eq_true e
      have := (key r hr).2 e
      rw [e] at this
      omega
    · omega
  by_cases hc : ((t : Nat) : Int) ≤ mnF (nums T p) ∧ ((u : Nat) : Int) ≤ mnF (nums (addT T p (-(t : Int))) q)
  · rw [if_pos hc, if_pos (sym hp hq t u hc)]
  · rw [if_neg hc, if_neg fun x => hc (sym hq hp u t x)]
theorem csL_perm {n : Nat} {P P' : List (List Int)} (h : P.Perm P') : ∀ (T : List (List Int)) (k : Int), (∀ p, p ∈ P → p ∈ plL n) → gT n T → EvT n T k → csL P T = csL P' T := by
  induction h with
  | nil => intros; rfl
  | cons x _ ih =>
    intro T k hP hg he
    have hx := hP x List.mem_cons_self
    have hmn := (mn_row hg (plL_len hg.n1 hg.n4 x hx)).1
    rw [csL_ev hg he hx, csL_ev hg he hx]
    congr 1
    refine List.map_congr_left fun t ht => ?_
    have ht := List.mem_range.1 ht
    obtain ⟨g1, e1⟩ := ev_sub hg he hx (t := t) (by omega)
    exact ih _ _ (fun p hp => hP p (List.mem_cons_of_mem _ hp)) g1 e1
  | swap x y l =>
    intro T k hP hg he
    exact csL_swap hg he (hP y List.mem_cons_self) (hP x (List.mem_cons_of_mem _ List.mem_cons_self)) l
  | trans h1 _ i1 i2 =>
    intro T k hP hg he
    exact (i1 T k hP hg he).trans (i2 T k (fun p hp => hP p (h1.mem_iff.2 hp)) hg he)
/-- what stays -/
structure Same (n : Nat) (T S : List (List Int)) : Prop where
  cnt : cntP n S = cntP n T
  wgt : wgtT n S = wgtT n T
  ev : evE n S = evE n T
  spl : splV n S = splV n T
theorem Same.trans {n : Nat} {T S R : List (List Int)} (h1 : Same n T S) (h2 : Same n S R) : Same n T R := ⟨h2.cnt.trans h1.cnt, h2.wgt.trans h1.wgt, h2.ev.trans h1.ev, h2.spl.trans h1.spl⟩
theorem evB_ev {n : Nat} {T : List (List Int)} (hg : gT n T) : evB n T = true ↔ EvT n T (sumI (T.getD 0 [])) := by
  constructor
  · intro h
    unfold evB at h
    have h := List.all_eq_true.1 h
    refine ⟨fun r hr => of_decide_eq_true (h _ (List.mem_append.2 (.inl (getD_mem (by rw [hg.len]; exact hr))))), fun c hc => of_decide_eq_true (h _ (List.mem_append.2 (.inr (List.mem_map.2 ⟨c, List.mem_range.2 hc, rfl⟩))))⟩
  · intro h
    exact (evB_of hg.n1 hg.len h).1
theorem same_rel {n : Nat} {s1 s2 : Nat → Nat → Nat} {f : List Int → List Int} (hR : Rel n s1 s2 f) {T S : List (List Int)} (hg : gT n T) (hs : gT n S) (hT : RT n s1 s2 T S) (hE : ∀ k, EvT n T k ↔ EvT n S k) : Same n T S where
  cnt := by
    unfold cntP
    rw [withP_eq hg, withP_eq hs]
    have h := (hR.all.filter fun p => decide (0 < wgt S p)).length_eq
    rw [← h, List.filter_map, List.length_map]
    congr 1
    refine List.filter_congr fun y hy => ?_
    show decide (0 < Go.Proofs.Ytkbeaheladmeiaa.wgt S (f y)) = _
    rw [rel_wgt hg.n1 hg.n4 hR hT hy]
  wgt := by
    rw [wgtT_pl hg, wgtT_pl hs]
    unfold sumW
    rw [← sumI_perm (hR.all.map _), List.map_map]
    congr 1
    exact List.map_congr_left fun y hy => rel_wgt hg.n1 hg.n4 hR hT hy
  ev := by
    unfold evE
    by_cases h : evB n T = true
    · have e1 := (evB_ev hg).1 h
      have e2 := (hE _).1 e1
      obtain ⟨b1, b2⟩ := evB_of hs.n1 hs.len e2
      rw [if_pos h, if_pos b1, b2]
    · rw [if_neg h, if_neg fun q => h ((evB_of hg.n1 hg.len ((hE _).2 ((evB_ev hs).1 q))).1)]
  spl := by
    unfold splV
    by_cases h : evB n T = true
    · have e1 := (evB_ev hg).1 h
      have e2 := (hE _).1 e1
      obtain ⟨b1, b2⟩ := evB_of hs.n1 hs.len e2
      have hc : csL (withP n S) S = csL (withP n T) T := by
        rw [csL_within hs, csL_within hg, ← csL_perm hR.all S _ (fun p hp => by
          obtain ⟨y, hy, rfl⟩ := List.mem_map.1 hp
          exact hR.pl y hy) hs e2]
        exact csL_rel hR (plL n) T S _ (fun p hp => hp) hg hs e1 e2 hT
      rw [if_pos h, if_pos b1, b2, hc]
    · rw [if_neg h, if_neg fun q => h ((evB_of hg.n1 hg.len ((hE _).2 ((evB_ev hs).1 q))).1)]
end Go.Proofs.Ytkbeaheladmeiaa

set_option linter.unusedSimpArgs false
set_option linter.unusedVariables false
namespace Go.Proofs.Ytkbeaheladmeiaa
open Go Go.Proofs.Eng
set_option maxRecDepth 100000
set_option maxHeartbeats 4000000
def mkT (n : Nat) (f : Nat → Nat → Int) : List (List Int) := (List.range n).map fun r => (List.range n).map fun c => f r c
theorem range_at {α : Type} (f : Nat → α) (d : α) {n i : Nat} (h : i < n) : ((List.range n).map f).getD i d = f i := by
  rw [List.getD_eq_getElem?_getD, List.getElem?_map, List.getElem?_range h]; rfl
theorem cel_mk (n : Nat) (f : Nat → Nat → Int) {r c : Nat} (hr : r < n) (hc : c < n) : cel (mkT n f) r c = f r c := by
  unfold cel mkT
  rw [range_at _ _ hr, range_at _ _ hc]
theorem gT_mk {n : Nat} (h1 : 1 ≤ n) (h4 : n ≤ 4) {f : Nat → Nat → Int} (hf : ∀ r c, r < n → c < n → 0 ≤ f r c ∧ f r c ≤ 9) : gT n (mkT n f) where
  len := by unfold mkT; simp
  n1 := h1
  n4 := h4
  row := fun R hR => by obtain ⟨r, _, rfl⟩ := List.mem_map.1 hR; simp
  cel := fun R hR x hx => by
    obtain ⟨r, hr, rfl⟩ := List.mem_map.1 hR
    obtain ⟨c, hc, rfl⟩ := List.mem_map.1 hx
    exact hf r c (List.mem_range.1 hr) (List.mem_range.1 hc)
def rowP (n : Nat) (p : List Int) (T : List (List Int)) : List (List Int) := mkT n fun r c => cel T (ivL p r) c
def mvT (n : Nat) (p q : List Int) (T : List (List Int)) : List (List Int) := mkT n fun r c => cel T (ivL p r) (ivL q c)
theorem gT_row {n : Nat} {T : List (List Int)} (hg : gT n T) {p : List Int} (hp : p ∈ plL n) : gT n (rowP n p T) :=
  gT_mk hg.n1 hg.n4 fun r c hr hc => hg.b ((iv_dec n hg.n4 hg.n1 p hp).1 r hr).1 hc
theorem gT_mv {n : Nat} {T : List (List Int)} (hg : gT n T) {p q : List Int} (hp : p ∈ plL n) (hq : q ∈ plL n) : gT n (mvT n p q T) :=
  gT_mk hg.n1 hg.n4 fun r c hr hc => hg.b ((iv_dec n hg.n4 hg.n1 p hp).1 r hr).1 ((iv_dec n hg.n4 hg.n1 q hq).1 c hc).1
theorem ev_row {n : Nat} {T : List (List Int)} (hg : gT n T) {p : List Int} (hp : p ∈ plL n) (k : Int) : EvT n T k ↔ EvT n (rowP n p T) k := by
  obtain ⟨hi, hpm⟩ := iv_dec n hg.n4 hg.n1 p hp
  have hok := plL_len hg.n1 hg.n4 p hp
  have hg2 := gT_row hg hp
  have hrow : ∀ r, r < n → sumI ((rowP n p T).getD r []) = sumI (T.getD (ivL p r) []) := fun r hr => by
    rw [row_sum hg2 hr, row_sum hg (hi r hr).1]
    congr 1
    exact List.map_congr_left fun c hc => cel_mk n _ hr (List.mem_range.1 hc)
  have hcol : ∀ c, c < n → sumI ((List.range n).map fun r => cel (rowP n p T) r c) = sumI ((List.range n).map fun r => cel T r c) := fun c hc => by
    have h := sumI_perm ((List.isPerm_iff.1 hpm).map fun r => cel T r c)
    rw [List.map_map] at h
    rw [← h]
    congr 1
    exact List.map_congr_left fun r hr => cel_mk n _ (List.mem_range.1 hr) hc
  constructor
  · intro h
    exact ⟨fun r hr => by rw [hrow r hr]; exact h.row _ (hi r hr).1, fun c hc => by rw [hcol c hc]; exact h.col c hc⟩
  · intro h
    refine ⟨fun r hr => ?_, fun c hc => by rw [← hcol c hc]; exact h.col c hc⟩
    have hc := hok.2.1 _ (getD_mem (d := 0) (l := p) (i := r) (by rw [hok.1]; exact hr))
    have := h.row (p.getD r 0).toNat (by omega)
    rw [hrow _ (by omega), (hi r hr).2.1] at this
    exact this
theorem ev_col {n : Nat} {T : List (List Int)} (hg : gT n T) (k : Int) : EvT n T k ↔ EvT n (colT n T) k := by
  have hrow : ∀ c, c < n → sumI ((colT n T).getD c []) = sumI ((List.range n).map fun r => cel T r c) := fun c hc => by
    rw [row_sum (gT_col hg) hc]
    congr 1
    exact List.map_congr_left fun r hr => cel_colT (List.mem_range.1 hr) hc
  have hcol : ∀ r, r < n → sumI ((List.range n).map fun c => cel (colT n T) c r) = sumI (T.getD r []) := fun r hr => by
    rw [row_sum hg hr]
    congr 1
    exact List.map_congr_left fun c hc => cel_colT hr (List.mem_range.1 hc)
  constructor
  · intro h
    exact ⟨fun c hc => by rw [hrow c hc]; exact h.col c hc, fun r hr => by rw [hcol r hr]; exact h.row r hr⟩
  · intro h
    exact ⟨fun r hr => by rw [← hcol r hr]; exact h.col r hr, fun c hc => by rw [← hrow c hc]; exact h.row c hc⟩
theorem same_row {n : Nat} {T : List (List Int)} (hg : gT n T) {p : List Int} (hp : p ∈ plL n) : Same n T (rowP n p T) :=
  same_rel (rel_row hg.n1 hg.n4 hp) hg (gT_row hg hp) (fun r c hr hc => by
    have hok := plL_len hg.n1 hg.n4 p hp
    have hc2 := hok.2.1 _ (getD_mem (d := 0) (l := p) (i := r) (by rw [hok.1]; exact hr))
    show cel (rowP n p T) (p.getD r 0).toNat c = _
    unfold rowP
    rw [cel_mk n _ (by omega) hc, ((iv_dec n hg.n4 hg.n1 p hp).1 r hr).2.1]) (ev_row hg hp)
theorem same_col {n : Nat} {T : List (List Int)} (hg : gT n T) : Same n T (colT n T) :=
  same_rel (rel_col hg.n1 hg.n4) hg (gT_col hg) (fun r c hr hc => cel_colT hr hc) (ev_col hg)
theorem same_mv {n : Nat} {T : List (List Int)} (hg : gT n T) {p q : List Int} (hp : p ∈ plL n) (hq : q ∈ plL n) : Same n T (mvT n p q T) := by
  have g1 := gT_row hg hp
  have g2 := gT_col g1
  have g3 := gT_row g2 hq
  have g4 := gT_col g3
  have e : mvT n p q T = colT n (rowP n q (colT n (rowP n p T))) :=
    tab_ext (gT_mv hg hp hq).len (gT_mv hg hp hq).row g4.len g4.row fun r c hr hc => by
      have hi := ((iv_dec n hg.n4 hg.n1 q hq).1 c hc).1
      rw [cel_colT hc hr]
      unfold rowP mvT
      rw [cel_mk n _ hr hc, cel_mk n _ hc hr, cel_colT hr hi, cel_mk n _ hr hi]
  rw [e]
  exact (((same_row hg hp).trans (same_col g1)).trans (same_row g2 hq)).trans (same_col g3)
/-! ### how the moved table is filled -/
/-! ### the loops, over a heap known by its looks and puts -/
structure HF (n g : Nat) (H : List (List Int) → Heap) (ky : Nat → Nat) : Prop where
  lo : ∀ M, Go.Proofs.Eng.look (H M) 1011 = (g, some ⟨37, 1, (List.range n).map fun j => .os (ky j) g n 1 0 n⟩)
  l : ∀ M j, j < n → Go.Proofs.Eng.look (H M) (ky j) = (g, some ⟨3, 1, (M.getD j []).map ai⟩)
  p : ∀ M j L, M.length = n → j < n → putAt (H M) (ky j) (g, some ⟨3, 1, L.map ai⟩) = H (M.set j L)
theorem set_sameL {T : List (List Int)} {i : Nat} : T.set i (T.getD i []) = T := by
  apply List.ext_getElem?
  intro j
  rw [List.getElem?_set]
  split
  · rename_i e
    subst e
    split
    · rename_i h; exact (getD_at (d := []) h).symm
    · rename_i h; exact (List.getElem?_eq_none (by omega)).symm
  · rfl
end Go.Proofs.Ytkbeaheladmeiaa

