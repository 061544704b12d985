/-
  Texts broken into lines: the mathematics. Places have positions (q); a line from i to j fits if q j - q i is at most W + 1.
-/
import Derived.Test.YtdmffkknghianaaEngT
set_option linter.unusedSimpArgs false
set_option linter.unusedVariables false
namespace Go.Proofs.Ytdmffkknghianaa
open Go Go.Proofs.Eng
set_option maxRecDepth 100000
set_option maxHeartbeats 1000000
/-- positions: they rise, and each word fits on a line -/
structure Pos (q : Nat → Int) (n : Nat) (W : Int) : Prop where
  q0 : q 0 = 0
  up : ∀ j, j < n → q j < q (j + 1)
  wd : ∀ j, j < n → q (j + 1) - q j ≤ W + 1
theorem Pos.mono {q : Nat → Int} {n : Nat} {W : Int} (h : Pos q n W) : ∀ (k i : Nat), i + k ≤ n → q i + k ≤ q (i + k)
  | 0, i, _ => by simp
  | k + 1, i, hi => by
    have := Pos.mono h k i (by omega)
    have h2 := h.up (i + k) (by omega)
    rw [← Nat.add_assoc]
    omega
theorem Pos.le {q : Nat → Int} {n : Nat} {W : Int} (h : Pos q n W) {i j : Nat} (hij : i ≤ j) (hj : j ≤ n) : q i + (j - i : Nat) ≤ q j := by
  have := h.mono (j - i) i (by omega)
  rw [show i + (j - i) = j by omega] at this
  exact this
/-- what is left of a line -/
def lf (q : Nat → Int) (W : Int) (i j : Nat) : Int := W + 1 - (q j - q i)
def fit (q : Nat → Int) (W : Int) (i j : Nat) : Bool := decide (0 ≤ lf q W i j)
theorem fit_iff {q : Nat → Int} {W : Int} {i j : Nat} : fit q W i j = true ↔ 0 ≤ lf q W i j := by unfold fit; simp
def sq (q : Nat → Int) (W : Int) (i j : Nat) : Int := lf q W i j * lf q W i j
def cst (q : Nat → Int) (W : Int) (n i j : Nat) : Int := if j = n then 0 else sq q W i j
theorem sq_nn (q : Nat → Int) (W : Int) (i j : Nat) : 0 ≤ sq q W i j := by
  unfold sq
  rcases Int.le_total 0 (lf q W i j) with h | h
  · exact Int.mul_nonneg h h
  · exact Int.mul_nonneg_of_nonpos_of_nonpos h h
theorem cst_nn (q : Nat → Int) (W : Int) (n i j : Nat) : 0 ≤ cst q W n i j := by unfold cst; split; exact Int.le_refl _; exact sq_nn _ _ _ _
theorem fit_one {q : Nat → Int} {n : Nat} {W : Int} (h : Pos q n W) {j : Nat} (hj : j < n) : fit q W j (j + 1) = true := by
  rw [fit_iff]; unfold lf; have := h.wd j hj; omega
theorem lf_b {q : Nat → Int} {n : Nat} {W : Int} (h : Pos q n W) {i j : Nat} (hij : i < j) (hj : j ≤ n) : lf q W i j ≤ W := by
  have := h.le (i := i) (j := j) (by omega) hj
  unfold lf; omega
theorem fit_sub {q : Nat → Int} {n : Nat} {W : Int} (h : Pos q n W) {i i' j j' : Nat} (h1 : i ≤ i') (h2 : i' ≤ n) (h3 : j' ≤ j) (h4 : j ≤ n) (hf : fit q W i j = true) : fit q W i' j' = true := by
  rw [fit_iff] at hf ⊢
  unfold lf at *
  have a := h.le (i := i) (j := i') h1 h2
  have b := h.le (i := j') (j := j) h3 h4
  omega
theorem sq_b {q : Nat → Int} {n : Nat} {W : Int} (h : Pos q n W) (hW : 1 ≤ W ∧ W ≤ 40) {i j : Nat} (hij : i < j) (hj : j ≤ n) (hf : fit q W i j = true) : sq q W i j ≤ 1600 := by
  have := lf_b h hij hj
  rw [fit_iff] at hf
  have h2 : lf q W i j ≤ 40 := by omega
  unfold sq
  calc lf q W i j * lf q W i j ≤ 40 * 40 := Int.mul_le_mul h2 h2 hf (by omega)
    _ = 1600 := by decide
/-! ### the first least one -/
structure FM (p : Nat → Prop) (f : Nat → Int) (m : Nat) : Prop where
  mem : p m
  le : ∀ y, p y → f m ≤ f y
  lt : ∀ y, p y → y < m → f m < f y
theorem FM.uniq {p : Nat → Prop} {f : Nat → Int} {m m' : Nat} (h : FM p f m) (h' : FM p f m') : m = m' := by
  rcases Nat.lt_trichotomy m m' with q | q | q
  · have := h'.lt m h.mem q; have := h.le m' h'.mem; omega
  · exact q
  · have := h.lt m' h'.mem q; have := h'.le m h.mem; omega
theorem FM.congr {p p' : Nat → Prop} {f f' : Nat → Int} {m : Nat} (h : FM p f m) (hp : ∀ y, p y ↔ p' y) (hf : ∀ y, p y → f y = f' y) : FM p' f' m where
  mem := (hp m).1 h.mem
  le := fun y hy => by rw [← hf m h.mem, ← hf y ((hp y).2 hy)]; exact h.le y ((hp y).2 hy)
  lt := fun y hy hl => by rw [← hf m h.mem, ← hf y ((hp y).2 hy)]; exact h.lt y ((hp y).2 hy) hl
def fmL (f : Nat → Int) : List Nat → Nat → Nat
  | [], m => m
  | y :: t, m => fmL f t (if f y < f m then y else m)
theorem fmL_snoc (f : Nat → Int) : ∀ (l : List Nat) (m y : Nat), fmL f (l ++ [y]) m = (if f y < f (fmL f l m) then y else fmL f l m)
  | [], _, _ => rfl
  | _ :: t, m, y => by show fmL f (t ++ [y]) _ = _; rw [fmL_snoc f t]; rfl
theorem fmL_ok (f : Nat → Int) : ∀ (l : List Nat) (p : Nat → Prop) (m : Nat), FM p f m → (∀ y z, p y → z ∈ l → y < z) → l.Pairwise (· < ·) → FM (fun y => p y ∨ y ∈ l) f (fmL f l m)
  | [], p, m, h, _, _ => h.congr (fun y => by simp) fun _ _ => rfl
  | y :: t, p, m, h, hlt, hs => by
    obtain ⟨s1, s2⟩ := List.pairwise_cons.1 hs
    have hstep : FM (fun z => p z ∨ z = y) f (if f y < f m then y else m) := by
      have hmy := hlt m y h.mem List.mem_cons_self
      split
      · rename_i hc
        refine ⟨.inr rfl, fun z hz => ?_, fun z hz hl => ?_⟩
        · rcases hz with q | rfl
          · have := h.le z q; omega
          · exact Int.le_refl _
        · rcases hz with q | rfl
          · have := h.le z q; omega
          · omega
      · rename_i hc
        refine ⟨.inl h.mem, fun z hz => ?_, fun z hz hl => ?_⟩
        · rcases hz with q | rfl
          · exact h.le z q
          · omega
        · rcases hz with q | rfl
          · exact h.lt z q hl
          · omega
    refine (fmL_ok f t _ _ hstep (fun z w hz hw => ?_) s2).congr (fun z => by simp only [List.mem_cons, or_assoc]) fun _ _ => rfl
    rcases hz with q | rfl
    · exact hlt z w q (List.mem_cons_of_mem _ hw)
    · exact s1 w hw
/-- the first least one of a list that rises -/
theorem fmL_FM {f : Nat → Int} {x : Nat} {t : List Nat} (hs : (x :: t).Pairwise (· < ·)) {p : Nat → Prop} (hp : ∀ y, p y ↔ y ∈ x :: t) : FM p f (fmL f t x) := by
  obtain ⟨s1, s2⟩ := List.pairwise_cons.1 hs
  have h0 : FM (fun y => y = x) f x := ⟨rfl, fun y hy => by subst hy; exact Int.le_refl _, fun y hy hl => by omega⟩
  exact (fmL_ok f t _ x h0 (fun y z hy hz => by subst hy; exact s1 z hz) s2).congr (fun y => by rw [hp]; simp) fun _ _ => rfl
theorem FM_ex {l : List Nat} (hs : l.Pairwise (· < ·)) (h : l ≠ []) {p : Nat → Prop} (hp : ∀ y, p y ↔ y ∈ l) (f : Nat → Int) : ∃ m, FM p f m := by
  cases l with
  | nil => exact (h rfl).elim
  | cons x t => exact ⟨_, fmL_FM hs hp⟩
/-! ### the places before, and those behind -/
def cb (q : Nat → Int) (W : Int) (j i : Nat) : Prop := i < j ∧ fit q W i j = true
def ca (q : Nat → Int) (W : Int) (n i j : Nat) : Prop := i < j ∧ j ≤ n ∧ fit q W i j = true
def lb (q : Nat → Int) (W : Int) (j : Nat) : List Nat := (List.range j).filter fun i => fit q W i j
def la (q : Nat → Int) (W : Int) (n i : Nat) : List Nat := (List.range' (i + 1) (n - i)).filter fun j => fit q W i j
theorem lb_mem {q : Nat → Int} {W : Int} {j y : Nat} : cb q W j y ↔ y ∈ lb q W j := by unfold cb lb; rw [List.mem_filter, List.mem_range]
theorem la_mem {q : Nat → Int} {W : Int} {n i y : Nat} : ca q W n i y ↔ y ∈ la q W n i := by
  unfold ca la
  rw [List.mem_filter, List.mem_range']
  constructor
  · rintro ⟨a, b, c⟩
    exact ⟨⟨y - (i + 1), by omega, by omega⟩, c⟩
  · rintro ⟨⟨k, hk, rfl⟩, c⟩
    exact ⟨by omega, by omega, c⟩
theorem lb_up (q : Nat → Int) (W : Int) (j : Nat) : (lb q W j).Pairwise (· < ·) := List.Pairwise.filter _ List.pairwise_lt_range
theorem la_up (q : Nat → Int) (W : Int) (n i : Nat) : (la q W n i).Pairwise (· < ·) := List.Pairwise.filter _ List.pairwise_lt_range'
theorem lb_ne {q : Nat → Int} {n : Nat} {W : Int} (h : Pos q n W) {j : Nat} (h1 : 1 ≤ j) (hj : j ≤ n) : lb q W j ≠ [] := by
  have : j - 1 ∈ lb q W j := lb_mem.1 ⟨by omega, by have := fit_one h (j := j - 1) (by omega); rwa [show j - 1 + 1 = j by omega] at this⟩
  exact List.ne_nil_of_mem this
theorem la_ne {q : Nat → Int} {n : Nat} {W : Int} (h : Pos q n W) {i : Nat} (hi : i < n) : la q W n i ≠ [] :=
  List.ne_nil_of_mem (la_mem.1 ⟨Nat.lt_succ_self i, hi, fit_one h hi⟩)
structure Back (q : Nat → Int) (W : Int) (n : Nat) (D : Nat → Int) (S : Nat → Nat) : Prop where
  d0 : D 0 = 0
  s0 : S 0 = 0
  st : ∀ j, 1 ≤ j → j ≤ n → D j = D (S j) + sq q W (S j) j ∧ FM (cb q W j) (fun i => D i + sq q W i j) (S j)
theorem Back.ex {q : Nat → Int} {W : Int} {n : Nat} (h : Pos q n W) : ∀ k, k ≤ n → ∃ (D : Nat → Int) (S : Nat → Nat), Back q W k D S
  | 0, _ => ⟨fun _ => 0, fun _ => 0, rfl, rfl, fun j h1 h2 => by omega⟩
  | k + 1, hk => by
    obtain ⟨D, S, hB⟩ := Back.ex h k (by omega)
    obtain ⟨m, hm⟩ := FM_ex (lb_up q W (k + 1)) (lb_ne h (by omega) hk) (fun y => lb_mem) (fun i => D i + sq q W i (k + 1))
    have hm1 : m < k + 1 := hm.mem.1
    have hDk : ∀ i, i < k + 1 → (fun i => if i = k + 1 then D m + sq q W m (k + 1) else D i) i = D i := fun i hi => by show (if i = k + 1 then _ else _) = _; rw [if_neg (by omega)]
    refine ⟨fun i => if i = k + 1 then D m + sq q W m (k + 1) else D i, fun i => if i = k + 1 then m else S i, ?_, ?_, fun j h1 h2 => ?_⟩
    · exact (hDk 0 (by omega)).trans hB.d0
    · show (if 0 = k + 1 then _ else _) = _; rw [if_neg (by omega)]; exact hB.s0
    · by_cases e : j = k + 1
      · subst e
        simp only [if_true]
        refine ⟨by rw [if_neg (by omega)], hm.congr (fun _ => .rfl) fun y hy => ?_⟩
        rw [if_neg (by have := hy.1; omega)]
      · obtain ⟨a, b⟩ := hB.st j h1 (by omega)
        simp only [if_neg e]
        refine ⟨by rw [if_neg (by have := b.mem.1; omega)]; exact a, b.congr (fun _ => .rfl) fun y hy => ?_⟩
        rw [if_neg (by have := hy.1; omega)]
theorem Back.uniq {q : Nat → Int} {W : Int} {n : Nat} {D D' : Nat → Int} {S S' : Nat → Nat} (h : Back q W n D S) (h' : Back q W n D' S') : ∀ k j, j ≤ k → j ≤ n → D j = D' j ∧ S j = S' j := by
  intro k
  induction k with
  | zero => intro j hj _; have : j = 0 := by omega
            subst this; exact ⟨h.d0.trans h'.d0.symm, h.s0.trans h'.s0.symm⟩
  | succ k ih =>
    intro j hj hn
    rcases Nat.eq_zero_or_pos j with rfl | h1
    · exact ⟨h.d0.trans h'.d0.symm, h.s0.trans h'.s0.symm⟩
    · obtain ⟨a, b⟩ := h.st j h1 hn
      obtain ⟨a', b'⟩ := h'.st j h1 hn
      have e : S j = S' j := b.uniq (b'.congr (fun _ => .rfl) fun y hy => by rw [(ih y (by have := hy.1; omega) (by have := hy.1; omega)).1])
      refine ⟨?_, e⟩
      rw [a, a', ← e, (ih (S j) (by have := b.mem.1; omega) (by have := b.mem.1; omega)).1]
theorem Back.b {q : Nat → Int} {W : Int} {n : Nat} {D : Nat → Int} {S : Nat → Nat} (hp : Pos q n W) (hW : 1 ≤ W ∧ W ≤ 40) (h : Back q W n D S) : ∀ j, j ≤ n → 0 ≤ D j ∧ D j ≤ 1600 * j := by
  intro j
  induction j using Nat.strongRecOn with
  | ind j ih =>
    intro hj
    rcases Nat.eq_zero_or_pos j with rfl | h1
    · rw [h.d0]; omega
    · obtain ⟨a, b⟩ := h.st j h1 hj
      obtain ⟨m1, m2⟩ := b.mem
      have := ih (S j) m1 (by omega)
      have s1 := sq_nn q W (S j) j
      have s2 := sq_b hp hW m1 hj m2
      omega
theorem Back.sorted {q : Nat → Int} {W : Int} {n : Nat} {D : Nat → Int} {S : Nat → Nat} (hp : Pos q n W) (h : Back q W n D S) {j : Nat} (h1 : 1 ≤ j) (hj : j + 1 ≤ n) : S j ≤ S (j + 1) := by
  obtain ⟨_, b⟩ := h.st j h1 (by omega)
  obtain ⟨_, b'⟩ := h.st (j + 1) (by omega) hj
  rcases Nat.lt_or_ge (S (j + 1)) (S j) with hlt | hge
  · exfalso
    obtain ⟨m1, m2⟩ := b.mem
    obtain ⟨m1', m2'⟩ := b'.mem
    have f1 : cb q W j (S (j + 1)) := ⟨by omega, fit_sub hp (Nat.le_refl _) (by omega) (by omega) hj m2'⟩
    have f2 : cb q W (j + 1) (S j) := ⟨by omega, fit_sub hp (Nat.le_of_lt hlt) (by omega) (Nat.le_refl _) hj m2'⟩
    have a1 := b.lt _ f1 hlt
    have a2 := b'.le _ f2
    have hq := hp.le (i := S (j + 1)) (j := S j) (by omega) (by omega)
    have hu := hp.up j (by omega)
    simp only [sq, lf] at a1 a2
    generalize q (S (j + 1)) = B at *
    generalize q (S j) = A at *
    generalize q j = x at *
    generalize q (j + 1) = y at *
    have hAB : B < A := by omega
    have e : 0 < (A - B) * (y - x) := Int.mul_pos (by omega) (by omega)
    grind
  · exact hge
/-- prices of DP can be proved -/
structure Ahead (q : Nat → Int) (W : Int) (n : Nat) (L C : Nat → Int) (N : Nat → Nat) : Prop where
  ln : L n = 0
  cn : C n = 1
  nn : N n = 0
  st : ∀ i, i < n → L i = cst q W n i (N i) + L (N i) ∧ FM (ca q W n i) (fun j => cst q W n i j + L j) (N i) ∧ C i = ((la q W n i).map fun j => if cst q W n i j + L j = L i then C j else 0).foldl (· + ·) 0
theorem Ahead.exk {q : Nat → Int} {W : Int} {n : Nat} (h : Pos q n W) : ∀ k, k ≤ n → ∃ (L C : Nat → Int) (N : Nat → Nat), (L n = 0 ∧ C n = 1 ∧ N n = 0) ∧ ∀ i, n - k ≤ i → i < n → L i = cst q W n i (N i) + L (N i) ∧ FM (ca q W n i) (fun j => cst q W n i j + L j) (N i) ∧ C i = ((la q W n i).map fun j => if cst q W n i j + L j = L i then C j else 0).foldl (· + ·) 0
  | 0, _ => ⟨fun _ => 0, fun _ => 1, fun _ => 0, ⟨rfl, rfl, rfl⟩, fun i h1 h2 => by omega⟩
  | k + 1, hk => by
    obtain ⟨L, C, N, ⟨l0, c0, n0⟩, hA⟩ := Ahead.exk h k (by omega)
    generalize hx : n - (k + 1) = x at *
    obtain ⟨m, hm⟩ := FM_ex (la_up q W n x) (la_ne h (by omega)) (fun y => la_mem) (fun j => cst q W n x j + L j)
    generalize hv : cst q W n x m + L m = v at *
    generalize hc : ((la q W n x).map fun j => if cst q W n x j + L j = v then C j else 0).foldl (· + ·) 0 = c at *
    refine ⟨fun i => if i = x then v else L i, fun i => if i = x then c else C i, fun i => if i = x then m else N i, ⟨?_, ?_, ?_⟩, fun i h1 h2 => ?_⟩
    · show (if n = x then _ else _) = _; rw [if_neg (by omega)]; exact l0
    · show (if n = x then _ else _) = _; rw [if_neg (by omega)]; exact c0
    · show (if n = x then _ else _) = _; rw [if_neg (by omega)]; exact n0
    · by_cases e : i = x
      · subst e
        simp only [if_true]
        refine ⟨by rw [if_neg (by have := hm.mem.1; omega)]; exact hv.symm, hm.congr (fun _ => .rfl) fun y hy => by rw [if_neg (by have := hy.1; omega)], ?_⟩
        rw [← hc]
        congr 1
        refine List.map_congr_left fun y hy => ?_
        have hyx : ¬ y = i := by have := (la_mem.2 hy).1; omega
        simp only [hyx, if_false]
      · obtain ⟨a, b, c'⟩ := hA i (by omega) h2
        simp only [if_neg e]
        refine ⟨by rw [if_neg (by have := b.mem.1; omega)]; exact a, b.congr (fun _ => .rfl) fun y hy => by rw [if_neg (by have := hy.1; omega)], ?_⟩
        rw [c']
        congr 1
        refine List.map_congr_left fun y hy => ?_
        have hyx : ¬ y = x := by have := (la_mem.2 hy).1; omega
        simp only [hyx, if_false]
theorem Ahead.ex {q : Nat → Int} {W : Int} {n : Nat} (h : Pos q n W) : ∃ (L C : Nat → Int) (N : Nat → Nat), Ahead q W n L C N := by
  obtain ⟨L, C, N, ⟨a, b, c⟩, d⟩ := Ahead.exk h n (Nat.le_refl n)
  exact ⟨L, C, N, a, b, c, fun i hi => d i (by omega) hi⟩
theorem Ahead.b {q : Nat → Int} {W : Int} {n : Nat} {L C : Nat → Int} {N : Nat → Nat} (hp : Pos q n W) (hW : 1 ≤ W ∧ W ≤ 40) (h : Ahead q W n L C N) : ∀ k i, n - i ≤ k → i ≤ n → 0 ≤ L i ∧ L i ≤ 1600 * (n - i : Nat) := by
  intro k
  induction k with
  | zero => intro i h1 h2; have : i = n := by omega
            subst this; rw [h.ln]; omega
  | succ k ih =>
    intro i h1 h2
    by_cases e : i = n
    · subst e; rw [h.ln]; omega
    · obtain ⟨a, b, _⟩ := h.st i (by omega)
      obtain ⟨m1, m2, m3⟩ := b.mem
      have := ih (N i) (by omega) m2
      have s1 := cst_nn q W n i (N i)
      have s2 : cst q W n i (N i) ≤ 1600 := by unfold cst; split; omega; exact sq_b hp hW m1 m2 m3
      omega
/-- the two ways meet: what is least before a place and what is least behind it are together not less than what is least -/
theorem meet {q : Nat → Int} {W : Int} {n : Nat} {D L C : Nat → Int} {S N : Nat → Nat} (hB : Back q W n D S) (hA : Ahead q W n L C N) : ∀ i, i < n → L 0 ≤ D i + L i := by
  intro i
  induction i using Nat.strongRecOn with
  | ind i ih =>
    intro hi
    rcases Nat.eq_zero_or_pos i with rfl | h1
    · rw [hB.d0]; omega
    · obtain ⟨a, b⟩ := hB.st i h1 (by omega)
      obtain ⟨m1, m2⟩ := b.mem
      have h2 := ih (S i) m1 (by omega)
      obtain ⟨_, c, _⟩ := hA.st (S i) (by omega)
      have h3 := c.le i ⟨m1, by omega, m2⟩
      have e : cst q W n (S i) i = sq q W (S i) i := by unfold cst; rw [if_neg (by omega)]
      simp only [e] at h3
      have h4 := (hA.st (S i) (by omega)).1
      omega
/-- prices that can be proved -/
structure Prov (q : Nat → Int) (W : Int) (n : Nat) (p : Nat → Int) : Prop where
  p0 : p 0 = 0
  le : ∀ j, j < n → ∀ i, cb q W j i → p j ≤ p i + sq q W i j
theorem bound_le {q : Nat → Int} {W : Int} {n : Nat} {p L C : Nat → Int} {N : Nat → Nat} (hP : Prov q W n p) (hA : Ahead q W n L C N) {b : Int} (hb : ∀ i, cb q W n i → b ≤ p i) : ∀ k i, n - i ≤ k → i < n → b ≤ p i + L i := by
  intro k
  induction k with
  | zero => intro i h1 h2; omega
  | succ k ih =>
    intro i h1 h2
    obtain ⟨a, c, _⟩ := hA.st i h2
    obtain ⟨m1, m2, m3⟩ := c.mem
    by_cases e : N i = n
    · rw [e, hA.ln] at a
      have := hb i ⟨h2, by rw [← e]; exact m3⟩
      have hc := cst_nn q W n i n
      omega
    · have h3 := ih (N i) (by omega) (by omega)
      have h4 := hP.le (N i) (by omega) i ⟨m1, m3⟩
      have e2 : cst q W n i (N i) = sq q W i (N i) := by unfold cst; rw [if_neg e]
      omega
theorem back_prov {q : Nat → Int} {W : Int} {n : Nat} {D : Nat → Int} {S : Nat → Nat} (hB : Back q W n D S) : Prov q W n D where
  p0 := hB.d0
  le := fun j hj i hi => by
    rcases Nat.eq_zero_or_pos j with rfl | h1
    · exact absurd hi.1 (by omega)
    · obtain ⟨a, b⟩ := hB.st j h1 (by omega)
      have : D (S j) + sq q W (S j) j ≤ D i + sq q W i j := b.le i hi
      omega
theorem least_le {q : Nat → Int} {W : Int} {n : Nat} {D L C : Nat → Int} {S N : Nat → Nat} (hB : Back q W n D S) (hA : Ahead q W n L C N) {i : Nat} (hi : cb q W n i) : L 0 ≤ D i := by
  have h1 := meet hB hA i hi.1
  obtain ⟨a, c, _⟩ := hA.st i hi.1
  have h3 := c.le n ⟨hi.1, Nat.le_refl n, hi.2⟩
  simp only [cst, if_true, hA.ln] at h3
  have h4 : L i = cst q W n i (N i) + L (N i) := a
  simp only [cst] at h4
  omega
end Go.Proofs.Ytdmffkknghianaa

