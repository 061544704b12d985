/-
  The best ends: the mathematics of trying all of them.
-/
import Derived.Test.YtdmffkknghianaaMu
set_option linter.unusedSimpArgs false
set_option linter.unusedVariables false
namespace Go.Proofs.Ytdmffkknghianaa
open Go Go.Proofs.Eng
set_option maxRecDepth 100000
set_option maxHeartbeats 1000000
structure Bs where
  F : Option (List Nat)
  l : Int
  m : Nat
def e0 : Bs := ⟨none, 0, 0⟩
def comb (s t : Bs) : Bs := if t.m = 0 then s else if s.m = 0 then t else if t.l < s.l then t else if t.l = s.l then ⟨s.F, s.l, s.m + t.m⟩ else s
theorem comb_e (s : Bs) : comb s e0 = s := by unfold comb; rw [if_pos (show e0.m = 0 from rfl)]
theorem comb_assoc (a b c : Bs) : comb (comb a b) c = comb a (comb b c) := by
  obtain ⟨aF, al, am⟩ := a
  obtain ⟨bF, bl, bm⟩ := b
  obtain ⟨cF, cl, cm⟩ := c
  unfold comb
  grind
def sg1 (c : Int) (x : List Nat) : Bs := ⟨some x, c, 1⟩
def FB (g : List Nat → Int) (s : Bs) (l : List (List Nat)) : Bs := l.foldl (fun s x => comb s (sg1 (g x) x)) s
theorem FB_comb (g : List Nat → Int) : ∀ (l : List (List Nat)) (s : Bs), FB g s l = comb s (FB g e0 l)
  | [], s => (comb_e s).symm
  | x :: l, s => by
    have h1 := FB_comb g l (comb s (sg1 (g x) x))
    have h2 := FB_comb g l (comb e0 (sg1 (g x) x))
    have e : comb e0 (sg1 (g x) x) = sg1 (g x) x := by unfold comb e0 sg1; simp
    show FB g (comb s (sg1 (g x) x)) l = comb s (FB g (comb e0 (sg1 (g x) x)) l)
    rw [h1, h2, e, comb_assoc]
theorem FB_append (g : List Nat → Int) (l l' : List (List Nat)) (s : Bs) : FB g s (l ++ l') = comb (FB g s l) (FB g e0 l') := by
  unfold FB
  rw [List.foldl_append]
  exact FB_comb g l' _
theorem FB_flat (g : List Nat → Int) (G : Nat → List (List Nat)) : ∀ (js : List Nat) (s : Bs), FB g s (js.flatMap G) = js.foldl (fun s j => comb s (FB g e0 (G j))) s
  | [], s => rfl
  | j :: js, s => by
    have h : FB g s ((j :: js).flatMap G) = FB g (FB g s (G j)) (js.flatMap G) := by rw [List.flatMap_cons]; unfold FB; rw [List.foldl_append]
    rw [h, FB_flat g G js, List.foldl_cons, FB_comb g (G j) s]
def shf (c : Int) (j : Nat) (s : Bs) : Bs := ⟨s.F.map (j :: ·), if s.m = 0 then 0 else c + s.l, s.m⟩
theorem shf_comb (c : Int) (j : Nat) (s t : Bs) : shf c j (comb s t) = comb (shf c j s) (shf c j t) := by
  obtain ⟨sF, sl, sm⟩ := s
  obtain ⟨tF, tl, tm⟩ := t
  unfold shf comb
  by_cases ht : tm = 0
  · simp [ht]
  by_cases hs : sm = 0
  · simp [ht, hs]
  have hst : ¬ (sm + tm = 0) := by omega
  by_cases h1 : tl < sl
  · have h2 : c + tl < c + sl := by omega
    simp [ht, hs, h1]
  · by_cases h2 : tl = sl
    · subst h2; simp [ht, hs, hst]
    · have h3 : ¬ c + tl < c + sl := by omega
      have h4 : ¬ c + tl = c + sl := by omega
      simp [ht, hs, h1, h2]
theorem FB_shf (g g' : List Nat → Int) (c : Int) (j : Nat) (hg : ∀ t, g (j :: t) = c + g' t) : ∀ (l : List (List Nat)), FB g e0 (l.map (j :: ·)) = shf c j (FB g' e0 l) := by
  have key : ∀ (l : List (List Nat)) (s : Bs), FB g (shf c j s) (l.map (j :: ·)) = shf c j (FB g' s l) := by
    intro l
    induction l with
    | nil => intro s; rfl
    | cons x l ih =>
      intro s
      show FB g (comb (shf c j s) (sg1 (g (j :: x)) (j :: x))) (l.map (j :: ·)) = shf c j (FB g' (comb s (sg1 (g' x) x)) l)
      have e : sg1 (g (j :: x)) (j :: x) = shf c j (sg1 (g' x) x) := by unfold sg1 shf; simp [hg]
      rw [e, ← shf_comb]
      exact ih _
  intro l
  have := key l e0
  have e : shf c j e0 = e0 := by unfold shf e0; simp
  rwa [e] at this
/-- groups in order: the first least one, and how many there are in all that have as little -/
theorem comb_groups (x : Nat → List Nat) (v : Nat → Int) (c : Nat → Nat) : ∀ (l P : List Nat) (m : Nat), FM (fun y => y ∈ P) v m → (∀ y z, y ∈ P → z ∈ l → y < z) → l.Pairwise (· < ·) → (∀ y, y ∈ l → 0 < c y) → ∀ k : Nat, 0 < k → (k : Int) = sumI (P.map fun j => if v j = v m then (c j : Int) else 0) →
    ∃ (m' k' : Nat), FM (fun y => y ∈ P ++ l) v m' ∧ (k' : Int) = sumI ((P ++ l).map fun j => if v j = v m' then (c j : Int) else 0) ∧ l.foldl (fun s j => comb s ⟨some (x j), v j, c j⟩) ⟨some (x m), v m, k⟩ = ⟨some (x m'), v m', k'⟩
  | [], P, m, h, _, _, _, k, hk, hs => ⟨m, k, h.congr (fun y => by simp) fun _ _ => rfl, by rw [List.append_nil]; exact hs, rfl⟩
  | y :: t, P, m, h, hlt, hpw, hc, k, hk, hs => by
    obtain ⟨p1, p2⟩ := List.pairwise_cons.1 hpw
    have hcy := hc y List.mem_cons_self
    have hmy := hlt m y h.mem List.mem_cons_self
    have cont : ∀ (m2 k2 : Nat), FM (fun z => z ∈ P ++ [y]) v m2 → 0 < k2 → (k2 : Int) = sumI ((P ++ [y]).map fun j => if v j = v m2 then (c j : Int) else 0) → comb ⟨some (x m), v m, k⟩ ⟨some (x y), v y, c y⟩ = ⟨some (x m2), v m2, k2⟩ →
        ∃ (m' k' : Nat), FM (fun z => z ∈ P ++ y :: t) v m' ∧ (k' : Int) = sumI ((P ++ y :: t).map fun j => if v j = v m' then (c j : Int) else 0) ∧ (y :: t).foldl (fun s j => comb s ⟨some (x j), v j, c j⟩) ⟨some (x m), v m, k⟩ = ⟨some (x m'), v m', k'⟩ := by
      intro m2 k2 h1 h2 h3 h4
      obtain ⟨m', k', a, b, d⟩ := comb_groups x v c t (P ++ [y]) m2 h1 (fun u z hu hz => by
        rcases List.mem_append.1 hu with q | q
        · exact hlt u z q (List.mem_cons_of_mem _ hz)
        · rw [List.mem_singleton.1 q]; exact p1 z hz) p2 (fun u hu => hc u (List.mem_cons_of_mem _ hu)) k2 h2 h3
      rw [List.append_assoc, List.singleton_append] at a b
      exact ⟨m', k', a, b, by rw [List.foldl_cons, h4]; exact d⟩
    have hcy0 : ¬ c y = 0 := by omega
    have hk0 : ¬ k = 0 := by omega
    rcases Int.lt_trichotomy (v y) (v m) with hlt2 | heq | hgt
    · refine cont y (c y) ⟨by simp, fun z hz => ?_, fun z hz hl => ?_⟩ hcy ?_ ?_
      · rcases List.mem_append.1 hz with q | q
        · have := h.le z q; omega
        · rw [List.mem_singleton.1 q]; exact Int.le_refl _
      · rcases List.mem_append.1 hz with q | q
        · have := h.le z q; omega
        · rw [List.mem_singleton.1 q] at hl; omega
      · rw [List.map_append, List.map_cons, List.map_nil, sumI_snoc, if_pos rfl]
        have hz : (P.map fun j => if v j = v y then (c j : Int) else 0) = P.map fun _ => (0 : Int) := List.map_congr_left fun j hj => by
          have := h.le j hj
          rw [if_neg (by omega)]
        rw [hz]
        have : ∀ P : List Nat, sumI (P.map fun _ => (0 : Int)) = 0 := fun P => by
          unfold sumI
          induction P with
          | nil => rfl
          | cons a P ih => simpa using ih
        rw [this]; omega
      · unfold comb; simp only [hcy0, hk0, if_false]; rw [if_pos hlt2]
    · refine cont m (k + c y) ⟨List.mem_append_left _ h.mem, fun z hz => ?_, fun z hz hl => ?_⟩ (by omega) ?_ ?_
      · rcases List.mem_append.1 hz with q | q
        · exact h.le z q
        · rw [List.mem_singleton.1 q]; omega
      · rcases List.mem_append.1 hz with q | q
        · exact h.lt z q hl
        · rw [List.mem_singleton.1 q] at hl; omega
      · rw [List.map_append, List.map_cons, List.map_nil, sumI_snoc, if_pos heq, ← hs]; omega
      · unfold comb; simp only [hcy0, hk0, if_false]; rw [if_neg (by omega), if_pos heq]
    · refine cont m k ⟨List.mem_append_left _ h.mem, fun z hz => ?_, fun z hz hl => ?_⟩ hk ?_ ?_
      · rcases List.mem_append.1 hz with q | q
        · exact h.le z q
        · rw [List.mem_singleton.1 q]; omega
      · rcases List.mem_append.1 hz with q | q
        · exact h.lt z q hl
        · rw [List.mem_singleton.1 q] at hl; omega
      · rw [List.map_append, List.map_cons, List.map_nil, sumI_snoc, if_neg (by omega), ← hs]; omega
      · unfold comb; simp only [hcy0, hk0, if_false]; rw [if_neg (by omega), if_neg (by omega)]
/-- what ends cost from a place on -/
def csF (q : Nat → Int) (V : Int) (n b : Nat) (E : List Nat) : Int := sumI ((spE b E).map fun p => cst q V n p.1 p.2)
theorem fold_add : ∀ (l : List Int) (x a : Int), (l.foldl (· + ·) (a + x)) = l.foldl (· + ·) a + x
  | [], x, a => rfl
  | y :: l, x, a => by simp only [List.foldl_cons]; rw [show a + x + y = a + y + x by omega]; exact fold_add l x (a + y)
theorem sumI_cons (x : Int) (l : List Int) : sumI (x :: l) = x + sumI l := by
  unfold sumI
  rw [List.foldl_cons, fold_add]; omega
theorem csF_cons (q : Nat → Int) (V : Int) (n b j : Nat) (t : List Nat) : csF q V n b (j :: t) = cst q V n b j + csF q V n j t := by
  unfold csF
  rw [spE, List.map_cons, sumI_cons]
theorem Ahead.pos {q : Nat → Int} {V : Int} {n : Nat} {L C : Nat → Int} {N : Nat → Nat} (hn : n ≤ 10) (h : Ahead q V n L C N) : ∀ k i, n - i ≤ k → i ≤ n → 1 ≤ C i := by
  intro k
  induction k with
  | zero => intro i h1 h2; have : i = n := by omega
            subst this; rw [h.cn]; omega
  | succ k ih =>
    intro i h1 h2
    by_cases e : i = n
    · subst e; rw [h.cn]; omega
    · obtain ⟨sl, sN, sc⟩ := h.st i (by omega)
      have hm := sN.mem
      have hNi := la_mem.1 hm
      have h1 := ih (N i) (by have := hm.1; omega) hm.2.1
      obtain ⟨A, B, hAB⟩ := List.append_of_mem hNi
      have e2 : C i = sumI ((la q V n i).map (cnF q V n L C i)) := sc
      rw [e2, hAB, List.map_append, List.map_cons]
      have hnn : ∀ l : List Nat, (∀ y, y ∈ l → y ∈ la q V n i) → 0 ≤ sumI (l.map (cnF q V n L C i)) := fun l hl => by
        induction l with
        | nil => exact Int.le_refl _
        | cons y l ihl =>
          rw [List.map_cons, sumI_cons]
          have := ihl fun z hz => hl z (List.mem_cons_of_mem _ hz)
          have hy := la_mem.2 (hl y List.mem_cons_self)
          have hcy := (h.cb hn (n - y) y (Nat.le_refl _) hy.2.1).1
          have hc : 0 ≤ cnF q V n L C i y := by unfold cnF; split <;> omega
          omega
      have hA := hnn A fun y hy => by rw [hAB]; exact List.mem_append_left _ hy
      have hB := hnn B fun y hy => by rw [hAB]; exact List.mem_append_right _ (List.mem_cons_of_mem _ hy)
      have happ : ∀ (l l' : List Int), sumI (l ++ l') = sumI l + sumI l' := fun l l' => by
        induction l with
        | nil => simp [sumI]
        | cons a l ih => rw [List.cons_append, sumI_cons, sumI_cons, ih]; omega
      rw [happ, sumI_cons]
      have : cnF q V n L C i (N i) = C (N i) := by unfold cnF; rw [if_pos sl.symm]
      omega
theorem way_stable {N : Nat → Nat} {n : Nat} (hN : ∀ i, i < n → i < N i ∧ N i ≤ n) : ∀ (k k' p : Nat), n - p ≤ k → n - p ≤ k' → p ≤ n → way N n k p = way N n k' p
  | 0, 0, p, _, _, _ => rfl
  | 0, k' + 1, p, h, _, hp => by rw [way, way, if_pos (by omega)]
  | k + 1, 0, p, _, h, hp => by rw [way, way, if_pos (by omega)]
  | k + 1, k' + 1, p, h, h', hp => by
    rw [way, way]
    by_cases e : p = n
    · rw [if_pos e, if_pos e]
    · rw [if_neg e, if_neg e]
      have := hN p (by omega)
      rw [way_stable hN k k' (N p) (by omega) (by omega) this.2]
/-- all that are tried: the first best ones, what they cost, and how many -/
theorem FB_all {q : Nat → Int} {V : Int} {n : Nat} (hp : Pos q n V) (hn : n ≤ 10) {L C : Nat → Int} {N : Nat → Nat} (hA : Ahead q V n L C N) : ∀ (k i : Nat), n - i ≤ k → i ≤ n → FB (csF q V n i) e0 (alE q V n k i) = ⟨some (way N n k i), L i, (C i).toNat⟩ := by
  have hend : FB (csF q V n n) e0 [[]] = ⟨some [], L n, (C n).toNat⟩ := by
    show comb e0 (sg1 (csF q V n n []) []) = _
    have : csF q V n n [] = 0 := rfl
    rw [this, hA.ln, hA.cn]; rfl
  intro k
  induction k with
  | zero =>
    intro i h1 h2
    have : i = n := by omega
    subst this
    rw [alE_z, way]; exact hend
  | succ k ih =>
    intro i h1 h2
    by_cases e : i = n
    · subst e; rw [alE_n, way, if_pos rfl]; exact hend
    · rw [alE_s e, way, if_neg e, FB_flat]
      obtain ⟨sl, sN, sc⟩ := hA.st i (by omega)
      have hgr : ∀ j, i < j → j ≤ n → FB (csF q V n i) e0 (alG q V n k i j) = if fit q V i j = true then ⟨some (j :: way N n k j), cst q V n i j + L j, (C j).toNat⟩ else e0 := fun j hj1 hj2 => by
        unfold alG
        split
        · rw [FB_shf (csF q V n i) (csF q V n j) (cst q V n i j) j (csF_cons q V n i j), ih j (by omega) hj2]
          have := hA.pos hn (n - j) j (Nat.le_refl _) hj2
          unfold shf
          simp only [Option.map_some]
          rw [if_neg (by omega)]
        · rfl
      -- only those that fit count
      have hfil : ∀ (js : List Nat), (∀ j, j ∈ js → i < j ∧ j ≤ n) → ∀ s, js.foldl (fun s j => comb s (FB (csF q V n i) e0 (alG q V n k i j))) s = (js.filter fun j => fit q V i j).foldl (fun s j => comb s ⟨some (j :: way N n k j), cst q V n i j + L j, (C j).toNat⟩) s := by
        intro js
        induction js with
        | nil => intro _ s; rfl
        | cons j js ihj =>
          intro hj s
          have hj1 := hj j List.mem_cons_self
          rw [List.foldl_cons, hgr j hj1.1 hj1.2, List.filter_cons]
          split
          · rw [List.foldl_cons]; exact ihj (fun z hz => hj z (List.mem_cons_of_mem _ hz)) _
          · rw [comb_e]; exact ihj (fun z hz => hj z (List.mem_cons_of_mem _ hz)) _
      rw [hfil _ fun j hj => by obtain ⟨a, ha, rfl⟩ := List.mem_range'.1 hj; omega]
      show (la q V n i).foldl _ _ = _
      have hla := la_ne hp (i := i) (by omega)
      have hup := la_up q V n i
      cases hl : la q V n i with
      | nil => exact absurd hl hla
      | cons y t =>
        have hall : ∀ z, z ∈ y :: t → i < z ∧ z ≤ n := fun z hz => by have := la_mem.2 (hl ▸ hz); exact ⟨this.1, this.2.1⟩
        have hcp : ∀ z, z ∈ y :: t → 0 < (C z).toNat := fun z hz => by have := hA.pos hn (n - z) z (Nat.le_refl _) (hall z hz).2; omega
        rw [hl] at hup
        obtain ⟨p1, p2⟩ := List.pairwise_cons.1 hup
        have hb : comb e0 ⟨some (y :: way N n k y), cst q V n i y + L y, (C y).toNat⟩ = ⟨some (y :: way N n k y), cst q V n i y + L y, (C y).toNat⟩ := by
          have := hcp y List.mem_cons_self
          unfold comb e0
          rw [if_neg (by show ¬ (C y).toNat = 0; omega), if_pos rfl]
        rw [List.foldl_cons, hb]
        obtain ⟨m', k', a, b, d⟩ := comb_groups (fun j => j :: way N n k j) (fun j => cst q V n i j + L j) (fun j => (C j).toNat) t [y] y ⟨by simp, fun z hz => by rw [List.mem_singleton.1 hz]; exact Int.le_refl _, fun z hz hlt => by rw [List.mem_singleton.1 hz] at hlt; omega⟩ (fun u z hu hz => by rw [List.mem_singleton.1 hu]; exact p1 z hz) p2 (fun z hz => hcp z (List.mem_cons_of_mem _ hz)) (C y).toNat (hcp y List.mem_cons_self) (by simp [sumI])
        rw [d]
        have hm : m' = N i := a.uniq (sN.congr (fun z => by rw [la_mem, hl]; simp) fun _ _ => rfl)
        subst hm
        have hk : (k' : Int) = C i := by
          rw [b, sc, hl]
          show sumI _ = sumI _
          congr 1
          refine List.map_congr_left fun j hj => ?_
          have hj2 := hA.pos hn (n - j) j (Nat.le_refl _) (hall j hj).2
          rw [← sl]
          split
          · omega
          · rfl
        have hk2 : k' = (C i).toNat := by omega
        rw [hk2, ← sl]
theorem alE_len {q : Nat → Int} {V : Int} {n : Nat} (hn : n ≤ 10) : ∀ (k i : Nat), n - i ≤ k → (alE q V n k i).length ≤ p11 (n - i) := by
  intro k
  induction k with
  | zero => intro i h; rw [alE_z]; have := p11_le (Nat.zero_le (n - i)); simpa [p11] using this
  | succ k ih =>
    intro i h
    by_cases e : i = n
    · subst e; rw [alE_n, Nat.sub_self]; decide
    · rw [alE_s e]
      have key : ∀ (js : List Nat) (B : Nat), (∀ j, j ∈ js → (alG q V n k i j).length ≤ B) → (js.flatMap (alG q V n k i)).length ≤ js.length * B := by
        intro js B
        induction js with
        | nil => intro _; simp
        | cons j js ihj =>
          intro hj
          rw [List.flatMap_cons, List.length_append, List.length_cons, Nat.succ_mul]
          have h1 := hj j List.mem_cons_self
          have h2 := ihj fun z hz => hj z (List.mem_cons_of_mem _ hz)
          omega
      by_cases hin : i < n
      · have := key (List.range' (i + 1) (n - i)) (p11 (n - i - 1)) fun j hj => by
          obtain ⟨a, ha, rfl⟩ := List.mem_range'.1 hj
          unfold alG
          split
          · rw [List.length_map]
            exact Nat.le_trans (ih (i + 1 + 1 * a) (by omega)) (p11_le (by omega))
          · exact Nat.zero_le _
        rw [List.length_range'] at this
        have h5 : p11 (n - i) = p11 (n - i - 1) * 11 := by rw [← p11_s, show n - i - 1 + 1 = n - i by omega]
        have h6 : (n - i) * p11 (n - i - 1) ≤ 11 * p11 (n - i - 1) := Nat.mul_le_mul_right _ (by omega)
        omega
      · have : n - i = 0 := by omega
        rw [this]; simp [List.range']
end Go.Proofs.Ytdmffkknghianaa

