/-
  All cuts whose volumes are allowed, how many there are, and the first one of the shortest.
-/
import Derived.Test.YtnpdpkeackicmaaVq
set_option linter.unusedSimpArgs false
set_option linter.unusedVariables false
namespace Go.Proofs.Ytnpdpkeackicmaa
open Go Go.Proofs.Eng
set_option maxRecDepth 100000
set_option maxHeartbeats 4000000
def ctL (ok : Nat → Nat → Bool) (n : Nat) : Nat → Nat → List (List Int)
  | 0, b => if b = n then [[]] else []
  | k + 1, b => if b = n then [[]] else (List.range' (b + 1) (n - b)).flatMap fun e => if ok b e = true then (ctL ok n k e).map (fun t => (e : Int) :: t) else []
theorem flatMap_ext {α β : Type} {l : List α} {f g : α → List β} (h : ∀ x, x ∈ l → f x = g x) : l.flatMap f = l.flatMap g := by
  induction l with
  | nil => rfl
  | cons x l ih => rw [List.flatMap_cons, List.flatMap_cons, h x List.mem_cons_self, ih fun y hy => h y (List.mem_cons_of_mem _ hy)]
theorem ctL_fuel {ok : Nat → Nat → Bool} {n : Nat} : ∀ (k b : Nat), n ≤ b + k → ctL ok n (k + 1) b = ctL ok n k b
  | 0, b, h => by
    simp only [ctL]
    by_cases q : b = n
    · rw [if_pos q, if_pos q]
    · rw [if_neg q, if_neg q, show n - b = 0 by omega]; rfl
  | k + 1, b, h => by
    rw [ctL]
    conv => rhs; rw [ctL]
    by_cases q : b = n
    · rw [if_pos q, if_pos q]
    · rw [if_neg q, if_neg q]
      refine flatMap_ext fun e he => ?_
      have := List.mem_range'_1.1 he
      rw [ctL_fuel k e (by omega)]
/-- all cuts from an article on -/
def cts (ok : Nat → Nat → Bool) (n b : Nat) : List (List Int) := ctL ok n n b
theorem cts_end (ok : Nat → Nat → Bool) (n : Nat) : cts ok n n = [[]] := by
  unfold cts
  cases n with
  | zero => rfl
  | succ n => rw [ctL, if_pos rfl]
def ctG (ok : Nat → Nat → Bool) (n b e : Nat) : List (List Int) := if ok b e = true then (cts ok n e).map (fun t => (e : Int) :: t) else []
theorem cts_rec (ok : Nat → Nat → Bool) {n b : Nat} (h : b < n) : cts ok n b = (List.range' (b + 1) (n - b)).flatMap (ctG ok n b) := by
  unfold cts
  obtain ⟨m, rfl⟩ : ∃ m, n = m + 1 := ⟨n - 1, by omega⟩
  rw [ctL, if_neg (by omega)]
  refine flatMap_ext fun e he => ?_
  have := List.mem_range'_1.1 he
  unfold ctG cts
  rw [ctL_fuel m e (by omega)]
theorem ctG_len {ok : Nat → Nat → Bool} {n b : Nat} (h : ∀ e, b < e → e ≤ n → (cts ok n e).length ≤ 2 ^ (n - e)) : ∀ (k x : Nat), x + k = n + 1 → b < x → ((List.range' x k).flatMap (ctG ok n b)).length + 1 ≤ 2 ^ (n + 1 - x)
  | 0, x, hx, hb => by
    rw [show n + 1 - x = 0 by omega]; exact Nat.le_refl _
  | k + 1, x, hx, hb => by
    have ih := ctG_len h k (x + 1) (by omega) (by omega)
    have h1 := h x hb (by omega)
    have h2 : (ctG ok n b x).length ≤ 2 ^ (n - x) := by
      unfold ctG
      split
      · rw [List.length_map]; exact h1
      · exact Nat.zero_le _
    rw [List.range'_succ, List.flatMap_cons, List.length_append]
    rw [show n + 1 - (x + 1) = n - x by omega] at ih
    have e : 2 ^ (n + 1 - x) = 2 ^ (n - x) + 2 ^ (n - x) := by rw [show n + 1 - x = (n - x) + 1 by omega, Nat.pow_succ]; omega
    omega
theorem cts_len (ok : Nat → Nat → Bool) (n : Nat) : ∀ (k b : Nat), b + k = n → (cts ok n b).length ≤ 2 ^ (n - b) := by
  intro k
  induction k using Nat.strongRecOn with
  | ind k ih =>
    intro b hb
    by_cases q : b = n
    · subst q
      rw [cts_end, Nat.sub_self]; exact Nat.le_refl _
    · rw [cts_rec ok (by omega)]
      have := ctG_len (ok := ok) (n := n) (b := b) (fun e h1 h2 => ih (n - e) (by omega) e (by omega)) (n - b) (b + 1) (by omega) (by omega)
      rw [show n + 1 - (b + 1) = n - b by omega] at this
      omega
theorem cts_4096 (ok : Nat → Nat → Bool) {n b : Nat} (hn : n ≤ 12) (hb : b ≤ n) : (cts ok n b).length ≤ 4096 := by
  have h := cts_len ok n (n - b) b (by omega)
  have h2 : 2 ^ (n - b) ≤ 2 ^ 12 := Nat.pow_le_pow_right (by omega) (by omega)
  have : 2 ^ 12 = 4096 := by decide
  omega
theorem cts_congr {ok ok' : Nat → Nat → Bool} {n : Nat} (h : ∀ b e, b < e → e ≤ n → ok b e = ok' b e) : ∀ (k b : Nat), b + k = n → cts ok n b = cts ok' n b := by
  intro k
  induction k using Nat.strongRecOn with
  | ind k ih =>
    intro b hb
    by_cases q : b = n
    · subst q; rw [cts_end, cts_end]
    · rw [cts_rec ok (by omega), cts_rec ok' (by omega)]
      refine flatMap_ext fun e he => ?_
      have := List.mem_range'_1.1 he
      unfold ctG
      rw [h b e (by omega) (by omega), ih (n - e) (by omega) e (by omega)]
/-- those of all cuts whose volumes are good -/
theorem cts_filter (A : List (Int × Int)) (p : List (Int × Int) → Bool) : ∀ (k b : Nat), b + k = A.length → (cts (fun _ _ => true) A.length b).filter (fun E => (vSeg A b E).all p) = cts (fun b e => p (seg A b e)) A.length b := by
  intro k
  induction k using Nat.strongRecOn with
  | ind k ih =>
    intro b hb
    by_cases q : b = A.length
    · subst q; rw [cts_end, cts_end]; rfl
    · rw [cts_rec _ (by omega), cts_rec _ (by omega), List.filter_flatMap]
      refine flatMap_ext fun e he => ?_
      have := List.mem_range'_1.1 he
      unfold ctG
      rw [if_pos rfl, List.filter_map]
      have hf : ((fun E => (vSeg A b E).all p) ∘ fun t => (e : Int) :: t) = fun t => p (seg A b e) && (vSeg A e t).all p := by
        funext t; simp [vSeg]
      rw [hf]
      by_cases hp : p (seg A b e) = true
      · rw [if_pos hp, ← ih (A.length - e) (by omega) e (by omega)]
        simp only [hp, Bool.true_and]
      · rw [if_neg hp]
        have : p (seg A b e) = false := by simpa using hp
        simp [this]
theorem cts_mem (A : List (Int × Int)) (p : List (Int × Int) → Bool) : ∀ (k b : Nat), b + k = A.length → ∀ E, E ∈ cts (fun b e => p (seg A b e)) A.length b → vErr A.length b E = 0 ∧ (vSeg A b E).all p = true := by
  intro k
  induction k using Nat.strongRecOn with
  | ind k ih =>
    intro b hb E hE
    by_cases q : b = A.length
    · subst q
      rw [cts_end] at hE
      have : E = [] := by simpa using hE
      subst this
      constructor
      · unfold vErr; exact if_pos rfl
      · rfl
    · rw [cts_rec _ (by omega)] at hE
      obtain ⟨e, he, hE⟩ := List.mem_flatMap.1 hE
      have := List.mem_range'_1.1 he
      unfold ctG at hE
      split at hE
      · rename_i hp
        have hp : p (seg A b e) = true := hp
        obtain ⟨t, ht, rfl⟩ := List.mem_map.1 hE
        obtain ⟨h1, h2⟩ := ih (A.length - e) (by omega) e (by omega) t ht
        constructor
        · unfold vErr
          rw [if_neg (by omega), if_neg (by omega)]
          exact h1
        · simp only [vSeg, List.all_cons, toNat_cast]
          rw [hp, h2]; rfl
      · cases hE
theorem mem_cts (A : List (Int × Int)) (p : List (Int × Int) → Bool) : ∀ (E : List Int) (b : Nat), b ≤ A.length → vErr A.length b E = 0 → (vSeg A b E).all p = true → E ∈ cts (fun b e => p (seg A b e)) A.length b
  | [], b, hb, hv, hs => by
    unfold vErr at hv
    split at hv
    · have : b = A.length := by omega
      subst this
      rw [cts_end]; exact List.mem_cons_self
    · cases hv
  | x :: T, b, hb, hv, hs => by
    obtain ⟨v1, v2, v3, v4⟩ := vErr_cons hv
    obtain ⟨q, rfl⟩ : ∃ q : Nat, x = (q : Int) := ⟨x.toNat, by omega⟩
    simp only [vSeg, List.all_cons, toNat_cast, Bool.and_eq_true] at hs
    rw [cts_rec _ (by omega)]
    refine List.mem_flatMap.2 ⟨q, List.mem_range'_1.2 (by omega), ?_⟩
    unfold ctG
    rw [if_pos hs.1]
    exact List.mem_map.2 ⟨T, mem_cts A p T q (by omega) v4 hs.2, rfl⟩
/-! ### how many, and the first of the shortest -/
def mrg : Option (Nat × List Int) → Option (Nat × List Int) → Option (Nat × List Int)
  | none, b => b
  | a, none => a
  | some (c, f), some (d, g) => some (c + d, if f.length ≤ g.length then f else g)
def smry : List (List Int) → Option (Nat × List Int)
  | [] => none
  | E :: l => mrg (some (1, E)) (smry l)
theorem mrg_none (a : Option (Nat × List Int)) : mrg a none = a := by cases a <;> rfl
theorem mrg_assoc (a b c : Option (Nat × List Int)) : mrg (mrg a b) c = mrg a (mrg b c) := by
  match a, b, c with
  | none, b, c => rfl
  | some a, none, c => rw [mrg_none]; rfl
  | some a, some b, none => rw [mrg_none, mrg_none]
  | some (c1, f1), some (c2, f2), some (c3, f3) =>
    simp only [mrg]
    congr 1
    refine Prod.ext (by simp only; omega) ?_
    simp only
    by_cases h1 : f1.length ≤ f2.length
    · rw [if_pos h1]
      by_cases h2 : f2.length ≤ f3.length
      · rw [if_pos h2, if_pos (by omega), if_pos h1]
      · rw [if_neg h2]
    · rw [if_neg h1]
      by_cases h2 : f2.length ≤ f3.length
      · rw [if_pos h2, if_neg h1]
      · rw [if_neg h2, if_neg (by omega)]
theorem smry_app (l m : List (List Int)) : smry (l ++ m) = mrg (smry l) (smry m) := by
  induction l with
  | nil => rfl
  | cons E l ih => rw [List.cons_append, smry, ih, ← mrg_assoc]; rfl
def addE (e : Int) : Nat × List Int → Nat × List Int := fun p => (p.1, e :: p.2)
theorem smry_map (e : Int) (l : List (List Int)) : smry (l.map fun t => e :: t) = (smry l).map (addE e) := by
  induction l with
  | nil => rfl
  | cons E l ih =>
    rw [List.map_cons, smry, ih, smry]
    cases smry l with
    | none => rfl
    | some p =>
      obtain ⟨d, g⟩ := p
      simp only [Option.map_some, mrg, addE, List.length_cons, Nat.add_le_add_iff_right]
      congr 1
      by_cases h : E.length ≤ g.length
      · rw [if_pos h, if_pos h]
      · rw [if_neg h, if_neg h]
theorem smry_ok : ∀ (l : List (List Int)), (smry l = none ↔ l = []) ∧ ∀ c f, smry l = some (c, f) → c = l.length ∧ f ∈ l ∧ ∀ E, E ∈ l → f.length ≤ E.length
  | [] => ⟨⟨fun _ => rfl, fun _ => rfl⟩, fun c f h => by cases h⟩
  | E :: l => by
    obtain ⟨i1, i2⟩ := smry_ok l
    refine ⟨⟨fun h => ?_, fun h => by cases h⟩, fun c f h => ?_⟩
    · rw [smry] at h
      cases hs : smry l with
      | none => rw [hs] at h; cases h
      | some p => rw [hs] at h; cases h
    · rw [smry] at h
      cases hs : smry l with
      | none =>
        rw [hs] at h
        have := i1.1 hs
        subst this
        simp only [mrg, Option.some.injEq, Prod.mk.injEq] at h
        obtain ⟨h1, h2⟩ := h
        subst h1 h2
        refine ⟨rfl, by simp, fun E' h' => ?_⟩
        have : E' = E := by simpa using h'
        rw [this]; exact Nat.le_refl _
      | some p =>
        obtain ⟨d, g⟩ := p
        rw [hs] at h
        obtain ⟨j1, j2, j3⟩ := i2 d g hs
        simp only [mrg, Option.some.injEq, Prod.mk.injEq] at h
        obtain ⟨h1, h2⟩ := h
        refine ⟨by rw [← h1, j1, List.length_cons]; omega, ?_, fun E' hE' => ?_⟩
        · rw [← h2]
          split
          · exact List.mem_cons_self
          · exact List.mem_cons_of_mem _ j2
        · rw [← h2]
          rcases List.mem_cons.1 hE' with rfl | hE'
          · split <;> omega
          · have := j3 E' hE'
            split <;> omega
end Go.Proofs.Ytnpdpkeackicmaa

