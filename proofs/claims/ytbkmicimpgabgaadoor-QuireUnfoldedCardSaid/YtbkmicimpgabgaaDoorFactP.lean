/-
  Piles of all folds: places and pages.
-/
import Derived.Test.YtbkmicimpgabgaaDoorFactA
import Derived.Test.YtbkmicimpgabgaaDoorPages
import Derived.Test.YtbkmicimpgabgaaDoorFolded
set_option linter.unusedSimpArgs false
set_option linter.unusedVariables false
namespace Go.Proofs.Quire
/-- a list of squares below n, none of them twice -/
def okS (n : Nat) : List Nat → List Bool → Bool
  | [], _ => true
  | x :: xs, m => Nat.blt x n && (!m.getD x false && okS n xs (m.set x true))
theorem okS_of (n : Nat) : ∀ (l : List Nat) (m : List Bool), m.length = n → (∀ x ∈ l, x < n ∧ m.getD x false = false) → l.Nodup → okS n l m = true
  | [], _, _, _, _ => rfl
  | x :: xs, m, hm, h, hd => by
    obtain ⟨h1, h2⟩ := h x (List.mem_cons_self ..)
    rw [okS, h2, show Nat.blt x n = true from Nat.ble_eq_true_of_le h1]
    simp only [Bool.not_false, Bool.true_and]
    refine okS_of n xs _ (by rw [List.length_set, hm]) (fun y hy => ?_) (List.nodup_cons.1 hd).2
    obtain ⟨h3, h4⟩ := h y (List.mem_cons_of_mem _ hy)
    refine ⟨h3, ?_⟩
    have hne : x ≠ y := fun e => (List.nodup_cons.1 hd).1 (e ▸ hy)
    rw [List.getD_eq_getElem?_getD, List.getElem?_set_ne hne, ← List.getD_eq_getElem?_getD]; exact h4
theorem plS_out : ∀ (l : List Nat) (k : Nat) (a : List Nat) (x : Nat), x ∉ l → (plS l k a).getD x 0 = a.getD x 0
  | [], _, _, _, _ => rfl
  | y :: l, k, a, x, h => by
    rw [plS, plS_out l (k + 1) _ x (fun e => h (List.mem_cons_of_mem _ e)), List.getD_eq_getElem?_getD, List.getElem?_set_ne (fun e => h (by rw [e]; exact List.mem_cons_self ..)), ← List.getD_eq_getElem?_getD]
theorem plS_in : ∀ (l : List Nat) (k : Nat) (a : List Nat), l.Nodup → (∀ x ∈ l, x < a.length) → ∀ t, t < l.length → (plS l k a).getD (l.getD t 0) 0 = k + t
  | [], _, _, _, _, t, ht => by simp at ht
  | y :: l, k, a, hd, hl, t, ht => by
    rw [plS]
    obtain ⟨d1, d2⟩ := List.nodup_cons.1 hd
    rcases t with _ | t
    · rw [List.getD_cons_zero, plS_out l (k + 1) _ y d1, List.getD_eq_getElem?_getD, List.getElem?_set_self (hl y (List.mem_cons_self ..))]; rfl
    · rw [List.getD_cons_succ, plS_in l (k + 1) _ d2 (fun x hx => by rw [List.length_set]; exact hl x (List.mem_cons_of_mem _ hx)) t (by simpa using ht)]; omega
theorem pgS_out (tr : List Bool) : ∀ (l : List Nat) (k : Nat) (u d : List Nat) (x : Nat), x ∉ l → (pgS tr l k u d).1.getD x 0 = u.getD x 0 ∧ (pgS tr l k u d).2.getD x 0 = d.getD x 0
  | [], _, _, _, _, _ => ⟨rfl, rfl⟩
  | y :: l, k, u, d, x, h => by
    have hs : ∀ (a : List Nat) v, (a.set y v).getD x 0 = a.getD x 0 := fun a v => by
      rw [List.getD_eq_getElem?_getD, List.getElem?_set_ne (fun e => h (by rw [e]; exact List.mem_cons_self ..)), ← List.getD_eq_getElem?_getD]
    rw [pgS]
    split
    · have := pgS_out tr l (k + 1) (u.set y (2 * k + 2)) (d.set y (2 * k + 1)) x (fun e => h (List.mem_cons_of_mem _ e)); rwa [hs, hs] at this
    · have := pgS_out tr l (k + 1) (u.set y (2 * k + 1)) (d.set y (2 * k + 2)) x (fun e => h (List.mem_cons_of_mem _ e)); rwa [hs, hs] at this
theorem pgS_in (tr : List Bool) : ∀ (l : List Nat) (k : Nat) (u d : List Nat), l.Nodup → (∀ x ∈ l, x < u.length ∧ x < d.length) → ∀ t, t < l.length →
    (pgS tr l k u d).1.getD (l.getD t 0) 0 = (if tr.getD (l.getD t 0) false = true then 2 * (k + t) + 2 else 2 * (k + t) + 1) ∧ (pgS tr l k u d).2.getD (l.getD t 0) 0 = (if tr.getD (l.getD t 0) false = true then 2 * (k + t) + 1 else 2 * (k + t) + 2)
  | [], _, _, _, _, _, t, ht => by simp at ht
  | y :: l, k, u, d, hd, hl, t, ht => by
    obtain ⟨d1, d2⟩ := List.nodup_cons.1 hd
    obtain ⟨l1, l2⟩ := hl y (List.mem_cons_self ..)
    have hset : ∀ (a : List Nat) v, y < a.length → (a.set y v).getD y 0 = v := fun a v h => by
      rw [List.getD_eq_getElem?_getD, List.getElem?_set_self h]; rfl
    rcases t with _ | t
    · rw [List.getD_cons_zero, pgS]
      split
      · obtain ⟨e1, e2⟩ := pgS_out tr l (k + 1) (u.set y (2 * k + 2)) (d.set y (2 * k + 1)) y d1
        rw [e1, e2, hset _ _ l1, hset _ _ l2]; exact ⟨rfl, rfl⟩
      · obtain ⟨e1, e2⟩ := pgS_out tr l (k + 1) (u.set y (2 * k + 1)) (d.set y (2 * k + 2)) y d1
        rw [e1, e2, hset _ _ l1, hset _ _ l2]; exact ⟨rfl, rfl⟩
    · have hr : ∀ a b, _ := fun a b => pgS_in tr l (k + 1) (u.set y a) (d.set y b) d2 (fun x hx => by rw [List.length_set, List.length_set]; exact hl x (List.mem_cons_of_mem _ hx)) t (by simpa using ht)
      rw [List.getD_cons_succ, pgS]
      rw [show k + 1 + t = k + (t + 1) by omega] at hr
      split
      · exact hr _ _
      · exact hr _ _
/-- what the law asks of square s: its place and that of the opposite one, its pages -/
def pairB (n : Nat) (a u d : List Nat) (s : Nat) : Bool :=
  (Nat.beq n 1 || Nat.beq (a.getD s 0 / 2) (a.getD (n - 1 - s) 0 / 2)) &&
    bif Nat.beq (s % 2) 1 then Nat.beq (d.getD s 0) (2 * a.getD s 0 + 1) && Nat.beq (u.getD s 0) (2 * a.getD s 0 + 2) else Nat.beq (u.getD s 0) (2 * a.getD s 0 + 1) && Nat.beq (d.getD s 0) (2 * a.getD s 0 + 2)
def nodupB : List Nat → Bool
  | [] => true
  | x :: l => l.all (fun y => !Nat.beq x y) && nodupB l
theorem nodup_of : ∀ l, nodupB l = true → l.Nodup
  | [], _ => List.nodup_nil
  | x :: l, h => by
    rw [nodupB, Bool.and_eq_true, List.all_eq_true] at h
    exact List.nodup_cons.2 ⟨fun hx => by have := h.1 x hx; simp at this, nodup_of l h.2⟩
/-- a pile: each square once, opposite ones next to one another -/
def permB (n : Nat) (l : List Nat) : Bool :=
  Nat.beq l.length n && (l.all (Nat.blt · n) && (nodupB l && ((List.range n).all (fun s => l.any (Nat.beq s)) && (Nat.beq n 1 || (List.range n).all fun t => Nat.beq (l.getD (if t % 2 = 0 then t + 1 else t - 1) 0) (n - 1 - l.getD t 0)))))
theorem perm_k : ((List.range (6 + 1)).all fun k => (allF k).all fun f => permB (2 ^ f.length) (pileC f)) = true := by kernel_rfl
end Go.Proofs.Quire
