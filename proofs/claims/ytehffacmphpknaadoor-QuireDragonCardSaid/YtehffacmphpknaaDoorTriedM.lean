/-
  Folds by numbers: which of them have given creases.
-/
import Derived.Test.YtehffacmphpknaaDoorClashM
import Derived.Test.YtehffacmphpknaaDoorFactU
set_option linter.unusedSimpArgs false
set_option linter.unusedVariables false
namespace Go.Proofs.YtehffacmphpknaaDoor
open Go.RowKit Go.Lib Go.Proofs.Quire

theorem folds_back (b k : Nat) : (foldsB (foldsOf b k)).map wayOf = foldsOf b k := by
  unfold foldsB
  rw [List.map_map]
  conv => rhs; rw [← List.map_id (foldsOf b k)]
  refine List.map_congr_left (fun c hc => ?_)
  rcases bitL_mem hc with rfl | rfl <;> rfl
theorem sur4 : ∀ k, k < 5 → ((allF k).all fun f => (List.range (2 ^ k)).any fun s => foldsOf s k == f.map wayOf) = true := by decide +kernel
theorem inj4 : ∀ k, k < 5 → ∀ s, s < 2 ^ k → ∀ t, t < 2 ^ k → foldsOf s k = foldsOf t k → s = t := by decide +kernel
/-- these folds have these creases -/
def hitB (cs : List UInt8) (k s : Nat) : Bool := creS (foldsB (foldsOf s k)) == cs
def isT (cs : List UInt8) (k t : Nat) : Bool := (List.range t).any (hitB cs k)
theorem hit_F {cs : List UInt8} {k s : Nat} (hk : k ≤ 6) (h : hitB cs k s = true) : foldsOf s k = waysL cs 7 (2 ^ k) := by
  have e : creS (foldsB (foldsOf s k)) = cs := by simpa [hitB] using h
  have hl : (foldsB (foldsOf s k)).length = k := by rw [foldsB_len, foldsOf_len]
  have := ways_cre (foldsB (foldsOf s k)) (by omega)
  rw [hl, e, folds_back] at this
  exact this.symm
theorem isT_succ (cs : List UInt8) (k t : Nat) : isT cs k (t + 1) = (isT cs k t || hitB cs k t) := by
  unfold isT; rw [List.range_succ, List.any_append]; simp
theorem hit_once {cs : List UInt8} {k t : Nat} (hk : k ≤ 4) (ht : t < 2 ^ k) (h : hitB cs k t = true) : isT cs k t = false := by
  cases hi : isT cs k t with
  | false => rfl
  | true =>
    obtain ⟨s, hs, h2⟩ := List.any_eq_true.1 hi
    have hst := List.mem_range.1 hs
    have := inj4 k (by omega) s (by omega) t ht (by rw [hit_F (by omega) h, hit_F (by omega) h2])
    omega
theorem isT_all {cs : List UInt8} {k : Nat} (hk : k ≤ 4) : isT cs k (2 ^ k) = (creS (foldsB (waysL cs 7 (2 ^ k))) == cs) := by
  rw [Bool.eq_iff_iff, beq_iff_eq]
  constructor
  · intro h
    obtain ⟨s, hs, h2⟩ := List.any_eq_true.1 h
    have := hit_F (by omega) h2
    rw [← this]; simpa [hitB] using h2
  · intro h
    have hl : (foldsB (waysL cs 7 (2 ^ k))).length = k := by unfold foldsB; rw [List.length_map, waysL_len0 _ _ _ (by omega)]
    obtain ⟨s, hs, e⟩ := List.any_eq_true.1 (all_of (sur4 k (by omega)) (foldsB (waysL cs 7 (2 ^ k))) hl)
    have e : foldsOf s k = (foldsB (waysL cs 7 (2 ^ k))).map wayOf := by simpa using e
    refine List.any_eq_true.2 ⟨s, hs, ?_⟩
    unfold hitB
    rw [e]
    have hb : foldsB ((foldsB (waysL cs 7 (2 ^ k))).map wayOf) = foldsB (waysL cs 7 (2 ^ k)) := by
      generalize foldsB (waysL cs 7 (2 ^ k)) = f
      unfold foldsB
      rw [List.map_map]
      conv => rhs; rw [← List.map_id f]
      exact List.map_congr_left (fun c _ => wayOf_eq c)
    rw [hb]; simpa using h
theorem ones_pow : ∀ k, k < 7 → onesN (2 ^ k) = 1 := by decide
theorem strip_ok {cs : List UInt8} {k : Nat} (hk : k ≤ 6) (hl : cs.length + 1 = 2 ^ k) (hc : ∀ c ∈ cs, c = 118 ∨ c = 104) : stripE cs = 0 := by
  have h64 : 2 ^ k ≤ 64 := Nat.le_trans (Nat.pow_le_pow_right (by omega) hk) (by decide)
  unfold stripE
  rw [if_pos (chkL_all2 (by omega) hc), hl, if_pos (ones_pow k (by omega))]
theorem bitC_mem {b k : Nat} {c : UInt8} (hc : c ∈ creasesOf b k) : c = 118 ∨ c = 104 := by
  obtain ⟨i, _, rfl⟩ := List.mem_map.1 hc
  unfold bitC; split
  · exact .inr rfl
  · exact .inl rfl
end Go.Proofs.YtehffacmphpknaaDoor
