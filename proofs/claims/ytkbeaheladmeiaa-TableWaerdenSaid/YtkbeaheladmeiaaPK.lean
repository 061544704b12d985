/-
  TableNamed: for each number of rows, and the law.
-/
import Derived.Test.YtkbeaheladmeiaaPI
import Derived.Test.YtkbeaheladmeiaaPH
import Derived.Test.YtkbeaheladmeiaaPcV
set_option linter.unusedSimpArgs false
set_option linter.unusedVariables false
namespace Go.Proofs.Ytkbeaheladmeiaa
open Go Go.Proofs.Eng
set_option maxRecDepth 100000
set_option maxHeartbeats 4000000
def kyN (j : Nat) : Nat := 1009 + 100000 * j
theorem rerowN {η : Heap} {k g e m f : Nat} {R : List Int} (hm : R.length = m) (hk : Eng.look η k = (g, some ⟨e, 1, R.map ai⟩)) : elemR (reify η (f + 2)) (.os k g m 1 0 m) = some (al false R) := by
  subst hm
  exact reify_os (n := f + 1) (elem_ai η f) hk
theorem reify_osG {η : Heap} {n k g e s m : Nat} {xs : List AV} (hm : xs.length = m) (hk : Eng.look η k = (g, some ⟨e, s, xs⟩)) : reify η (n + 1) (.os k g m s 0 m) = (xs.mapM (elemR (reify η n))).map (AV.sl s false) := by
  simp only [reify, hk]
  rw [if_pos (by simp [hm]), List.drop_zero, List.take_of_length_le (by omega)]
/-! ### 1 rows -/
def hN1 (g : Nat) (M : List (List Int)) : Heap := [(1009, (g, some ⟨3, 1, (M.getD 0 []).map ai⟩)), (1011, (g, some ⟨37, 1, [.os 1009 g 1 1 0 1]⟩))]
theorem hf_1 (g : Nat) : HF 1 g (hN1 g) kyN where
  lo := fun M => rfl
  l := fun M j hj => by
    have : j = 0 := by omega
    subst this; rfl
  p := fun M j L hM hj => by
    match M, hM with
    | [R0], _ =>
      have : j = 0 := by omega
      subst this; rfl
theorem reN_1 (g : Nat) (M : List (List Int)) (hl : M.length = 1) (hr : ∀ R, R ∈ M → R.length = 1) : [.os 1011 g 1 1 0 1].mapM (reify (hN1 g M) 20) = some [aT M] := by
  have hML : M = [M.getD 0 []] := by
    match M, hl with
    | [R0], _ => rfl
  have hrl : ∀ r, r < 1 → (M.getD r []).length = 1 := fun r hlt => hr _ (getD_mem (by rw [hl]; exact hlt))
  have e1 : reify (hN1 g M) 20 (.os 1011 g 1 1 0 1) = ([.os 1009 g 1 1 0 1].mapM (elemR (reify (hN1 g M) 19))).map (AV.sl 1 false) := reify_osG (n := 19) rfl rfl
  have e2 : reify (hN1 g M) 20 (.os 1011 g 1 1 0 1) = some (aT M) := by
    rw [e1, List.mapM_cons, rerowN (f := 17) (R := M.getD 0 []) (hrl 0 (by omega)) rfl, List.mapM_nil]
    conv => rhs; rw [hML]
    rfl
  rw [List.mapM_cons, e2]; rfl
/-! ### 2 rows -/
def hN2 (g : Nat) (M : List (List Int)) : Heap := [(1009, (g, some ⟨3, 1, (M.getD 0 []).map ai⟩)), (1011, (g, some ⟨37, 1, [.os 1009 g 2 1 0 2, .os 101009 g 2 1 0 2]⟩)), (101009, (g, some ⟨3, 1, (M.getD 1 []).map ai⟩))]
def hO2 (g : Nat) : Heap := [(1009, (g, none)), (1011, (g, none)), (101009, (g, none))]
theorem hf_2 (g : Nat) : HF 2 g (hN2 g) kyN where
  lo := fun M => rfl
  l := fun M j hj => by
    rcases (by omega : j = 0 ∨ j = 1) with rfl | rfl
    all_goals rfl
  p := fun M j L hM hj => by
    match M, hM with
    | [R0, R1], _ =>
      rcases (by omega : j = 0 ∨ j = 1) with rfl | rfl
      all_goals rfl
theorem reN_2 (g : Nat) (M : List (List Int)) (hl : M.length = 2) (hr : ∀ R, R ∈ M → R.length = 2) : [.os 1011 g 2 1 0 2].mapM (reify (hN2 g M) 20) = some [aT M] := by
  have hML : M = [M.getD 0 [], M.getD 1 []] := by
    match M, hl with
    | [R0, R1], _ => rfl
  have hrl : ∀ r, r < 2 → (M.getD r []).length = 2 := fun r hlt => hr _ (getD_mem (by rw [hl]; exact hlt))
  have e1 : reify (hN2 g M) 20 (.os 1011 g 2 1 0 2) = ([.os 1009 g 2 1 0 2, .os 101009 g 2 1 0 2].mapM (elemR (reify (hN2 g M) 19))).map (AV.sl 1 false) := reify_osG (n := 19) rfl rfl
  have e2 : reify (hN2 g M) 20 (.os 1011 g 2 1 0 2) = some (aT M) := by
    rw [e1, List.mapM_cons, rerowN (f := 17) (R := M.getD 0 []) (hrl 0 (by omega)) rfl, List.mapM_cons, rerowN (f := 17) (R := M.getD 1 []) (hrl 1 (by omega)) rfl, List.mapM_nil]
    conv => rhs; rw [hML]
    rfl
  rw [List.mapM_cons, e2]; rfl
/-! ### 3 rows -/
def hN3 (g : Nat) (M : List (List Int)) : Heap := [(1009, (g, some ⟨3, 1, (M.getD 0 []).map ai⟩)), (1011, (g, some ⟨37, 1, [.os 1009 g 3 1 0 3, .os 101009 g 3 1 0 3, .os 201009 g 3 1 0 3]⟩)), (101009, (g, some ⟨3, 1, (M.getD 1 []).map ai⟩)), (201009, (g, some ⟨3, 1, (M.getD 2 []).map ai⟩))]
theorem hf_3 (g : Nat) : HF 3 g (hN3 g) kyN where
  lo := fun M => rfl
  l := fun M j hj => by
    rcases (by omega : j = 0 ∨ j = 1 ∨ j = 2) with rfl | rfl | rfl
    all_goals rfl
  p := fun M j L hM hj => by
    match M, hM with
    | [R0, R1, R2], _ =>
      rcases (by omega : j = 0 ∨ j = 1 ∨ j = 2) with rfl | rfl | rfl
      all_goals rfl
theorem reN_3 (g : Nat) (M : List (List Int)) (hl : M.length = 3) (hr : ∀ R, R ∈ M → R.length = 3) : [.os 1011 g 3 1 0 3].mapM (reify (hN3 g M) 20) = some [aT M] := by
  have hML : M = [M.getD 0 [], M.getD 1 [], M.getD 2 []] := by
    match M, hl with
    | [R0, R1, R2], _ => rfl
  have hrl : ∀ r, r < 3 → (M.getD r []).length = 3 := fun r hlt => hr _ (getD_mem (by rw [hl]; exact hlt))
  have e1 : reify (hN3 g M) 20 (.os 1011 g 3 1 0 3) = ([.os 1009 g 3 1 0 3, .os 101009 g 3 1 0 3, .os 201009 g 3 1 0 3].mapM (elemR (reify (hN3 g M) 19))).map (AV.sl 1 false) := reify_osG (n := 19) rfl rfl
  have e2 : reify (hN3 g M) 20 (.os 1011 g 3 1 0 3) = some (aT M) := by
    rw [e1, List.mapM_cons, rerowN (f := 17) (R := M.getD 0 []) (hrl 0 (by omega)) rfl, List.mapM_cons, rerowN (f := 17) (R := M.getD 1 []) (hrl 1 (by omega)) rfl, List.mapM_cons, rerowN (f := 17) (R := M.getD 2 []) (hrl 2 (by omega)) rfl, List.mapM_nil]
    conv => rhs; rw [hML]
    rfl
  rw [List.mapM_cons, e2]; rfl
/-! ### 4 rows -/
def hN4 (g : Nat) (M : List (List Int)) : Heap := [(1009, (g, some ⟨3, 1, (M.getD 0 []).map ai⟩)), (1011, (g, some ⟨37, 1, [.os 1009 g 4 1 0 4, .os 101009 g 4 1 0 4, .os 201009 g 4 1 0 4, .os 301009 g 4 1 0 4]⟩)), (101009, (g, some ⟨3, 1, (M.getD 1 []).map ai⟩)), (201009, (g, some ⟨3, 1, (M.getD 2 []).map ai⟩)), (301009, (g, some ⟨3, 1, (M.getD 3 []).map ai⟩))]
theorem hf_4 (g : Nat) : HF 4 g (hN4 g) kyN where
  lo := fun M => rfl
  l := fun M j hj => by
    rcases (by omega : j = 0 ∨ j = 1 ∨ j = 2 ∨ j = 3) with rfl | rfl | rfl | rfl
    all_goals rfl
  p := fun M j L hM hj => by
    match M, hM with
    | [R0, R1, R2, R3], _ =>
      rcases (by omega : j = 0 ∨ j = 1 ∨ j = 2 ∨ j = 3) with rfl | rfl | rfl | rfl
      all_goals rfl
theorem reN_4 (g : Nat) (M : List (List Int)) (hl : M.length = 4) (hr : ∀ R, R ∈ M → R.length = 4) : [.os 1011 g 4 1 0 4].mapM (reify (hN4 g M) 20) = some [aT M] := by
  have hML : M = [M.getD 0 [], M.getD 1 [], M.getD 2 [], M.getD 3 []] := by
    match M, hl with
    | [R0, R1, R2, R3], _ => rfl
  have hrl : ∀ r, r < 4 → (M.getD r []).length = 4 := fun r hlt => hr _ (getD_mem (by rw [hl]; exact hlt))
  have e1 : reify (hN4 g M) 20 (.os 1011 g 4 1 0 4) = ([.os 1009 g 4 1 0 4, .os 101009 g 4 1 0 4, .os 201009 g 4 1 0 4, .os 301009 g 4 1 0 4].mapM (elemR (reify (hN4 g M) 19))).map (AV.sl 1 false) := reify_osG (n := 19) rfl rfl
  have e2 : reify (hN4 g M) 20 (.os 1011 g 4 1 0 4) = some (aT M) := by
    rw [e1, List.mapM_cons, rerowN (f := 17) (R := M.getD 0 []) (hrl 0 (by omega)) rfl, List.mapM_cons, rerowN (f := 17) (R := M.getD 1 []) (hrl 1 (by omega)) rfl, List.mapM_cons, rerowN (f := 17) (R := M.getD 2 []) (hrl 2 (by omega)) rfl, List.mapM_cons, rerowN (f := 17) (R := M.getD 3 []) (hrl 3 (by omega)) rfl, List.mapM_nil]
    conv => rhs; rw [hML]
    rfl
  rw [List.mapM_cons, e2]; rfl
end Go.Proofs.Ytkbeaheladmeiaa

