/-
  Package quire's checkPile.
-/
import Derived.Test.YtbkmicimpgabgaaDoorNew
import Derived.Test.YtbkmicimpgabgaaDoorBits
set_option linter.unusedSimpArgs false
set_option linter.unusedVariables false
namespace Go.Proofs.Quire
/-- what is wrong with a list that is to be all squares of a strip -/
def twE (n : Int) : List Bool → List Int → Int
  | _, [] => 0
  | seen, x :: xs => if x < 0 ∨ n ≤ x then 2 else if seen.getD x.toNat false = true then 6 else twE n (seen.set x.toNat true) xs
def pileE (xs : List Int) : Int := if 64 < xs.length then 3 else if onesN xs.length = 1 then twE xs.length (List.replicate xs.length false) xs else 5
end Go.Proofs.Quire
namespace Go.Proofs.YtbkmicimpgabgaaDoor
open Go.RowKit Go.Lib Go.Proofs.Quire

def zs (l : List Int) : List Value := l.map (Value.int .i64)
@[simp] theorem zs_length (l : List Int) : (zs l).length = l.length := by simp [zs]
theorem zs_getD (l : List Int) (k : Nat) (h : k < l.length) (d : Value) : (zs l).getD k d = .int .i64 (l.getD k 0) := by
  rw [getD_lt _ _ _ (by simpa using h), getD_lt _ _ _ h]; simp [zs]
theorem zs_ints (l : List Nat) : zs (l.map fun n : Nat => (n : Int)) = ints l := by simp [zs, ints]

set_option maxRecDepth 100000 in
set_option maxHeartbeats 4000000 in
theorem checkPile_any (A : Option Addr) (c : Nat) (xs : List Int) (w : World) (h : Rd w A xs.length (zs xs)) (hn : xs.length ≤ maxLen) :
    Calls Tryd.prog 50 #[.slice A xs.length c] w fun e w' => e = .returned (.int .i64 (pileE xs)) ∧ Below w.heap.size w w' := by
  unfold maxLen at hn
  obtain ⟨r, hr⟩ : ∃ r, Hid (pileE xs = r) := ⟨_, rfl⟩
  rw [hr.out]
  obtain ⟨n, hnx⟩ : ∃ n, Hid (xs.length = n) := ⟨_, rfl⟩
  have hr0 : Hid (r = if 64 < n then 3 else if onesN n = 1 then twE n (List.replicate n false) xs else 5) := by show _ = _; rw [← hr.out, ← hnx.out]; rfl
  rw [hnx.out] at h hn ⊢
  by_cases h64 : 64 < n
  · have hR : Hid (r = 3) := by show _ = _; rw [hr0.out, if_pos h64]
    clear hr0 hr
    go_enter Tryd.func50, Tryd.ntmps50
    go_wp2_with (fail)
    go_ret
    exact ⟨ret_int hR.out.symm, Below.refl _ _⟩
  · have h1 := fun W => isPower_any n W (by omega)
    by_cases ho : onesN n = 1
    · have hst : Hid (twE n (List.replicate n false) (xs.drop 0) = r) := by show _ = _; rw [hr0.out, if_neg h64, if_pos ho]; rfl
      have hmk := run_make_bools n (by omega)
      rw [ho] at h1
      have hb0 : Below w.heap.size w (w.alloc (.cells (bools (List.replicate n false)).toArray 4)) := (Below.refl _ w).alloc (Nat.le_refl _) _
      have ha0 : Arr (w.alloc (.cells (bools (List.replicate n false)).toArray 4)) w.heap.size (bools (List.replicate n false)) := Arr.new w _ _
      have hl0 : Hid ((List.replicate n false).length = n) := List.length_replicate
      clear ho hr0 hr
      generalize List.replicate n false = seen0 at hmk hb0 ha0 hl0 hst
      go_enter Tryd.func50, Tryd.ntmps50
      go_wp2_with (fail)
      refine (h1 _).mono ?_; rintro e w1 ⟨rfl, rfl⟩
      go_wp2_with (fail)
      generalize w1.alloc (.cells (bools seen0).toArray 4) = w2 at hb0 ha0 ⊢
      go_loopw [5, 18] (fun _ v wr => ∃ (k : Nat) (seen : List Bool), k ≤ n ∧ v = .int .i64 k ∧ Hid (seen.length = n) ∧ Arr wr w1.heap.size (bools seen) ∧ Below w1.heap.size w1 wr ∧ Hid (twE n seen (xs.drop k) = r)) (fun _ v _ => n - (RowKit.intOf v).toNat)
      case atStart => exact ⟨0, seen0, Nat.zero_le _, rfl, hl0, ha0, hb0, hst⟩
      case round =>
        clear hb0 ha0 hl0 hst
        obtain ⟨k, seen, hk, rfl, hls, ha, hbr, hf⟩ := hrel
        by_cases hlt : k < n
        · have hkx : k < xs.length := by rw [hnx.out]; exact hlt
          obtain ⟨g, o, rfl, hg, _, hc⟩ := h.2 (by omega)
          have hcx := (hbr.cell (p := ⟨g, o + k, none⟩) hg).trans (hc k hlt)
          rw [zs_getD _ _ hkx] at hcx
          have hstep : Hid (r = if xs.getD k 0 < 0 ∨ (n : Int) ≤ xs.getD k 0 then 2 else if seen.getD (xs.getD k 0).toNat false = true then 6 else twE n (seen.set (xs.getD k 0).toNat true) (xs.drop (k + 1))) := by
            show _ = _; rw [← hf.out, drop_cons xs k 0 hkx]; rfl
          generalize xs.getD k 0 = x at hcx hstep
          clear hc
          by_cases hneg : x < 0
          · have hR : Hid (r = 2) := by show _ = _; rw [hstep.out, if_pos (.inl hneg)]
            clear hstep
            go_wp2_with (fail)
            go_ret
            exact ⟨ret_int hR.out.symm, hbr⟩
          · by_cases hbig : (n : Int) ≤ x
            · have hR : Hid (r = 2) := by show _ = _; rw [hstep.out, if_pos (.inr hbig)]
              clear hstep
              go_wp2_with (fail)
              go_ret
              exact ⟨ret_int hR.out.symm, hbr⟩
            · obtain ⟨y, rfl⟩ : ∃ y : Nat, x = y := ⟨x.toNat, by omega⟩
              have hyn : y < n := by omega
              have hst2 : Hid (r = if seen.getD y false = true then 6 else twE n (seen.set y true) (xs.drop (k + 1))) := by
                show _ = _; rw [hstep.out, if_neg (by omega)]; rfl
              obtain ⟨it, ft⟩ := ha.2 y (by rw [bools_length, hls.out]; exact hyn)
              rw [bools_getD _ _ (by rw [hls.out]; exact hyn)] at it
              have hset := ha.set y (by rw [bools_length, hls.out]; exact hyn) (.bool true)
              rw [bools_set] at hset
              have hls2 : Hid ((seen.set y true).length = n) := by show _ = _; rw [List.length_set]; exact hls.out
              have hb2 := hbr.setCell (p := ⟨w1.heap.size, y, none⟩) (Nat.le_refl _) (.bool true)
              have HS := Lib.hid hset; have HB := Lib.hid hb2
              clear hstep ha hset hb2
              cases hsy : seen.getD y false with
              | true =>
                rw [hsy] at it hst2
                have hR : Hid (r = 6) := by show _ = _; rw [hst2.out]; rfl
                clear hsy hst2
                go_wp2_with (fail)
                go_ret
                exact ⟨ret_int hR.out.symm, hbr⟩
              | false =>
                rw [hsy] at it hst2
                have hE : Hid (twE n (seen.set y true) (xs.drop (k + 1)) = r) := by show _ = _; rw [hst2.out]; rfl
                clear hsy hst2
                go_wp2_with (fail)
                exact ⟨⟨k + 1, _, by omega, by go_num, hls2, HS.out, HB.out, hE⟩, by simp [RowKit.intOf]; omega⟩
        · have hR : Hid (r = 0) := by
            have e : xs.drop k = [] := List.drop_eq_nil_of_le (by rw [hnx.out]; omega)
            show _ = _; rw [← hf.out, e]; rfl
          go_wp2_with (fail)
          go_ret
          exact ⟨ret_int hR.out.symm, hbr⟩
    · have hR : Hid (r = 5) := by show _ = _; rw [hr0.out, if_neg h64, if_neg ho]
      have h1f : (onesN n == 1) = false := by simpa using ho
      rw [h1f] at h1
      clear hr0 hr h1f ho
      go_enter Tryd.func50, Tryd.ntmps50
      go_wp2_with (fail)
      refine (h1 _).mono ?_; rintro e w1 ⟨rfl, rfl⟩
      go_wp2_with (fail)
      go_ret
      exact ⟨ret_int hR.out.symm, Below.refl _ _⟩
end Go.Proofs.YtbkmicimpgabgaaDoor
