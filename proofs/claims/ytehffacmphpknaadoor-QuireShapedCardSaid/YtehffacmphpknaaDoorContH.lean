/-
  slices.Contains at numbers.
-/
import Derived.Test.YtehffacmphpknaaDoorChkPile
set_option linter.unusedSimpArgs false
set_option linter.unusedVariables false
namespace Go.Proofs.YtehffacmphpknaaDoor
open Go.RowKit Go.Lib Go.Proofs.Quire

theorem contZ_drop {l : List Int} {k : Nat} {p : Int} (hk : k < l.length) : (l.drop k).contains p = (p == l.getD k 0 || (l.drop (k + 1)).contains p) := by
  rw [List.drop_eq_getElem_cons hk, List.contains_cons, List.getD_eq_getElem?_getD, List.getElem?_eq_getElem hk]; rfl
def idxOK (xs : List Int) (z v : Int) : Prop := (xs.contains z = true ∧ 0 ≤ v) ∨ (xs.contains z = false ∧ v = -1)
set_option maxRecDepth 100000 in
set_option maxHeartbeats 1000000 in
theorem indexZ_any (A : Option Addr) (c n : Nat) (xs : List Int) (z : Int) (w : World) (h : Rd w A n (zs xs)) (hn : n ≤ 1000) :
    Calls Tryd.prog 84 #[.slice A n c, .int .i64 z] w fun e w' => ∃ v, e = .returned (.int .i64 v) ∧ idxOK xs z v ∧ w' = w := by
  obtain ⟨r, hr⟩ : ∃ r, Hid (xs.contains z = r) := ⟨_, rfl⟩
  have HLEN := Lib.hid h.1
  have HR0 : Hid ((xs.drop 0).contains z = r) := hr
  go_enter Tryd.func84, Tryd.ntmps84
  go_wp2_with (fail)
  go_loopw [5, 8] (fun _ iv wr => ∃ (k : Nat), k ≤ n ∧ iv = .int .i64 k ∧ wr = w ∧ Hid ((xs.drop k).contains z = r)) (fun _ iv _ => n - (RowKit.intOf iv).toNat)
  case atStart => exact ⟨0, Nat.zero_le _, rfl, rfl, HR0⟩
  case round =>
    obtain ⟨k, hk, rfl, rfl, hf⟩ := hrel
    by_cases hlt : k < n
    · obtain ⟨g, o, rfl, hg, _, hat⟩ := h.2 (by omega)
      have hkx : k < xs.length := by have := HLEN.out; rw [zs_length] at this; omega
      have hp := hat k hlt
      rw [zs_getD _ _ hkx] at hp
      have hst := Lib.hid (contZ_drop (l := xs) (k := k) (p := z) hkx)
      clear hat
      generalize xs.getD k 0 = u at hp hst
      by_cases h1 : z = u
      · have hb : (z == u) = true := by simp [h1]
        have hr2 : Hid (xs.contains z = true) := by show _ = _; rw [hr.out, ← hf.out, hst.out]; simp [h1]
        clear h1
        go_wp2_with (fail)
        go_ret
        exact ⟨_, rfl, .inl ⟨hr2.out, by omega⟩, rfl⟩
      · have hb : (z == u) = false := by simpa using h1
        have hn2 : Hid ((xs.drop (k + 1)).contains z = r) := by
          show _ = _
          rw [← hf.out, hst.out, hb, Bool.false_or]
        clear h1
        go_wp2_with (fail)
        exact ⟨⟨k + 1, by omega, by go_num, trivial, hn2⟩, by simp [RowKit.intOf]; omega⟩
    · have hr2 : Hid (xs.contains z = false) := by
        show _ = _
        rw [hr.out, ← hf.out, List.drop_eq_nil_of_le (by have := HLEN.out; rw [zs_length] at this; omega)]; rfl
      go_wp2_with (fail)
      go_ret
      exact ⟨_, rfl, .inr ⟨hr2.out, rfl⟩, rfl⟩
set_option maxRecDepth 100000 in
set_option maxHeartbeats 1000000 in
theorem contZ_any (A : Option Addr) (c n : Nat) (xs : List Int) (z : Int) (w : World) (h : Rd w A n (zs xs)) (hn : n ≤ 1000) :
    Calls Tryd.prog 52 #[.slice A n c, .int .i64 z] w fun e w' => e = .returned (.bool (xs.contains z)) ∧ w' = w := by
  have h1 := indexZ_any A c n xs z w h hn
  obtain ⟨r, hr⟩ : ∃ r, Hid (xs.contains z = r) := ⟨_, rfl⟩
  rw [hr.out]
  go_enter Tryd.func52, Tryd.ntmps52
  go_wp2_with (fail)
  refine h1.mono ?_; rintro e w1 ⟨v, rfl, hok, rfl⟩
  have hb : decide (v ≥ 0) = r := by
    rw [← hr.out]
    rcases hok with ⟨h2, h3⟩ | ⟨h2, h3⟩
    · rw [h2]; exact decide_eq_true h3
    · rw [h2, h3]; rfl
  have hb2 : decide ((0 : Int) ≤ v) = r := hb
  clear hok h1
  go_wp2_with (fail)
  go_ret
  exact ⟨ret_bool (by first | exact hb2 | simp [hb2] | simp), rfl⟩
end Go.Proofs.YtehffacmphpknaaDoor
