/-
  The walk of the statements' helper parts: a new map that holds how often each part is left, all sets of letters tried.
-/
import Derived.Test.YtalildjhighlhaaSlip
import Derived.Maps.OwnOps
import Derived.Maps.OwnSet
import Derived.Maps.RangeWalk
import Derived.StringKeys
namespace Go.Proofs.Ytalildjhighlhaa
open Go.RowKit Go.Proofs.Short Go.Maps Go.WideMaps

/-- the world holds a map from words to numbers, at block b -/
abbrev OwnI (w : World) (b n : Nat) (D : DataW Unit) : Prop := w.ownsMap Try.prog 9 (plainElem Try.prog 3) b n D
theorem Try.keyT : Keyed Try.prog 9 := string_keyed Try.underlying9
theorem keyT_str (k : List UInt8) (hk : k.length ≤ maxLen) : keyOf Try.prog 9 (.string ⟨k.toArray⟩) = some (.string k) := keyOf_string_mk (s := ⟨k.toArray⟩) Try.underlying9 (by simpa [ByteArray.size] using hk)
theorem isKey_strT (k : List UInt8) (hk : k.length ≤ maxLen) : WideAt.IsKeyLit (.string k) := Try.keyT.key (keyT_str k hk)
/-- the map's keys are the words of which there is one, and its values say how many -/
def Cnt (D : DataW Unit) (f : List UInt8 → Nat) : Prop := ∀ p, (has D (.string p) = true ↔ 0 < f p) ∧ D.atKey (.string p) (.lit (.int .i64 0)) = .lit (.int .i64 (f p : Nat))
theorem cnt_empty : Cnt (.map []) (fun _ => 0) := fun p => ⟨by simp [has], WideAt.atKey_none _ (by simp)⟩
theorem cnt_put {D : DataW Unit} {f : List UInt8 → Nat} {q : List UInt8} (h : Cnt D f) (hm : IsMap D) (hq : q.length ≤ maxLen) : Cnt (D.put (.string q) (.lit (.int .i64 ((f q : Nat) + 1)))) (fun p => f p + if p = q then 1 else 0) := by
  intro p
  by_cases e : p = q
  · subst e
    rw [has_put_same hm (isKey_strT _ hq), atKey_put_same hm (isKey_strT _ hq)]
    simp
  · have hne : Lit.string p ≠ Lit.string q := by simpa using e
    rw [has_put_other hne, atKey_put_other hne]
    simp only [if_neg e, Nat.add_zero]
    exact h p
def PartsM (w : World) (x : List UInt8) (e : Ending) (w' : World) : Prop :=
  ∃ b n D, e = .returned (.map (some b)) ∧ w.heap.size ≤ b ∧ OwnI w' b n D ∧ n ≤ 2 ^ x.length ∧ Cnt D (fun p => (subs x).count p) ∧ Below w.heap.size w w'
theorem grown_below' {w w' : World} (h : Below w.heap.size w w') (row : Option Nat) : w.grownBy w' row := ⟨h.os, h.tape, h.output, h.size, fun k hk _ => h.block k hk⟩
theorem range_snoc_count (f : Nat → List UInt8) (k : Nat) (p : List UInt8) : ((List.range (k + 1)).map f).count p = ((List.range k).map f).count p + if p = f k then 1 else 0 := by
  rw [List.range_succ, List.map_append, List.count_append]
  simp only [List.map_cons, List.map_nil, List.count_cons, List.count_nil, beq_iff_eq, Nat.zero_add]
  by_cases e : f k = p
  · rw [if_pos e, if_pos e.symm]
  · rw [if_neg e, if_neg (fun h => e h.symm)]
theorem taken_len (x : List UInt8) (s : Nat) : (takenL x s).length ≤ x.length := (taken_sub x s).length_le

set_option maxRecDepth 100000 in
set_option maxHeartbeats 1000000 in
theorem parts_m (x : List UInt8) (w : World) (hx : x.length ≤ 10) :
    Calls Try.prog 48 #[.string ⟨x.toArray⟩] w (PartsM w x) := by
  have hmm := @run_makeMap Try.prog
  have hzv := fun (W : World) => (by kernel_rfl : (zeroValue 3).run Try.prog W = .ok (.int .i64 0) W)
  have h2 : 2 ^ x.length ≤ 1024 := Nat.le_trans (Nat.pow_le_pow_right (by omega) hx) (by decide)
  have h20 : 0 < 2 ^ x.length := Nat.pow_pos (by omega)
  obtain ⟨N, hN⟩ : ∃ N, Hid (N = 2 ^ x.length) := ⟨_, Lib.hid rfl⟩
  rw [← hN.out] at h2 h20
  have hw : wrap64 ((2 : Int) ^ x.length) = (N : Int) := by
    have e : ((2 : Int) ^ x.length) = (N : Int) := by rw [hN.out]; simp
    rw [e]; unfold wrap64; omega
  obtain ⟨F, hF⟩ : ∃ F : Nat → List UInt8 → Nat, Hid (F = fun k p => ((List.range k).map (takenL x)).count p) := ⟨_, Lib.hid rfl⟩
  have hF0 : Hid (Cnt (.map []) (F 0)) := by rw [hF.out]; exact cnt_empty
  have hFs : ∀ k D, Cnt D (F k) → IsMap D → Cnt (D.put (.string (takenL x k)) (.lit (.int .i64 ((F k (takenL x k) : Nat) + 1)))) (F (k + 1)) := fun k D hc hm => by
    have h := cnt_put hc hm (q := takenL x k) (by have := taken_len x k; unfold maxLen; omega)
    have e : F (k + 1) = fun p => F k p + if p = takenL x k then 1 else 0 := by
      funext p; rw [hF.out]; exact range_snoc_count (takenL x) k p
    rw [e]; exact h
  have hFl : ∀ k p, F k p ≤ k := fun k p => by rw [hF.out]; exact Nat.le_trans List.count_le_length (by simp)
  have hFN : F N = fun p => (subs x).count p := by rw [hF.out, hN.out]; funext p; exact taken_count p x
  have HZ := Lib.hid hzv; have HFS := Lib.hid hFs; have HFL := Lib.hid hFl; have HFN := Lib.hid hFN; clear hzv hFs hFl hFN
  go_enter Try.func48, Try.ntmps48
  go_wp2
  rw [hw]
  clear hw
  go_loopw [9] (fun i wr => ∃ (k n : Nat) (D : DataW Unit), k ≤ N ∧ n ≤ k ∧ i = .int .i64 k ∧ OwnI wr w.heap.size n D ∧ Hid (Cnt D (F k)) ∧ Below w.heap.size w wr) (fun i _ => N - (intOf i).toNat)
  case atStart => exact ⟨0, 0, _, Nat.zero_le _, Nat.le_refl _, rfl, World.ownsMap_made _ _ _ _, hF0, (Below.refl _ w).alloc (Nat.le_refl _) _⟩
  case round =>
    obtain ⟨k, n, D, hk, hnk, rfl, hown, hcnt, hb⟩ := hrel
    by_cases hlt : k < N
    · have hpl := taken_len x k
      have hst := HFS.out k D hcnt.out hown.isMap
      have hle := HFL.out k (takenL x k)
      have hat0 := (hcnt.out (takenL x k)).2
      have hkey := keyT_str (takenL x k) (by unfold maxLen; omega)
      have HT := fun W => taken_any x k W (by omega) (by omega)
      have HTT := Lib.hid HT; have HST := Lib.hid hst; have HAT := Lib.hid hat0; have HKEY := Lib.hid hkey; clear HT hst hat0 hkey
      generalize F k (takenL x k) = c at HST hle HAT
      generalize takenL x k = q at hpl HST HAT HKEY HTT
      have hn3 : n < maxLen := by unfold maxLen; omega
      go_wp2_with (fail)
      refine (HTT.out _).mono ?_; rintro e w2 ⟨rfl, hb2⟩
      have hown2 : OwnI w2 w.heap.size n D := hown.kept (grown_below' hb2 none) (by simp)
      have hbb := hb.trans (hb2.mono hb.size)
      clear hb hb2 hown
      have hz := HZ.out w2
      have hkey := HKEY.out
      have hel : plainElem (H := Unit) Try.prog 3 (.int .i64 ((c : Int) + 1)) = some (.lit (.int .i64 ((c : Int) + 1)), []) := plainElem_int Try.underlying3 (by simp [Lit.wf, IntKind.min, IntKind.max, IntKind.signed, IntKind.bits]; omega)
      go_wp2_with (first
        | (at_lookup; refine wpList_lookup_own_int _ rfl _ _ 56 rfl 9 3 .i64 Try.keyT Try.underlying56 Try.underlying3 hz w.heap.size n D rfl hown2 _ _ rfl hkey ?_; intro z hat hwz; obtain rfl : z = (c : Int) := (by have h := HAT.out; rw [hat] at h; simpa using h); clear hat hwz)
        | (at_mapUpdate; refine wpList_mapUpdate_own _ rfl _ _ _ 56 rfl 9 3 Try.keyT Try.underlying56 (plainElem (H := Unit) Try.prog 3) w.heap.size n _ rfl hown2 hn3 _ _ _ rfl rfl hkey _ [] hel ?_; intro w3 hown3 hg3))
      have hb3 := hbb.grown hg3 hbb.size (fun j e => by cases e; exact Nat.le_refl _)
      clear hg3 hown2
      exact ⟨⟨k + 1, n + 1, _, by omega, by omega, by go_num, hown3, HST, hb3⟩, by simp [intOf]; omega⟩
    · obtain rfl : k = N := by omega
      have hc := hcnt.out
      rw [HFN.out] at hc
      have HC := Lib.hid hc; clear hc hcnt
      have hn2 := hN.out
      go_wp2
      go_ret
      exact ⟨_, n, D, rfl, Nat.le_refl _, hown, by omega, HC.out, hb⟩
end Go.Proofs.Ytalildjhighlhaa
