/-
  Package quire's turn: a column is turned upside down, and its squares are marked.
-/
import Derived.Test.YtbkmicimpgabgaaDoorStack
import Derived.Test.YtbkmicimpgabgaaDoorShelfR
set_option linter.unusedSimpArgs false
set_option linter.unusedVariables false
namespace Go.Proofs.YtbkmicimpgabgaaDoor
open Go.RowKit Go.Lib Go.Proofs.Quire Go.Sort

def encI (n : Nat) : Value := .int .i64 (n : Int)
theorem ints_enc (l : List Nat) : ints l = l.map encI := rfl
theorem Arr.holds {w : World} {g : Nat} {l : List Nat} (h : Arr w g (ints l)) : Holds encI w g 0 l.toArray := fun j hj => by
  have hj' : j < l.length := by simpa using hj
  obtain ⟨h1, h2⟩ := h.2 j (by simpa using hj')
  rw [ints_getD _ _ hj'] at h1
  refine ⟨?_, ?_⟩
  · rw [Nat.zero_add, h1, getElem!_pos l.toArray j hj, getD_lt _ _ _ hj']; simp [encI]
  · rw [Nat.zero_add]; exact h2
theorem grown_put (w : World) (g n : Nat) (d : Array Nat) : w.grownBy (putRow encI (Sort.ahead w n) g 0 d) (some g) := by
  refine ⟨rfl, rfl, rfl, by simp, fun k hk hne => ?_⟩
  have : g ≠ k := fun e => hne (by rw [e])
  simp [putRow, mapBlock, Sort.ahead, Array.getElem?_modify, this]
def RevPost (g : Nat) (l : List Nat) (w : World) (e : Ending) (w' : World) : Prop := e = .returned (.tuple #[]) ∧ Arr w' g (ints l) ∧ Keep [g] w w'
theorem reverse_any (g c : Nat) (l : List Nat) (w : World) (h : Arr w g (ints l)) (hn : l.length ≤ 1000) :
    Calls Tryd.prog 29 #[.slice (some ⟨g, 0, none⟩) l.length c] w (RevPost g l.reverse w) := by
  have hR := AnyE.slices_Reverse Tryd.revI encI (fun _ => rfl) g 0 c l w h.holds (by omega)
  change Calls Tryd.prog 29 _ _ _ at hR
  refine hR.mono ?_
  rintro e w2 ⟨rfl, n, hw2⟩
  have hk : Keep [g] w w2 := by rw [hw2]; exact Keep.of_grown (grown_put w g n _) (fun k e => by cases e; simp)
  refine ⟨rfl, ⟨Nat.lt_of_lt_of_le h.1 hk.size, fun j hj => ?_⟩, hk⟩
  have hj' : j < l.length := by simpa using hj
  have hr : j < l.reverse.length := by simpa using hj'
  have hc := cell?_putRow encI (Sort.ahead w n) g 0 l.toArray l.reverse.toArray h.holds (by simp) j (by simpa using hj')
  rw [Nat.zero_add, ← hw2, getElem!_pos l.reverse.toArray j (by simpa using hj')] at hc
  refine ⟨by rw [hc, ints_getD _ _ hr, getD_lt _ _ _ hr]; simp [encI], ?_⟩
  have hf := (h.2 j (by simpa using hj')).2
  rw [hw2]
  rw [frozen?_putRow]; exact hf

def TurnPost (gt : Nat) (l : List Nat) (t : List Bool) (w : World) (e : Ending) (w' : World) : Prop :=
  ∃ g, e = .returned (.slice (some ⟨g, 0, none⟩) l.length l.length) ∧ w.heap.size ≤ g ∧ Arr w' g (ints l) ∧ Arr w' gt (bools t) ∧ Keep [gt] w w'
set_option maxRecDepth 100000 in
set_option maxHeartbeats 2000000 in
theorem turn_any (p gt ct : Nat) (v0 v2 : Value) (A : Option Addr) (c : Nat) (l : List Nat) (t : List Bool) (w : World) (hp : Arr w p [v0, .slice (some ⟨gt, 0, none⟩) t.length ct, v2]) (ht : Arr w gt (bools t)) (hne : gt ≠ p)
    (hl : Rd w A l.length (ints l)) (h0 : 0 < l.length) (hn : l.length ≤ 1000) (hN : t.length ≤ 1000) (hx : ∀ x ∈ l, x < t.length) :
    Calls Tryd.prog 66 #[.pointer (some ⟨p, 0, none⟩), .slice A l.length c] w (TurnPost gt l.reverse (flips l.reverse t) w) := by
  obtain ⟨ga, oa, rfl, hga, _, hca⟩ := hl.2 h0
  have hmk := run_make_ints l.length hn
  have hb0 : Below w.heap.size w (w.alloc (.cells (ints (List.replicate l.length 0)).toArray 3)) := (Below.refl _ w).alloc (Nat.le_refl _) _
  have hg0 : (w.alloc (.cells (ints (List.replicate l.length 0)).toArray 3)).heap[w.heap.size]? = some (.cells (ints (List.replicate l.length 0)).toArray 3 (0, 0)) := heap_alloc_new w _
  have hca1 : ∀ j, j < l.length → (w.alloc (.cells (ints (List.replicate l.length 0)).toArray 3)).cell? ⟨ga, oa + j, none⟩ = some ((ints l).getD j (.bool false)) := fun j hj => (hb0.cell (p := ⟨ga, oa + j, none⟩) hga).trans (hca j hj)
  have HB0 := Lib.hid hb0; have HG0 := Lib.hid hg0; have HCA := Lib.hid hca1
  clear hb0 hg0 hca1 hca
  have hle1 : l.length ≤ l.length := Nat.le_refl _
  have hfit1 : 0 + l.length ≤ (List.replicate l.length 0).length := by simp
  obtain ⟨rl, hrl⟩ : ∃ rl, Hid (l.reverse = rl) := ⟨_, rfl⟩
  have hrn : rl.length = l.length := by rw [← hrl.out]; simp
  obtain ⟨r, hr⟩ : ∃ r, Hid (flips rl t = r) := ⟨_, rfl⟩
  rw [hrl.out, hr.out]
  have hX : Hid (∀ x ∈ rl, x < t.length) := by rw [← hrl.out]; exact fun x hx' => hx x (by simpa using hx')
  have HRN := Lib.hid hrn
  clear hrn hx
  go_enter Tryd.func66, Tryd.ntmps66
  go_wp2_with (refine copy_ints rfl _ _ rfl w.heap.size 0 l.length l.length ga oa c _ l rfl rfl HG0.out hle1 hfit1 HCA.out w.heap.size w HB0.out (Nat.le_refl _) ?_)
  intro w1 HG1 hb1
  have ha1 : Arr w1 w.heap.size (ints l) := Arr.of_heap (e := 3) (by simpa using HG1.out)
  go_wp2_with (fail)
  refine (reverse_any w.heap.size l.length l w1 ha1 hn).mono ?_
  rintro e w2 ⟨rfl, ha2, hk2⟩
  rw [hrl.out] at ha2
  have hp2 := (hp.below hb1).keep hk2 (by simp; have := hp.1; omega)
  have ht2 := (ht.below hb1).keep hk2 (by simp; have := ht.1; omega)
  have hK2 : Keep [gt] w w2 := (Keep.of_below hb1).then hk2 (by simp)
  clear ha1 hb1 hk2 HB0 HG0 HCA HG1 hmk
  have hst : Hid (flips (rl.drop 0) t = r) := hr
  have hgp := ht.1; have hpp := hp.1
  go_wp2_with (fail)
  go_loopw [7, 18] (fun _ v wr => ∃ (k : Nat) (t1 : List Bool), k ≤ l.length ∧ v = .int .i64 k ∧ Hid (t1.length = t.length) ∧ Arr wr w.heap.size (ints rl) ∧ Arr wr gt (bools t1) ∧ Arr wr p [v0, .slice (some ⟨gt, 0, none⟩) t.length ct, v2] ∧ Keep [gt] w wr ∧ Hid (flips (rl.drop k) t1 = r)) (fun _ v _ => l.length - (RowKit.intOf v).toNat)
  case atStart => exact ⟨0, t, Nat.zero_le _, rfl, rfl, ha2, ht2, hp2, hK2, hst⟩
  case round =>
    clear ha2 ht2 hp2 hK2 hst
    obtain ⟨k, t1, hk, rfl, hT1, ha, ht1, hpw, hK, hf⟩ := hrel
    by_cases hlt : k < l.length
    · have hkr : k < rl.length := by rw [HRN.out]; exact hlt
      have hxk : rl.getD k 0 < t.length := hX.out _ (by rw [getD_lt _ _ _ hkr]; exact List.getElem_mem _)
      have hstep : Hid (flips (rl.drop (k + 1)) (flip1 t1 (rl.getD k 0)) = r) := by show _ = _; rw [← hf.out, drop_cons rl k 0 hkr]; rfl
      have hc := (ha.2 k (by rw [ints_length]; exact hkr)).1
      rw [ints_getD _ _ hkr] at hc
      generalize rl.getD k 0 = x at hxk hstep hc
      obtain ⟨hb, hfz⟩ := ht1.2 x (by rw [bools_length, hT1.out]; exact hxk)
      rw [bools_getD _ _ (by rw [hT1.out]; exact hxk)] at hb
      have hp1 : wr.cell? ⟨p, 1, none⟩ = some (.slice (some ⟨gt, 0, none⟩) t.length ct) := (hpw.2 1 (by simp)).1
      have hs1 := (ht1.set x (by rw [bools_length, hT1.out]; exact hxk) (.bool (!t1.getD x false)))
      rw [bools_set] at hs1
      have hset : Hid (Arr (wr.setCell ⟨gt, x, none⟩ (.bool (!t1.getD x false))) gt (bools (flip1 t1 x))) := hs1
      have ha3 := ha.other (p := ⟨gt, x, none⟩) (by show gt ≠ w.heap.size; omega) (.bool (!t1.getD x false))
      have hp3 := hpw.other (p := ⟨gt, x, none⟩) hne (.bool (!t1.getD x false))
      have hK3 := hK.setCell (p := ⟨gt, x, none⟩) (.inl (by simp)) (.bool (!t1.getD x false))
      have HA3 := Lib.hid ha3; have HP3 := Lib.hid hp3; have HK3 := Lib.hid hK3
      clear hs1 ha3 hp3 hK3 ha ht1 hpw
      have hl1 : Hid ((flip1 t1 x).length = t.length) := by show _ = _; rw [flip1_len]; exact hT1.out
      generalize t1.getD x false = bb at hb hset HA3 HP3 HK3
      go_wp2_with (fail)
      go_region
      go_wp2
      exact ⟨⟨k + 1, flip1 t1 x, by omega, by go_num, hl1, HA3.out, hset.out, HP3.out, HK3.out.drewN 1, hstep⟩, by simp [RowKit.intOf]; omega⟩
    · have hR : Hid (t1 = r) := by show _ = _; rw [← hf.out, List.drop_eq_nil_of_le (by rw [HRN.out]; omega)]; rfl
      rw [hR.out] at ht1
      clear hR hf
      go_wp2_with (fail)
      go_ret
      exact ⟨w.heap.size, by rw [HRN.out]; rfl, Nat.le_refl _, ha, ht1, hK⟩
end Go.Proofs.YtbkmicimpgabgaaDoor
