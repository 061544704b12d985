/-
  Package quire's Folded.
-/
import Derived.Test.YtbkmicimpgabgaaDoorChkPile
import Derived.Test.YtbkmicimpgabgaaDoorFolds
import Derived.Test.YtbkmicimpgabgaaDoorPages
import Derived.Test.YtbkmicimpgabgaaDoorShelfR
import Derived.Deep.RegionLaw
import Derived.Deep.AppendLies
set_option linter.unusedSimpArgs false
set_option linter.unusedVariables false
namespace Go.Proofs.Quire
/-- where each square lies -/
def plS : List Nat → Nat → List Nat → List Nat
  | [], _, a => a
  | x :: xs, k, a => plS xs (k + 1) (a.set x k)
def waysP (pl : List Nat) : Nat → Nat → List UInt8
  | 0, _ => []
  | f + 1, n => if 1 < n then wayOf (decide (pl.getD (n - 1) 0 < pl.getD 0 0)) :: waysP pl f (n / 2) else []
def waysOf (ys : List Nat) : List UInt8 := waysP (plS ys 0 (List.replicate ys.length 0)) 7 ys.length
def foldedP (xs : List Int) : List UInt8 × Int :=
  if pileE xs = 0 then (if pileL (foldsB (waysOf (xs.map Int.toNat))) = xs.map Int.toNat then (waysOf (xs.map Int.toNat), 0) else ([], 12)) else ([], pileE xs)
theorem plS_len : ∀ (xs : List Nat) k (a : List Nat), (plS xs k a).length = a.length
  | [], _, _ => rfl
  | x :: xs, k, a => by rw [plS, plS_len, List.length_set]
theorem waysP_len (pl : List Nat) : ∀ f n k, n < 2 ^ (k + 1) → (waysP pl f n).length ≤ k
  | 0, n, k, h => by simp [waysP]
  | f + 1, n, k, h => by
    unfold waysP
    split
    · rename_i h1
      rcases k with _ | k
      · simp at h; omega
      · have := waysP_len pl f (n / 2) k (by rw [Nat.pow_succ] at h; omega)
        simp; omega
    · simp
theorem waysP_end (pl : List Nat) (f n : Nat) (h : ¬ 1 < n) : waysP pl f n = [] := by
  cases f with
  | zero => rfl
  | succ f => unfold waysP; rw [if_neg h]
theorem twE_zero (n : Nat) : ∀ (xs : List Int) seen, twE n seen xs = 0 → ∀ x ∈ xs, 0 ≤ x ∧ x < n
  | [], _, _ => by simp
  | x :: xs, seen, h => by
    unfold twE at h
    split at h
    · exact absurd h (by decide)
    · split at h
      · exact absurd h (by decide)
      · intro y hy
        rcases List.mem_cons.1 hy with rfl | hy
        · omega
        · exact twE_zero n xs _ h y hy
theorem pileE_zero {xs : List Int} (h : pileE xs = 0) : xs.length ≤ 64 ∧ onesN xs.length = 1 ∧ ∀ x ∈ xs, 0 ≤ x ∧ x < (xs.length : Int) := by
  unfold pileE at h
  split at h
  · exact absurd h (by decide)
  · split at h
    · exact ⟨by omega, by assumption, twE_zero _ _ _ h⟩
    · exact absurd h (by decide)
theorem map_toNat {xs : List Int} (h : ∀ x ∈ xs, 0 ≤ x) : (xs.map Int.toNat).map (fun n : Nat => (n : Int)) = xs := by
  induction xs with
  | nil => rfl
  | cons x xs ih =>
    rw [List.map_cons, List.map_cons, ih (fun y hy => h y (List.mem_cons_of_mem _ hy))]
    have := h x (List.mem_cons_self ..)
    rw [Int.toNat_of_nonneg this]
end Go.Proofs.Quire
namespace Go.Proofs.YtbkmicimpgabgaaDoor
open Go.RowKit Go.Lib Go.Proofs.Quire

/-- two rows of numbers, compared -/
theorem equal_any (A B : Option Addr) (c d : Nat) (a b : List Nat) (w : World) (ha : Rd w A a.length (ints a)) (hb : Rd w B b.length (ints b)) (h0 : 0 < a.length) (h1 : 0 < b.length) (hn : a.length ≤ 1000) (hm : b.length ≤ 1000) :
    Calls Tryd.prog 51 #[.slice A a.length c, .slice B b.length d] w fun e w' => e = .returned (.bool (decide (a = b))) ∧ ∃ q, w' = w.drewN q := by
  obtain ⟨ga, oa, rfl, _, _, hca⟩ := ha.2 h0
  obtain ⟨gb, ob, rfl, _, _, hcb⟩ := hb.2 h1
  have hcell : ∀ (g o : Nat) (l : List Nat), (∀ j, j < l.length → w.cell? ⟨g, o + j, none⟩ = some ((ints l).getD j (.bool false))) → ∀ j, j < (l.map (fun n : Nat => (n : Int))).length → w.cell? ⟨g, o + j, none⟩ = some (Value.int .i64 (l.map (fun n : Nat => (n : Int)))[j]!) := fun g o l h j hj => by
    have hj' : j < l.length := by simpa using hj
    rw [h j hj', ints_getD _ _ hj', getElem!_pos _ j hj, getD_lt _ _ _ hj']; simp
  have hR := AnyE.slices_Equal Tryd.equI (Value.int .i64) (fun x y => x == y) (NeqAt.int _ _ .i64) ga oa a.length c gb ob b.length d (a.map fun n : Nat => (n : Int)) (b.map fun n : Nat => (n : Int)) w (by simp) (by simp) (by omega) (by omega) (hcell ga oa a hca) (hcell gb ob b hcb)
  change Calls Tryd.prog 51 _ _ _ at hR
  refine hR.mono fun e w' ⟨he, hw⟩ => ⟨?_, hw⟩
  rw [he]
  have key : ∀ a b : List Nat, Lib.allEq (fun x y : Int => x == y) (a.map fun n : Nat => (n : Int)) (b.map fun n : Nat => (n : Int)) = decide (a = b) := by
    intro a
    induction a with
    | nil => intro b; cases b <;> simp [Lib.allEq]
    | cons x a ih =>
      intro b
      cases b with
      | nil => simp [Lib.allEq]
      | cons y b =>
        simp only [List.map_cons, Lib.allEq, ih]
        rw [Bool.eq_iff_iff]; simp only [Bool.and_eq_true, beq_iff_eq, decide_eq_true_eq, List.cons.injEq]
        constructor
        · rintro ⟨h1, h2⟩; exact ⟨by omega, h2⟩
        · rintro ⟨h1, h2⟩; exact ⟨by omega, h2⟩
  rw [List.take_of_length_le (by simp), List.take_of_length_le (by simp), key]

set_option maxRecDepth 100000 in
set_option maxHeartbeats 8000000 in
theorem folded_any (A : Option Addr) (c : Nat) (xs : List Int) (w : World) (h : Rd w A xs.length (zs xs)) (hn : xs.length ≤ maxLen) :
    Calls Tryd.prog 25 #[.slice A xs.length c] w (StrEPost (foldedP xs).1 (foldedP xs).2 w) := by
  have h1 := fun W hW => checkPile_any A c xs W hW hn
  obtain ⟨r, hr⟩ : ∃ r, Hid (foldedP xs = r) := ⟨_, rfl⟩
  rw [hr.out]
  by_cases hz : pileE xs = 0
  · obtain ⟨hl64, hone, hxs⟩ := pileE_zero hz
    obtain ⟨ys, hys⟩ : ∃ ys, Hid (xs.map Int.toNat = ys) := ⟨_, rfl⟩
    have hyl : ys.length = xs.length := by rw [← hys.out]; simp
    have hxy : ys.map (fun n : Nat => (n : Int)) = xs := by rw [← hys.out]; exact map_toNat (fun x hx => (hxs x hx).1)
    have hlt : Hid (∀ y ∈ ys, y < ys.length) := by
      show ∀ y ∈ ys, _
      intro y hy
      have := hxs (y : Int) (by rw [← hxy]; exact List.mem_map.2 ⟨y, hy, rfl⟩)
      omega
    have hpos : 0 < ys.length := by
      rcases Nat.eq_zero_or_pos ys.length with e | e
      · rw [← hyl, e] at hone; exact absurd hone (by decide)
      · exact e
    obtain ⟨q, hq⟩ : ∃ q, Hid (waysOf ys = q) := ⟨_, rfl⟩
    have hql : q.length ≤ 6 := by rw [← hq.out]; exact waysP_len _ _ _ 6 (by omega)
    have hr1 : Hid (r = if pileL (foldsB q) = ys then (q, 0) else ([], 12)) := by show _ = _; rw [← hr.out]; unfold foldedP; rw [if_pos hz, hys.out, hq.out]
    rw [hz] at h1
    have hzi : zs xs = ints ys := by rw [← hxy]; exact zs_ints ys
    rw [hzi, ← hyl] at h
    have h2 : ∀ W, Rd W A ys.length (ints ys) → Calls Tryd.prog 50 #[.slice A ys.length c] W fun e w' => e = .returned (.int .i64 0) ∧ Below W.heap.size W w' := fun W hW => by
      rw [hyl]; exact h1 W (by rw [hzi, ← hyl]; exact hW)
    rw [← hyl]
    have hl : ys.length ≤ 64 := by omega
    have hfa := fun W => foldAll_any q W hql
    have hmk := run_make_ints ys.length (by omega)
    obtain ⟨pl, hpl⟩ : ∃ pl, Hid (plS ys 0 (List.replicate ys.length 0) = pl) := ⟨_, rfl⟩
    have hpll : Hid (pl.length = ys.length) := by show _ = _; rw [← hpl.out, plS_len, List.length_replicate]
    have hqs : Hid ([] ++ waysP pl 7 ys.length = q) := by rw [← hpl.out]; exact hq.out
    obtain ⟨a0, ha0⟩ : ∃ a0 : List Nat, Hid (List.replicate ys.length 0 = a0) := ⟨_, rfl⟩
    have hal0 : Hid (a0.length = ys.length) := by show _ = _; rw [← ha0.out, List.length_replicate]
    have hps : Hid (plS (ys.drop 0) 0 a0 = pl) := by rw [← ha0.out]; exact hpl.out
    rw [ha0.out] at hmk
    have hpil : Hid (0 < (pileL (foldsB q)).length ∧ (pileL (foldsB q)).length ≤ 64) := by
      obtain ⟨hpl1, _⟩ := pileL_facts (foldsB q)
      have h6 : (foldsB q).length ≤ 6 := by rw [foldsB_len]; exact hql
      have : 2 ^ (foldsB q).length ≤ 2 ^ 6 := Nat.pow_le_pow_right (by omega) h6
      have h1' : 1 ≤ 2 ^ (foldsB q).length := Nat.one_le_two_pow
      exact ⟨by omega, by omega⟩
    have hcols := (inv_bounds (strip_inv (foldsB q)) (by rw [foldsB_len]; exact hql) (Nat.le_refl _)).2.2.1.1
    have h3 : ∀ p gt gc W, StripAt W p gt gc (stripL (foldsB q)) → Calls Tryd.prog 37 #[.pointer (some ⟨p, 0, none⟩)] W (PilePost (pileL (foldsB q)) W) := fun p gt gc W h => pile_any p gt gc _ W h hcols
    have hi0 : (Tryd.prog.info? 5).map (fun i => (i.zero, i.size, i.bytes)) = some (some (.int .u8 0), 1, 1) := by kernel_rfl
    obtain ⟨i0, hi, hz0, hz1, hz2⟩ := info_parts hi0
    generalize stripL (foldsB q) = st at hfa h3 hcols
    generalize hpq : pileL (foldsB q) = pq at h3 hr1 hpil
    clear hz hr h1 hone hxs hxy hzi hq hys hpl ha0 hi0 hyl hcols hpq
    have H := Lib.hid h
    go_enter Tryd.func25, Tryd.ntmps25
    go_wp2_with (fail)
    refine (h2 _ h).mono ?_; rintro e w1 ⟨rfl, hb1⟩
    clear h2 h
    go_wp2_with (fail)
    have hb2 := hb1.alloc hb1.size (.cells (ints a0).toArray 3)
    have ha2 : Arr (w1.alloc (.cells (ints a0).toArray 3)) w1.heap.size (ints a0) := Arr.new w1 _ _
    have hgg := hb1.size
    generalize w1.alloc (.cells (ints a0).toArray 3) = w2 at hb2 ha2 ⊢
    generalize w1.heap.size = G at ha2 hgg ⊢
    clear hb1 hmk
    go_loopw [6, 7, 21] (fun _ _ v wr => ∃ (k : Nat) (a : List Nat), k ≤ ys.length ∧ v = .int .i64 k ∧ Hid (a.length = ys.length) ∧ Arr wr G (ints a) ∧ Below w.heap.size w wr ∧ Hid (plS (ys.drop k) k a = pl)) (fun _ _ v _ => ys.length - (RowKit.intOf v).toNat)
    case atStart => exact ⟨0, a0, Nat.zero_le _, rfl, hal0, ha2, hb2, hps⟩
    case round =>
      clear ha2 hb2 hal0 hps
      obtain ⟨k, a, hk, rfl, hla, ha, hbr, hf⟩ := hrel
      by_cases hlk : k < ys.length
      · obtain ⟨g, o, rfl, hg, _, hc⟩ := H.out.2 (by omega)
        have hcx := (hbr.cell (p := ⟨g, o + k, none⟩) hg).trans (hc k hlk)
        rw [ints_getD _ _ hlk] at hcx
        have hyk : ys.getD k 0 < ys.length := hlt.out _ (by rw [getD_lt _ _ _ hlk]; exact List.getElem_mem _)
        have hst : Hid (plS (ys.drop (k + 1)) (k + 1) (a.set (ys.getD k 0) k) = pl) := by show _ = _; rw [← hf.out, drop_cons ys k 0 hlk]; rfl
        generalize ys.getD k 0 = y at hcx hyk hst
        obtain ⟨iy, fy⟩ := ha.2 y (by rw [ints_length, hla.out]; exact hyk)
        rw [ints_getD _ _ (by rw [hla.out]; exact hyk)] at iy
        have hset := ha.set y (by rw [ints_length, hla.out]; exact hyk) (.int .i64 (k : Int))
        rw [ints_set] at hset
        have hl2 : Hid ((a.set y k).length = ys.length) := by show _ = _; rw [List.length_set]; exact hla.out
        have hb3 := hbr.setCell (p := ⟨G, y, none⟩) hgg (.int .i64 (k : Int))
        have HS := Lib.hid hset; have HB := Lib.hid hb3
        clear hc ha hset hb3
        go_wp2_with (fail)
        exact ⟨⟨k + 1, _, by omega, by go_num, hl2, HS.out, HB.out, hst⟩, by simp [RowKit.intOf]; omega⟩
      · have hR : Hid (a = pl) := by
          have e : ys.drop k = [] := List.drop_eq_nil_of_le (by omega)
          show _ = _; rw [← hf.out, e]; rfl
        rw [hR.out] at ha
        clear hR hf hla
        go_wp2_with (fail)
        have hb3 := hbr.alloc hbr.size (.cells #[] 5)
        have ha3 := ha.alloc (.cells #[] 5)
        have hG := ha.1
        have hown3 := World.ownsRow_made (base := G + 1) (e := 5) (size := 1) wr #[] 0 (by omega) (Nat.zero_le _) rfl
        generalize wr.alloc (.cells #[] 5) = w3 at hb3 ha3 hown3 ⊢
        clear hbr ha
        go_loopw [8, 9] (fun v5 v6 wr => ∃ (m n k g c : Nat) (l : List UInt8), n < 2 ^ m ∧ n ≤ ys.length ∧ v5 = .slice (some ⟨g, 0, none⟩) k c ∧ v6 = .int .i64 n ∧ k + m ≤ 7 ∧ wr.ownsRow (G + 1) 5 1 (.slice (some ⟨g, 0, none⟩) k c) k (u8b l) ∧ Below w.heap.size w wr ∧ Arr wr G (ints pl) ∧ Hid (l ++ waysP pl m n = q)) (fun _ v _ => (RowKit.intOf v).toNat)
        case atStart => exact ⟨7, ys.length, 0, _, _, [], by show ys.length < 128; omega, by omega, rfl, by go_num, by omega, hown3, hb3, ha3, hqs⟩
        case round =>
          clear hb3 ha3 hown3 hqs
          obtain ⟨m, n, k, g, c', l, hnm, hns, rfl, rfl, hkm, hown, hbr, ha, hf⟩ := hrel
          by_cases hltn : 1 < n
          · obtain ⟨m, rfl⟩ : ∃ m', m = m' + 1 := ⟨m - 1, by rcases m with _ | m; simp at hnm; omega; rfl⟩
            have hst : Hid (l ++ [wayOf (decide (pl.getD (n - 1) 0 < pl.getD 0 0))] ++ waysP pl m (n / 2) = q) := by
              show _ = _; rw [← hf.out, waysP, if_pos hltn, List.append_assoc]; rfl
            have j1 := (ha.2 (n - 1) (by rw [ints_length, hpll.out]; omega)).1
            have j0 := (ha.2 0 (by rw [ints_length, hpll.out]; omega)).1
            rw [ints_getD _ _ (by rw [hpll.out]; omega)] at j1 j0
            generalize pl.getD (n - 1) 0 = u at j1 hst
            generalize pl.getD 0 0 = v at j0 hst
            have hfo := fun W => foldOf_any (decide (u < v)) W
            generalize wayOf (decide (u < v)) = wb at hfo hst
            have e1 : IntKind.i64.wrap ((n : Int) - 1) = (n : Int) - 1 := by rw [IntKind.wrap_i64]; omega
            have e2 : ((n : Int) - 1).toNat = n - 1 := by omega
            have e3 : (0 : Int) ≤ (n : Int) - 1 := by omega
            have e4 : (n : Int) - 1 < (ys.length : Int) := by omega
            have e5 : 0 < ys.length := hpos
            have e6 : (1 : Int) ≤ (n : Int) := by omega
            have e7 : n - 1 < ys.length := by omega
            have hsz2 := hbr.size
            have hGr := ha.1
            have hk1 : k + 1 ≤ maxLen := by unfold maxLen; omega
            have hk2 : (k + 1) * 1 ≤ 140737488355328 := by omega
            have hn2 : n / 2 < 2 ^ m := by rw [Nat.pow_succ] at hnm; omega
            have HN2 := Lib.hid hn2
            clear hn2
            go_wp2_with (fail)
            go_region_law (first
              | (refine step_append_lies _ rfl (.tmp 38) (.tmp 49) 58 rfl (G + 1) 5 i0 (.int .u8 0) 1 1 Tryd.underlying58 hi hz0 hz1 hz2 rfl (by decide) (.slice (some ⟨g, 0, none⟩) k c') k (u8b l) rfl ?n0 ⟨wr.heap.size, 0, none⟩ 1 1 [.int .u8 (wb.toNat : Int)] rfl rfl ?n1 ?n2 (by decide) hk1 hk2 ?n3 (wr.heap.size + 1) ?n4 (fun g5 c5 w5 hown5 hg5 hloc hlt5 => ?_); (case n0 => exact hown.alloc _); (case n1 => (intro j u hj; match j, hj with | 0, hj => (simp at hj; subst hj; try (first | rfl | simp [Addr.add])))); (case n2 => (intro u hu; rw [List.mem_singleton.1 hu]; try rfl)); (case n3 => (first | omega | (simp; done) | (simp; omega))); (case n4 => (first | rfl | simp)))
              | (go_simp; go_at_call 44; refine (hfo _).mono ?_; rintro e w7 ⟨rfl, rfl⟩))
            all_goals
              have hgx : (wr.alloc (.cells #[.int .u8 (wb.toNat : Int)] 5)).grownBy w5 (.slice (some ⟨g, 0, none⟩) k c' : Value).ownBlock := ⟨hg5.os, hg5.tape, hg5.output, hg5.size, hg5.block⟩
              have hown6 : w5.ownsRow (G + 1) 5 1 (.slice (some ⟨g5, 0, none⟩) (k + 1) c5) (k + 1) (u8b (l ++ [wb])) := by
                have e : u8b (l ++ [wb]) = u8b l ++ [.int .u8 (wb.toNat : Int)] := by simp [u8b]
                rw [e]; exact hown5
              have ha5 := (ha.alloc (.cells #[.int .u8 (wb.toNat : Int)] 5)).grown hgx (fun e => by have := (hown.lt G e.symm).1; omega)
              have hb5 : Below w.heap.size w w5 := (hbr.alloc hsz2 (.cells #[.int .u8 (wb.toNat : Int)] 5)).grown hgx (by simp; omega) (fun k' e => by have := (hown.lt k' e).1; omega)
              clear hg5 hgx hloc hown hown5 ha hbr hlt5
              go_wp2
              exact ⟨⟨m, n / 2, k + 1, g5, c5, _, HN2.out, by omega, rfl, by first | rfl | go_num, by omega, hown6, hb5, ha5, hst⟩, by simp [RowKit.intOf]; omega⟩
          · have hR : Hid (l = q) := by show _ = _; rw [← hf.out, waysP_end _ _ _ hltn, List.append_nil]
            rw [hR.out] at hown
            obtain ⟨hql2, hcell⟩ := own_bytes hown
            have hcb1 := run_convert_bytes_back (P := Tryd.prog) wr 58 9 5 ⟨g, 0, none⟩ c' q Tryd.underlying58 Tryd.underlying5 Tryd.underlying9 hcell
            rw [hql2] at hcb1
            clear hcell hown
            go_wp2_with (fail)
            refine (hfa _).mono ?_; rintro e w5 ⟨p, gt, gc, rfl, _, hsp, hb5⟩
            have hbF := hbr.trans (hb5.mono hbr.size)
            go_wp2_with (fail)
            refine (h3 p gt gc w5 hsp).mono ?_; rintro e w6 ⟨A6, c6, rfl, hrd6, rfl⟩
            have hrdy := H.out.below hbF
            have heq := equal_any A6 A c6 c pq ys w6 hrd6 hrdy hpil.out.1 hpos (by have := hpil.out.2; omega) (by omega)
            clear hsp hb5 hfa h3 hrd6 hrdy hbr ha hcb1
            by_cases hcc : pq = ys
            · have hR2 : Hid (r = (q, 0)) := by show _ = _; rw [hr1.out, if_pos hcc]
              rw [show decide (pq = ys) = true by simpa using hcc] at heq
              clear hcc hr1
              go_wp2_with (fail)
              refine heq.mono ?_; rintro e w7 ⟨rfl, qq, rfl⟩
              go_wp2_with (fail)
              go_ret2
              exact ⟨by rw [hR2.out]; rfl, below_drewN hbF _⟩
            · have hR2 : Hid (r = ([], 12)) := by show _ = _; rw [hr1.out, if_neg hcc]
              rw [show decide (pq = ys) = false by simpa using hcc] at heq
              clear hcc hr1
              go_wp2_with (fail)
              refine heq.mono ?_; rintro e w7 ⟨rfl, qq, rfl⟩
              go_wp2_with (fail)
              go_ret2
              exact ⟨by rw [hR2.out]; rfl, below_drewN hbF _⟩
  · have hR : Hid (r = ([], pileE xs)) := by show _ = _; rw [← hr.out]; unfold foldedP; rw [if_neg hz]
    have hz2 : (pileE xs != 0) = true := by simpa using hz
    generalize pileE xs = z at h1 hz2 hR
    have H := Lib.hid h
    clear hz hr
    go_enter Tryd.func25, Tryd.ntmps25
    go_wp2_with (fail)
    refine (h1 _ H.out).mono ?_; rintro e w1 ⟨rfl, hb1⟩
    go_wp2_with (fail)
    go_ret2
    exact ⟨by rw [hR.out]; rfl, hb1⟩
end Go.Proofs.YtbkmicimpgabgaaDoor
