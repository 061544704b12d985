/-
  The walks of package short's Count, Parts, Apart, Alike and Short, out of what partsOf returns (a premise here): each returns what the plain Lean function says.
-/
import Derived.Test.YtlbepjmiligpcaaDoorFirst
set_option linter.unusedSimpArgs false
set_option linter.unusedVariables false
namespace Go.Proofs.YtlbepjmiligpcaaDoor
open Go.RowKit Go.Proofs.Short Go.Lib

theorem Tryd.infoStr : (Tryd.prog.info? 9).map (fun i => (i.zero, i.size, i.bytes)) = some (some (.string ByteArray.empty), 1, 16) := by kernel_rfl

/-- What partsOf hands back: a new row that holds the parts in their order. -/
def PartsPost (w : World) (ws : List (List UInt8)) (e : Ending) (w' : World) : Prop :=
  ∃ A c, e = .returned (.slice A (partsL ws).length c) ∧ w'.ownsRow w.heap.size 9 1 (.slice A (partsL ws).length c) (partsL ws).length ((partsL ws).map encStr) ∧ Below w.heap.size w w'
def PartsOfSaid : Prop := ∀ (A : Option Addr) (n c : Nat) (ws : List (List UInt8)) (w : World), Rd w A n (ws.map encStr) → 0 < n → n ≤ 8 → (∀ x ∈ ws, x.length ≤ 10 ∧ x.all okc = true) →
  Calls Tryd.prog 23 #[.slice A n c] w (PartsPost w ws)

theorem rd_own {w : World} {base : Nat} {e : TypeId} {A : Option Addr} {n c : Nat} {xs : List Value} (h : w.ownsRow base e 1 (.slice A n c) n xs) : Rd w A n xs := by
  have hl : xs.length = n := by simpa using h.1
  refine ⟨hl, fun hn => ?_⟩
  rcases h.2 with ⟨hv, h0⟩ | ⟨g, cap, cur, hv, hg, hh, _⟩
  · omega
  · obtain ⟨rfl, _, rfl⟩ : A = some ⟨g, 0, none⟩ ∧ n = n ∧ c = cap := by injection hv; exact ⟨by assumption, rfl, by assumption⟩
    refine ⟨g, 0, rfl, (Array.getElem?_eq_some_iff.1 hh).1, fun j hj => ?_⟩
    rw [Nat.zero_add, h.cellAt j (by omega), getD_lt _ _ _ (by omega), List.getElem?_eq_getElem (by omega)]
theorem own_le {w : World} {base : Nat} {e : TypeId} {v : Value} {n : Nat} {xs : List Value} (h : w.ownsRow base e 1 v n xs) : n ≤ maxLen := by
  rcases h.2 with ⟨_, rfl⟩ | ⟨g, cap, cur, rfl, hg, hh, h1, h2, _⟩
  · exact Nat.zero_le _
  · exact Nat.le_trans h1 h2
theorem rd_one (w : World) (a : List UInt8) (t : TypeId) : Rd (w.alloc (.cells #[.string ⟨a.toArray⟩] t)) (some ⟨w.heap.size, 0, none⟩) 1 ([a].map encStr) := by
  refine ⟨rfl, fun _ => ⟨w.heap.size, 0, rfl, by simp, fun j hj => ?_⟩⟩
  rw [World.cell?_alloc_at _ _ _ _ rfl]
  match j, hj with
  | 0, _ => rfl
theorem parts_le {ws : List (List UInt8)} (h : ∀ x ∈ ws, x.length ≤ 10) : ∀ p ∈ partsL ws, p.length ≤ 10 := fun p hp => by
  obtain ⟨x, hx, hs⟩ := mem_partsL.1 hp
  exact Nat.le_trans hs.length_le (h x hx)
theorem chk_zero {x : List UInt8} (h : chk x = 0) : x.length ≤ 10 ∧ x.all okc = true := by
  unfold chk at h
  split at h
  · exact absurd h (by decide)
  · split at h
    · rename_i h1 h2; exact ⟨by omega, h2⟩
    · exact absurd h (by decide)

/-- partsOf at one word: what the callers ask -/
theorem parts_one (hP : PartsOfSaid) (x : List UInt8) (hx : x.length ≤ 10 ∧ x.all okc = true) (w : World) (t : TypeId) :
    Calls Tryd.prog 23 #[.slice (some ⟨w.heap.size, 0, none⟩) 1 1] (w.alloc (.cells #[.string ⟨x.toArray⟩] t)) fun e w' => ∃ A c, e = .returned (.slice A (partsL [x]).length c) ∧ w'.ownsRow w.heap.size 9 1 (.slice A (partsL [x]).length c) (partsL [x]).length ((partsL [x]).map encStr) ∧ Below w.heap.size w w' :=
  (hP (some ⟨w.heap.size, 0, none⟩) 1 1 [x] _ (rd_one w x t) (by decide) (by decide) (by simpa using hx)).mono fun _ _ ⟨A, c, he, ho, hB⟩ =>
    ⟨A, c, he, ⟨ho.1, ho.2.imp id fun ⟨g, cap, cur, hv, hg, r⟩ => ⟨g, cap, cur, hv, by simp at hg; omega, r⟩⟩, ((Below.refl _ _).alloc (Nat.le_refl _) _).trans (hB.mono (by simp))⟩

def cntL (x : List UInt8) : Int := if chk x = 0 then ((partsL [x]).length : Nat) else 0
set_option maxHeartbeats 400000 in
theorem count_any (hP : PartsOfSaid) (x : List UInt8) (w : World) (hx : x.length ≤ maxLen) :
    Calls Tryd.prog 9 #[.string ⟨x.toArray⟩] w fun e w' => e = .returned (.tuple #[.int .i64 (cntL x), .int .i64 (chk x)]) ∧ Below w.heap.size w w' := by
  by_cases hz : chk x = 0
  · have hh : cntL x = ((partsL [x]).length : Nat) := by unfold cntL; rw [if_pos hz]
    have hz2 : (chk x != 0) = false := by simp [hz]
    have h10 := chk_zero hz
    have HH := Lib.hid hh; have HZ := Lib.hid hz; have H10 := Lib.hid h10; clear hh hz h10
    go_enter Tryd.func9, Tryd.ntmps9
    go_wp2_with (first
      | (go_at_call 22; refine (check_l x _ hx).mono ?_; rintro e w1 ⟨rfl, hb1⟩)
      | (go_at_call 23; refine (parts_one hP x H10.out _ _).mono ?_; rintro e w2 ⟨A, c, rfl, hown, hb2⟩))
    go_ret2
    rw [HH.out, HZ.out]
    exact ⟨rfl, hb1.trans (hb2.mono hb1.size)⟩
  · have hh : cntL x = 0 := by unfold cntL; rw [if_neg hz]
    have hz2 : (chk x != 0) = true := by simp [hz]
    have HH := Lib.hid hh; clear hh hz
    go_enter Tryd.func9, Tryd.ntmps9
    go_wp2_with (go_at_call 22; refine (check_l x _ hx).mono ?_; rintro e w1 ⟨rfl, hb1⟩)
    go_ret2
    rw [HH.out]
    exact ⟨rfl, hb1⟩

/-- a row that is read while other rows grow -/
def RdAt (w : World) (g o n : Nat) (xs : List Value) : Prop := g < w.heap.size ∧ ∀ j, j < n → w.cell? ⟨g, o + j, none⟩ = some (xs.getD j (.bool false))
theorem RdAt.kept {w w' : World} {g o n : Nat} {xs : List Value} (h : RdAt w g o n xs) {row : Option Nat} (hg : w.grownBy w' row) (hne : some g ≠ row) : RdAt w' g o n xs :=
  ⟨Nat.lt_of_lt_of_le h.1 hg.size, fun j hj => (World.cell?_of_block (a := ⟨g, o + j, none⟩) (hg.block g h.1 hne)).trans (h.2 j hj)⟩
theorem RdAt.alloc {w : World} {g o n : Nat} {xs : List Value} (h : RdAt w g o n xs) (ob : Obj) : RdAt (w.alloc ob) g o n xs := h.kept (World.grownBy_alloc w ob none) (by simp)
theorem RdAt.below {w w' : World} {g o n : Nat} {xs : List Value} (h : RdAt w g o n xs) (hb : Below w.heap.size w w') : RdAt w' g o n xs :=
  ⟨Nat.lt_of_lt_of_le h.1 hb.size, fun j hj => (hb.cell (p := ⟨g, o + j, none⟩) h.1).trans (h.2 j hj)⟩
theorem Rd.at {w : World} {A : Option Addr} {n : Nat} {xs : List Value} (h : Rd w A n xs) (hn : 0 < n) : ∃ g o, A = some ⟨g, o, none⟩ ∧ RdAt w g o n xs := by
  obtain ⟨g, o, hA, hlt, hc⟩ := h.2 hn
  exact ⟨g, o, hA, hlt, hc⟩
theorem RdAt.str {w : World} {g o n : Nat} {ps : List (List UInt8)} (h : RdAt w g o n (ps.map encStr)) {k : Nat} (hk : k < n) (hn : n = ps.length) : w.cell? ⟨g, o + k, none⟩ = some (.string ⟨(ps.getD k []).toArray⟩) := by
  rw [h.2 k hk, getD_map_encStr ps k (by omega)]
theorem grown_below {w w' : World} (h : Below w.heap.size w w') : w.grownBy w' none := ⟨h.os, h.tape, h.output, h.size, fun k hk _ => h.block k hk⟩
theorem own_below {w w' : World} {base : Nat} {e : TypeId} {size n : Nat} {v : Value} {xs : List Value} (h : w.ownsRow base e size v n xs) (hb : Below w.heap.size w w') : w'.ownsRow base e size v n xs :=
  h.kept (grown_below hb) (by cases hv : v.ownBlock <;> simp)
theorem partsL_pos (ws : List (List UInt8)) (h : ws ≠ []) : 0 < (partsL ws).length := by
  cases ws with
  | nil => exact absurd rfl h
  | cons w l => exact List.length_pos_of_mem (mem_partsL.2 ⟨w, List.mem_cons_self .., List.nil_sublist w⟩)
theorem subs_length (w : List UInt8) : (subs w).length = 2 ^ w.length := by
  induction w with
  | nil => rfl
  | cons a w ih => simp [subs, ih, Nat.pow_succ]; omega
theorem insW_length (x : List UInt8) : ∀ l : List (List UInt8), (insW x l).length ≤ l.length + 1
  | [] => Nat.le_refl _
  | y :: l => by
    unfold insW
    split
    · simp
    · split
      · have := insW_length x l; simp; omega
      · simp
theorem foldr_insW_length : ∀ l : List (List UInt8), (l.foldr insW []).length ≤ l.length
  | [] => Nat.le_refl _
  | x :: l => Nat.le_trans (insW_length x _) (by have := foldr_insW_length l; simp; omega)
theorem flat_length : ∀ (ws : List (List UInt8)), (∀ x ∈ ws, x.length ≤ 10) → (ws.flatMap subs).length ≤ ws.length * 1024
  | [], _ => Nat.le_refl _
  | x :: l, h => by
    have h1 := flat_length l (fun y hy => h y (List.mem_cons_of_mem _ hy))
    have h2 : 2 ^ x.length ≤ 2 ^ 10 := Nat.pow_le_pow_right (by omega) (h x (List.mem_cons_self ..))
    have h3 : (2 : Nat) ^ 10 = 1024 := by decide
    simp only [List.flatMap_cons, List.length_append, subs_length, List.length_cons, Nat.add_mul]
    omega
theorem partsL_length (ws : List (List UInt8)) (h : ∀ x ∈ ws, x.length ≤ 10) : (partsL ws).length ≤ ws.length * 1024 := Nat.le_trans (foldr_insW_length _) (flat_length ws h)

/-- parts of one size -/
def sizedL (x : List UInt8) (n : Nat) : List (List UInt8) := (partsL [x]).filter fun p => p.length == n
def SliceOf (w : World) (l : List (List UInt8)) (err : Int) (e : Ending) (w' : World) : Prop :=
  Below w.heap.size w w' ∧ ∃ v, e = .returned (.tuple #[v, .int .i64 err]) ∧ w'.ownsRow w.heap.size 9 1 v l.length (l.map encStr)
theorem filter_take_step {l : List (List UInt8)} {k n : Nat} (hk : k < l.length) : (l.take (k + 1)).filter (fun p => p.length == n) = (l.take k).filter (fun p => p.length == n) ++ (if (l.getD k []).length = n then [l.getD k []] else []) := by
  rw [List.take_succ_eq_append_getElem hk, List.filter_append, getD_lt _ _ _ hk]
  by_cases h : l[k].length = n
  · simp [h]
  · simp [h]

/-- .. the block's number given apart -/
theorem parts_one_at (hP : PartsOfSaid) (x : List UInt8) (hx : x.length ≤ 10 ∧ x.all okc = true) (w : World) (t : TypeId) (B : Nat) (hB : w.heap.size = B) :
    Calls Tryd.prog 23 #[.slice (some ⟨B, 0, none⟩) 1 1] (w.alloc (.cells #[.string ⟨x.toArray⟩] t)) fun e w' => ∃ A c, e = .returned (.slice A (partsL [x]).length c) ∧ w'.ownsRow w.heap.size 9 1 (.slice A (partsL [x]).length c) (partsL [x]).length ((partsL [x]).map encStr) ∧ Below w.heap.size w w' := by
  subst hB; exact parts_one hP x hx w t

set_option maxRecDepth 100000 in
set_option maxHeartbeats 1000000 in
theorem parts_ok (hP : PartsOfSaid) (x : List UInt8) (n : Nat) (w : World) (hz : chk x = 0) (hn : n ≤ x.length) :
    Calls Tryd.prog 27 #[.string ⟨x.toArray⟩, .int .i64 n] w (SliceOf w (sizedL x n) 0) := by
  have h10 := chk_zero hz
  have hmx : x.length ≤ maxLen := by unfold maxLen; omega
  have hz2 : (chk x != 0) = false := by simp [hz]
  have hx10 := h10.1
  have HZ := Lib.hid hz; have H10 := Lib.hid h10; clear hz h10
  obtain ⟨i0, hi, hz0, hz1, hz2'⟩ := info_parts Tryd.infoStr
  go_enter Tryd.func27, Tryd.ntmps27
  go_wp2_with (first
    | (go_at_call 22; refine (check_l x _ hmx).mono ?_; rintro e w1 ⟨rfl, hb1⟩)
    | (go_at_call 23; refine (parts_one_at hP x H10.out _ _ _ (by simp)).mono ?_; rintro e w2 ⟨A, c, rfl, hown, hb2⟩))
  have hple := parts_le (ws := [x]) (by simpa using hx10)
  have hpl : (partsL [x]).length ≤ 1024 := by simpa using partsL_length [x] (by simpa using hx10)
  have hpp := partsL_pos [x] (by simp)
  have hb1s := hb1.size
  have hv0 : w2.ownsRow w.heap.size 9 1 (.slice (some ⟨w1.heap.size, 0, none⟩) 0 0) 0 [] :=
    own_below (World.ownsRow_made (base := w.heap.size) (e := 9) (size := 1) w1 #[] 0 hb1s (Nat.zero_le _) rfl) hb2
  obtain ⟨g, o, rfl, hat⟩ := (rd_own hown).at hpp
  have hgw : w1.heap.size + 1 ≤ g := by have := (hown.lt g rfl).1; simpa using this
  have hbA : Below w.heap.size w w2 := (hb1.alloc hb1s _).trans (hb2.mono (by simp; omega))
  generalize hps : partsL [x] = ps at hown hat hple hpl hpp ⊢
  have HPS := Lib.hid hps; clear hps
  have hns : (.slice (some ⟨w1.heap.size, 0, none⟩) 0 0 : Value).ownBlock ≠ some g := by simp [Value.ownBlock]; omega
  clear hown hb2
  go_loopw [7, 28] (fun v i wr => ∃ (k m : Nat) (A : Option Addr) (c : Nat), k ≤ ps.length ∧ m ≤ k ∧ i = .int .i64 k ∧ v = .slice A m c ∧ Hid (m = ((ps.take k).filter (fun p => p.length == n)).length) ∧
      wr.ownsRow w.heap.size 9 1 (.slice A m c) m (((ps.take k).filter (fun p => p.length == n)).map encStr) ∧ (.slice A m c : Value).ownBlock ≠ some g ∧ RdAt wr g o ps.length (ps.map encStr) ∧ Below w.heap.size w wr)
    (fun _ i _ => ps.length - (intOf i).toNat)
  case atStart => exact ⟨0, 0, _, _, Nat.zero_le _, Nat.le_refl _, rfl, rfl, rfl, hv0, hns, hat, hbA⟩
  case round =>
    obtain ⟨k, m, A, c2, hk, hmk, rfl, rfl, hm, hv, hne, hrd, hb⟩ := hrel
    have hsz := hb.size
    by_cases hlt : k < ps.length
    · have hcell := hrd.str hlt rfl
      have hst := filter_take_step (n := n) hlt
      have hle : (ps.getD k []).length ≤ 10 := hple _ (by rw [getD_lt _ _ _ hlt]; exact List.getElem_mem _)
      have HST := Lib.hid hst; clear hst
      generalize ps.getD k [] = y at hcell hle HST
      by_cases hy : y.length = n
      · have hyb : ((y.length : Int) == (n : Int)) = true := by rw [beq_iff_eq]; omega
        have HY := Lib.hid hy; clear hy
        go_wp2_with (first
          | (at_builtin; refine wpList_append_own_at _ rfl _ _ 58 rfl w.heap.size 9 i0 (.string ByteArray.empty) 1 16 Tryd.underlying58 hi hz0 hz1 hz2' rfl (by decide) _ _ _ rfl (hv.alloc _) ⟨wr.heap.size, 0, none⟩ 1 1 [.string ⟨y.toArray⟩] rfl rfl ?c1 ?c2 ?c3 ?c4 ?c5 ?_))
        case c1 => exact cell_one_new _ _ _
        case c2 => exact fun u hu => by rw [List.mem_singleton.1 hu]; rfl
        case c3 => unfold maxLen; omega
        case c4 => omega
        case c5 => simp; omega
        intro v' w3 hv3 hg3 _ hloc
        obtain ⟨A3, c3, rfl⟩ := ownsRow_shape hv3
        have hne3 : (.slice A3 (m + 1) c3 : Value).ownBlock ≠ some g := by
          rcases hloc with h | h
          · rw [h]; exact hne
          · rw [h]; have := hrd.1; simp; omega
        have hrd3 := (hrd.alloc (.cells #[.string ⟨y.toArray⟩] 9)).kept hg3 (fun e => hne e.symm)
        have hb3 := below_own (hv.alloc (.cells #[.string ⟨y.toArray⟩] 9)) (hb.alloc hsz _) (by simp; omega) hg3
        have e2 : (ps.take (k + 1)).filter (fun p => p.length == n) = (ps.take k).filter (fun p => p.length == n) ++ [y] := by rw [HST.out, if_pos HY.out]
        have e3 : ((ps.take k).filter (fun p => p.length == n)).map encStr ++ [.string ⟨y.toArray⟩] = ((ps.take (k + 1)).filter (fun p => p.length == n)).map encStr := by rw [e2]; simp [encStr]
        have e4 : Hid (m + 1 = ((ps.take (k + 1)).filter (fun p => p.length == n)).length) := by rw [e2, List.length_append, ← hm.out]; rfl
        rw [e3] at hv3
        clear e2 e3 hg3 hloc
        go_wp2
        exact ⟨⟨k + 1, m + 1, A3, c3, by omega, by omega, by go_num, rfl, e4, hv3, hne3, hrd3, hb3⟩, by simp [intOf]; omega⟩
      · have hyb : ((y.length : Int) == (n : Int)) = false := by rw [beq_eq_false_iff_ne]; omega
        have e2 : (ps.take (k + 1)).filter (fun p => p.length == n) = (ps.take k).filter (fun p => p.length == n) := by rw [HST.out, if_neg hy, List.append_nil]
        rw [← e2] at hm hv
        clear e2
        go_wp2
        exact ⟨⟨k + 1, m, A, c2, by omega, by omega, by go_num, rfl, hm, hv, hne, hrd, hb⟩, by simp [intOf]; omega⟩
    · obtain rfl : k = ps.length := by omega
      rw [List.take_length] at hm hv
      go_wp2
      go_ret2
      refine ⟨hb, _, by rw [HZ.out]; rfl, ?_⟩
      unfold sizedL
      rw [HPS.out, ← hm.out]
      exact hv
end Go.Proofs.YtlbepjmiligpcaaDoor
