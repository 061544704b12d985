/-
  The reference's power, has, same and folded; rows of numbers that grow.
-/
import Derived.Test.YtbkmicimpgabgaaDoorChkPile
import Derived.Test.YtbkmicimpgabgaaDoorSame
import Derived.Test.YtbkmicimpgabgaaDoorRs
import Derived.Test.YtbkmicimpgabgaaDoorFold
set_option linter.unusedSimpArgs false
set_option linter.unusedVariables false
namespace Go.Proofs.Quire
def hasZ (x : Int) : List Int → Bool
  | [] => false
  | y :: l => if y = x then true else hasZ x l
theorem hasZ_nat (x : Nat) : ∀ l : List Nat, hasZ (x : Int) (l.map fun n : Nat => (n : Int)) = hasB x l
  | [] => rfl
  | y :: l => by
    rw [List.map_cons, hasZ, hasB, hasZ_nat x l]
    by_cases h : y = x
    · rw [if_pos h, if_pos (by omega)]
    · rw [if_neg h, if_neg (by omega)]
theorem hasZ_mem (x : Int) : ∀ l : List Int, hasZ x l = true ↔ x ∈ l
  | [] => by simp [hasZ]
  | y :: l => by
    rw [hasZ]
    by_cases h : y = x
    · rw [if_pos h, h]; simp
    · rw [if_neg h, hasZ_mem x l]
      constructor
      · exact List.mem_cons_of_mem _
      · intro hm
        rcases List.mem_cons.1 hm with e | e
        · exact absurd e.symm h
        · exact e
end Go.Proofs.Quire
namespace Go.Proofs.YtbkmicimpgabgaaDoor
open Go.RowKit Go.Lib Go.Proofs.Quire

set_option maxRecDepth 100000 in
set_option maxHeartbeats 1000000 in
theorem rpower_any (k : Nat) (hk : k ≤ 6) (w : World) :
    Calls Tryd.prog 58 #[.int .i64 k] w fun e w' => e = .returned (.int .i64 (2 ^ k : Nat)) ∧ w' = w := by
  obtain ⟨r, hr⟩ : ∃ r : Nat, Hid (2 ^ k = r) := ⟨_, Lib.hid rfl⟩
  rw [hr.out]
  have hst : Hid (1 * 2 ^ (k - 0) = r) := by show _ = _; rw [Nat.one_mul]; exact hr.out
  go_enter Tryd.func58, Tryd.ntmps58
  go_wp2_with (fail)
  go_loopw [3, 4] (fun v u wr => ∃ (i n : Nat), i ≤ k ∧ v = .int .i64 n ∧ u = .int .i64 i ∧ wr = w ∧ n ≤ 2 ^ i ∧ Hid (n * 2 ^ (k - i) = r)) (fun _ u _ => k - (RowKit.intOf u).toNat)
  case atStart => exact ⟨0, 1, Nat.zero_le _, rfl, rfl, rfl, by decide, hst⟩
  case round =>
    obtain ⟨i, n, hi, rfl, rfl, rfl, hn, hf⟩ := hrel
    have hn64 : n ≤ 64 := Nat.le_trans hn (Nat.le_trans (Nat.pow_le_pow_right (by omega) (show i ≤ 6 by omega)) (by decide))
    by_cases hlt : i < k
    · have HN : Hid (2 * n ≤ 2 ^ (i + 1)) := by show _ ≤ _; rw [Nat.pow_succ]; omega
      have hf2 : Hid (2 * n * 2 ^ (k - (i + 1)) = r) := by
        show _ = _; rw [← hf.out, show k - i = (k - (i + 1)) + 1 by omega, Nat.pow_succ]
        rw [Nat.mul_comm 2 n, Nat.mul_assoc, Nat.mul_comm 2]
      clear hf hn
      go_wp2_with (fail)
      exact ⟨⟨i + 1, 2 * n, by omega, by go_num, by go_num, trivial, HN.out, hf2⟩, by simp [RowKit.intOf]; omega⟩
    · have hR : Hid (r = n) := by show _ = _; rw [← hf.out, show k - i = 0 by omega]; simp
      clear hf hn
      go_wp2_with (fail)
      go_ret
      exact ⟨ret_int (by rw [hR.out]), rfl⟩

set_option maxRecDepth 100000 in
set_option maxHeartbeats 1000000 in
theorem rhasZ_any (A : Option Addr) (c n : Nat) (x : Int) (l : List Int) (w : World) (hl : l.length = n) (h : Rd w A n (zs l)) (hn : n ≤ 1000) :
    Calls Tryd.prog 52 #[.slice A n c, .int .i64 x] w fun e w' => e = .returned (.bool (hasZ x l)) ∧ w' = w := by
  obtain ⟨r, hr⟩ : ∃ r, Hid (hasZ x l = r) := ⟨_, rfl⟩
  rw [hr.out]
  have hst : Hid (hasZ x (l.drop 0) = r) := hr.out
  have HL := Lib.hid hl; have H := Lib.hid h
  clear hl h
  go_enter Tryd.func52, Tryd.ntmps52
  go_wp2_with (fail)
  go_loopw [5] (fun v wr => ∃ (i : Nat), i ≤ n ∧ v = .int .i64 i ∧ wr = w ∧ Hid (hasZ x (l.drop i) = r)) (fun u _ => n - (RowKit.intOf u).toNat)
  case atStart => exact ⟨0, Nat.zero_le _, rfl, rfl, hst⟩
  case round =>
    obtain ⟨i, hi, rfl, rfl, hf⟩ := hrel
    by_cases hlt : i < n
    · have hil : i < l.length := by rw [HL.out]; exact hlt
      obtain ⟨g, o, rfl, hg, _, hat⟩ := H.out.2 (by omega)
      have hc := hat i hlt
      rw [zs_getD _ _ hil] at hc
      have hdr := drop_cons l i 0 hil
      generalize l.getD i 0 = y at hc hdr
      by_cases hy : y = x
      · have hb : (y == x) = true := by simpa using hy
        have hR : Hid (r = true) := by show _ = _; rw [← hf.out, hdr, hasZ, if_pos hy]
        clear hf hat hdr hy
        go_wp2_with (fail)
        go_ret
        exact ⟨ret_bool hR.out.symm, rfl⟩
      · have hb : (y == x) = false := by simpa using hy
        have hf2 : Hid (hasZ x (l.drop (i + 1)) = r) := by show _ = _; rw [← hf.out, hdr, hasZ, if_neg hy]
        clear hf hat hdr hy
        go_wp2_with (fail)
        exact ⟨⟨i + 1, by omega, by go_num, trivial, hf2⟩, by simp [RowKit.intOf]; omega⟩
    · have hR : Hid (r = false) := by show _ = _; rw [← hf.out, List.drop_eq_nil_of_le (by rw [HL.out]; omega)]; rfl
      clear hf
      go_wp2_with (fail)
      go_ret
      exact ⟨ret_bool hR.out.symm, rfl⟩
theorem rhas_any (A : Option Addr) (c n : Nat) (x : Nat) (l : List Nat) (w : World) (hl : l.length = n) (h : Rd w A n (ints l)) (hn : n ≤ 1000) :
    Calls Tryd.prog 52 #[.slice A n c, .int .i64 x] w fun e w' => e = .returned (.bool (hasB x l)) ∧ w' = w := by
  rw [← hasZ_nat]
  exact rhasZ_any A c n x _ w (by rw [List.length_map]; exact hl) (by rw [zs_ints]; exact h) hn

set_option maxRecDepth 100000 in
set_option maxHeartbeats 1000000 in
theorem rsame_any (A A' : Option Addr) (c c' n n' : Nat) (l l' : List Int) (w : World) (hl : l.length = n) (hl' : l'.length = n') (h : Rd w A n (zs l)) (h' : Rd w A' n' (zs l')) (hn : n ≤ 1000) (hn' : n' ≤ 1000) :
    Calls Tryd.prog 53 #[.slice A n c, .slice A' n' c'] w fun e w' => e = .returned (.bool (decide (l = l'))) ∧ Below w.heap.size w w' := by
  obtain ⟨r, hr⟩ : ∃ r, Hid (decide (l = l') = r) := ⟨_, rfl⟩
  rw [hr.out]
  have hl := Lib.hid hl; have hl' := Lib.hid hl'
  by_cases hne : n = n'
  · subst hne
    have hb : ((n : Int) != (n : Int)) = false := by simp
    have hr0 : Hid (decide (l.drop 0 = l'.drop 0) = r) := hr.out
    go_enter Tryd.func53, Tryd.ntmps53
    go_wp2_with (fail)
    go_loopw [5] (fun i wr => ∃ (k q : Nat), k ≤ n ∧ i = .int .i64 k ∧ wr = w.drewN q ∧ Hid (decide (l.drop k = l'.drop k) = r)) (fun i _ => n - (RowKit.intOf i).toNat)
    case atStart => exact ⟨0, 0, Nat.zero_le _, rfl, rfl, hr0⟩
    case round =>
      obtain ⟨k, q, hk, rfl, rfl, hf⟩ := hrel
      by_cases hlt : k < n
      · obtain ⟨g, o, rfl, _, _, hat⟩ := h.2 (by omega)
        obtain ⟨g', o', rfl, _, _, hat'⟩ := h'.2 (by omega)
        have hkl : k < l.length := by rw [hl.out]; exact hlt
        have hkl' : k < l'.length := by rw [hl'.out]; exact hlt
        have hc := hat k hlt
        have hc' := hat' k hlt
        rw [zs_getD _ _ hkl] at hc
        rw [zs_getD _ _ hkl'] at hc'
        have hst := eq_drop (l := l) (l' := l') (k := k) (by rw [hl.out, hl'.out]) 0 hkl
        have HST := Lib.hid hst; clear hst hat hat'
        generalize l.getD k 0 = x at hc HST
        generalize l'.getD k 0 = y at hc' HST
        by_cases hxy : x = y
        · have hb2 : (x != y) = false := by simp [hxy]
          have e : decide (l.drop (k + 1) = l'.drop (k + 1)) = r := by rw [← hf.out, HST.out, hxy]; simp
          have HE := Lib.hid e; clear e hxy
          go_wp2_with (fail)
          go_quiet (fail)
          go_wp2_with (fail)
          exact ⟨⟨k + 1, q + nq, by omega, by go_num, rfl, HE⟩, by simp [RowKit.intOf]; omega⟩
        · have hb2 : (x != y) = true := by simp; omega
          have e : r = false := by rw [← hf.out, HST.out]; simp [hxy]
          have HE := Lib.hid e; clear e hxy
          go_wp2_with (fail)
          go_quiet (fail)
          go_wp2_with (fail)
          go_ret
          rw [HE.out]
          exact ⟨rfl, by rw [World.drewN_drewN]; exact below_drewN (Below.refl _ _) _⟩
      · have e : r = true := by rw [← hf.out, List.drop_eq_nil_of_le (by rw [hl.out]; omega), List.drop_eq_nil_of_le (by rw [hl'.out]; omega)]; simp
        have HE := Lib.hid e; clear e
        go_wp2_with (fail)
        go_ret
        rw [HE.out]
        exact ⟨rfl, below_drewN (Below.refl _ _) _⟩
  · have hb : ((n : Int) != (n' : Int)) = true := by simp; omega
    have e : r = false := by rw [← hr.out]; exact decide_eq_false (fun e => hne (by rw [← hl.out, ← hl'.out, e]))
    have HE := Lib.hid e; clear e hne
    go_enter Tryd.func53, Tryd.ntmps53
    go_wp2_with (fail)
    go_ret
    rw [HE.out]
    exact ⟨rfl, Below.refl _ _⟩
end Go.Proofs.YtbkmicimpgabgaaDoor
namespace Go.Proofs.YtbkmicimpgabgaaDoor
open Go.RowKit Go.Lib Go.Proofs.Quire

theorem own_arr1 {w : World} {B : Nat} {e : TypeId} {A : Option Addr} {n c : Nat} {xs : List Value} (h : w.ownsRow B e 1 (.slice A n c) n xs) (h0 : 0 < n) : ∃ g, A = some ⟨g, 0, none⟩ ∧ B ≤ g ∧ Arr w g xs ∧ n ≤ c := by
  have hl : xs.length = n := by have := h.1; omega
  rcases h.2 with ⟨_, rfl⟩ | ⟨g, cap, cur, hv, hg, hh, hnc, _, hcs, ht⟩
  · omega
  · injection hv with hA _ hcc
    refine ⟨g, hA, hg, ⟨(Array.getElem?_eq_some_iff.1 hh).1, fun j hj => ⟨?_, by simp [World.frozen?, hh]⟩⟩, by omega⟩
    simp only [World.cell?, hh]
    have : cur[j]? = xs[j]? := by
      rw [← ht, List.getElem?_take, if_pos (by omega), Array.getElem?_toList]
    simp [this, List.getD_eq_getElem?_getD, List.getElem?_eq_getElem hj]
theorem own_rdw {w : World} {B : Nat} {e : TypeId} {A : Option Addr} {n c : Nat} {l : List Nat} (h : w.ownsRow B e 1 (.slice A n c) n (ints l)) (h0 : 0 < n) {X : List Nat} (hX : ∀ k, k ∈ X → k < B) : RdW w X A n (ints l) ∧ n ≤ c := by
  have hl : l.length = n := by have := h.1; rw [ints_length] at this; omega
  obtain ⟨g, rfl, hg, ha, hc⟩ := own_arr1 h h0
  have := ha.rdI (X := X) (fun hk => by have := hX _ hk; omega)
  rw [hl] at this
  exact ⟨⟨this, fun _ => ⟨g, rfl, ha⟩⟩, hc⟩
/-- a row of numbers, and another behind it -/
theorem append_ints {ops : Array Oper} {rest : List Oper} {o : Oper} {a : Act} {Q : Exit → Act → World → Prop} (w0 : World) (hgd : o.guard = none) (s x : Operand)
    (ho : o.op = .call { callee := .builtin .append, args := #[s, x], argTypes := #[23, 23] })
    (B n : Nat) (v : Value) (l m : List Nat) (A : Option Addr) (M cx : Nat) (hs : a.eval s = v) (hx : a.eval x = .slice A M cx)
    (hown : w0.ownsRow B 3 1 v n (ints l)) (hrd : Rd w0 A M (ints m)) (h0 : 0 < M) (hn : n ≤ 1000) (hM : M ≤ 1000) (hB : B ≤ w0.heap.size)
    (h : ∀ A' c' w', w'.ownsRow B 3 1 (.slice A' (n + M) c') (n + M) (ints (l ++ m)) → Keep (ownL v) w0 w' → wpList Tryd.prog ops Q rest (a.put o.dst (.slice A' (n + M) c')) w') :
    wpList Tryd.prog ops Q (o :: rest) a w0 := by
  obtain ⟨i0, hi, hz0, hz1, hz2⟩ := info_parts Tryd.infoInt
  obtain ⟨g, ao, rfl, hg, _, hc⟩ := hrd.2 h0
  have hl : m.length = M := by have := hrd.1; simpa using this
  refine wpList_append_own_at _ hgd s x 23 ho B 3 i0 (.int .i64 0) 1 8 Tryd.underlying23 hi hz0 hz1 hz2 rfl (by decide) v n _ hs hown ⟨g, ao, none⟩ M cx (ints m) hx (by rw [ints_length]; omega) (fun j u hj => ?_) (fun u hu => ?_) (by unfold maxLen; omega) (by omega) hB ?_
  · have hjl := (List.getElem?_eq_some_iff.1 hj).1
    rw [ints_length] at hjl
    have ea : (⟨g, ao, none⟩ : Addr).add j = ⟨g, ao + j, none⟩ := by unfold Addr.add; split <;> simp_all
    rw [ea, hc j (by omega), List.getD_eq_getElem?_getD, hj]; rfl
  · obtain ⟨y, _, rfl⟩ := List.mem_map.1 hu; rfl
  · intro v' w' h1 h2 _ _
    obtain ⟨A', c', rfl⟩ := ownsRow_shape h1
    have e : ints (l ++ m) = ints l ++ ints m := by simp [ints]
    exact h A' c' w' (by rw [e]; exact h1) (Keep.of_grown h2 (fun k e => by unfold ownL; rw [e]; simp))
/-- a row of numbers, and one more behind it -/
theorem append_int1 {ops : Array Oper} {rest : List Oper} {o : Oper} {a : Act} {Q : Exit → Act → World → Prop} (w0 : World) (hgd : o.guard = none) (s x : Operand)
    (ho : o.op = .call { callee := .builtin .append, args := #[s, x], argTypes := #[23, 23] })
    (B n : Nat) (v : Value) (l : List Nat) (y : Nat) (hs : a.eval s = v) (hown : w0.ownsRow B 3 1 v n (ints l)) (g : Nat) (hgz : w0.heap.size = g) (hx : a.eval x = .slice (some ⟨g, 0, none⟩) 1 1) (hn : n ≤ 1000) (hB : B ≤ w0.heap.size)
    (h : ∀ A' c' w', w'.ownsRow B 3 1 (.slice A' (n + 1) c') (n + 1) (ints (l ++ [y])) → Keep (ownL v) w0 w' → wpList Tryd.prog ops Q rest (a.put o.dst (.slice A' (n + 1) c')) w') :
    wpList Tryd.prog ops Q (o :: rest) a (w0.alloc (.cells #[.int .i64 (y : Int)] 3)) := by
  subst hgz
  have hrd : Rd (w0.alloc (.cells #[.int .i64 (y : Int)] 3)) (some ⟨w0.heap.size, 0, none⟩) 1 (ints [y]) := (Arr.new w0 (ints [y]) 3).rdI (l := [y]) (X := []) (by simp)
  refine append_ints (w0.alloc (.cells #[.int .i64 (y : Int)] 3)) hgd s x ho B n v l [y] _ 1 1 hs hx (hown.alloc _) hrd (by decide) hn (by decide) (by simp; omega) ?_
  intro A' c' w' h1 h2
  refine h A' c' w' h1 ?_
  exact (Keep.mono ((Keep.refl [] w0).alloc _) (by simp)).trans h2

theorem colR_step {o : Bool} {cols : List (List Nat)} {n i : Nat} {acc : List (List Nat)} (h : i < n) :
    colR o cols (n - i) i acc = colR o cols (n - (i + 1)) (i + 1) (acc ++ [joinC o (cols.getD i []) (cols.getD (cols.length - 1 - i) []).reverse]) := by
  rw [show n - i = (n - (i + 1)) + 1 by omega]; rfl
def RFoldPost (cs : List (List Nat)) (w : World) (e : Ending) (w' : World) : Prop := ∃ A c, e = .returned (.slice A cs.length c) ∧ Cols w' (List.range w.heap.size) A cs ∧ Below w.heap.size w w'
set_option maxRecDepth 100000 in
set_option maxHeartbeats 8000000 in
theorem rfolded_any (A : Option Addr) (c : Nat) (b : UInt8) (cols : List (List Nat)) (L : Nat) (w : World) (hc : Cols w [] A cols) (hL : ∀ c ∈ cols, c.length = L) (hL0 : 0 < L) (hL1 : L ≤ 64) (hm0 : 0 < cols.length) (hm1 : cols.length ≤ 64) :
    Calls Tryd.prog 59 #[.slice A cols.length c, .int .u8 b.toNat] w (RFoldPost (colR (b == 111) cols (cols.length / 2) 0 []) w) := by
  obtain ⟨half, hhalf⟩ : ∃ half, Hid (cols.length / 2 = half) := ⟨_, rfl⟩
  rw [hhalf.out]
  have hb111 : ((b.toNat : Int) == 111) = (b == 111) := byte_eq b 111 (by omega)
  generalize (b == 111) = o at hb111 ⊢
  obtain ⟨r, hr⟩ : ∃ r, Hid (colR o cols half 0 [] = r) := ⟨_, rfl⟩
  have hst : Hid (colR o cols (half - 0) 0 [] = r) := hr
  rw [hr.out]
  obtain ⟨RG, hRG⟩ : ∃ RG : List Nat, Hid (List.range w.heap.size = RG) := ⟨_, rfl⟩
  have hXB : ∀ j, j ∈ RG → j < w.heap.size := fun j hj => by rw [← hRG.out, List.mem_range] at hj; exact hj
  have HX := Lib.hid hL
  obtain ⟨N, hN⟩ : ∃ N, Hid (cols.length = N) := ⟨_, rfl⟩
  rw [hN.out] at hm0 hm1 ⊢
  have hh : half = N / 2 := by rw [← hhalf.out, hN.out]
  have q2 : (N : Int) / 2 = (half : Int) := by omega
  have HH : Hid (half = N / 2) := hh
  have hh1 : 2 * half ≤ N := by omega
  clear hh
  have HC := Lib.hid hc
  clear hL hr hc
  go_enter Tryd.func59, Tryd.ntmps59
  go_wp2_with (fail)
  go_loopw [5, 6, 7, 8, 9, 10] (fun v5 v6 _ _ _ _ wr => ∃ (i : Nat) (A5 : Option Addr) (c5 : Nat) (acc : List (List Nat)) (xs : List Value), i ≤ half ∧ v5 = .slice A5 i c5 ∧ v6 = .int .i64 i ∧ Hid (acc.length = i) ∧
      wr.ownsRow w.heap.size 23 1 (.slice A5 i c5) i xs ∧ EachN wr (ownL (.slice A5 i c5) ++ RG) xs acc ∧ Below w.heap.size w wr ∧ Hid (colR o cols (half - i) i acc = r)) (fun _ v _ _ _ _ _ => half - (RowKit.intOf v).toNat)
  case atStart => exact ⟨0, none, 0, [], [], Nat.zero_le _, rfl, rfl, rfl, World.ownsRow_nil _ _ _ _, EachN.nil _ _, Below.refl _ _, hst⟩
  case round =>
    clear hst
    obtain ⟨i, A5, c5, acc, xs, hi, rfl, rfl, hla, hown, heach, hbr, hf⟩ := hrel
    by_cases hlt : i < half
    · have hcr := HC.out.keep (Y := []) (.of_below hbr) (by simp)
      obtain ⟨g, og, rfl, hg, _, hcc2⟩ := hcr (by rw [hN.out]; exact hm0)
      obtain ⟨Al, cl, hcell_l, ⟨hrd_l, _⟩, _⟩ := hcc2 i (by rw [hN.out]; omega)
      obtain ⟨Ar, cr, hcell_r, ⟨hrd_r, _⟩, _⟩ := hcc2 (N - 1 - i) (by rw [hN.out]; omega)
      have hst2 : Hid (colR o cols (half - (i + 1)) (i + 1) (acc ++ [joinC o (cols.getD i []) (cols.getD (N - 1 - i) []).reverse]) = r) := by show _ = _; rw [← hf.out, ← hN.out]; exact (colR_step hlt).symm
      have hl1 := HX.out (cols.getD i []) (by rw [getD_lt _ _ _ (by rw [hN.out]; omega)]; exact List.getElem_mem _)
      have hl2 := HX.out (cols.getD (N - 1 - i) []) (by rw [getD_lt _ _ _ (by rw [hN.out]; omega)]; exact List.getElem_mem _)
      generalize cols.getD i [] = Lc at hcell_l hrd_l hst2 hl1
      generalize cols.getD (N - 1 - i) [] = R at hcell_r hrd_r hst2 hl2
      rw [hl1] at hcell_l hrd_l
      rw [hl2] at hcell_r hrd_r
      have hw1 : ((N : Int) - 1 - (i : Int)).toNat = N - 1 - i := by omega
      have hw2 : (0 : Int) ≤ (N : Int) - 1 - (i : Int) := by omega
      have hw3 : (N : Int) - 1 - (i : Int) < (N : Int) := by omega
      have hoL : ∀ k, k ∈ ownL (.slice A5 i c5) → w.heap.size ≤ k ∧ k < wr.heap.size := fun k hk => hown.lt k (mem_ownL hk)
      have hsz := hbr.size
      have HL1 := Lib.hid hl1; have HL2 := Lib.hid hl2
      clear hcc2 hl1 hl2 hf
      go_wp2_with (fail)
      have hrv0 : Hid (R.reverse.take 0 = []) := rfl
      obtain ⟨wz, hwz⟩ : ∃ wz : World, wz = wr := ⟨_, rfl⟩
      subst hwz
      go_loopw [7, 9] (fun v7 v9 wx => ∃ (j : Nat) (A7 : Option Addr) (c7 : Nat), j ≤ L ∧ v7 = .slice A7 j c7 ∧ v9 = .int .i64 ((L : Int) - 1 - j) ∧ wx.ownsRow wz.heap.size 3 1 (.slice A7 j c7) j (ints (R.reverse.take j)) ∧ Below wz.heap.size wz wx) (fun _ v _ => (RowKit.intOf v + 1).toNat)
      case atStart => exact ⟨0, none, 0, Nat.zero_le _, rfl, by simp, by rw [hrv0.out]; exact World.ownsRow_nil _ _ _ _, Below.refl _ _⟩
      case round =>
        obtain ⟨j, A7, c7, hj, rfl, rfl, hown7, hbx⟩ := hrel
        by_cases hjl : j < L
        · obtain ⟨gr, og', rfl, hgr, _, hatr⟩ := hrd_r.2 (by omega)
          have hcx := (hbx.cell (p := ⟨gr, og' + (L - 1 - j), none⟩) hgr).trans (hatr (L - 1 - j) (by omega))
          rw [ints_getD _ _ (by rw [HL2.out]; omega)] at hcx
          have htk : Hid (R.reverse.take j ++ [R.getD (L - 1 - j) 0] = R.reverse.take (j + 1)) := by
            show _ = _
            rw [take_succ R.reverse j 0 (by rw [List.length_reverse, HL2.out]; exact hjl)]
            congr 2
            rw [List.getD_eq_getElem?_getD, List.getD_eq_getElem?_getD, List.getElem?_reverse (by rw [HL2.out]; exact hjl), HL2.out]
          have p1 : ((L : Int) - 1 - (j : Int)).toNat = L - 1 - j := by omega
          have p2 : (0 : Int) ≤ (L : Int) - 1 - (j : Int) := by omega
          have p3 : (L : Int) - 1 - (j : Int) < (L : Int) := by omega
          generalize R.getD (L - 1 - j) 0 = y at hcx htk
          have hj1000 : j ≤ 1000 := by omega
          have hsx := hbx.size
          clear hatr
          go_wp2_with (at_builtin; refine append_int1 wr rfl _ _ rfl wz.heap.size j (.slice A7 j c7) (R.reverse.take j) y rfl hown7 wr.heap.size rfl rfl hj1000 hsx ?_)
          intro A8 c8 w8 hown8 hk8
          rw [htk.out] at hown8
          have hb8 : Below wz.heap.size wz w8 := hbx.trans (hk8.below hsx (fun k hk => (hown7.lt k (mem_ownL hk)).1))
          clear hown7 hk8 hbx
          go_wp2_with (fail)
          exact ⟨⟨j + 1, A8, c8, by omega, rfl, by go_num, hown8, hb8⟩, by simp [RowKit.intOf]; omega⟩
        · obtain rfl : j = L := by omega
          rw [List.take_of_length_le (by rw [List.length_reverse, HL2.out]; exact Nat.le_refl _)] at hown7
          have hneg : ¬ (0 : Int) ≤ (j : Int) - 1 - (j : Int) := by omega
          have hba := (Below.refl wr.heap.size wr).alloc (Nat.le_refl _) (.cells #[] 3)
          have hbz := hbx.alloc hbx.size (.cells #[] 3)
          have hcl := (hbz.cell (p := ⟨g, og + i, none⟩) hg).trans hcell_l
          have hrl := hrd_l.below hbz
          have hown7a := hown7.alloc (.cells #[] 3)
          have hown10 := World.ownsRow_made (base := wr.heap.size) (e := 3) (size := 1) wr #[] 0 (Nat.le_refl _) (Nat.zero_le _) rfl
          have hown10 : (wr.alloc (.cells #[] 3)).ownsRow wr.heap.size 3 1 (.slice (some ⟨wr.heap.size, 0, none⟩) 0 0) 0 (ints []) := hown10
          have hsz2 : (wr.alloc (.cells #[] 3)).heap.size = wr.heap.size + 1 := by simp
          have hsx := hbx.size
          have hj64 : j ≤ 1000 := by omega
          have h01 : (0 : Nat) ≤ 1000 := by decide
          have h02 : wr.heap.size ≤ (wr.alloc (.cells #[] 3)).heap.size := by omega
          have hown7x := hown7
          clear hown7 hbx hba
          go_wp2_with (at_builtin; refine append_ints (wr.alloc (.cells #[] 3)) rfl _ _ rfl wr.heap.size 0 (.slice (some ⟨wr.heap.size, 0, none⟩) 0 0) [] Lc Al j cl rfl rfl hown10 hrl hL0 h01 hj64 h02 ?_)
          intro A10 c10 w3 hown3 hk3
          have hbw3 : wr.heap.size ≤ w3.heap.size := by have := hk3.size; omega
          have hb3 : Below wz.heap.size wz w3 := hbz.trans (hk3.below (by omega) (fun k hk => by have := (hown10.lt k (mem_ownL hk)).1; omega))
          have hown73 := own_keep hown7a hk3 (fun k e hk => by
            have h1 := (hown10.lt k (mem_ownL hk)).1
            have h2 := (hown7x.lt k e).2
            omega)
          have hB3 : wr.heap.size ≤ w3.heap.size := hbw3
          have hB7 : wz.heap.size ≤ w3.heap.size := Nat.le_trans hsx hbw3
          have hrd7 : Rd w3 A7 j (ints R.reverse) := (own_rdw hown73 hL0 (X := []) (by simp)).1.1
          have hrd10 : Rd w3 A10 j (ints Lc) := (own_rdw hown3 hL0 (X := []) (by simp)).1.1
          have hXO : ∀ k, k ∈ ownL (.slice A5 i c5) ++ RG → ∀ {B : Nat}, wz.heap.size ≤ B → k < B := fun k hk B hBB => by
            rcases List.mem_append.1 hk with hk | hk
            · have := (hoL k hk).2; omega
            · have := hXB k hk; omega
          clear hown10 hk3 hown7a hbz hcl hrl hown7x
          cases o
          · have ho : ((b.toNat : Int) == 111) = false := hb111
            go_wp2_with (at_builtin; refine append_ints w3 rfl _ _ rfl wr.heap.size j (.slice A10 j c10) Lc R.reverse A7 j c7 rfl rfl hown3 hrd7 hL0 hj64 hj64 hB3 ?_)
            intro A11 c11 w4 hown4 hk4
            have hb4 : Below wz.heap.size wz w4 := hb3.trans (hk4.below hB7 (fun k hk => Nat.le_trans hsx (hown3.lt k (mem_ownL hk)).1))
            obtain ⟨hrdw, hcap⟩ := own_rdw hown4 (by omega) (X := ownL (.slice A5 i c5) ++ RG) (fun k hk => hXO k hk hsx)
            have hown5 := own_below hown hb4
            have heach5 := heach.keep (Y := []) (.of_below hb4) (by simp)
            have hb5 : Below w.heap.size w w4 := hbr.trans (hb4.mono hsz)
            have hz4 := hb5.size
            have hjl : Hid ((Lc ++ R.reverse).length = j + j) := by show _ = _; rw [List.length_append, List.length_reverse, HL1.out, HL2.out]
            have hst3 : Hid (colR false cols (half - (i + 1)) (i + 1) (acc ++ [Lc ++ R.reverse]) = r) := hst2
            clear hown3 hown73 hrd7 hrd10 hk4 hown4 hst2 hb3
            generalize Lc ++ R.reverse = Z at hrdw hst3 hjl
            rw [← hjl.out] at hrdw hcap
            have hi1000 : i ≤ 1000 := by omega
            go_wp2_with (at_builtin; rw [← hjl.out]; refine append_col w4 rfl _ _ rfl w.heap.size i (.slice A5 i c5) RG xs acc Z A11 c11 rfl hown5 heach5 hrdw hcap w4.heap.size rfl rfl hi1000 hz4 hXB ?_)
            intro A12 c12 xs5 w5 hown6 heach6 hk5
            have hb6 : Below w.heap.size w w5 := hb5.trans (hk5.below hz4 (fun k hk => (hoL k hk).1))
            clear hown5 heach5 hrdw hk5
            go_wp2_with (fail)
            exact ⟨⟨i + 1, A12, c12, _, xs5, by omega, rfl, by go_num, by show _ = _; rw [List.length_append, hla.out]; rfl, hown6, heach6, hb6, hst3⟩, by simp [RowKit.intOf]; omega⟩
          · have ho : ((b.toNat : Int) == 111) = true := hb111
            go_wp2_with (at_builtin; refine append_ints w3 rfl _ _ rfl wz.heap.size j (.slice A7 j c7) R.reverse Lc A10 j c10 rfl rfl hown73 hrd10 hL0 hj64 hj64 hB7 ?_)
            intro A11 c11 w4 hown4 hk4
            have hb4 : Below wz.heap.size wz w4 := hb3.trans (hk4.below hB7 (fun k hk => (hown73.lt k (mem_ownL hk)).1))
            obtain ⟨hrdw, hcap⟩ := own_rdw hown4 (by omega) (X := ownL (.slice A5 i c5) ++ RG) (fun k hk => hXO k hk (Nat.le_refl _))
            have hown5 := own_below hown hb4
            have heach5 := heach.keep (Y := []) (.of_below hb4) (by simp)
            have hb5 : Below w.heap.size w w4 := hbr.trans (hb4.mono hsz)
            have hz4 := hb5.size
            have hjl : Hid ((R.reverse ++ Lc).length = j + j) := by show _ = _; rw [List.length_append, List.length_reverse, HL1.out, HL2.out]
            have hst3 : Hid (colR true cols (half - (i + 1)) (i + 1) (acc ++ [R.reverse ++ Lc]) = r) := hst2
            clear hown3 hown73 hrd7 hrd10 hk4 hown4 hst2 hb3
            generalize R.reverse ++ Lc = Z at hrdw hst3 hjl
            rw [← hjl.out] at hrdw hcap
            have hi1000 : i ≤ 1000 := by omega
            go_wp2_with (at_builtin; rw [← hjl.out]; refine append_col w4 rfl _ _ rfl w.heap.size i (.slice A5 i c5) RG xs acc Z A11 c11 rfl hown5 heach5 hrdw hcap w4.heap.size rfl rfl hi1000 hz4 hXB ?_)
            intro A12 c12 xs5 w5 hown6 heach6 hk5
            have hb6 : Below w.heap.size w w5 := hb5.trans (hk5.below hz4 (fun k hk => (hoL k hk).1))
            clear hown5 heach5 hrdw hk5
            go_wp2_with (fail)
            exact ⟨⟨i + 1, A12, c12, _, xs5, by omega, rfl, by go_num, by show _ = _; rw [List.length_append, hla.out]; rfl, hown6, heach6, hb6, hst3⟩, by simp [RowKit.intOf]; omega⟩
    · obtain rfl : i = half := by omega
      have hR : Hid (acc = r) := by show _ = _; rw [← hf.out, Nat.sub_self]; rfl
      have hlr : Hid (r.length = i) := by show _ = _; rw [← hR.out]; exact hla.out
      have hcols : Cols wr RG A5 r := by
        rw [← hR.out]
        refine heach.cols (c := c5) (B := w.heap.size) (by rw [hla.out]; exact hown) (fun j hj => List.mem_append_right _ hj) hXB
      clear hown heach hf
      go_wp2_with (fail)
      go_ret
      exact ⟨A5, c5, by rw [hlr.out]; rfl, by rw [hRG.out]; exact hcols, hbr⟩
end Go.Proofs.YtbkmicimpgabgaaDoor
