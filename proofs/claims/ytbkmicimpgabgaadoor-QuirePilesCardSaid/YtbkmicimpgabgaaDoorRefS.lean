/-
  The reference's strip, Check, Pile, Creases and Pages.
-/
import Derived.Test.YtbkmicimpgabgaaDoorRefF
import Derived.Test.YtbkmicimpgabgaaDoorRsAll
import Derived.Test.YtbkmicimpgabgaaDoorFolds
import Derived.Test.YtbkmicimpgabgaaDoorHelpH
import Derived.Test.YtbkmicimpgabgaaDoorRefW
import Derived.Test.YtbkmicimpgabgaaDoorPages
set_option linter.unusedSimpArgs false
set_option linter.unusedVariables false
namespace Go.Proofs.Quire
theorem inc1_len : ∀ (c t : List Nat), (inc1 c t).length = t.length
  | [], _ => rfl
  | x :: c, t => by rw [inc1, inc1_len c, List.length_set]
theorem incS_len : ∀ (cs : List (List Nat)) (t : List Nat), (incS cs t).length = t.length
  | [], _ => rfl
  | c :: cs, t => by rw [incS, incS_len cs, inc1_len]
theorem creR_len (cols : List (List Nat)) (half : Nat) (t : List Nat) (o : Bool) : ∀ m i (c : List Nat), (creR cols half t o m i c).length = c.length
  | 0, _, _ => rfl
  | m + 1, i, c => by rw [creR, creR_len cols half t o m]; split <;> simp
theorem colR_fold (o : Bool) (cols : List (List Nat)) : ∀ m i acc t, colR o cols m i acc = (foldL o cols m i acc t).1
  | 0, _, _, _ => rfl
  | m + 1, i, acc, t => by rw [colR, foldL, colR_fold o cols m]
/-- the reference's strip of 2^k squares behind j folds -/
def RInv (k j : Nat) (s : Rs) : Prop := s.trn.length = 2 ^ k ∧ s.cre.length + 1 = 2 ^ k ∧ s.cols.length = 2 ^ (k - j) ∧ ∀ c ∈ s.cols, c.length = 2 ^ j ∧ ∀ x ∈ c, x < 2 ^ k
theorem rinv_new (k : Nat) : RInv k 0 (newR k) := by
  obtain ⟨h1, h2, h3, h4⟩ := inv_new k
  exact ⟨by simp [newR], by simpa [newR, newSt] using h2, h3, h4⟩
theorem rinv_ref {k j : Nat} {s : Rs} (o : Bool) (h : RInv k j s) (hj : j < k) : RInv k (j + 1) (ref1 o s) := by
  obtain ⟨h1, h2, h3, h4⟩ := h
  obtain ⟨_, _, g3, g4⟩ := inv_fold (s := { cols := s.cols, trn := List.replicate s.trn.length false, cre := s.cre }) o ⟨by simp [h1], h2, h3, h4⟩ hj
  have e : (ref1 o s).cols = (fold1 o { cols := s.cols, trn := List.replicate s.trn.length false, cre := s.cre }).cols := by
    show colR _ _ _ _ _ = (foldL _ _ _ _ _ _).1
    exact colR_fold _ _ _ _ _ _
  refine ⟨?_, ?_, by rw [e]; exact g3, by rw [e]; exact g4⟩
  · show (incS _ _).length = _; rw [incS_len, h1]
  · show (creR _ _ _ _ _ _ _).length + 1 = _; rw [creR_len, h2]
theorem rinv_refs : ∀ (f : List Bool) (k j : Nat) (s : Rs), RInv k j s → j + f.length = k → RInv k k (refS f s)
  | [], k, j, s, h, e => by simp at e; subst e; exact h
  | o :: f, k, j, s, h, e => by
    simp at e
    exact rinv_refs f k (j + 1) _ (rinv_ref o h (by omega)) (by omega)
theorem refL_inv (f : List Bool) : RInv f.length f.length (refL f) := rinv_refs f _ 0 _ (rinv_new _) (by omega)
theorem refL_cre (f : List Bool) (h : f.length ≤ 6) : ∀ x ∈ (refL f).cre, x = 118 ∨ x = 104 := fun x hx => by
  rw [(refs f h).2.2] at hx
  obtain ⟨i, _, rfl⟩ := List.mem_map.1 hx
  split
  · exact .inl rfl
  · exact .inr rfl
theorem creR_step {cols : List (List Nat)} {half : Nat} {t : List Nat} {o : Bool} {n i : Nat} {c : List Nat} (h : i < n) :
    creR cols half t o (n - i) i c = creR cols half t o (n - (i + 1)) (i + 1) (if condR cols half i then c.set i (if o = decide (t.getD i 0 % 2 = 0) then 118 else 104) else c) := by
  rw [show n - i = (n - (i + 1)) + 1 by omega]; rfl
theorem bnd_set {t : List Nat} {T x : Nat} (h : ∀ y ∈ t, y ≤ T) (hx : x < t.length) : ∀ y ∈ t.set x (t.getD x 0 + 1), y ≤ T + 1 := fun y hy => by
  rcases mem_set hy with h1 | h1
  · have := h y h1; omega
  · have := h (t.getD x 0) (by rw [List.getD_eq_getElem?_getD, List.getElem?_eq_getElem hx]; exact List.getElem_mem _); omega
end Go.Proofs.Quire
namespace Go.Proofs.YtbkmicimpgabgaaDoor
open Go.RowKit Go.Lib Go.Proofs.Quire

theorem addr_add0 (g j : Nat) : (⟨g, 0, none⟩ : Addr).add j = ⟨g, j, none⟩ := by unfold Addr.add; split <;> simp_all
/-- a row of columns at an address, not in the blocks X -/
def ColsAt (w : World) (X : List Nat) (g o : Nat) (cols : List (List Nat)) : Prop :=
  g < w.heap.size ∧ g ∉ X ∧ ∀ i, i < cols.length → ∃ Ai ci, w.cell? ⟨g, o + i, none⟩ = some (.slice Ai (cols.getD i []).length ci) ∧ RdW w X Ai (cols.getD i []).length (ints (cols.getD i [])) ∧ (cols.getD i []).length ≤ ci
theorem ColsAt.keep {X Y : List Nat} {w w' : World} {g o : Nat} {cols : List (List Nat)} (h : ColsAt w X g o cols) (hk : Keep Y w w') (hs : ∀ k, k ∈ Y → k ∈ X) : ColsAt w' X g o cols := by
  obtain ⟨hg, hx, hc⟩ := h
  refine ⟨Nat.lt_of_lt_of_le hg hk.size, hx, fun i hi => ?_⟩
  obtain ⟨Ai, ci, h1, h2, h3⟩ := hc i hi
  exact ⟨Ai, ci, (hk.cell (p := ⟨g, o + i, none⟩) hg (fun e => hx (hs _ e))).trans h1, h2.keep hk hs, h3⟩
theorem ColsAt.drewN {X : List Nat} {w : World} {g o : Nat} {cols : List (List Nat)} (h : ColsAt w X g o cols) (n : Nat) : ColsAt (w.drewN n) X g o cols := h
theorem ColsAt.set {X : List Nat} {w : World} {g o : Nat} {cols : List (List Nat)} (h : ColsAt w X g o cols) (p : Addr) (hp : p.block ∈ X) (v : Value) : ColsAt (w.setCell p v) X g o cols :=
  h.keep (Y := [p.block]) ((Keep.refl _ _).setCell (.inl (by simp)) v) (fun k hk => by rw [List.mem_singleton.1 hk]; exact hp)
theorem ColsAt.cols {X : List Nat} {w : World} {g o : Nat} {cols : List (List Nat)} (h : ColsAt w X g o cols) : Cols w X (some ⟨g, o, none⟩) cols := fun _ => ⟨g, o, rfl, h.1, h.2.1, h.2.2⟩
theorem Cols.at {X : List Nat} {w : World} {A : Option Addr} {cols : List (List Nat)} (h : Cols w X A cols) (h0 : 0 < cols.length) : ∃ g o, A = some ⟨g, o, none⟩ ∧ ColsAt w X g o cols := by
  obtain ⟨g, o, h1, h2, h3, h4⟩ := h h0
  exact ⟨g, o, h1, h2, h3, h4⟩
def TwoCases (qA qB qC qD b : Bool) : Prop :=
  (qA = true ∧ qB = true ∧ b = true) ∨ (qA = true ∧ qB = false ∧ qC = true ∧ qD = b) ∨ (qA = true ∧ qB = false ∧ qC = false ∧ b = false) ∨ (qA = false ∧ qC = true ∧ qD = b) ∨ (qA = false ∧ qC = false ∧ b = false)
theorem two_cases (qA qB qC qD b : Bool) (h : ((qA && qB) || (qC && qD)) = b) : TwoCases qA qB qC qD b := by
  subst h; cases qA <;> cases qB <;> cases qC <;> cases qD <;> simp [TwoCases]
def RStripPost (s : Rs) (w : World) (e : Ending) (w' : World) : Prop :=
  ∃ A c A2 c2, e = .returned (.tuple #[.slice A (s.cols.getD 0 []).length c, .slice A2 s.trn.length c2, .string ⟨(s.cre.map UInt8.ofNat).toArray⟩]) ∧ Rd w' A (s.cols.getD 0 []).length (ints (s.cols.getD 0 [])) ∧ Rd w' A2 s.trn.length (ints s.trn) ∧ Below w.heap.size w w'
set_option maxRecDepth 100000 in
set_option maxHeartbeats 16000000 in
theorem rstrip_any (cs : List UInt8) (w : World) (hl : cs.length ≤ 6) :
    Calls Tryd.prog 38 #[.string ⟨cs.toArray⟩] w (RStripPost (refL (foldsB cs)) w) := by
  have hbl := foldsB_len cs
  have hinv := refL_inv (foldsB cs)
  have hcre := refL_cre (foldsB cs) (by omega)
  obtain ⟨r, hr⟩ : ∃ r, Hid (refL (foldsB cs) = r) := ⟨_, rfl⟩
  rw [hr.out] at hinv hcre ⊢
  obtain ⟨K, hK⟩ : ∃ K, cs.length = K := ⟨_, rfl⟩
  rw [hK] at hbl hl
  rw [hbl] at hinv
  have hpow := fun W => rpower_any K hl W
  obtain ⟨N, hN⟩ : ∃ N : Nat, Hid (2 ^ K = N) := ⟨_, Lib.hid rfl⟩
  have hN64 : 1 ≤ N ∧ N ≤ 64 := by
    rw [← hN.out]
    exact ⟨Nat.one_le_two_pow, Nat.le_trans (Nat.pow_le_pow_right (by omega) hl) (by decide)⟩
  obtain ⟨hN1, hN2⟩ := hN64
  rw [hN.out] at hpow
  obtain ⟨M, hM⟩ : ∃ M, N = M + 1 := ⟨N - 1, by omega⟩
  have hsub : (N : Int) - 1 = (M : Int) := by omega
  have hmi := run_make_ints N (by omega)
  have hmu := run_make_u8s M (by omega)
  have HM := Lib.hid hM
  obtain ⟨s, hsb⟩ : ∃ s : ByteArray, s = ⟨cs.toArray⟩ := ⟨_, rfl⟩
  have hsz : s.size = K := by rw [hsb, size_lb]; exact hK
  have hget : Hid (∀ j (hj : j < s.size), s[j] = cs.getD j 0) := by
    subst hsb; intro j hj; exact byte_at cs j (by omega) hj
  have hFd : Hid (∀ j, j < K → (foldsB cs).drop j = (cs.getD j 0 == 111) :: (foldsB cs).drop (j + 1)) := fun j hj => by
    rw [drop_cons (foldsB cs) j false (by omega)]
    congr 1
    unfold foldsB
    rw [List.getD_eq_getElem?_getD, List.getElem?_map, List.getElem?_eq_getElem (show j < cs.length by omega), List.getD_eq_getElem?_getD, List.getElem?_eq_getElem (show j < cs.length by omega)]; rfl
  have hst0 : Hid (refS ((foldsB cs).drop 0) (newR K) = r) := by show _ = _; rw [← hr.out, ← hbl]; rfl
  have hF0 : Hid ((foldsB cs).drop K = []) := List.drop_eq_nil_of_le (by omega)
  rw [← hsb]
  generalize foldsB cs = F at hFd hst0 hF0
  have HINV := Lib.hid hinv; have HCRE := Lib.hid hcre
  clear hM hinv hcre hr hK hsb
  go_enter Tryd.func38, Tryd.ntmps38
  go_wp2_with (fail)
  refine (hpow _).mono ?_; rintro e w1 ⟨rfl, hw1⟩
  rw [hw1]
  clear hpow hw1 w1
  go_wp2_with (fail)
  have hcl0 : Hid ((List.range 0).map (fun i => [i]) = ([] : List (List Nat))) := rfl
  obtain ⟨C0, hC0⟩ : ∃ C0, Hid ((List.range N).map (fun i => [i]) = C0) := ⟨_, rfl⟩
  go_loopw [6, 7] (fun v6 v7 wr => ∃ (i : Nat) (A : Option Addr) (c : Nat) (xs : List Value) (acc : List (List Nat)), i ≤ N ∧ v6 = .slice A i c ∧ v7 = .int .i64 i ∧ Hid (acc = (List.range i).map (fun i => [i])) ∧ wr.ownsRow w.heap.size 23 1 (.slice A i c) i xs ∧ EachN wr (ownL (.slice A i c)) xs acc ∧ Below w.heap.size w wr) (fun _ v _ => N - (RowKit.intOf v).toNat)
  case atStart => exact ⟨0, none, 0, [], [], Nat.zero_le _, rfl, rfl, hcl0.out.symm, World.ownsRow_nil _ _ _ _, EachN.nil _ _, Below.refl _ _⟩
  case round =>
    clear hcl0
    obtain ⟨i, A, c, xs, acc, hi, rfl, rfl, hacc, hown, heach, hbr⟩ := hrel
    have hbsz := hbr.size
    by_cases hlt : i < N
    · have hoL : ∀ j, j ∈ ownL (.slice A i c) → w.heap.size ≤ j ∧ j < wr.heap.size := fun j hj => hown.lt j (mem_ownL hj)
      have hown1 := hown.alloc (.cells #[.int .i64 (i : Int)] 3)
      have heach1 : EachN (wr.alloc (.cells #[.int .i64 (i : Int)] 3)) (ownL (.slice A i c) ++ []) xs acc := by
        rw [List.append_nil]; exact heach.keep (Y := []) ((Keep.refl _ _).alloc (.cells #[.int .i64 (i : Int)] 3)) (by simp)
      have hl1 : RdW (wr.alloc (.cells #[.int .i64 (i : Int)] 3)) (ownL (.slice A i c) ++ []) (some ⟨wr.heap.size, 0, none⟩) [i].length (ints [i]) :=
        ⟨(Arr.new wr [.int .i64 (i : Int)] 3).rdI (l := [i]) (fun hk => by
          rcases List.mem_append.1 hk with hk | hk
          · have := (hoL _ hk).2; omega
          · simp at hk), fun _ => ⟨_, rfl, Arr.new wr [.int .i64 (i : Int)] 3⟩⟩
      have hb2 := hbr.alloc hbr.size (.cells #[.int .i64 (i : Int)] 3)
      have hz2 : (wr.alloc (.cells #[.int .i64 (i : Int)] 3)).heap.size = wr.heap.size + 1 := by simp
      have hi1000 : i ≤ 1000 := by omega
      have hB2 : w.heap.size ≤ (wr.alloc (.cells #[.int .i64 (i : Int)] 3)).heap.size := by omega
      have hX0 : ∀ k : Nat, k ∈ ([] : List Nat) → k < w.heap.size := fun k hk => by simp at hk
      clear hown heach hbr
      go_wp2_with (at_builtin; refine append_col (wr.alloc (.cells #[.int .i64 (i : Int)] 3)) rfl _ _ rfl w.heap.size i (.slice A i c) [] xs acc [i] (some ⟨wr.heap.size, 0, none⟩) 1 rfl hown1 heach1 hl1 (Nat.le_refl _) (wr.heap.size + 1) hz2 rfl hi1000 hB2 hX0 ?_)
      intro A7 c7 xs7 w7 hown7 heach7 hK7
      have hb7 : Below w.heap.size w w7 := hb2.trans (hK7.below (by omega) (fun j hj => (hoL j hj).1))
      have er : Hid (acc ++ [[i]] = (List.range (i + 1)).map (fun i => [i])) := by show _ = _; rw [hacc.out, List.range_succ, List.map_append]; rfl
      generalize acc ++ [[i]] = acc2 at heach7 er
      clear hown1 heach1 hl1 hb2 hK7
      go_wp2_with (fail)
      exact ⟨⟨i + 1, A7, c7, xs7, acc2, by omega, rfl, by go_num, er, hown7, heach7, hb7⟩, by simp [RowKit.intOf]; omega⟩
    · obtain rfl : N = i := by omega
      have hCl : Hid (C0.length = N) := by show _ = _; rw [← hC0.out]; simp
      have hcols : Cols wr [] A C0 := by
        rw [← hC0.out]
        have h := heach
        rw [hacc.out] at h
        exact h.cols (X := []) (c := c) (B := w.heap.size) (by rw [show ((List.range N).map fun i => [i]).length = N by simp]; exact hown) (fun j hj => by simp at hj) (fun j hj => by simp at hj)
      have hst : Hid (refS (F.drop 0) { cols := C0, trn := List.replicate N 0, cre := List.replicate M 0 } = r) := by
        show _ = _; rw [← hst0.out]; unfold newR; rw [hN.out, hC0.out, show N - 1 = M by have := HM.out; omega]
      have hri : Hid (RInv K 0 { cols := C0, trn := List.replicate N 0, cre := List.replicate M 0 }) := by
        have h := rinv_new K
        unfold newR at h; rw [hN.out, hC0.out, show N - 1 = M by have := HM.out; omega] at h; exact h
      have hbd : Hid (∀ x ∈ List.replicate N 0, x ≤ 4096 * 0) := fun x hx => by rw [(List.mem_replicate.1 hx).2]; exact Nat.zero_le _
      have hk2 : Keep [] wr ((wr.alloc (.cells (ints (List.replicate N 0)).toArray 3)).alloc (.cells (u8s (List.replicate M 0)).toArray 5)) := ((Keep.refl [] wr).alloc _).alloc _
      have hb2 : Below w.heap.size w ((wr.alloc (.cells (ints (List.replicate N 0)).toArray 3)).alloc (.cells (u8s (List.replicate M 0)).toArray 5)) := (hbr.alloc hbsz _).alloc (by simp; omega) _
      have hT2 := (Arr.new wr (ints (List.replicate N 0)) 3).alloc (.cells (u8s (List.replicate M 0)).toArray 5)
      have hC2 := Arr.new (wr.alloc (.cells (ints (List.replicate N 0)).toArray 3)) (u8s (List.replicate M 0)) 5
      simp only [World.size_alloc] at hC2
      have hc2 := (hcols.mono (Y := [wr.heap.size, wr.heap.size + 1]) (fun k hk => .inr (by simp at hk; omega))).keep (Y := []) hk2 (by simp)
      obtain ⟨gt, hgt⟩ : ∃ gt, wr.heap.size = gt := ⟨_, rfl⟩
      obtain ⟨gc, hgc⟩ : ∃ gc, gt + 1 = gc := ⟨_, rfl⟩
      rw [hgt] at hT2 hC2 hc2 hbsz
      rw [hgc] at hC2 hc2
      have hgn : gt ≠ gc ∧ w.heap.size ≤ gt ∧ w.heap.size ≤ gc := by omega
      clear heach hown hst0 hC0 hacc hk2 hcols hbr
      go_wp2_with (fail)
      try simp only [hgt, hgc]
      generalize ((wr.alloc (.cells (ints (List.replicate N 0)).toArray 3)).alloc (.cells (u8s (List.replicate M 0)).toArray 5)) = w2 at hb2 hT2 hC2 hc2 ⊢
      clear hgt hgc hbsz
      obtain ⟨hg1, hg2, hg3⟩ := hgn
      go_loopw [6, 10, 11, 12, 13, 14, 15, 16] (fun v6 v10 _ _ _ _ _ _ wr => ∃ (f m c6 : Nat) (A6 : Option Addr) (cols : List (List Nat)) (t c0 : List Nat), f ≤ K ∧ v6 = .slice A6 m c6 ∧ v10 = .int .i64 f ∧ Hid (cols.length = m) ∧ Cols wr [gt, gc] A6 cols ∧ Arr wr gt (ints t) ∧ Arr wr gc (u8s c0) ∧
        Hid (RInv K f { cols := cols, trn := t, cre := c0 }) ∧ Hid (∀ x ∈ t, x ≤ 4096 * f) ∧ Below w.heap.size w wr ∧ Hid (refS (F.drop f) { cols := cols, trn := t, cre := c0 } = r)) (fun _ v _ _ _ _ _ _ _ => K - (RowKit.intOf v).toNat)
      case atStart => exact ⟨0, N, c, A, _, _, _, Nat.zero_le _, rfl, rfl, hCl, hc2, hT2, hC2, hri, hbd, hb2, hst⟩
      case round =>
        clear hc2 hT2 hC2 hri hbd hb2 hst hCl
        obtain ⟨f, m, c6, A6, cols, t, c0, hf, rfl, rfl, hm, hc, hT, hC, hri, hbd, hbr, hst⟩ := hrel
        obtain ⟨ht1, hcl1, hm1, hcol1⟩ := hri.out
        simp only at ht1 hcl1 hm1 hcol1
        rw [hN.out] at ht1 hcl1 hcol1
        rw [hm.out] at hm1
        have HT : Hid (t.length = N) := ht1
        have HCL : Hid (c0.length = M) := by show _ = _; have := HM.out; omega
        have HCOL := Lib.hid hcol1
        clear ht1 hcl1 hcol1
        by_cases hlt : f < K
        · obtain ⟨h, hh⟩ : ∃ h, h = 2 ^ (K - (f + 1)) := ⟨_, rfl⟩
          have hmh : m = 2 * h := by rw [hm1, hh, show K - f = (K - (f + 1)) + 1 by omega, Nat.pow_succ]; omega
          have hh1 : 1 ≤ h ∧ h ≤ 64 := by rw [hh]; exact ⟨Nat.one_le_two_pow, Nat.le_trans (Nat.pow_le_pow_right (by omega) (by omega)) (by decide : 2 ^ 6 ≤ 64)⟩
          obtain ⟨L, hL⟩ : ∃ L, L = 2 ^ f := ⟨_, rfl⟩
          have hL1 : 1 ≤ L ∧ L ≤ 64 := by rw [hL]; exact ⟨Nat.one_le_two_pow, Nat.le_trans (Nat.pow_le_pow_right (by omega) (by omega)) (by decide : 2 ^ 6 ≤ 64)⟩
          have hm64 : m ≤ 64 := by
            rw [hm1]; exact Nat.le_trans (Nat.pow_le_pow_right (by omega) (show K - f ≤ 6 by omega)) (by decide)
          have HC2 : Hid (∀ c ∈ cols, c.length = L ∧ ∀ x ∈ c, x < N) := by show ∀ c ∈ cols, _; rw [hL]; exact HCOL.out
          clear hh hL hm1 HCOL
          obtain ⟨hh1, hh2⟩ := hh1
          obtain ⟨hL1, hL2⟩ := hL1
          have hdr := hFd.out f hlt
          have hri2 := rinv_ref (cs.getD f 0 == 111) hri.out hlt
          have hst2 : Hid (refS (F.drop (f + 1)) (ref1 (cs.getD f 0 == 111) { cols := cols, trn := t, cre := c0 }) = r) := by show _ = _; rw [← hst.out, hdr]; rfl
          have hfs : f < s.size := by rw [hsz]; exact hlt
          have hbyte : s[f] = cs.getD f 0 := hget.out f hfs
          have hbo : ((s[f].toNat : Int) == 111) = (cs.getD f 0 == 111) := by rw [hbyte]; exact byte_eq _ 111 (by omega)
          have hfold := fun A c W h1 => rfolded_any A c (cs.getD f 0) cols L W h1 (fun c hc => (HC2.out c hc).1) (by omega) hL2 (by rw [hm.out]; omega) (by rw [hm.out]; exact hm64)
          rw [← hbyte] at hfold
          have hun : ref1 (cs.getD f 0 == 111) { cols := cols, trn := t, cre := c0 } = { cols := colR (cs.getD f 0 == 111) cols (cols.length / 2) 0 [], trn := incS (cols.drop h) t, cre := creR cols h t (cs.getD f 0 == 111) (M - 0) 0 c0 } := by
            unfold ref1; simp only; rw [hm.out, show m / 2 = h by omega, HCL.out]; rfl
          rw [hun] at hri2 hst2
          rw [hbyte] at hfold
          generalize (cs.getD f 0 == 111) = o at hri2 hst2 hbo hfold hun
          obtain ⟨col2, hcol2⟩ : ∃ z, Hid (colR o cols (cols.length / 2) 0 [] = z) := ⟨_, rfl⟩
          rw [hcol2.out] at hri2 hst2 hfold
          obtain ⟨trn2, htrn2⟩ : ∃ z, Hid (incS (cols.drop h) t = z) := ⟨_, rfl⟩
          rw [htrn2.out] at hri2 hst2
          obtain ⟨cre2, hcre2⟩ : ∃ z, Hid (creR cols h t o (M - 0) 0 c0 = z) := ⟨_, rfl⟩
          rw [hcre2.out] at hri2 hst2
          rw [← hbyte] at hfold
          have HRI2 := Lib.hid hri2
          have HFO := Lib.hid hfold
          have HMH := Lib.hid hmh
          have hq2 : (m : Int) / 2 = (h : Int) := by omega
          have hm0 : 0 < m := by omega
          obtain ⟨g, og, rfl, hcat⟩ := hc.at (by rw [hm.out]; exact hm0)
          have hhm : h < m := by omega
          clear hdr hri hst hri2 hfold hun hcol2 hc hmh hbyte
          go_wp2_with (fail)
          go_loopw [12, 13, 14] (fun v12 _ _ wr => ∃ (i : Nat) (c1 : List Nat), i ≤ M ∧ v12 = .int .i64 i ∧ Hid (c1.length = M) ∧ ColsAt wr [gt, gc] g og cols ∧ Arr wr gt (ints t) ∧ Arr wr gc (u8s c1) ∧ Below w.heap.size w wr ∧ Hid (creR cols h t o (M - i) i c1 = cre2)) (fun v _ _ _ => M - (RowKit.intOf v).toNat)
          case atStart => exact ⟨0, c0, Nat.zero_le _, rfl, HCL, hcat, hT, hC, hbr, hcre2⟩
          case round =>
            clear hcat hT hC hbr hcre2
            obtain ⟨i, c1, hi, rfl, hc1, hcat, hT, hC, hbr, hcr⟩ := hrel
            by_cases hi2 : i < M
            · obtain ⟨Al, cl, hcell_l, ⟨hrd_l, _⟩, _⟩ := hcat.2.2 (h - 1) (by rw [hm.out]; omega)
              obtain ⟨Ar, cr, hcell_r, ⟨hrd_r, _⟩, _⟩ := hcat.2.2 h (by rw [hm.out]; omega)
              have hstep : Hid (creR cols h t o (M - (i + 1)) (i + 1) (if condR cols h i then c1.set i (if o = decide (t.getD i 0 % 2 = 0) then 118 else 104) else c1) = cre2) := by show _ = _; rw [← hcr.out]; exact (creR_step hi2).symm
              have hl1 := (HC2.out (cols.getD (h - 1) []) (by rw [getD_lt _ _ _ (by rw [hm.out]; omega)]; exact List.getElem_mem _)).1
              have hl2 := (HC2.out (cols.getD h []) (by rw [getD_lt _ _ _ (by rw [hm.out]; omega)]; exact List.getElem_mem _)).1
              have hcond : Hid (((hasB i (cols.getD (h - 1) []) && hasB (i + 1) (cols.getD h [])) || (hasB (i + 1) (cols.getD (h - 1) []) && hasB i (cols.getD h []))) = condR cols h i) := rfl
              generalize cols.getD (h - 1) [] = lf at hcell_l hrd_l hl1 hcond
              generalize cols.getD h [] = rt at hcell_r hrd_r hl2 hcond
              generalize condR cols h i = bb at hstep hcond
              rw [hl1] at hcell_l hrd_l
              rw [hl2] at hcell_r hrd_r
              have hQA := fun W (hw : Rd W Al L (ints lf)) => rhas_any Al cl L i lf W hl1 hw (by omega)
              have hQB := fun W (hw : Rd W Ar L (ints rt)) => rhas_any Ar cr L (i + 1) rt W hl2 hw (by omega)
              have hQC := fun W (hw : Rd W Al L (ints lf)) => rhas_any Al cl L (i + 1) lf W hl1 hw (by omega)
              have hQD := fun W (hw : Rd W Ar L (ints rt)) => rhas_any Ar cr L i rt W hl2 hw (by omega)
              rw [show ((i + 1 : Nat) : Int) = (i : Int) + 1 by omega] at hQB hQC
              generalize hasB i lf = qA at hQA hcond
              generalize hasB (i + 1) rt = qB at hQB hcond
              generalize hasB (i + 1) lf = qC at hQC hcond
              generalize hasB i rt = qD at hQD hcond
              have h2c := two_cases qA qB qC qD bb hcond.out
              have e1 : IntKind.i64.wrap ((h : Int) - 1) = (h : Int) - 1 := by rw [IntKind.wrap_i64]; omega
              have e2 : ((h : Int) - 1).toNat = h - 1 := by omega
              have e3 : (0 : Int) ≤ (h : Int) - 1 := by omega
              have e4 : (h : Int) - 1 < (m : Int) := by omega
              have HRL := Lib.hid (hrd_l.mono (Y := []) (by simp))
              have HRR := Lib.hid (hrd_r.mono (Y := []) (by simp))
              have HQA := Lib.hid hQA; have HQB := Lib.hid hQB; have HQC := Lib.hid hQC; have HQD := Lib.hid hQD
              have H2C := Lib.hid h2c
              have HCAT := Lib.hid hcat; have HTA := Lib.hid hT; have HCA := Lib.hid hC
              clear hl1 hl2 hcond hrd_l hrd_r h2c hQA hQB hQC hQD hcat hT hC
              go_wp2_with (fail)
              go_quiet (fail)
              have hrl3 := HRL.out.drewN nq; have hrr3 := HRR.out.drewN nq
              have HCA3 := Lib.hid (HCAT.out.drewN nq); have HTA3 := Lib.hid (HTA.out.drewN nq); have HCC3 := Lib.hid (HCA.out.drewN nq); have hb3 := below_drewN hbr nq
              generalize wr.drewN nq = w3 at hrl3 hrr3 HCA3 HTA3 HCC3 hb3 ⊢
              clear HRL HRR HCAT HTA HCA hbr hcell_l hcell_r e1 e2 e3 e4
              obtain ⟨hti, _⟩ := HTA3.out.2 i (by rw [ints_length, HT.out]; omega)
              rw [ints_getD _ _ (by rw [HT.out]; omega)] at hti
              obtain ⟨hci, hfi⟩ := HCC3.out.2 i (by rw [u8s_length, hc1.out]; exact hi2)
              rw [u8s_getD _ _ (by rw [hc1.out]; exact hi2)] at hci
              generalize t.getD i 0 = ti at hti hstep
              have hrm : ((ti : Int) % 2 == 0) = decide (ti % 2 = 0) := by rw [Bool.eq_iff_iff]; simp only [beq_iff_eq, decide_eq_true_eq]; omega
              have hrn : (ti : Int).tmod 2 = (ti : Int) % 2 := by rw [Int.tmod_eq_emod_of_nonneg (by omega)]
              have HS1 : bb = true → Hid (creR cols h t o (M - (i + 1)) (i + 1) (c1.set i (if o = decide (ti % 2 = 0) then 118 else 104)) = cre2) := fun h => by show _ = _; rw [← hstep.out, h]; rfl
              have HS0 : bb = false → Hid (creR cols h t o (M - (i + 1)) (i + 1) c1 = cre2) := fun h => by show _ = _; rw [← hstep.out, h]; rfl
              generalize decide (ti % 2 = 0) = dd at hrm HS1
              clear hstep
              rcases H2C.out with ⟨rfl, rfl, rfl⟩ | ⟨rfl, rfl, rfl, rfl⟩ | ⟨rfl, rfl, rfl, rfl⟩ | ⟨rfl, rfl, rfl⟩ | ⟨rfl, rfl, rfl⟩
              · clear H2C
                go_wp2_with (fail)
                refine (HQA.out _ hrl3).mono ?_; rintro e w4 ⟨rfl, hw4⟩
                rw [hw4]
                clear hw4 w4
                go_wp2_with (fail)
                refine (HQB.out _ hrr3).mono ?_; rintro e w4 ⟨rfl, hw4⟩
                rw [hw4]
                clear hw4 w4
                go_wp2_with (fail)
                have hti4 : (w3.setCell ⟨gc, i, none⟩ (.int .u8 104)).cell? ⟨gt, i, none⟩ = some (.int .i64 (ti : Int)) := by
                  rw [World.cell?_setCell_other _ _ _ _ (by intro e; injection e with e1 _ _; exact hg1 e1.symm)]; exact hti
                have HT4 := Lib.hid (HTA3.out.other (p := ⟨gc, i, none⟩) (fun e => hg1 e.symm) (.int .u8 104))
                have hC4 := HCC3.out.set i (by rw [u8s_length, hc1.out]; exact hi2) (.int .u8 ((104 : Nat) : Int))
                rw [u8s_set] at hC4
                have HC4 : Hid (Arr (w3.setCell ⟨gc, i, none⟩ (.int .u8 104)) gc (u8s (c1.set i 104))) := hC4
                have HCT4 := Lib.hid (HCA3.out.set ⟨gc, i, none⟩ (by simp) (.int .u8 104))
                have HB4 := Lib.hid (hb3.setCell (p := ⟨gc, i, none⟩) hg3 (.int .u8 104))
                clear hC4
                go_quiet (fail)
                have HT5 := Lib.hid (HT4.out.drewN nq); have HC5 := Lib.hid (HC4.out.drewN nq); have HCT5 := Lib.hid (HCT4.out.drewN nq); have hb5 := below_drewN HB4.out nq
                generalize (w3.setCell ⟨gc, i, none⟩ (.int .u8 104)).drewN nq = w5 at HT5 HC5 HCT5 hb5 ⊢
                clear hti4 HT4 HC4 HCT4 HB4
                have hl5 : (c1.set i 104).length = M := by rw [List.length_set]; exact hc1.out
                generalize hbq : (o == dd) = bq
                have HBQ := Lib.hid hbq
                clear hbq
                rcases bq with _ | _
                rotate_left
                · have hod : o = dd := by simpa using HBQ.out
                  have HS := HS1 (by simp)
                  rw [if_pos hod] at HS
                  have hss : (c1.set i 104).set i 118 = c1.set i 118 := by rw [List.set_set]
                  obtain ⟨c5', f5'⟩ := HC5.out.2 i (by rw [u8s_length, hl5]; exact hi2)
                  rw [u8s_getD _ _ (by rw [hl5]; exact hi2)] at c5'
                  have hC6 := HC5.out.set i (by rw [u8s_length, hl5]; exact hi2) (.int .u8 ((118 : Nat) : Int))
                  rw [u8s_set, hss] at hC6
                  have HC6 : Hid (Arr (w5.setCell ⟨gc, i, none⟩ (.int .u8 118)) gc (u8s (c1.set i 118))) := hC6
                  have HT6 := Lib.hid (HT5.out.other (p := ⟨gc, i, none⟩) (fun e => hg1 e.symm) (.int .u8 118))
                  have HCT6 := Lib.hid (HCT5.out.set ⟨gc, i, none⟩ (by simp) (.int .u8 118))
                  have HB6 := Lib.hid (hb5.setCell (p := ⟨gc, i, none⟩) hg3 (.int .u8 118))
                  have HL6 : Hid ((c1.set i 118).length = M) := by show _ = _; rw [List.length_set]; exact hc1.out
                  clear hC6 hss hod HS1 HS0 hl5
                  go_wp2_with (fail)
                  exact ⟨⟨i + 1, c1.set i 118, by omega, by go_num, HL6, HCT6.out, HT6.out, HC6.out, HB6.out, HS⟩, by simp [RowKit.intOf]; omega⟩
                · have hod : ¬ o = dd := by simpa using HBQ.out
                  have HS := HS1 (by simp)
                  rw [if_neg hod] at HS
                  have HL6 : Hid ((c1.set i 104).length = M) := hl5
                  clear hod HS1 HS0 hl5
                  go_wp2_with (fail)
                  exact ⟨⟨i + 1, c1.set i 104, by omega, by go_num, HL6, HCT5.out, HT5.out, HC5.out, hb5, HS⟩, by simp [RowKit.intOf]; omega⟩
              · clear H2C
                cases qD
                · go_wp2_with (fail)
                  refine (HQA.out _ hrl3).mono ?_; rintro e w4 ⟨rfl, hw4⟩
                  rw [hw4]
                  clear hw4 w4
                  go_wp2_with (fail)
                  refine (HQB.out _ hrr3).mono ?_; rintro e w4 ⟨rfl, hw4⟩
                  rw [hw4]
                  clear hw4 w4
                  go_wp2_with (fail)
                  refine (HQC.out _ hrl3).mono ?_; rintro e w4 ⟨rfl, hw4⟩
                  rw [hw4]
                  clear hw4 w4
                  go_wp2_with (fail)
                  refine (HQD.out _ hrr3).mono ?_; rintro e w4 ⟨rfl, hw4⟩
                  rw [hw4]
                  clear hw4 w4
                  go_wp2_with (fail)
                  exact ⟨⟨i + 1, c1, by omega, by go_num, hc1, HCA3.out, HTA3.out, HCC3.out, hb3, (HS0 (by simp))⟩, by simp [RowKit.intOf]; omega⟩
                · go_wp2_with (fail)
                  refine (HQA.out _ hrl3).mono ?_; rintro e w4 ⟨rfl, hw4⟩
                  rw [hw4]
                  clear hw4 w4
                  go_wp2_with (fail)
                  refine (HQB.out _ hrr3).mono ?_; rintro e w4 ⟨rfl, hw4⟩
                  rw [hw4]
                  clear hw4 w4
                  go_wp2_with (fail)
                  refine (HQC.out _ hrl3).mono ?_; rintro e w4 ⟨rfl, hw4⟩
                  rw [hw4]
                  clear hw4 w4
                  go_wp2_with (fail)
                  refine (HQD.out _ hrr3).mono ?_; rintro e w4 ⟨rfl, hw4⟩
                  rw [hw4]
                  clear hw4 w4
                  go_wp2_with (fail)
                  have hti4 : (w3.setCell ⟨gc, i, none⟩ (.int .u8 104)).cell? ⟨gt, i, none⟩ = some (.int .i64 (ti : Int)) := by
                    rw [World.cell?_setCell_other _ _ _ _ (by intro e; injection e with e1 _ _; exact hg1 e1.symm)]; exact hti
                  have HT4 := Lib.hid (HTA3.out.other (p := ⟨gc, i, none⟩) (fun e => hg1 e.symm) (.int .u8 104))
                  have hC4 := HCC3.out.set i (by rw [u8s_length, hc1.out]; exact hi2) (.int .u8 ((104 : Nat) : Int))
                  rw [u8s_set] at hC4
                  have HC4 : Hid (Arr (w3.setCell ⟨gc, i, none⟩ (.int .u8 104)) gc (u8s (c1.set i 104))) := hC4
                  have HCT4 := Lib.hid (HCA3.out.set ⟨gc, i, none⟩ (by simp) (.int .u8 104))
                  have HB4 := Lib.hid (hb3.setCell (p := ⟨gc, i, none⟩) hg3 (.int .u8 104))
                  clear hC4
                  go_quiet (fail)
                  have HT5 := Lib.hid (HT4.out.drewN nq); have HC5 := Lib.hid (HC4.out.drewN nq); have HCT5 := Lib.hid (HCT4.out.drewN nq); have hb5 := below_drewN HB4.out nq
                  generalize (w3.setCell ⟨gc, i, none⟩ (.int .u8 104)).drewN nq = w5 at HT5 HC5 HCT5 hb5 ⊢
                  clear hti4 HT4 HC4 HCT4 HB4
                  have hl5 : (c1.set i 104).length = M := by rw [List.length_set]; exact hc1.out
                  generalize hbq : (o == dd) = bq
                  have HBQ := Lib.hid hbq
                  clear hbq
                  rcases bq with _ | _
                  rotate_left
                  · have hod : o = dd := by simpa using HBQ.out
                    have HS := HS1 (by simp)
                    rw [if_pos hod] at HS
                    have hss : (c1.set i 104).set i 118 = c1.set i 118 := by rw [List.set_set]
                    obtain ⟨c5', f5'⟩ := HC5.out.2 i (by rw [u8s_length, hl5]; exact hi2)
                    rw [u8s_getD _ _ (by rw [hl5]; exact hi2)] at c5'
                    have hC6 := HC5.out.set i (by rw [u8s_length, hl5]; exact hi2) (.int .u8 ((118 : Nat) : Int))
                    rw [u8s_set, hss] at hC6
                    have HC6 : Hid (Arr (w5.setCell ⟨gc, i, none⟩ (.int .u8 118)) gc (u8s (c1.set i 118))) := hC6
                    have HT6 := Lib.hid (HT5.out.other (p := ⟨gc, i, none⟩) (fun e => hg1 e.symm) (.int .u8 118))
                    have HCT6 := Lib.hid (HCT5.out.set ⟨gc, i, none⟩ (by simp) (.int .u8 118))
                    have HB6 := Lib.hid (hb5.setCell (p := ⟨gc, i, none⟩) hg3 (.int .u8 118))
                    have HL6 : Hid ((c1.set i 118).length = M) := by show _ = _; rw [List.length_set]; exact hc1.out
                    clear hC6 hss hod HS1 HS0 hl5
                    go_wp2_with (fail)
                    exact ⟨⟨i + 1, c1.set i 118, by omega, by go_num, HL6, HCT6.out, HT6.out, HC6.out, HB6.out, HS⟩, by simp [RowKit.intOf]; omega⟩
                  · have hod : ¬ o = dd := by simpa using HBQ.out
                    have HS := HS1 (by simp)
                    rw [if_neg hod] at HS
                    have HL6 : Hid ((c1.set i 104).length = M) := hl5
                    clear hod HS1 HS0 hl5
                    go_wp2_with (fail)
                    exact ⟨⟨i + 1, c1.set i 104, by omega, by go_num, HL6, HCT5.out, HT5.out, HC5.out, hb5, HS⟩, by simp [RowKit.intOf]; omega⟩
              · clear H2C
                go_wp2_with (fail)
                refine (HQA.out _ hrl3).mono ?_; rintro e w4 ⟨rfl, hw4⟩
                rw [hw4]
                clear hw4 w4
                go_wp2_with (fail)
                refine (HQB.out _ hrr3).mono ?_; rintro e w4 ⟨rfl, hw4⟩
                rw [hw4]
                clear hw4 w4
                go_wp2_with (fail)
                refine (HQC.out _ hrl3).mono ?_; rintro e w4 ⟨rfl, hw4⟩
                rw [hw4]
                clear hw4 w4
                go_wp2_with (fail)
                exact ⟨⟨i + 1, c1, by omega, by go_num, hc1, HCA3.out, HTA3.out, HCC3.out, hb3, (HS0 (by simp))⟩, by simp [RowKit.intOf]; omega⟩
              · clear H2C
                cases qD
                · go_wp2_with (fail)
                  refine (HQA.out _ hrl3).mono ?_; rintro e w4 ⟨rfl, hw4⟩
                  rw [hw4]
                  clear hw4 w4
                  go_wp2_with (fail)
                  refine (HQC.out _ hrl3).mono ?_; rintro e w4 ⟨rfl, hw4⟩
                  rw [hw4]
                  clear hw4 w4
                  go_wp2_with (fail)
                  refine (HQD.out _ hrr3).mono ?_; rintro e w4 ⟨rfl, hw4⟩
                  rw [hw4]
                  clear hw4 w4
                  go_wp2_with (fail)
                  exact ⟨⟨i + 1, c1, by omega, by go_num, hc1, HCA3.out, HTA3.out, HCC3.out, hb3, (HS0 (by simp))⟩, by simp [RowKit.intOf]; omega⟩
                · go_wp2_with (fail)
                  refine (HQA.out _ hrl3).mono ?_; rintro e w4 ⟨rfl, hw4⟩
                  rw [hw4]
                  clear hw4 w4
                  go_wp2_with (fail)
                  refine (HQC.out _ hrl3).mono ?_; rintro e w4 ⟨rfl, hw4⟩
                  rw [hw4]
                  clear hw4 w4
                  go_wp2_with (fail)
                  refine (HQD.out _ hrr3).mono ?_; rintro e w4 ⟨rfl, hw4⟩
                  rw [hw4]
                  clear hw4 w4
                  go_wp2_with (fail)
                  have hti4 : (w3.setCell ⟨gc, i, none⟩ (.int .u8 104)).cell? ⟨gt, i, none⟩ = some (.int .i64 (ti : Int)) := by
                    rw [World.cell?_setCell_other _ _ _ _ (by intro e; injection e with e1 _ _; exact hg1 e1.symm)]; exact hti
                  have HT4 := Lib.hid (HTA3.out.other (p := ⟨gc, i, none⟩) (fun e => hg1 e.symm) (.int .u8 104))
                  have hC4 := HCC3.out.set i (by rw [u8s_length, hc1.out]; exact hi2) (.int .u8 ((104 : Nat) : Int))
                  rw [u8s_set] at hC4
                  have HC4 : Hid (Arr (w3.setCell ⟨gc, i, none⟩ (.int .u8 104)) gc (u8s (c1.set i 104))) := hC4
                  have HCT4 := Lib.hid (HCA3.out.set ⟨gc, i, none⟩ (by simp) (.int .u8 104))
                  have HB4 := Lib.hid (hb3.setCell (p := ⟨gc, i, none⟩) hg3 (.int .u8 104))
                  clear hC4
                  go_quiet (fail)
                  have HT5 := Lib.hid (HT4.out.drewN nq); have HC5 := Lib.hid (HC4.out.drewN nq); have HCT5 := Lib.hid (HCT4.out.drewN nq); have hb5 := below_drewN HB4.out nq
                  generalize (w3.setCell ⟨gc, i, none⟩ (.int .u8 104)).drewN nq = w5 at HT5 HC5 HCT5 hb5 ⊢
                  clear hti4 HT4 HC4 HCT4 HB4
                  have hl5 : (c1.set i 104).length = M := by rw [List.length_set]; exact hc1.out
                  generalize hbq : (o == dd) = bq
                  have HBQ := Lib.hid hbq
                  clear hbq
                  rcases bq with _ | _
                  rotate_left
                  · have hod : o = dd := by simpa using HBQ.out
                    have HS := HS1 (by simp)
                    rw [if_pos hod] at HS
                    have hss : (c1.set i 104).set i 118 = c1.set i 118 := by rw [List.set_set]
                    obtain ⟨c5', f5'⟩ := HC5.out.2 i (by rw [u8s_length, hl5]; exact hi2)
                    rw [u8s_getD _ _ (by rw [hl5]; exact hi2)] at c5'
                    have hC6 := HC5.out.set i (by rw [u8s_length, hl5]; exact hi2) (.int .u8 ((118 : Nat) : Int))
                    rw [u8s_set, hss] at hC6
                    have HC6 : Hid (Arr (w5.setCell ⟨gc, i, none⟩ (.int .u8 118)) gc (u8s (c1.set i 118))) := hC6
                    have HT6 := Lib.hid (HT5.out.other (p := ⟨gc, i, none⟩) (fun e => hg1 e.symm) (.int .u8 118))
                    have HCT6 := Lib.hid (HCT5.out.set ⟨gc, i, none⟩ (by simp) (.int .u8 118))
                    have HB6 := Lib.hid (hb5.setCell (p := ⟨gc, i, none⟩) hg3 (.int .u8 118))
                    have HL6 : Hid ((c1.set i 118).length = M) := by show _ = _; rw [List.length_set]; exact hc1.out
                    clear hC6 hss hod HS1 HS0 hl5
                    go_wp2_with (fail)
                    exact ⟨⟨i + 1, c1.set i 118, by omega, by go_num, HL6, HCT6.out, HT6.out, HC6.out, HB6.out, HS⟩, by simp [RowKit.intOf]; omega⟩
                  · have hod : ¬ o = dd := by simpa using HBQ.out
                    have HS := HS1 (by simp)
                    rw [if_neg hod] at HS
                    have HL6 : Hid ((c1.set i 104).length = M) := hl5
                    clear hod HS1 HS0 hl5
                    go_wp2_with (fail)
                    exact ⟨⟨i + 1, c1.set i 104, by omega, by go_num, HL6, HCT5.out, HT5.out, HC5.out, hb5, HS⟩, by simp [RowKit.intOf]; omega⟩
              · clear H2C
                go_wp2_with (fail)
                refine (HQA.out _ hrl3).mono ?_; rintro e w4 ⟨rfl, hw4⟩
                rw [hw4]
                clear hw4 w4
                go_wp2_with (fail)
                refine (HQC.out _ hrl3).mono ?_; rintro e w4 ⟨rfl, hw4⟩
                rw [hw4]
                clear hw4 w4
                go_wp2_with (fail)
                exact ⟨⟨i + 1, c1, by omega, by go_num, hc1, HCA3.out, HTA3.out, HCC3.out, hb3, (HS0 (by simp))⟩, by simp [RowKit.intOf]; omega⟩
            · obtain rfl : M = i := by omega
              have hR : Hid (c1 = cre2) := by show _ = _; rw [← hcr.out, Nat.sub_self]; rfl
              rw [hR.out] at hC
              clear hcr hR
              have hbd4 : Hid (∀ x ∈ t, x ≤ 4096 * f + 64 * h) := fun x hx => by have := hbd.out x hx; omega
              go_wp2_with (fail)
              go_loopw [15, 16] (fun v15 _ wr => ∃ (i : Nat) (t1 : List Nat), h ≤ i ∧ i ≤ m ∧ v15 = .int .i64 i ∧ Hid (t1.length = N) ∧ ColsAt wr [gt, gc] g og cols ∧ Arr wr gt (ints t1) ∧ Arr wr gc (u8s cre2) ∧ Below w.heap.size w wr ∧ Hid (∀ x ∈ t1, x ≤ 4096 * f + 64 * i) ∧ Hid (incS (cols.drop i) t1 = trn2)) (fun v _ _ => m - (RowKit.intOf v).toNat)
              case atStart => exact ⟨h, t, Nat.le_refl _, Nat.le_of_lt hhm, rfl, HT, hcat, hT, hC, hbr, hbd4, htrn2⟩
              case round =>
                clear hcat hT hC hbr hbd4 hc1
                obtain ⟨i, t1, hhi, hi, rfl, ht1, hcat, hT, hC, hbr, hbd1, hin⟩ := hrel
                by_cases hi2 : i < m
                · obtain ⟨Ai, ci, hcell, ⟨hrd, _⟩, _⟩ := hcat.2.2 i (by rw [hm.out]; exact hi2)
                  obtain ⟨hl1, hx1⟩ := HC2.out (cols.getD i []) (by rw [getD_lt _ _ _ (by rw [hm.out]; omega)]; exact List.getElem_mem _)
                  have hdc := drop_cons cols i [] (by rw [hm.out]; exact hi2)
                  have hst5 : Hid (incS (cols.drop (i + 1)) (inc1 ((cols.getD i []).drop 0) t1) = trn2) := by show _ = _; rw [← hin.out, hdc]; rfl
                  have HCE : Hid (∀ W, ColsAt W [gt, gc] g og cols → ∃ Ai ci, W.cell? ⟨g, og + i, none⟩ = some (.slice Ai (cols.getD i []).length ci) ∧ RdX W [gt, gc] Ai (cols.getD i []).length (ints (cols.getD i []))) := fun W h => by
                    obtain ⟨Ai, ci, h1, ⟨h2, _⟩, _⟩ := h.2.2 i (by rw [hm.out]; exact hi2)
                    exact ⟨Ai, ci, h1, h2⟩
                  generalize cols.getD i [] = col at hl1 hx1 hst5 HCE
                  rw [hl1] at HCE
                  have HX1 := Lib.hid hx1; have HL1 := Lib.hid hl1
                  have hbd5 : Hid (∀ x ∈ t1, x ≤ 4096 * f + 64 * i + 0) := hbd1
                  clear hcell hrd hdc hin hx1 hl1 hbd1
                  go_wp2_with (fail)
                  go_loopw [16] (fun v16 wr => ∃ (k : Nat) (t1 : List Nat), k ≤ L ∧ v16 = .int .i64 k ∧ Hid (t1.length = N) ∧ ColsAt wr [gt, gc] g og cols ∧ Arr wr gt (ints t1) ∧ Arr wr gc (u8s cre2) ∧ Below w.heap.size w wr ∧ Hid (∀ x ∈ t1, x ≤ 4096 * f + 64 * i + k) ∧ Hid (incS (cols.drop (i + 1)) (inc1 (col.drop k) t1) = trn2)) (fun v _ => L - (RowKit.intOf v).toNat)
                  case atStart => exact ⟨0, t1, Nat.zero_le _, rfl, ht1, hcat, hT, hC, hbr, hbd5, hst5⟩
                  case round =>
                    clear hcat hT hC hbr hbd5 hst5 ht1
                    obtain ⟨k, t1, hk, rfl, ht1, hcat, hT, hC, hbr, hbd1, hin⟩ := hrel
                    obtain ⟨Ai, ci, hcell, hrd⟩ := HCE.out wr hcat
                    by_cases hk2 : k < L
                    · obtain ⟨gi, oi, rfl, hgi, hgx, hat⟩ := hrd.2 (by omega)
                      have hcx := hat k hk2
                      have hkl : k < col.length := by rw [HL1.out]; exact hk2
                      rw [ints_getD _ _ hkl] at hcx
                      have hxN : col.getD k 0 < N := HX1.out _ (by rw [getD_lt _ _ _ hkl]; exact List.getElem_mem _)
                      have hdk := drop_cons col k 0 hkl
                      have hst6 : Hid (incS (cols.drop (i + 1)) (inc1 (col.drop (k + 1)) (t1.set (col.getD k 0) (t1.getD (col.getD k 0) 0 + 1))) = trn2) := by show _ = _; rw [← hin.out, hdk]; rfl
                      generalize col.getD k 0 = x at hcx hxN hst6
                      have hxl : x < t1.length := by rw [ht1.out]; exact hxN
                      obtain ⟨htx, hfx⟩ := hT.2 x (by rw [ints_length]; exact hxl)
                      rw [ints_getD _ _ hxl] at htx
                      have hbd6 : Hid (∀ y ∈ t1.set x (t1.getD x 0 + 1), y ≤ 4096 * f + 64 * i + (k + 1)) := bnd_set hbd1.out hxl
                      have hty : t1.getD x 0 ≤ 4096 * f + 64 * i + k := hbd1.out _ (by rw [getD_lt _ _ _ hxl]; exact List.getElem_mem _)
                      have hT6 := hT.set x (by rw [ints_length]; exact hxl) (.int .i64 ((t1.getD x 0 + 1 : Nat) : Int))
                      rw [ints_set] at hT6
                      have hl6 : Hid ((t1.set x (t1.getD x 0 + 1)).length = N) := by show _ = _; rw [List.length_set]; exact ht1.out
                      generalize t1.set x (t1.getD x 0 + 1) = t2 at hst6 hbd6 hT6 hl6
                      generalize t1.getD x 0 = y at htx hty hT6
                      rw [show ((y + 1 : Nat) : Int) = (y : Int) + 1 by omega] at hT6
                      have HT6 := Lib.hid hT6
                      have HCT6 := Lib.hid (hcat.set ⟨gt, x, none⟩ (by simp) (.int .i64 ((y : Int) + 1)))
                      have HC6 := Lib.hid (hC.other (p := ⟨gt, x, none⟩) hg1 (.int .i64 ((y : Int) + 1)))
                      have HB6 := Lib.hid (hbr.setCell (p := ⟨gt, x, none⟩) hg2 (.int .i64 ((y : Int) + 1)))
                      have hy1 : IntKind.i64.wrap ((y : Int) + 1) = (y : Int) + 1 := by rw [IntKind.wrap_i64]; omega
                      clear hT hC hcat hbr hT6 hat hdk hin hbd1 hrd
                      go_wp2_with (fail)
                      exact ⟨⟨k + 1, t2, by omega, by go_num, hl6, HCT6.out, HT6.out, HC6.out, HB6.out, hbd6, hst6⟩, by simp [RowKit.intOf]; omega⟩
                    · have hst6 : Hid (incS (cols.drop (i + 1)) t1 = trn2) := by
                        have e : col.drop k = [] := List.drop_eq_nil_of_le (by rw [HL1.out]; omega)
                        show _ = _; rw [← hin.out, e]; rfl
                      have hbd6 : Hid (∀ y ∈ t1, y ≤ 4096 * f + 64 * (i + 1)) := fun y hy => by have := hbd1.out y hy; omega
                      clear hin hbd1
                      go_wp2_with (fail)
                      exact ⟨⟨i + 1, t1, by omega, by omega, by go_num, ht1, hcat, hT, hC, hbr, hbd6, hst6⟩, by simp [RowKit.intOf]; omega⟩
                · obtain rfl : m = i := by omega
                  have hR2 : Hid (t1 = trn2) := by show _ = _; rw [← hin.out, List.drop_eq_nil_of_le (by rw [hm.out]; exact Nat.le_refl _)]; rfl
                  have hbd6 : Hid (∀ y ∈ trn2, y ≤ 4096 * (f + 1)) := fun y hy => by rw [← hR2.out] at hy; have := hbd1.out y hy; omega
                  rw [hR2.out] at hT
                  have hcl := hcat.cols.mono (Y := []) (fun k hk => by simp at hk)
                  have hfo := HFO.out (some ⟨g, og, none⟩) c6 wr hcl
                  rw [hm.out] at hfo
                  have hsz4 := hbr.size
                  have hgt4 := hT.1; have hgc4 := hC.1
                  clear hin hbd1 hcat hR2
                  go_wp2_with (fail)
                  refine hfo.mono ?_; rintro e w5 ⟨A5, c5, rfl, hcols5, hb5⟩
                  have hcols6 := hcols5.mono (Y := [gt, gc]) (fun k hk => .inl (by rw [List.mem_range]; simp at hk; omega))
                  have hT6 := hT.below hb5; have hC6 := hC.below hb5
                  have hb6 := hbr.trans (hb5.mono hsz4)
                  have HLC : Hid (col2.length = col2.length) := rfl
                  obtain ⟨m2, hm2⟩ : ∃ m2, Hid (col2.length = m2) := ⟨_, rfl⟩
                  rw [hm2.out]
                  clear hfo HFO hcols5 hb5 hbr hT hC hcl
                  go_wp2_with (fail)
                  exact ⟨⟨f + 1, m2, c5, A5, col2, trn2, cre2, by omega, rfl, by go_num, hm2, hcols6, hT6, hC6, HRI2, hbd6, hb6, hst2⟩, by simp [RowKit.intOf]; omega⟩
        · obtain rfl : K = f := by omega
          have hR : Hid (r = ({ cols := cols, trn := t, cre := c0 } : Rs)) := by show _ = _; rw [← hst.out, hF0.out]; rfl
          have hm2 : m = 1 := by rw [hm1, Nat.sub_self]
          subst hm2
          clear hm1
          obtain ⟨g, og, rfl, hcat⟩ := hc.at (by rw [hm.out]; decide)
          obtain ⟨Ai, ci, hcell, ⟨hrd, _⟩, _⟩ := hcat.2.2 0 (by rw [hm.out]; decide)
          have hrdA := hrd.mono (Y := []) (by simp)
          have hrT : Rd wr (some ⟨gt, 0, none⟩) N (ints t) := by
            have h := hT.rdI (X := []) (by simp); rw [HT.out] at h; exact h
          have hcv : ∀ x ∈ c0, x = 118 ∨ x = 104 := by have h := HCRE.out; rw [hR.out] at h; exact h
          have hll : (c0.map UInt8.ofNat).length = M := by rw [List.length_map]; exact HCL.out
          have hconv : ∀ q, (convert 58 9 (.slice (some ⟨gc, 0, none⟩) M M)).run Tryd.prog (wr.drewN q) = .ok (.string ⟨(c0.map UInt8.ofNat).toArray⟩) (wr.drewN q) := fun q => by
            have hl2 : (c0.map UInt8.ofNat).length = M := hll
            rw [← hl2]
            refine run_convert_bytes_back (wr.drewN q) 58 9 5 ⟨gc, 0, none⟩ _ (c0.map UInt8.ofNat) Tryd.underlying58 Tryd.underlying5 Tryd.underlying9 (fun j hj => ?_)
            have hj' : j < c0.length := by rw [List.length_map] at hj; exact hj
            have h := ((hC.drewN q).2 j (by rw [u8s_length]; exact hj')).1
            rw [u8s_getD _ _ hj', getD_lt _ _ _ hj'] at h
            have ea := addr_add0 gc j
            have el : ((c0.map UInt8.ofNat)[j]'hj).toNat = c0[j] := by
              have : (c0.map UInt8.ofNat)[j]'hj = UInt8.ofNat c0[j] := List.getElem_map UInt8.ofNat
              rw [this, UInt8.toNat_ofNat']
              rcases hcv _ (List.getElem_mem hj') with e | e <;> rw [e]
            rw [ea, h, el]
          have HGO : Hid (RStripPost r w (.returned (.tuple #[.slice Ai (cols.getD 0 []).length ci, .slice (some ⟨gt, 0, none⟩) N N, .string ⟨(c0.map UInt8.ofNat).toArray⟩])) = RStripPost { cols := cols, trn := t, cre := c0 } w (.returned (.tuple #[.slice Ai (cols.getD 0 []).length ci, .slice (some ⟨gt, 0, none⟩) N N, .string ⟨(c0.map UInt8.ofNat).toArray⟩]))) := by show _ = _; rw [hR.out]
          generalize hst1 : (⟨(c0.map UInt8.ofNat).toArray⟩ : ByteArray) = s1 at hconv
          have HST1 := Lib.hid hst1
          obtain ⟨n0, hn0⟩ : ∃ n0, Hid ((cols.getD 0 []).length = n0) := ⟨_, rfl⟩
          rw [hn0.out] at hcell hrdA
          have hcell0 : wr.cell? ⟨g, og, none⟩ = some (.slice Ai n0 ci) := hcell
          clear hcell
          have HRA := Lib.hid hrdA; have HRT := Lib.hid hrT; have HR := hR
          clear hcv hll hrd hrdA hrT hst hri hst1 hR HGO
          go_wp2_with (fail)
          go_quiet (fail)
          go_wp2_with (fail)
          go_ret3
          refine ⟨Ai, ci, some ⟨gt, 0, none⟩, N, ?_, ?_, ?_, below_drewN hbr _⟩
          · rw [HR.out, HT.out, hn0.out, HST1.out]; rfl
          · rw [HR.out, hn0.out]; exact HRA.out.drewN _
          · rw [HR.out, HT.out]; exact HRT.out.drewN _
end Go.Proofs.YtbkmicimpgabgaaDoor
namespace Go.Proofs.YtbkmicimpgabgaaDoor
open Go.RowKit Go.Lib Go.Proofs.Quire

theorem rcheck_any (cs : List UInt8) (w : World) (hs : cs.length ≤ maxLen) :
    Calls Tryd.prog 18 #[.string ⟨cs.toArray⟩] w fun e w' => e = .returned (.int .i64 (chkF cs)) ∧ w' = w := by
  have h1 := fun W => rletters_any ⟨cs.toArray⟩ 6 111 117 W (by rw [size_l]; exact hs) (by decide)
  simp only [List.toList_toArray, show ((6 : Nat) : Int) = 6 from rfl, show ((111 : UInt8).toNat : Int) = 111 from rfl, show ((117 : UInt8).toNat : Int) = 117 from rfl] at h1
  rw [show chkL 6 111 117 cs = chkF cs from rfl] at h1
  generalize chkF cs = z at h1 ⊢
  go_enter Tryd.func18, Tryd.ntmps18
  go_wp2_with (fail)
  refine (h1 _).mono ?_; rintro e w1 ⟨rfl, hw⟩
  rw [hw]
  go_wp2_with (fail)
  go_ret
  exact ⟨rfl, rfl⟩
def RStripC (F : List Bool) (w : World) (e : Ending) (w' : World) : Prop :=
  ∃ A c A2 c2 T, e = .returned (.tuple #[.slice A (pileL F).length c, .slice A2 (pileL F).length c2, .string ⟨(creS F).toArray⟩]) ∧ Rd w' A (pileL F).length (ints (pileL F)) ∧ Rd w' A2 (pileL F).length (ints T) ∧ T.map (fun n => n % 2 == 1) = trnC F ∧ Below w.heap.size w w'
theorem rstripC_any (cs : List UInt8) (w : World) (hl : cs.length ≤ 6) :
    Calls Tryd.prog 38 #[.string ⟨cs.toArray⟩] w (RStripC (foldsB cs) w) := by
  have hb : (foldsB cs).length ≤ 6 := by rw [foldsB_len]; exact hl
  obtain ⟨h1, h2, h3⟩ := refs (foldsB cs) hb
  refine (rstrip_any cs w hl).mono ?_
  rintro e w' ⟨A, c, A2, c2, h4, h5, h6, h7⟩
  have e1 : (refL (foldsB cs)).cols.getD 0 [] = pileL (foldsB cs) := by rw [h1, pileL_C _ hb]; rfl
  have e2 : (refL (foldsB cs)).cre.map UInt8.ofNat = creS (foldsB cs) := by unfold creS; rw [h3, (closed _ hb).2.2]
  have e3 : (refL (foldsB cs)).trn.length = (pileL (foldsB cs)).length := by
    rw [(pileL_facts _).1]; exact (refL_inv (foldsB cs)).1
  rw [e1, e2, e3] at h4
  rw [e1] at h5
  rw [e3] at h6
  exact ⟨A, c, A2, c2, _, h4, h5, h6, h2, h7⟩
theorem rpile_any (cs : List UInt8) (w : World) (hs : cs.length ≤ maxLen) :
    Calls Tryd.prog 9 #[.string ⟨cs.toArray⟩] w (RowEPost (pileP cs) (chkF cs) w) := by
  have h1 := fun W => rcheck_any cs W hs
  by_cases hz : chkF cs = 0
  · have hle := (chkL_zero (show chkL 6 111 117 cs = 0 from hz)).1
    have h2 := fun W => rstripC_any cs W hle
    have hP : Hid (pileP cs = pileL (foldsB cs)) := by show _ = _; unfold pileP; rw [if_pos hz]
    rw [hP.out, hz]
    rw [hz] at h1
    unfold RStripC at h2
    generalize pileL (foldsB cs) = l at h2 ⊢
    clear hz hP
    go_enter Tryd.func9, Tryd.ntmps9
    go_wp2_with (fail)
    refine (h1 _).mono ?_; rintro e w1 ⟨rfl, hw1⟩
    rw [hw1]
    clear hw1 w1
    go_wp2_with (fail)
    refine (h2 _).mono ?_; rintro e w2 ⟨A, c, A2, c2, T, rfl, hrd, _, _, hb⟩
    have HRD := Lib.hid hrd
    clear hrd
    go_wp2_with (fail)
    go_ret2
    exact ⟨A, c, rfl, HRD.out, hb⟩
  · have hP : Hid (pileP cs = []) := by show _ = _; unfold pileP; rw [if_neg hz]
    have hz2 : (chkF cs != 0) = true := by simpa using hz
    rw [hP.out]
    generalize chkF cs = z at h1 hz2 ⊢
    clear hz hP
    go_enter Tryd.func9, Tryd.ntmps9
    go_wp2_with (fail)
    refine (h1 _).mono ?_; rintro e w1 ⟨rfl, hw1⟩
    rw [hw1]
    go_wp2_with (fail)
    go_ret2
    exact ⟨none, 0, rfl, rd_nil _ _ _, Below.refl _ _⟩
theorem rcreases_any (cs : List UInt8) (w : World) (hs : cs.length ≤ maxLen) :
    Calls Tryd.prog 14 #[.string ⟨cs.toArray⟩] w (StrEPost (creP cs) (chkF cs) w) := by
  have h1 := fun W => rcheck_any cs W hs
  by_cases hz : chkF cs = 0
  · have hle := (chkL_zero (show chkL 6 111 117 cs = 0 from hz)).1
    have h2 := fun W => rstripC_any cs W hle
    have hP : Hid (creP cs = creS (foldsB cs)) := by show _ = _; unfold creP; rw [if_pos hz]
    rw [hP.out, hz]
    rw [hz] at h1
    unfold RStripC at h2
    generalize creS (foldsB cs) = l at h2 ⊢
    unfold StrEPost
    generalize (⟨l.toArray⟩ : ByteArray) = s1 at h2 ⊢
    clear hz hP
    go_enter Tryd.func14, Tryd.ntmps14
    go_wp2_with (fail)
    refine (h1 _).mono ?_; rintro e w1 ⟨rfl, hw1⟩
    rw [hw1]
    clear hw1 w1
    go_wp2_with (fail)
    refine (h2 _).mono ?_; rintro e w2 ⟨A, c, A2, c2, T, rfl, _, _, _, hb⟩
    go_wp2_with (fail)
    go_ret2
    exact ⟨rfl, hb⟩
  · have hP : Hid (creP cs = []) := by show _ = _; unfold creP; rw [if_neg hz]
    have hz2 : (chkF cs != 0) = true := by simpa using hz
    rw [hP.out]
    generalize chkF cs = z at h1 hz2 ⊢
    clear hz hP
    go_enter Tryd.func14, Tryd.ntmps14
    go_wp2_with (fail)
    refine (h1 _).mono ?_; rintro e w1 ⟨rfl, hw1⟩
    rw [hw1]
    go_wp2_with (fail)
    go_ret2
    exact ⟨rfl, Below.refl _ _⟩
set_option maxRecDepth 100000 in
set_option maxHeartbeats 8000000 in
theorem rpages_any (cs : List UInt8) (w : World) (hs : cs.length ≤ maxLen) :
    Calls Tryd.prog 11 #[.string ⟨cs.toArray⟩] w (TwoRowsPost (pagesP cs).1 (pagesP cs).2 (chkF cs) w) := by
  have h1 := fun W => rcheck_any cs W hs
  by_cases hz : chkF cs = 0
  · have hle := (chkL_zero (show chkL 6 111 117 cs = 0 from hz)).1
    have hfl : (foldsB cs).length ≤ 6 := by rw [foldsB_len]; exact hle
    have h2 := fun W => rstripC_any cs W hle
    have hP : Hid (pagesP cs = pagesS (foldsB cs)) := by show _ = _; unfold pagesP; rw [if_pos hz]
    rw [hP.out, hz]
    rw [hz] at h1
    obtain ⟨hpl, hpx⟩ := pileL_facts (foldsB cs)
    have hp64 : 2 ^ (foldsB cs).length ≤ 64 := Nat.le_trans (Nat.pow_le_pow_right (by omega) hfl) (by decide)
    have hres : Hid (pagesS (foldsB cs) = pgS (trnC (foldsB cs)) (pileL (foldsB cs)) 0 (List.replicate (pileL (foldsB cs)).length 0) (List.replicate (pileL (foldsB cs)).length 0)) := by
      show _ = _; unfold pagesS; rw [(closed _ hfl).2.1, hpl, show (trnC (foldsB cs)).length = 2 ^ (foldsB cs).length by simp [trnC]]
    have htl : (trnC (foldsB cs)).length = (pileL (foldsB cs)).length := by rw [hpl]; simp [trnC]
    rw [← hpl] at hpx hp64
    unfold RStripC at h2
    generalize pagesS (foldsB cs) = r at hres ⊢
    generalize trnC (foldsB cs) = tb at h2 hres htl
    generalize pileL (foldsB cs) = l at h2 hpx hp64 hres htl
    obtain ⟨N, hN⟩ : ∃ N, Hid (l.length = N) := ⟨_, rfl⟩
    rw [hN.out] at hpx hp64 hres h2 htl
    have hmk := run_make_ints N (by omega)
    have hst : Hid (pgS tb (l.drop 0) 0 (List.replicate N 0) (List.replicate N 0) = r) := hres.out.symm
    have hlen := pgS_len tb l 0 (List.replicate N 0) (List.replicate N 0)
    rw [← hres.out, List.length_replicate] at hlen
    have HLEN := Lib.hid hlen; have HTL := Lib.hid htl; have HPX := Lib.hid hpx
    clear hz hP hres hpx hpl hlen htl hfl
    go_enter Tryd.func11, Tryd.ntmps11
    go_wp2_with (fail)
    refine (h1 _).mono ?_; rintro e w1 ⟨rfl, hw1⟩
    rw [hw1]
    clear hw1 w1
    go_wp2_with (fail)
    refine (h2 _).mono ?_; rintro e w2 ⟨A, c, A2, c2, T, rfl, hrd, hrT, hT, hbF⟩
    have HTT := Lib.hid hT
    have HTN : Hid (T.length = N) := by show _ = _; have := hrT.1; simpa using this
    have HR1 := Lib.hid hrd; have HR2 := Lib.hid hrT
    clear h1 h2 hrd hrT hT
    go_wp2_with (fail)
    go_region
    all_goals
      have hb3 : Below w2.heap.size w2 (((w2.alloc (.cells (ints (List.replicate N 0)).toArray 3)).alloc (.cells (ints (List.replicate N 0)).toArray 3)).drew) := (((Below.refl _ w2).alloc (Nat.le_refl _) _).alloc (by simp) _).drew
      have hx1 : Arr (((w2.alloc (.cells (ints (List.replicate N 0)).toArray 3)).alloc (.cells (ints (List.replicate N 0)).toArray 3)).drew) w2.heap.size (ints (List.replicate N 0)) := ((Arr.new w2 (ints (List.replicate N 0)) 3).alloc (.cells (ints (List.replicate N 0)).toArray 3)).drewN 1
      have hx2 : Arr (((w2.alloc (.cells (ints (List.replicate N 0)).toArray 3)).alloc (.cells (ints (List.replicate N 0)).toArray 3)).drew) (w2.heap.size + 1) (ints (List.replicate N 0)) := by
        have h := Arr.new (w2.alloc (.cells (ints (List.replicate N 0)).toArray 3)) (ints (List.replicate N 0)) 3
        simp only [World.size_alloc] at h; exact h.drewN 1
      generalize ((w2.alloc (.cells (ints (List.replicate N 0)).toArray 3)).alloc (.cells (ints (List.replicate N 0)).toArray 3)).drew = w3 at hb3 hx1 hx2 ⊢
      obtain ⟨ga, hga⟩ : ∃ ga, ga = w2.heap.size := ⟨_, rfl⟩
      obtain ⟨gb, hgb⟩ : ∃ gb, gb = w2.heap.size + 1 := ⟨_, rfl⟩
      have hgl : w2.heap.size ≤ ga ∧ w2.heap.size ≤ gb ∧ ga ≠ gb := by omega
      rw [← hga] at hx1
      rw [← hgb] at hx2
      rw [← hgb]
      simp only [← hga]
      clear hga hgb
    · go_wp2_with (fail)
      go_loopw [11] (fun v wr => ∃ (k : Nat) (u d : List Nat), k ≤ N ∧ v = .int .i64 k ∧ Hid (u.length = N) ∧ Hid (d.length = N) ∧ Arr wr ga (ints u) ∧ Arr wr gb (ints d) ∧ Below w2.heap.size w2 wr ∧ Hid (pgS tb (l.drop k) k u d = r)) (fun v _ => N - (RowKit.intOf v).toNat)
      case atStart => exact ⟨0, _, _, Nat.zero_le _, rfl, List.length_replicate, List.length_replicate, hx1, hx2, hb3, hst⟩
      case round =>
        clear hx1 hx2 hb3 hst
        obtain ⟨k, u, d, hk, rfl, hlu, hld, hau, had, hbr, hf⟩ := hrel
        by_cases hlt : k < N
        · have hkl : k < l.length := by rw [hN.out]; exact hlt
          have hgw : ga ≠ gb := hgl.2.2
          obtain ⟨gp, op, rfl, hgp, _, hcp⟩ := HR1.out.2 (by omega)
          obtain ⟨gq, oq, rfl, hgq, _, hcq⟩ := HR2.out.2 (by omega)
          have hcx := (hbr.cell (p := ⟨gp, op + k, none⟩) hgp).trans (hcp k hlt)
          rw [ints_getD _ _ hkl] at hcx
          have hxk : l.getD k 0 < N := HPX.out _ (by rw [getD_lt _ _ _ hkl]; exact List.getElem_mem _)
          have hstep : Hid (r = if tb.getD (l.getD k 0) false = true then pgS tb (l.drop (k + 1)) (k + 1) (u.set (l.getD k 0) (2 * k + 2)) (d.set (l.getD k 0) (2 * k + 1)) else pgS tb (l.drop (k + 1)) (k + 1) (u.set (l.getD k 0) (2 * k + 1)) (d.set (l.getD k 0) (2 * k + 2))) := by
            show _ = _; rw [← hf.out, drop_cons l k 0 hkl]; rfl
          generalize l.getD k 0 = x at hcx hxk hstep
          have hct := (hbr.cell (p := ⟨gq, oq + x, none⟩) hgq).trans (hcq x hxk)
          rw [ints_getD _ _ (by rw [HTN.out]; exact hxk)] at hct
          have htx : tb.getD x false = (T.getD x 0 % 2 == 1) := by
            rw [← HTT.out, List.getD_eq_getElem?_getD, List.getD_eq_getElem?_getD, List.getElem?_map, List.getElem?_eq_getElem (show x < T.length by rw [HTN.out]; exact hxk)]; rfl
          generalize T.getD x 0 = ti at hct htx
          have hrn : (ti : Int).tmod 2 = (ti : Int) % 2 := by rw [Int.tmod_eq_emod_of_nonneg (by omega)]
          have hrm : ((ti : Int) % 2 == 0) = !(ti % 2 == 1) := by
            rw [Bool.eq_iff_iff]; simp only [beq_iff_eq, Bool.not_eq_true', beq_eq_false_iff_ne, ne_eq]; omega
          rw [← htx] at hrm
          obtain ⟨iu, fu⟩ := hau.2 x (by rw [ints_length, hlu.out]; exact hxk)
          obtain ⟨il, fl⟩ := had.2 x (by rw [ints_length, hld.out]; exact hxk)
          rw [ints_getD _ _ (by rw [hlu.out]; exact hxk)] at iu
          rw [ints_getD _ _ (by rw [hld.out]; exact hxk)] at il
          have hset : ∀ a b : Nat, Hid (Arr (((wr.setCell ⟨ga, x, none⟩ (.int .i64 (a : Int))).setCell ⟨gb, x, none⟩ (.int .i64 (b : Int))).drew) ga (ints (u.set x a)) ∧ Arr (((wr.setCell ⟨ga, x, none⟩ (.int .i64 (a : Int))).setCell ⟨gb, x, none⟩ (.int .i64 (b : Int))).drew) gb (ints (d.set x b)) ∧ Below w2.heap.size w2 (((wr.setCell ⟨ga, x, none⟩ (.int .i64 (a : Int))).setCell ⟨gb, x, none⟩ (.int .i64 (b : Int))).drew)) := fun a b => by
            have s1 := hau.set x (by rw [ints_length, hlu.out]; exact hxk) (.int .i64 (a : Int))
            rw [ints_set] at s1
            have s2 := (had.other (p := ⟨ga, x, none⟩) hgw (.int .i64 (a : Int))).set x (by rw [ints_length, hld.out]; exact hxk) (.int .i64 (b : Int))
            rw [ints_set] at s2
            exact ⟨(s1.other (fun e => hgw e.symm) _).drewN 1, s2.drewN 1, ((hbr.setCell (p := ⟨ga, x, none⟩) (by show w2.heap.size ≤ ga; omega) _).setCell (by show w2.heap.size ≤ gb; omega) _).drew⟩
          have hsl : ∀ a : Nat, Hid ((u.set x a).length = N ∧ (d.set x a).length = N) := fun a => by
            show _ ∧ _; rw [List.length_set, List.length_set]; exact ⟨hlu.out, hld.out⟩
          have HBR := Lib.hid hbr
          have hw2k : IntKind.i64.wrap (2 * (k : Int)) = 2 * (k : Int) := by rw [IntKind.wrap_i64]; omega
          have hw2a : IntKind.i64.wrap (2 * (k : Int) + 1) = 2 * (k : Int) + 1 := by rw [IntKind.wrap_i64]; omega
          have hw2b : IntKind.i64.wrap (2 * (k : Int) + 2) = 2 * (k : Int) + 2 := by rw [IntKind.wrap_i64]; omega
          clear hau had hcp hcq hbr htx
          have e1 : ((2 * k + 2 : Nat) : Int) = 2 * (k : Int) + 2 := by omega
          have e2 : ((2 * k + 1 : Nat) : Int) = 2 * (k : Int) + 1 := by omega
          cases htx : tb.getD x false with
          | true =>
            rw [htx] at hstep hrm
            have hrm : ((ti : Int) % 2 == 0) = false := hrm
            have hS1 := hset (2 * k + 2) (2 * k + 1)
            have hst2 : Hid (pgS tb (l.drop (k + 1)) (k + 1) (u.set x (2 * k + 2)) (d.set x (2 * k + 1)) = r) := by show _ = _; rw [hstep.out]; rfl
            rw [e1, e2] at hS1
            clear htx hstep hset e1 e2
            go_wp2_with (fail)
            go_region
            go_wp2_with (fail)
            exact ⟨⟨k + 1, _, _, by omega, by go_num, (hsl _).out.1, (hsl _).out.2, hS1.out.1, hS1.out.2.1, hS1.out.2.2, hst2⟩, by simp [RowKit.intOf]; omega⟩
          | false =>
            rw [htx] at hstep hrm
            have hrm : ((ti : Int) % 2 == 0) = true := hrm
            have hS1 := hset (2 * k + 1) (2 * k + 2)
            have hst2 : Hid (pgS tb (l.drop (k + 1)) (k + 1) (u.set x (2 * k + 1)) (d.set x (2 * k + 2)) = r) := by show _ = _; rw [hstep.out]; rfl
            rw [e1, e2] at hS1
            clear htx hstep hset e1 e2
            go_wp2_with (fail)
            go_region
            go_wp2_with (fail)
            exact ⟨⟨k + 1, _, _, by omega, by go_num, (hsl _).out.1, (hsl _).out.2, hS1.out.1, hS1.out.2.1, hS1.out.2.2, hst2⟩, by simp [RowKit.intOf]; omega⟩
        · have hR : Hid ((u, d) = r) := by
            have e : l.drop k = [] := List.drop_eq_nil_of_le (by rw [hN.out]; omega)
            show _ = _; rw [← hf.out, e]; rfl
          have hru : Rd wr (some ⟨ga, 0, none⟩) N (ints u) := by
            have h := hau.rdI (X := []) (by simp); rw [hlu.out] at h; exact h
          have hrd : Rd wr (some ⟨gb, 0, none⟩) N (ints d) := by
            have h := had.rdI (X := []) (by simp); rw [hld.out] at h; exact h
          have HRU := Lib.hid hru; have HRD := Lib.hid hrd
          have hbE := hbF.trans (hbr.mono hbF.size)
          clear hau had hf hru hrd
          go_wp2_with (fail)
          go_ret3
          refine ⟨some ⟨ga, 0, none⟩, N, some ⟨gb, 0, none⟩, N, ?_, ?_, ?_, hbE⟩
          · rw [HLEN.out.1, HLEN.out.2]; rfl
          · rw [HLEN.out.1, ← hR.out]; exact HRU.out
          · rw [HLEN.out.2, ← hR.out]; exact HRD.out
    · go_wp2_with (fail)
      go_loopw [11] (fun v wr => ∃ (k : Nat) (u d : List Nat), k ≤ N ∧ v = .int .i64 k ∧ Hid (u.length = N) ∧ Hid (d.length = N) ∧ Arr wr gb (ints u) ∧ Arr wr ga (ints d) ∧ Below w2.heap.size w2 wr ∧ Hid (pgS tb (l.drop k) k u d = r)) (fun v _ => N - (RowKit.intOf v).toNat)
      case atStart => exact ⟨0, _, _, Nat.zero_le _, rfl, List.length_replicate, List.length_replicate, hx2, hx1, hb3, hst⟩
      case round =>
        clear hx1 hx2 hb3 hst
        obtain ⟨k, u, d, hk, rfl, hlu, hld, hau, had, hbr, hf⟩ := hrel
        by_cases hlt : k < N
        · have hkl : k < l.length := by rw [hN.out]; exact hlt
          have hgw : gb ≠ ga := fun e => hgl.2.2 e.symm
          obtain ⟨gp, op, rfl, hgp, _, hcp⟩ := HR1.out.2 (by omega)
          obtain ⟨gq, oq, rfl, hgq, _, hcq⟩ := HR2.out.2 (by omega)
          have hcx := (hbr.cell (p := ⟨gp, op + k, none⟩) hgp).trans (hcp k hlt)
          rw [ints_getD _ _ hkl] at hcx
          have hxk : l.getD k 0 < N := HPX.out _ (by rw [getD_lt _ _ _ hkl]; exact List.getElem_mem _)
          have hstep : Hid (r = if tb.getD (l.getD k 0) false = true then pgS tb (l.drop (k + 1)) (k + 1) (u.set (l.getD k 0) (2 * k + 2)) (d.set (l.getD k 0) (2 * k + 1)) else pgS tb (l.drop (k + 1)) (k + 1) (u.set (l.getD k 0) (2 * k + 1)) (d.set (l.getD k 0) (2 * k + 2))) := by
            show _ = _; rw [← hf.out, drop_cons l k 0 hkl]; rfl
          generalize l.getD k 0 = x at hcx hxk hstep
          have hct := (hbr.cell (p := ⟨gq, oq + x, none⟩) hgq).trans (hcq x hxk)
          rw [ints_getD _ _ (by rw [HTN.out]; exact hxk)] at hct
          have htx : tb.getD x false = (T.getD x 0 % 2 == 1) := by
            rw [← HTT.out, List.getD_eq_getElem?_getD, List.getD_eq_getElem?_getD, List.getElem?_map, List.getElem?_eq_getElem (show x < T.length by rw [HTN.out]; exact hxk)]; rfl
          generalize T.getD x 0 = ti at hct htx
          have hrn : (ti : Int).tmod 2 = (ti : Int) % 2 := by rw [Int.tmod_eq_emod_of_nonneg (by omega)]
          have hrm : ((ti : Int) % 2 == 0) = !(ti % 2 == 1) := by
            rw [Bool.eq_iff_iff]; simp only [beq_iff_eq, Bool.not_eq_true', beq_eq_false_iff_ne, ne_eq]; omega
          rw [← htx] at hrm
          obtain ⟨iu, fu⟩ := hau.2 x (by rw [ints_length, hlu.out]; exact hxk)
          obtain ⟨il, fl⟩ := had.2 x (by rw [ints_length, hld.out]; exact hxk)
          rw [ints_getD _ _ (by rw [hlu.out]; exact hxk)] at iu
          rw [ints_getD _ _ (by rw [hld.out]; exact hxk)] at il
          have hset : ∀ a b : Nat, Hid (Arr (((wr.setCell ⟨gb, x, none⟩ (.int .i64 (a : Int))).setCell ⟨ga, x, none⟩ (.int .i64 (b : Int))).drew) gb (ints (u.set x a)) ∧ Arr (((wr.setCell ⟨gb, x, none⟩ (.int .i64 (a : Int))).setCell ⟨ga, x, none⟩ (.int .i64 (b : Int))).drew) ga (ints (d.set x b)) ∧ Below w2.heap.size w2 (((wr.setCell ⟨gb, x, none⟩ (.int .i64 (a : Int))).setCell ⟨ga, x, none⟩ (.int .i64 (b : Int))).drew)) := fun a b => by
            have s1 := hau.set x (by rw [ints_length, hlu.out]; exact hxk) (.int .i64 (a : Int))
            rw [ints_set] at s1
            have s2 := (had.other (p := ⟨gb, x, none⟩) hgw (.int .i64 (a : Int))).set x (by rw [ints_length, hld.out]; exact hxk) (.int .i64 (b : Int))
            rw [ints_set] at s2
            exact ⟨(s1.other (fun e => hgw e.symm) _).drewN 1, s2.drewN 1, ((hbr.setCell (p := ⟨gb, x, none⟩) (by show w2.heap.size ≤ gb; omega) _).setCell (by show w2.heap.size ≤ ga; omega) _).drew⟩
          have hsl : ∀ a : Nat, Hid ((u.set x a).length = N ∧ (d.set x a).length = N) := fun a => by
            show _ ∧ _; rw [List.length_set, List.length_set]; exact ⟨hlu.out, hld.out⟩
          have HBR := Lib.hid hbr
          have hw2k : IntKind.i64.wrap (2 * (k : Int)) = 2 * (k : Int) := by rw [IntKind.wrap_i64]; omega
          have hw2a : IntKind.i64.wrap (2 * (k : Int) + 1) = 2 * (k : Int) + 1 := by rw [IntKind.wrap_i64]; omega
          have hw2b : IntKind.i64.wrap (2 * (k : Int) + 2) = 2 * (k : Int) + 2 := by rw [IntKind.wrap_i64]; omega
          clear hau had hcp hcq hbr htx
          have e1 : ((2 * k + 2 : Nat) : Int) = 2 * (k : Int) + 2 := by omega
          have e2 : ((2 * k + 1 : Nat) : Int) = 2 * (k : Int) + 1 := by omega
          cases htx : tb.getD x false with
          | true =>
            rw [htx] at hstep hrm
            have hrm : ((ti : Int) % 2 == 0) = false := hrm
            have hS1 := hset (2 * k + 2) (2 * k + 1)
            have hst2 : Hid (pgS tb (l.drop (k + 1)) (k + 1) (u.set x (2 * k + 2)) (d.set x (2 * k + 1)) = r) := by show _ = _; rw [hstep.out]; rfl
            rw [e1, e2] at hS1
            clear htx hstep hset e1 e2
            go_wp2_with (fail)
            go_region
            go_wp2_with (fail)
            exact ⟨⟨k + 1, _, _, by omega, by go_num, (hsl _).out.1, (hsl _).out.2, hS1.out.1, hS1.out.2.1, hS1.out.2.2, hst2⟩, by simp [RowKit.intOf]; omega⟩
          | false =>
            rw [htx] at hstep hrm
            have hrm : ((ti : Int) % 2 == 0) = true := hrm
            have hS1 := hset (2 * k + 1) (2 * k + 2)
            have hst2 : Hid (pgS tb (l.drop (k + 1)) (k + 1) (u.set x (2 * k + 1)) (d.set x (2 * k + 2)) = r) := by show _ = _; rw [hstep.out]; rfl
            rw [e1, e2] at hS1
            clear htx hstep hset e1 e2
            go_wp2_with (fail)
            go_region
            go_wp2_with (fail)
            exact ⟨⟨k + 1, _, _, by omega, by go_num, (hsl _).out.1, (hsl _).out.2, hS1.out.1, hS1.out.2.1, hS1.out.2.2, hst2⟩, by simp [RowKit.intOf]; omega⟩
        · have hR : Hid ((u, d) = r) := by
            have e : l.drop k = [] := List.drop_eq_nil_of_le (by rw [hN.out]; omega)
            show _ = _; rw [← hf.out, e]; rfl
          have hru : Rd wr (some ⟨gb, 0, none⟩) N (ints u) := by
            have h := hau.rdI (X := []) (by simp); rw [hlu.out] at h; exact h
          have hrd : Rd wr (some ⟨ga, 0, none⟩) N (ints d) := by
            have h := had.rdI (X := []) (by simp); rw [hld.out] at h; exact h
          have HRU := Lib.hid hru; have HRD := Lib.hid hrd
          have hbE := hbF.trans (hbr.mono hbF.size)
          clear hau had hf hru hrd
          go_wp2_with (fail)
          go_ret3
          refine ⟨some ⟨gb, 0, none⟩, N, some ⟨ga, 0, none⟩, N, ?_, ?_, ?_, hbE⟩
          · rw [HLEN.out.1, HLEN.out.2]; rfl
          · rw [HLEN.out.1, ← hR.out]; exact HRU.out
          · rw [HLEN.out.2, ← hR.out]; exact HRD.out
  · have hP : Hid (pagesP cs = ([], [])) := by show _ = _; unfold pagesP; rw [if_neg hz]
    have hz2 : (chkF cs != 0) = true := by simpa using hz
    rw [hP.out]
    generalize chkF cs = z at h1 hz2 ⊢
    clear hz hP
    go_enter Tryd.func11, Tryd.ntmps11
    go_wp2_with (fail)
    refine (h1 _).mono ?_; rintro e w1 ⟨rfl, hw1⟩
    rw [hw1]
    go_wp2_with (fail)
    go_ret3
    exact ⟨none, 0, none, 0, rfl, rd_nil _ _ _, rd_nil _ _ _, Below.refl _ _⟩
end Go.Proofs.YtbkmicimpgabgaaDoor
