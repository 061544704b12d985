/-
  Package quire's fold: the right half of the columns is turned over onto the left half.
-/
import Derived.Test.YtbkmicimpgabgaaDoorCrease
set_option linter.unusedSimpArgs false
set_option linter.unusedVariables false
namespace Go.Proofs.YtbkmicimpgabgaaDoor
open Go.RowKit Go.Lib Go.Proofs.Quire

theorem Arr.rdI {w : World} {g : Nat} {l : List Nat} (h : Arr w g (ints l)) {X : List Nat} (hx : g ∉ X) : RdX w X (some ⟨g, 0, none⟩) l.length (ints l) := by
  have := h.rd hx; rwa [ints_length] at this
theorem Tryd.infoR : (Tryd.prog.info? 23).map (fun i => (i.zero, i.size, i.bytes)) = some (some (.slice none 0 0), 1, 24) := by kernel_rfl
def ownL (v : Value) : List Nat := match v.ownBlock with | some k => [k] | none => []
theorem mem_ownL {v : Value} {k : Nat} (h : k ∈ ownL v) : v.ownBlock = some k := by
  unfold ownL at h
  cases hv : v.ownBlock with
  | none => rw [hv] at h; simp at h
  | some j => rw [hv] at h; simp at h; rw [h]
/-- the values of a row of columns: each is a row of numbers, not in the blocks X -/
def EachN (w : World) (X : List Nat) (xs : List Value) (cols : List (List Nat)) : Prop :=
  xs.length = cols.length ∧ ∀ j, j < cols.length → ∃ Aj cj, xs[j]? = some (.slice Aj (cols.getD j []).length cj) ∧ RdW w X Aj (cols.getD j []).length (ints (cols.getD j [])) ∧ (cols.getD j []).length ≤ cj
theorem EachN.keep {X Y : List Nat} {w w' : World} {xs : List Value} {cols : List (List Nat)} (h : EachN w X xs cols) (hk : Keep Y w w') (hs : ∀ k, k ∈ Y → k ∈ X) : EachN w' X xs cols :=
  ⟨h.1, fun j hj => by obtain ⟨Aj, cj, h1, h2, h3⟩ := h.2 j hj; exact ⟨Aj, cj, h1, h2.keep hk hs, h3⟩⟩
theorem EachN.more {X Y : List Nat} {w : World} {xs : List Value} {cols : List (List Nat)} (h : EachN w X xs cols) (hs : ∀ k, k ∈ Y → k ∈ X ∨ w.heap.size ≤ k) : EachN w Y xs cols :=
  ⟨h.1, fun j hj => by obtain ⟨Aj, cj, h1, h2, h3⟩ := h.2 j hj; exact ⟨Aj, cj, h1, h2.more hs, h3⟩⟩
theorem EachN.nil (w : World) (X : List Nat) : EachN w X [] [] := ⟨rfl, fun j h => absurd h (by simp)⟩
theorem EachN.snoc {X : List Nat} {w : World} {xs : List Value} {cols : List (List Nat)} {l : List Nat} {A : Option Addr} {c : Nat} (h : EachN w X xs cols) (hl : RdW w X A l.length (ints l)) (hcap : l.length ≤ c) : EachN w X (xs ++ [.slice A l.length c]) (cols ++ [l]) := by
  refine ⟨by simp [h.1], fun j hj => ?_⟩
  rw [List.length_append] at hj
  by_cases hlt : j < cols.length
  · obtain ⟨Aj, cj, h1, h2⟩ := h.2 j hlt
    have e : (cols ++ [l]).getD j [] = cols.getD j [] := by rw [List.getD_eq_getElem?_getD, List.getElem?_append_left hlt, ← List.getD_eq_getElem?_getD]
    rw [e]
    exact ⟨Aj, cj, by rw [List.getElem?_append_left (by rw [h.1]; exact hlt)]; exact h1, h2⟩
  · have : j = cols.length := by simp at hj; omega
    subst this
    have e : (cols ++ [l]).getD cols.length [] = l := by simp [List.getD_eq_getElem?_getD]
    rw [e]
    exact ⟨A, c, by rw [← h.1]; simp, hl, hcap⟩
theorem EachN.cols {w : World} {B : Nat} {X Y : List Nat} {A : Option Addr} {c : Nat} {xs : List Value} {cols : List (List Nat)} (h : EachN w Y xs cols) (hown : w.ownsRow B 23 1 (.slice A cols.length c) cols.length xs) (hY : ∀ k, k ∈ X → k ∈ Y) (hX : ∀ k, k ∈ X → k < B) : Cols w X A cols := fun hn => by
  obtain ⟨_, hrd⟩ := own_rd hown hX
  obtain ⟨g, o, hA, hg, hx, hc⟩ := hrd hn
  refine ⟨g, o, hA, hg, hx, fun i hi => ?_⟩
  obtain ⟨Aj, cj, h1, h2, h3⟩ := h.2 i hi
  refine ⟨Aj, cj, ?_, h2.mono hY, h3⟩
  rw [hc i hi, List.getD_eq_getElem?_getD, h1]; rfl
/-- a row of columns, and one more behind it -/
theorem append_col {ops : Array Oper} {rest : List Oper} {o : Oper} {a : Act} {Q : Exit → Act → World → Prop} (w0 : World) (hgd : o.guard = none) (s x : Operand)
    (ho : o.op = .call { callee := .builtin .append, args := #[s, x], argTypes := #[41, 41] })
    (B n : Nat) (v : Value) (X : List Nat) (xs : List Value) (acc : List (List Nat)) (l : List Nat) (Al : Option Addr) (cl : Nat) (hs : a.eval s = v)
    (hown : w0.ownsRow B 23 1 v n xs) (heach : EachN w0 (ownL v ++ X) xs acc) (hl : RdW w0 (ownL v ++ X) Al l.length (ints l)) (hcap : l.length ≤ cl) (g : Nat) (hgz : w0.heap.size = g) (hx : a.eval x = .slice (some ⟨g, 0, none⟩) 1 1) (hn : n ≤ 1000) (hB : B ≤ w0.heap.size) (hX : ∀ k, k ∈ X → k < B)
    (h : ∀ A c xs' w', w'.ownsRow B 23 1 (.slice A (n + 1) c) (n + 1) xs' → EachN w' (ownL (.slice A (n + 1) c) ++ X) xs' (acc ++ [l]) → Keep (ownL v) w0 w' → wpList Tryd.prog ops Q rest (a.put o.dst (.slice A (n + 1) c)) w') :
    wpList Tryd.prog ops Q (o :: rest) a (w0.alloc (.cells #[.slice Al l.length cl] 23)) := by
  subst hgz
  obtain ⟨i0, hi, hz0, hz1, hz2⟩ := info_parts Tryd.infoR
  have hk0 : Keep [] w0 (w0.alloc (.cells #[.slice Al l.length cl] 23)) := (Keep.refl _ _).alloc _
  have hsz : (w0.alloc (.cells #[.slice Al l.length cl] 23)).heap.size = w0.heap.size + 1 := by simp
  refine wpList_append_own_at _ hgd s x 41 ho B 23 i0 (.slice none 0 0) 1 24 Tryd.underlying41 hi hz0 hz1 hz2 rfl (by decide) v n _ hs (hown.alloc _) ⟨w0.heap.size, 0, none⟩ 1 1 [.slice Al l.length cl] hx rfl (cell_one_new _ _ _) (fun u hu => by rw [List.mem_singleton.1 hu]; rfl) (by unfold maxLen; omega) (by omega) (by rw [hsz]; omega) ?_
  intro v' w' h1 h2 _ h4
  obtain ⟨A, c, rfl⟩ := ownsRow_shape h1
  have hK : Keep (ownL v) (w0.alloc (.cells #[.slice Al l.length cl] 23)) w' := Keep.of_grown h2 (fun k e => by unfold ownL; rw [e]; simp)
  have hm : ∀ k, k ∈ ownL v ++ (ownL (Value.slice A (n + 1) c) ++ X) → k ∈ ownL v ++ X ∨ (w0.alloc (.cells #[.slice Al l.length cl] 23)).heap.size ≤ k := fun k hk => by
    rcases List.mem_append.1 hk with hk | hk
    · exact .inl (List.mem_append_left _ hk)
    · rcases List.mem_append.1 hk with hk | hk
      · have e := mem_ownL hk
        rcases h4 with h4 | h4
        · left; apply List.mem_append_left; unfold ownL; rw [← h4, e]; simp
        · right; rw [e] at h4; injection h4 with h4; omega
      · exact .inl (List.mem_append_right _ hk)
  have he2 := (heach.keep (Y := []) hk0 (by simp)).snoc (c := cl) (hl.keep (Y := []) hk0 (by simp)) hcap
  have he3 := (he2.more hm).keep hK (fun k hk => List.mem_append_left _ hk)
  exact h A c _ w' h1 (he3.more (fun k hk => .inl (List.mem_append_right _ hk))) ((Keep.mono hk0 (by simp)).trans hK)

/-- a strip in memory: its own block, that of the marks, that of the creases -/
def StripAt (w : World) (p gt gc : Nat) (s : St) : Prop :=
  gt ≠ p ∧ gc ≠ p ∧ gt ≠ gc ∧ ∃ Ac cc ct ce, s.cols.length ≤ cc ∧ Arr w p [.slice Ac s.cols.length cc, .slice (some ⟨gt, 0, none⟩) s.trn.length ct, .slice (some ⟨gc, 0, none⟩) s.cre.length ce] ∧
    Arr w gt (bools s.trn) ∧ Arr w gc (u8s s.cre) ∧ Cols w (p :: gt :: gc :: List.range p) Ac s.cols
def FoldPost (p gt gc : Nat) (s : St) (w : World) (e : Ending) (w' : World) : Prop := e = .returned (.tuple #[]) ∧ StripAt w' p gt gc s ∧ Keep [p, gt, gc] w w'
set_option maxRecDepth 100000 in
set_option maxHeartbeats 8000000 in
theorem fold_any (p gt gc : Nat) (b : UInt8) (s : St) (w : World) (hs : StripAt w p gt gc s) (hN : s.trn.length ≤ 64) (hce : s.cre.length + 1 = s.trn.length) (hm : 0 < s.cols.length ∧ s.cols.length ≤ 64)
    (hx : ∀ c ∈ s.cols, 0 < c.length ∧ c.length ≤ 64 ∧ ∀ x ∈ c, x < s.trn.length) (hmk : ∀ x ∈ marks s.cols 0 (List.replicate s.trn.length 0), x ≤ 1000) :
    Calls Tryd.prog 57 #[.pointer (some ⟨p, 0, none⟩), .int .u8 b.toNat] w (FoldPost p gt gc (fold1 (b == 111) s) w) := by
  obtain ⟨h1, h2, h3, Ac, cc, ct, ce, hcc, hp, ht, hc, hcols⟩ := hs
  have hcr := crease_any p gt gc ct cc ce Ac b s w hp ht hc h1 h2 h3 (fun hn => by obtain ⟨g, o, hA, hg, _, hh⟩ := hcols hn; exact ⟨g, o, hA, hg, by simp, fun i hi => by obtain ⟨Ai, ci, k1, k2, k3⟩ := hh i hi; exact ⟨Ai, ci, k1, k2.mono (by simp), k3⟩⟩) (by omega) hce ⟨hm.1, by omega⟩ (fun c hc => ⟨by have := (hx c hc).2.1; omega, (hx c hc).2.2⟩) hmk
  obtain ⟨ncre, hncre⟩ : ∃ z, Hid ((fold1 (b == 111) s).cre = z) := ⟨_, rfl⟩
  change Calls _ _ _ _ (CreasePost p gc _ (fold1 (b == 111) s).cre w) at hcr
  rw [hncre.out] at hcr
  have hnl : Hid (ncre.length = s.cre.length) := by show _ = _; rw [← hncre.out]; exact creL_len _ _ _ _ _ _ _
  have hb111 : ((b.toNat : Int) == 111) = (b == 111) := byte_eq b 111 (by omega)
  obtain ⟨r, hr⟩ : ∃ r, Hid (foldL (b == 111) s.cols (s.cols.length / 2 - 0) 0 [] s.trn = r) := ⟨_, rfl⟩
  have hfin : Hid (fold1 (b == 111) s = { cols := r.1, trn := r.2, cre := ncre }) := by
    show _ = _
    rw [← hr.out, ← hncre.out]; rfl
  rw [hfin.out]
  clear hncre hfin hmk
  obtain ⟨cols, t, c0⟩ := s
  simp only at *
  have HX := Lib.hid hx
  have HCR := Lib.hid hcr
  generalize (b == 111) = o at hb111 hr
  obtain ⟨half, hhalf⟩ : ∃ half, Hid (cols.length / 2 = half) := ⟨_, rfl⟩
  rw [hhalf.out] at hr
  have hh1 : half ≤ cols.length := by rw [← hhalf.out]; omega
  have hh2 : 2 * half ≤ cols.length := by rw [← hhalf.out]; omega
  obtain ⟨hm0, hm1⟩ := hm
  have hpl := hp.1; have htl := ht.1; have hcl := hc.1
  clear hcr hx
  go_enter Tryd.func57, Tryd.ntmps57
  go_wp2_with (fail)
  refine HCR.out.mono ?_
  rintro e w1 ⟨rfl, hc1, hp1, hk1⟩
  have ht1 := ht.keep hk1 (by simpa using h3)
  have hcols1 := hcols.keep hk1 (by simp)
  have hK1 : Keep [p, gt, gc] w w1 := hk1.mono (by simp)
  have hz1 := hk1.size
  have c0' : w1.cell? ⟨p, 0, none⟩ = some (.slice Ac cols.length cc) := (hp1.2 0 (by simp)).1
  clear HCR hp ht hc hcols hk1
  go_wp2_with (fail)
  have hb2 : Below w1.heap.size w1 (w1.alloc (.cells #[] 23)) := (Below.refl _ w1).alloc (Nat.le_refl _) _
  have hown2 := World.ownsRow_made (base := w1.heap.size) (e := 23) (size := 1) w1 #[] 0 (Nat.le_refl _) (Nat.zero_le _) rfl
  have hp2 := hp1.below hb2
  have ht2 := ht1.below hb2
  have hc2 := hc1.below hb2
  have hcols2 := hcols1.keep (Y := []) (.of_below hb2) (by simp)
  have hK2 := hK1.trans (Keep.of_below (X := [p, gt, gc]) hb2)
  have hz2 : (w1.alloc (.cells #[] 23)).heap.size = w1.heap.size + 1 := by simp
  generalize w1.alloc (.cells #[] 23) = w2 at hb2 hown2 hp2 ht2 hc2 hcols2 hK2 hz2 ⊢
  generalize hBe : w1.heap.size = B at hb2 hown2 hz2 hz1 ⊢
  have HB := Lib.hid hBe
  have hKw : Keep [gt] w1 w2 := by subst hBe; exact .of_below hb2
  clear hBe
  have c2' : w2.cell? ⟨p, 0, none⟩ = some (.slice Ac cols.length cc) := (hp2.2 0 (by simp)).1
  have q1 : IntKind.i64.wrap ((cols.length : Int).tdiv 2) = (half : Int) := by
    rw [Int.tdiv_eq_ediv_of_nonneg (by omega), IntKind.wrap_i64]; have := hhalf.out; omega
  have q2 : half ≤ cc := by omega
  have q3 : (half : Int) ≤ (cc : Int) := by omega
  have q4 : (cols.length : Int) / 2 = (half : Int) := by have := hhalf.out; omega
  have q5 : IntKind.i64.wrap (half : Int) = (half : Int) := by rw [IntKind.wrap_i64]; omega
  clear hc1 hp1 ht1 c0' hb2 hcols2 hK2
  go_quiet (fail)
  go_wp2_with (fail)
  have hown3 : (w2.drewN nq).ownsRow B 23 1 (.slice (some ⟨B, 0, none⟩) 0 0) 0 [] := hown2
  have hp3 := hp2.drewN nq; have ht3 := ht2.drewN nq; have hc3 := hc2.drewN nq
  have hKw3 := hKw.drewN nq
  clear hown2 hp2 ht2 hc2 hKw c2' q1 q2 q3 q4 q5
  generalize w2.drewN nq = w3 at hown3 hp3 ht3 hc3 hKw3 ⊢
  go_loopw [5, 31] (fun v5 v31 wr => ∃ (i : Nat) (A5 : Option Addr) (c5 : Nat) (acc : List (List Nat)) (xs : List Value) (t1 : List Bool), i ≤ half ∧ v5 = .slice A5 i c5 ∧ v31 = .int .i64 i ∧ Hid (acc.length = i) ∧ Hid (t1.length = t.length) ∧
      wr.ownsRow B 23 1 (.slice A5 i c5) i xs ∧ EachN wr (ownL (.slice A5 i c5) ++ (p :: gt :: gc :: List.range p)) xs acc ∧ Arr wr p [.slice Ac cols.length cc, .slice (some ⟨gt, 0, none⟩) t.length ct, .slice (some ⟨gc, 0, none⟩) c0.length ce] ∧
      Arr wr gt (bools t1) ∧ Arr wr gc (u8s ncre) ∧ Keep [gt] w1 wr ∧ Hid (foldL o cols (half - i) i acc t1 = r)) (fun _ v _ => half - (RowKit.intOf v).toNat)
  case atStart => exact ⟨0, _, _, [], [], t, Nat.zero_le _, rfl, rfl, rfl, rfl, hown3, EachN.nil _ _, hp3, ht3, hc3, hKw3, hr⟩
  case round =>
    clear hown3 hp3 ht3 hc3 hKw3 hr
    obtain ⟨i, A5, c5, acc, xs, t1, hi, rfl, rfl, hla, hlt1, hown, heach, hpw, htw, hcw, hKr, hf⟩ := hrel
    have hBr : B ≤ wr.heap.size := by rw [← HB.out]; exact hKr.size
    by_cases hlt : i < half
    · have hcr := hcols1.keep hKr (by simp)
      obtain ⟨g, og, rfl, hg, _, hcc2⟩ := hcr hm0
      obtain ⟨Al, cl, hcell_l, ⟨hrd_l, _⟩, _⟩ := hcc2 i (by omega)
      obtain ⟨Ar, cr, hcell_r, ⟨hrd_r, _⟩, _⟩ := hcc2 (cols.length - 1 - i) (by omega)
      have hst : Hid (foldL o cols (half - (i + 1)) (i + 1) (acc ++ [joinC o (cols.getD i []) (cols.getD (cols.length - 1 - i) []).reverse]) (flips (cols.getD (cols.length - 1 - i) []).reverse t1) = r) := by show _ = _; rw [← hf.out]; exact (foldL_step hlt).symm
      obtain ⟨hL0, hL1, _⟩ := HX.out (cols.getD i []) (by rw [getD_lt _ _ _ (by omega)]; exact List.getElem_mem _)
      obtain ⟨hR0, hR1, hR2⟩ := HX.out (cols.getD (cols.length - 1 - i) []) (by rw [getD_lt _ _ _ (by omega)]; exact List.getElem_mem _)
      generalize cols.getD i [] = L at hcell_l hrd_l hst hL0 hL1
      generalize cols.getD (cols.length - 1 - i) [] = R at hcell_r hrd_r hst hR0 hR1 hR2
      have hp0 : wr.cell? ⟨p, 0, none⟩ = some (.slice (some ⟨g, og, none⟩) cols.length cc) := (hpw.2 0 (by simp)).1
      have htn := turn_any p gt ct (.slice (some ⟨g, og, none⟩) cols.length cc) (.slice (some ⟨gc, 0, none⟩) c0.length ce) Ar cr R t1 wr (by rw [hlt1.out]; exact hpw) htw h1 (hrd_r.mono (by simp)) hR0 (by omega) (by rw [hlt1.out]; omega) (by rw [hlt1.out]; exact hR2)
      have hw1 : ((cols.length : Int) - 1 - (i : Int)).toNat = cols.length - 1 - i := by omega
      have hw2 : (0 : Int) ≤ (cols.length : Int) - 1 - (i : Int) := by omega
      have hw3 : (cols.length : Int) - 1 - (i : Int) < (cols.length : Int) := by omega
      have hl2 : Hid ((flips R.reverse t1).length = t.length) := by show _ = _; rw [flips_len]; exact hlt1.out
      have hrl : R.reverse.length = R.length := by simp
      have hRv : 0 < R.reverse.length := by omega
      have hRv1 : R.reverse.length ≤ 64 := by omega
      generalize flips R.reverse t1 = t2 at htn hst hl2
      generalize R.reverse = Rv at htn hst hRv hRv1
      clear hcc2 hrl hR2 hrd_r htw
      go_wp2_with (fail)
      refine htn.mono ?_
      rintro e w4 ⟨g4, rfl, hg4, ha4, ht4, hk4⟩
      have hz4 := hk4.size
      have hp4 := hpw.keep hk4 (by simpa using fun e => h1 e.symm)
      have hc4 := hcw.keep hk4 (by simpa using fun e => h3 e.symm)
      have hL4 := hrd_l.keep hk4 (by simp)
      have hown4 := own_keep hown hk4 (fun k e => by have := (hown.lt k e).1; have := htl; have := HB.out; simp; omega)
      have heach4 := heach.keep hk4 (by simp)
      have hK4 := hKr.trans hk4
      have hoL : ∀ k, k ∈ ownL (.slice A5 i c5) → B ≤ k ∧ k < wr.heap.size := fun k hk => hown.lt k (mem_ownL hk)
      clear htn hk4 hrd_l hpw hcw hown heach hKr hcell_l hcell_r hp0 hw1 hw2 hw3
      cases o
      · have hsk : Calls Tryd.prog 67 _ w4 (StackPost w4 (joinC false L Rv)) := stack_any Al (some ⟨g4, 0, none⟩) cl Rv.length L Rv w4 (hL4.mono (Y := []) (by simp)) (ha4.rdI (X := []) (by simp)) hL0 hRv (by omega)
        generalize joinC false L Rv = LR at hsk hst
        go_wp2_with (fail)
        refine hsk.mono ?_
        rintro e w6 ⟨g6, rfl, hg6, ha6, hb6⟩
        have hz6 := hb6.size
        have hX6 : ∀ k, k ∈ ownL (.slice A5 i c5) ++ (p :: gt :: gc :: List.range p) → k ≠ g6 := fun k hk => by
          rcases List.mem_append.1 hk with hk | hk
          · have := (hoL k hk).2; omega
          · simp at hk; rcases hk with rfl | rfl | rfl | hk <;> omega
        have hl6 : RdW w6 (ownL (.slice A5 i c5) ++ (p :: gt :: gc :: List.range p)) (some ⟨g6, 0, none⟩) LR.length (ints LR) := ⟨ha6.rdI (X := ownL (.slice A5 i c5) ++ (p :: gt :: gc :: List.range p)) (fun hk => hX6 _ hk rfl), fun _ => ⟨g6, rfl, ha6⟩⟩
        have hown6 := own_below hown4 hb6
        have heach6 := heach4.keep (Y := []) (.of_below hb6) (by simp)
        have hXB : ∀ k, k ∈ (p :: gt :: gc :: List.range p) → k < B := fun k hk => by
          have := HB.out; simp at hk; rcases hk with rfl | rfl | rfl | hk <;> omega
        have hB6 : B ≤ w6.heap.size := by omega
        have hi1000 : i ≤ 1000 := by omega
        have hp6 := hp4.below hb6; have ht6 := ht4.below hb6; have hc6 := hc4.below hb6
        have hK6 := hK4.trans (Keep.of_below (X := [gt]) hb6)
        clear hown4 heach4 hp4 ht4 hc4 hK4 hb6 ha4 ha6 hL4 hX6
        go_wp2_with (at_builtin; refine append_col w6 rfl _ _ rfl B i (.slice A5 i c5) (p :: gt :: gc :: List.range p) xs acc LR (some ⟨g6, 0, none⟩) LR.length rfl hown6 heach6 hl6 (Nat.le_refl _) w6.heap.size rfl rfl hi1000 hB6 hXB ?_)
        intro A7 c7 xs7 w7 hown7 heach7 hK7
        have hp7 := hp6.keep hK7 (fun hk => by have := (hoL p hk).1; have := HB.out; omega)
        have ht7 := ht6.keep hK7 (fun hk => by have := (hoL gt hk).1; have := HB.out; omega)
        have hc7 := hc6.keep hK7 (fun hk => by have := (hoL gc hk).1; have := HB.out; omega)
        have hKf := hK6.then hK7 (fun k hk => .inr (by have := (hoL k hk).1; have := HB.out; omega))
        have hla7 : ∀ l : List Nat, Hid ((acc ++ [l]).length = i + 1) := fun l => by show _ = _; rw [List.length_append, hla.out]; rfl
        clear hown6 heach6 hl6 hp6 ht6 hc6 hK6 hK7
        go_wp2_with (fail)
        exact ⟨⟨i + 1, A7, c7, _, xs7, t2, by omega, rfl, by go_num, hla7 _, hl2, hown7, heach7, hp7, ht7, hc7, hKf, hst⟩, by simp [RowKit.intOf]; omega⟩
      · have hsk : Calls Tryd.prog 67 _ w4 (StackPost w4 (joinC true L Rv)) := stack_any (some ⟨g4, 0, none⟩) Al Rv.length cl Rv L w4 (ha4.rdI (X := []) (by simp)) (hL4.mono (Y := []) (by simp)) hRv hL0 (by omega)
        generalize joinC true L Rv = LR at hsk hst
        go_wp2_with (fail)
        refine hsk.mono ?_
        rintro e w6 ⟨g6, rfl, hg6, ha6, hb6⟩
        have hz6 := hb6.size
        have hX6 : ∀ k, k ∈ ownL (.slice A5 i c5) ++ (p :: gt :: gc :: List.range p) → k ≠ g6 := fun k hk => by
          rcases List.mem_append.1 hk with hk | hk
          · have := (hoL k hk).2; omega
          · simp at hk; rcases hk with rfl | rfl | rfl | hk <;> omega
        have hl6 : RdW w6 (ownL (.slice A5 i c5) ++ (p :: gt :: gc :: List.range p)) (some ⟨g6, 0, none⟩) LR.length (ints LR) := ⟨ha6.rdI (X := ownL (.slice A5 i c5) ++ (p :: gt :: gc :: List.range p)) (fun hk => hX6 _ hk rfl), fun _ => ⟨g6, rfl, ha6⟩⟩
        have hown6 := own_below hown4 hb6
        have heach6 := heach4.keep (Y := []) (.of_below hb6) (by simp)
        have hXB : ∀ k, k ∈ (p :: gt :: gc :: List.range p) → k < B := fun k hk => by
          have := HB.out; simp at hk; rcases hk with rfl | rfl | rfl | hk <;> omega
        have hB6 : B ≤ w6.heap.size := by omega
        have hi1000 : i ≤ 1000 := by omega
        have hp6 := hp4.below hb6; have ht6 := ht4.below hb6; have hc6 := hc4.below hb6
        have hK6 := hK4.trans (Keep.of_below (X := [gt]) hb6)
        clear hown4 heach4 hp4 ht4 hc4 hK4 hb6 ha4 ha6 hL4 hX6
        go_wp2_with (at_builtin; refine append_col w6 rfl _ _ rfl B i (.slice A5 i c5) (p :: gt :: gc :: List.range p) xs acc LR (some ⟨g6, 0, none⟩) LR.length rfl hown6 heach6 hl6 (Nat.le_refl _) w6.heap.size rfl rfl hi1000 hB6 hXB ?_)
        intro A7 c7 xs7 w7 hown7 heach7 hK7
        have hp7 := hp6.keep hK7 (fun hk => by have := (hoL p hk).1; have := HB.out; omega)
        have ht7 := ht6.keep hK7 (fun hk => by have := (hoL gt hk).1; have := HB.out; omega)
        have hc7 := hc6.keep hK7 (fun hk => by have := (hoL gc hk).1; have := HB.out; omega)
        have hKf := hK6.then hK7 (fun k hk => .inr (by have := (hoL k hk).1; have := HB.out; omega))
        have hla7 : ∀ l : List Nat, Hid ((acc ++ [l]).length = i + 1) := fun l => by show _ = _; rw [List.length_append, hla.out]; rfl
        clear hown6 heach6 hl6 hp6 ht6 hc6 hK6 hK7
        go_wp2_with (fail)
        exact ⟨⟨i + 1, A7, c7, _, xs7, t2, by omega, rfl, by go_num, hla7 _, hl2, hown7, heach7, hp7, ht7, hc7, hKf, hst⟩, by simp [RowKit.intOf]; omega⟩
    · obtain rfl : half = i := by omega
      have hR : Hid ((acc, t1) = r) := by show _ = _; rw [← hf.out, Nat.sub_self]; rfl
      obtain ⟨hz0, hfz0⟩ := hpw.2 0 (by simp)
      have hr1 : Hid (r.1 = acc) := by show _ = _; rw [← hR.out]
      have hr2 : Hid (r.2 = t1) := by show _ = _; rw [← hR.out]
      have hcolsF : Cols wr (p :: gt :: gc :: List.range p) A5 acc := heach.cols (c := c5) (B := B) (by rw [hla.out]; exact hown) (fun k hk => List.mem_append_right _ hk) (fun k hk => by
          have := HB.out; simp at hk; rcases hk with rfl | rfl | rfl | hk <;> omega)
      have hcapF : half ≤ c5 := by
        rcases hown.2 with ⟨hv, _⟩ | ⟨_, cap, _, hv, _, _, hcap, _⟩
        · injection hv with _ _ h; omega
        · injection hv with _ _ h; omega
      have hpF := hpw.set 0 (by simp) (.slice A5 half c5)
      have HPF := Lib.hid hpF; have HCF := Lib.hid hcolsF
      clear hR hf hpF hcolsF
      go_wp2_with (fail)
      go_end0
      refine ⟨rfl, ⟨h1, h2, h3, A5, c5, ct, ce, ?_, ?_, ?_, ?_, ?_⟩, ?_⟩
      · show r.1.length ≤ c5
        rw [hr1.out, hla.out]; exact hcapF
      · have h := HPF.out
        show Arr _ p [.slice A5 r.1.length c5, .slice (some ⟨gt, 0, none⟩) r.2.length ct, .slice (some ⟨gc, 0, none⟩) ncre.length ce]
        rw [hr1.out, hr2.out, hla.out, hlt1.out, hnl.out]; exact h
      · show Arr _ gt (bools r.2)
        rw [hr2.out]; exact htw.other (fun e => h1 e.symm) _
      · exact hcw.other (fun e => h2 e.symm) _
      · show Cols _ (p :: gt :: gc :: List.range p) A5 r.1
        rw [hr1.out]
        exact HCF.out.keep (Y := [p]) ((Keep.refl _ _).setCell (.inl (by simp)) _) (by simp)
      · exact (hK1.then hKr (by simp)).setCell (.inl (by simp)) _
end Go.Proofs.YtbkmicimpgabgaaDoor
