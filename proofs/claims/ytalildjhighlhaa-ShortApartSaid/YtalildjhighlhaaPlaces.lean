/-
  The walk of the reference's places: it returns a new row of all places of a part, each a row of its own.
-/
import Derived.Test.YtalildjhighlhaaRefA
import Derived.Test.YtalildjhighlhaaMathB
import Derived.Test.YtalildjhighlhaaMost
import Derived.Test.YtalildjhighlhaaSame
import Derived.Laws.AppendOwnNone
namespace Go.Proofs.Ytalildjhighlhaa
open Go.RowKit Go.Proofs.Short Go.Lib

theorem Try.infoSl : (Try.prog.info? 29).map (fun i => (i.zero, i.size, i.bytes)) = some (some (.slice none 0 0), 1, 24) := by kernel_rfl

theorem own_one (w : World) (v : Value) (e : TypeId) (base : Nat) (hb : base ≤ w.heap.size) : (w.alloc (.cells #[v] e)).ownsRow base e 1 (.slice (some ⟨w.heap.size, 0, none⟩) 1 1) 1 [v] :=
  ⟨rfl, .inr ⟨w.heap.size, 1, #[v], rfl, hb, heap_alloc_new w _, Nat.le_refl _, by unfold maxLen; omega, rfl, rfl⟩⟩

/-- a row of numbers, in a block from base on that is not the block 'row' -/
def RowOf (w : World) (base : Nat) (row : Option Nat) (v : Value) (l : List Nat) : Prop :=
  (l = [] ∧ v = .slice none 0 0) ∨ ∃ g c, v = .slice (some ⟨g, 0, none⟩) l.length c ∧ base ≤ g ∧ some g ≠ row ∧ RdAt w g 0 l.length (ints l)
def Each (w : World) (base : Nat) (row : Option Nat) (L : List (List Nat)) (xs : List Value) : Prop :=
  xs.length = L.length ∧ ∀ (j : Nat) (l : List Nat), L[j]? = some l → ∃ v, xs[j]? = some v ∧ RowOf w base row v l
theorem RowOf.kept {w w' : World} {base : Nat} {row row' own : Option Nat} {v : Value} {l : List Nat} (h : RowOf w base row v l) (hg : w.grownBy w' own) (ho : own = none ∨ own = row) (hr : row' = row ∨ ∃ k, row' = some k ∧ w.heap.size ≤ k) : RowOf w' base row' v l := by
  rcases h with h | ⟨g, c, hv, hb, hne, hat⟩
  · exact .inl h
  · have hk : some g ≠ own := by
      rcases ho with rfl | rfl
      · simp
      · exact hne
    refine .inr ⟨g, c, hv, hb, ?_, hat.kept hg hk⟩
    rcases hr with rfl | ⟨k, rfl, hk⟩
    · exact hne
    · have := hat.1; simp; omega
theorem RowOf.shape {w : World} {base : Nat} {row : Option Nat} {v : Value} {l : List Nat} (h : RowOf w base row v l) : ∃ A c, v = .slice A l.length c := by
  rcases h with ⟨rfl, rfl⟩ | ⟨g, c, rfl, _⟩
  · exact ⟨none, 0, rfl⟩
  · exact ⟨_, c, rfl⟩
theorem Each.kept {w w' : World} {base : Nat} {row row' own : Option Nat} {L : List (List Nat)} {xs : List Value} (h : Each w base row L xs) (hg : w.grownBy w' own) (ho : own = none ∨ own = row) (hr : row' = row ∨ ∃ k, row' = some k ∧ w.heap.size ≤ k) : Each w' base row' L xs :=
  ⟨h.1, fun j l hj => by obtain ⟨v, hv, hr'⟩ := h.2 j l hj; exact ⟨v, hv, hr'.kept hg ho hr⟩⟩
theorem Each.rebase {w : World} {base base' : Nat} {row row' : Option Nat} {L : List (List Nat)} {xs : List Value} (h : Each w base row L xs) (hb : base' ≤ base) (hr : ∀ k, row' = some k → k < base) : Each w base' row' L xs :=
  ⟨h.1, fun j l hj => by
    obtain ⟨v, hv, hr'⟩ := h.2 j l hj
    refine ⟨v, hv, hr'.imp id ?_⟩
    rintro ⟨g, c, h1, h2, h3, h4⟩
    refine ⟨g, c, h1, by omega, fun e => ?_, h4⟩
    have := hr g e.symm; omega⟩
theorem Each.nil (w : World) (base : Nat) (row : Option Nat) : Each w base row [] [] := ⟨rfl, fun j l h => by simp at h⟩
theorem Each.snoc {w : World} {base : Nat} {row : Option Nat} {L : List (List Nat)} {xs : List Value} {v : Value} {l : List Nat} (h : Each w base row L xs) (hv : RowOf w base row v l) : Each w base row (L ++ [l]) (xs ++ [v]) := by
  refine ⟨by simp [h.1], fun j m hj => ?_⟩
  by_cases hlt : j < L.length
  · rw [List.getElem?_append_left hlt] at hj
    rw [List.getElem?_append_left (by rw [h.1]; exact hlt)]
    exact h.2 j m hj
  · have : j = L.length := by
      have := (List.getElem?_eq_some_iff.1 hj).1; simp at this; omega
    subst this
    simp at hj; subst hj
    exact ⟨v, by rw [← h.1]; simp, hv⟩
/-- a row that is read, not in the block 'row' -/
def RdN (w : World) (row : Option Nat) (A : Option Addr) (n : Nat) (xs : List Value) : Prop := 0 < n → ∃ g, A = some ⟨g, 0, none⟩ ∧ some g ≠ row ∧ RdAt w g 0 n xs
theorem RdN.kept {w w' : World} {row row' own : Option Nat} {A : Option Addr} {n : Nat} {xs : List Value} (h : RdN w row A n xs) (hg : w.grownBy w' own) (ho : own = none ∨ own = row) (hr : row' = row ∨ ∃ k, row' = some k ∧ w.heap.size ≤ k) : RdN w' row' A n xs := fun hn => by
  obtain ⟨g, hA, hne, hat⟩ := h hn
  have hk : some g ≠ own := by
    rcases ho with rfl | rfl
    · simp
    · exact hne
  refine ⟨g, hA, ?_, hat.kept hg hk⟩
  rcases hr with rfl | ⟨k, rfl, hk⟩
  · exact hne
  · have := hat.1; simp; omega
theorem rdN_own {w : World} {base : Nat} {e : TypeId} {A : Option Addr} {n c : Nat} {xs : List Value} (h : w.ownsRow base e 1 (.slice A n c) n xs) (row : Option Nat) (hr : ∀ k, row = some k → k < base) : RdN w row A n xs := fun hn => by
  rcases h.2 with ⟨hv, h0⟩ | ⟨g, cap, cur, hv, hg, hh, _⟩
  · omega
  · obtain ⟨rfl, rfl⟩ : A = some ⟨g, 0, none⟩ ∧ c = cap := by injection hv; exact ⟨by assumption, by assumption⟩
    obtain ⟨g', o', hA, hat⟩ := (rd_own h).at hn
    obtain ⟨rfl, rfl⟩ : g = g' ∧ 0 = o' := by injection hA with hA; injection hA; exact ⟨by assumption, by assumption⟩
    exact ⟨g, rfl, fun e => by have := hr g e.symm; omega, hat⟩
theorem rowOf_own {w : World} {base : Nat} {v : Value} {n : Nat} {l : List Nat} (h : w.ownsRow base 3 1 v n (ints l)) (hl : l ≠ []) (row : Option Nat) (hr : ∀ k, row = some k → k < base) {b : Nat} (hb : b ≤ base) : RowOf w b row v l := by
  have hn : n = l.length := by have := h.1; simpa [ints] using this.symm
  have hp : 0 < l.length := List.length_pos_iff.2 hl
  rcases h.2 with ⟨hv, h0⟩ | ⟨g, cap, cur, rfl, hg, hh, hr'⟩
  · omega
  · subst hn
    obtain ⟨g', o', hA, hat⟩ := (rd_own h).at hp
    obtain ⟨rfl, rfl⟩ : g = g' ∧ 0 = o' := by injection hA with hA; injection hA; exact ⟨by assumption, by assumption⟩
    exact .inr ⟨g, cap, rfl, by omega, fun e => by have := hr g e.symm; omega, hat⟩

def PlPost (w : World) (L : List (List Nat)) (e : Ending) (w' : World) : Prop :=
  ∃ A c xs, e = .returned (.slice A L.length c) ∧ w'.ownsRow w.heap.size 29 1 (.slice A L.length c) L.length xs ∧ Each w' w.heap.size (.slice A L.length c : Value).ownBlock L xs ∧ Below w.heap.size w w'

theorem pl_hit {a : List UInt8} {k : Nat} {c : UInt8} {q : List UInt8} (hk : k < a.length) (h : a[k] = c) : plL (a.drop k) k (c :: q) = (plL (a.drop (k + 1)) (k + 1) q).map (k :: ·) ++ plL (a.drop (k + 1)) (k + 1) (c :: q) := by
  rw [List.drop_eq_getElem_cons hk]; conv => lhs; unfold plL
  rw [if_pos h]
theorem pl_miss {a : List UInt8} {k : Nat} {c : UInt8} {q : List UInt8} (hk : k < a.length) (h : a[k] ≠ c) : plL (a.drop k) k (c :: q) = plL (a.drop (k + 1)) (k + 1) (c :: q) := by
  rw [List.drop_eq_getElem_cons hk]; conv => lhs; unfold plL
  rw [if_neg h]
theorem pl_small (a : List UInt8) (k : Nat) (p : List UInt8) (h : a.length ≤ 10) : (plL (a.drop k) k p).length ≤ 1024 := by
  rw [plL_length]
  refine Nat.le_trans (waysR_le _ _) ?_
  have : (2 : Nat) ^ (a.drop k).length ≤ 2 ^ 10 := Nat.pow_le_pow_right (by omega) (by simp; omega)
  simpa using this

theorem grown_fresh {w w' : World} {ob : Obj} (h : (w.alloc ob).grownBy w' (some w.heap.size)) : w.grownBy w' none :=
  ⟨h.os, h.tape, h.output, Nat.le_trans (by simp) h.size, fun i hi _ => (h.block i (by simp; omega) (by simp; omega)).trans (Below.heap_alloc _ _ i hi)⟩
theorem own_over {wr w3 : World} {base : Nat} {e : TypeId} {v : Value} {n : Nat} {xs : List Value} {ob ob3 : Obj} (h : wr.ownsRow base e 1 v n xs) (hg : (wr.alloc ob).grownBy w3 (some wr.heap.size)) : (w3.alloc ob3).ownsRow base e 1 v n xs :=
  (h.kept (grown_fresh hg) (by cases hv : v.ownBlock <;> simp)).alloc _
/-- a row that was begun with one number, and another row behind it -/
theorem append_row {w : World} {ops : Array Oper} {rest : List Oper} {o : Oper} {a : Act} {Q : Exit → Act → World → Prop} (hgd : o.guard = none) (s x : Operand)
    (ho : o.op = .call { callee := .builtin .append, args := #[s, x], argTypes := #[29, 29] })
    (B : Nat) (v : Value) (k : Nat) (y : List Nat) (hs : a.eval s = v) (hown : w.ownsRow B 3 1 v 1 [.int .i64 (k : Int)]) (hB : v.ownBlock = some B) (hsz : B < w.heap.size)
    {base : Nat} {row : Option Nat} {vy : Value} (hy : RowOf w base row vy y) (hx : a.eval x = vy) (hyl : y.length ≤ 100)
    (h : ∀ v' w', w'.ownsRow B 3 1 v' (1 + y.length) (ints (k :: y)) → w.grownBy w' (some B) → wpList Try.prog ops Q rest (a.put o.dst v') w') :
    wpList Try.prog ops Q (o :: rest) a w := by
  obtain ⟨i0, hi, hz0, hz1, hz2'⟩ := info_parts Try.infoInt
  rcases hy with ⟨rfl, rfl⟩ | ⟨g, c, rfl, hb, hne, hat⟩
  · exact wpList_append_own_none hgd s x 29 ho B 3 i0 1 Try.underlying29 hi v 1 _ hs hown hx (h v w hown ⟨rfl, rfl, rfl, Nat.le_refl _, fun _ _ _ => rfl⟩)
  · refine wpList_append_own w hgd s x 29 ho B 3 i0 (.int .i64 0) 1 8 Try.underlying29 hi hz0 hz1 hz2' rfl (by decide) v 1 _ hs hown ⟨g, 0, none⟩ y.length c (ints y) hx (by simp [ints]) ?_ ?_ (by unfold maxLen; omega) (by omega) (Nat.le_of_lt hsz) ?_
    · intro j u hj
      have hjl : j < y.length := by simpa [ints] using (List.getElem?_eq_some_iff.1 hj).1
      have := hat.2 j hjl
      rw [getD_lt _ _ _ (by simpa [ints] using hjl)] at this
      rw [(List.getElem?_eq_some_iff.1 hj).2.symm]
      rw [Addr.add]; split
      · rename_i h0; subst h0; simpa using this
      · simpa using this
    · intro u hu
      obtain ⟨n, _, rfl⟩ := List.mem_map.1 hu
      rfl
    · intro v' w' h1 h2 _
      rw [hB] at h2
      exact h v' w' h1 h2

theorem places_nil (a : ByteArray) (f : Int) (w : World) :
    Calls Try.prog 59 #[.string a, .string ⟨#[]⟩, .int .i64 f] w (PlPost w [[]]) := by
  go_enter Try.func59, Try.ntmps59
  go_wp2
  go_ret
  refine ⟨_, _, _, rfl, own_one w _ _ _ (Nat.le_refl _), ?_, (Below.refl _ w).alloc (Nat.le_refl _) _⟩
  exact (Each.nil _ _ _).snoc (.inl ⟨rfl, rfl⟩)

set_option maxRecDepth 100000 in
set_option maxHeartbeats 2000000 in
theorem places_cons (aa : ByteArray) (c : UInt8) (q : List UInt8) (f : Nat) (w : World) (ha : aa.size ≤ 10) (hq : q.length ≤ 9) (hf : f ≤ aa.size)
    (ih : ∀ (f' : Nat) (z : Int) (W : World), z = (f' : Int) → f' ≤ aa.size → Calls Try.prog 59 #[.string aa, .string ⟨q.toArray⟩, .int .i64 z] W (PlPost W (plL (aa.data.toList.drop f') f' q))) :
    Calls Try.prog 59 #[.string aa, .string ⟨(c :: q).toArray⟩, .int .i64 f] w (PlPost w (plL (aa.data.toList.drop f) f (c :: q))) := by
  obtain ⟨s, hs⟩ : ∃ s : ByteArray, s = ⟨(c :: q).toArray⟩ := ⟨_, rfl⟩
  have hse : s.toList.isEmpty = false := by rw [hs, toList_data]; rfl
  have hs0 : 0 < s.size := by rw [hs]; simp [ByteArray.size]
  have hsc : s[0] = c := by subst hs; rfl
  have hsl : ∀ W : World, (Instr.slice 9 (.string s) (some (.int .i64 1)) none none).run Try.prog W = .ok (.string ⟨q.toArray⟩) W := fun W => by
    rw [hs]; exact slice_from (c :: q) 1 (by simp) W
  have hsm := pl_small aa.data.toList f (c :: q) (by simpa using ha)
  obtain ⟨r, hr⟩ : ∃ r, Hid (plL (aa.data.toList.drop f) f (c :: q) = r) := ⟨_, rfl⟩
  rw [hr.out] at hsm
  have hrr := hr.out
  rw [← hs, hrr]
  have HI := Lib.hid ih; have HS := Lib.hid hs
  obtain ⟨i0, hi, hz0, hz1, hz2'⟩ := info_parts Try.infoSl
  clear ih hs hrr
  go_enter Try.func59, Try.ntmps59
  go_wp2
  go_loopw [7, 8] (fun v i wr => ∃ (k m : Nat) (A : Option Addr) (c0 : Nat) (L : List (List Nat)) (xs : List Value), k ≤ aa.size ∧ i = .int .i64 k ∧ v = .slice A m c0 ∧ Hid (m = L.length) ∧ m ≤ 1024 ∧
      wr.ownsRow w.heap.size 29 1 (.slice A m c0) m xs ∧ Each wr w.heap.size (.slice A m c0 : Value).ownBlock L xs ∧ Hid (L ++ plL (aa.data.toList.drop k) k (c :: q) = r) ∧ Below w.heap.size w wr)
    (fun _ i _ => aa.size - (intOf i).toNat)
  case atStart => exact ⟨f, 0, none, 0, [], [], hf, rfl, rfl, rfl, by omega, ⟨rfl, .inl ⟨rfl, rfl⟩⟩, Each.nil _ _ _, hr, Below.refl _ w⟩
  case round =>
    obtain ⟨k, m, A, c0, L, xs, hk, rfl, rfl, hm, hm1, hown, heach, hl, hb⟩ := hrel
    by_cases h1 : k < aa.size
    · have h1l : k < aa.data.toList.length := by simpa using h1
      by_cases heq : aa[k] = c
      · have hbb : ((aa[k].toNat : Int) != (c.toNat : Int)) = false := by simp [heq]
        have hst := pl_hit (q := q) h1l heq
        have HST := Lib.hid hst; clear hst heq
        go_wp2
        go_quiet (fail)
        go_wp2_with (go_at_call 59; refine (HI.out (k + 1) _ _ (by omega) (by omega)).mono ?_; rintro e w1 ⟨A1, c1, xs1, rfl, hown1, heach1, hb1⟩)
        have hl1 : ∀ y ∈ plL (aa.data.toList.drop (k + 1)) (k + 1) q, y.length ≤ 9 := fun y hy => by rw [plL_each _ _ _ y hy]; exact hq
        have hlen : L.length + (plL (aa.data.toList.drop (k + 1)) (k + 1) q).length ≤ 1024 := by
          have := congrArg List.length hl.out
          rw [HST.out] at this
          simp only [List.length_append, List.length_map] at this
          omega
        have hlt : ∀ k', (.slice A m c0 : Value).ownBlock = some k' → k' < wr.heap.size := fun k' e => (hown.lt k' e).2
        have hownw : w1.ownsRow w.heap.size 29 1 (.slice A m c0) m xs := own_below (w := wr.drewN nq) hown hb1
        have heachw : Each w1 w.heap.size (.slice A m c0 : Value).ownBlock L xs := Each.kept (w := wr.drewN nq) heach (grown_below hb1) (.inl rfl) (.inl rfl)
        have hbw : Below w.heap.size w w1 := (below_drewN hb nq).trans (hb1.mono hb.size)
        generalize plL (aa.data.toList.drop (k + 1)) (k + 1) q = l1 at hown1 heach1 HST hl1 hlen ⊢
        have hrd1 : RdN w1 (.slice A m c0 : Value).ownBlock A1 l1.length xs1 := rdN_own hown1 _ hlt
        have heachv : Each w1 w.heap.size (.slice A m c0 : Value).ownBlock l1 xs1 := heach1.rebase (base := wr.heap.size) hb.size hlt
        have HL1 := Lib.hid hl1
        have hll : l1.length ≤ 1024 := by omega
        have hmL := hm.out
        clear hown heach hb hown1 heach1 hb1 hlt hl1
        go_loopw [7, 10] (fun v i wr => ∃ (n m : Nat) (A : Option Addr) (c0 : Nat) (xs : List Value), n ≤ l1.length ∧ i = .int .i64 n ∧ v = .slice A m c0 ∧ Hid (m = L.length + n) ∧ m ≤ 1024 ∧
            wr.ownsRow w.heap.size 29 1 (.slice A m c0) m xs ∧ Each wr w.heap.size (.slice A m c0 : Value).ownBlock (L ++ (l1.take n).map (k :: ·)) xs ∧ RdN wr (.slice A m c0 : Value).ownBlock A1 l1.length xs1 ∧
            Each wr w.heap.size (.slice A m c0 : Value).ownBlock l1 xs1 ∧ Below w.heap.size w wr)
          (fun _ i _ => l1.length - (intOf i).toNat)
        case atStart => exact ⟨0, m, A, c0, xs, Nat.zero_le _, rfl, rfl, hm, hm1, hownw, by simpa using heachw, hrd1, heachv, hbw⟩
        case round =>
          have HL := hl
          clear hownw heachw hrd1 heachv hbw hm hm1 hmL hl
          obtain ⟨n, m, A, c0, xs, hn, rfl, rfl, hm, hm1, hown, heach, hrd, hev, hb⟩ := hrel
          by_cases h2 : n < l1.length
          · obtain ⟨y, hy⟩ : ∃ y, l1[n]? = some y := ⟨_, List.getElem?_eq_getElem h2⟩
            have hyl : y.length ≤ 9 := HL1.out y (List.mem_of_getElem? hy)
            obtain ⟨vy, hvy, hrow⟩ := hev.2 n y hy
            obtain ⟨g1, rfl, hne1, hat1⟩ := hrd (by omega)
            have hgd : xs1.getD n (.bool false) = vy := by rw [List.getD_eq_getElem?_getD, hvy]; rfl
            have hcell : wr.cell? ⟨g1, n, none⟩ = some vy := by have := hat1.2 n h2; rw [Nat.zero_add, hgd] at this; exact this
            have hcell2 : (wr.alloc (.cells #[.int .i64 (k : Int)] 3)).cell? ⟨g1, n, none⟩ = some vy := by have := (hat1.alloc (.cells #[.int .i64 (k : Int)] 3)).2 n h2; rw [Nat.zero_add, hgd] at this; exact this
            have hsz := hb.size
            have hlt : ∀ k', (.slice A m c0 : Value).ownBlock = some k' → k' < wr.heap.size := fun k' e => (hown.lt k' e).2
            obtain ⟨Ay, cy, rfl⟩ := hrow.shape
            have hrow2 := hrow.kept (World.grownBy_alloc wr (.cells #[.int .i64 (k : Int)] 3) none) (.inl rfl) (.inl rfl)
            have hm2 : m + 1 ≤ 1024 := by have := hm.out; omega
            have HTK : Hid (L ++ (l1.take (n + 1)).map (k :: ·) = (L ++ (l1.take n).map (k :: ·)) ++ [k :: y]) := by
              show _ = _
              rw [List.take_add_one, hy]; simp
            clear hy hvy hgd hrow
            go_wp2_with (first
              | (at_builtin; refine append_row rfl _ _ rfl wr.heap.size _ k y rfl (own_one _ _ _ _ (Nat.le_refl _)) rfl (by simp) hrow2 rfl (by omega) ?_; intro v3 w3 hown3 hg3; obtain ⟨A3, c3, rfl⟩ := ownsRow_shape hown3)
              | (at_builtin; refine wpList_append_own_at _ rfl _ _ 75 rfl w.heap.size 29 i0 (.slice none 0 0) 1 24 Try.underlying75 hi hz0 hz1 hz2' rfl (by decide) _ _ _ rfl (own_over hown hg3) ⟨w3.heap.size, 0, none⟩ 1 1 [.slice A3 (1 + y.length) c3] rfl rfl ?c1 ?c2 ?c3 ?c4 ?c5 ?_))
            try (case c1 => exact cell_one_new _ _ _)
            case c2 => rfl
            case c3 => unfold maxLen; omega
            case c4 => omega
            case c5 => have := hg3.size; simp at this ⊢; omega
            intro v5 w5 hown5 hg5 _ hloc
            obtain ⟨A5, c5, rfl⟩ := ownsRow_shape hown5
            have hr5 : (.slice A5 (m + 1) c5 : Value).ownBlock = (.slice A m c0 : Value).ownBlock ∨ ∃ k', (.slice A5 (m + 1) c5 : Value).ownBlock = some k' ∧ (w3.alloc (.cells #[.slice A3 (1 + y.length) c3] 29)).heap.size ≤ k' :=
              hloc.imp id fun h => ⟨w3.heap.size + 1, h, by simp⟩
            have hg4 : wr.grownBy (w3.alloc (.cells #[.slice A3 (1 + y.length) c3] 29)) none := (grown_fresh hg3).trans (World.grownBy_alloc w3 _ none)
            have hrw : RowOf w3 w.heap.size (.slice A m c0 : Value).ownBlock (.slice A3 (1 + y.length) c3) (k :: y) := rowOf_own hown3 (by simp) _ hlt hsz
            have hrw5 := (hrw.kept (World.grownBy_alloc w3 (.cells #[.slice A3 (1 + y.length) c3] 29) none) (.inl rfl) (.inl rfl)).kept hg5 (.inr rfl) hr5
            have heach5 := ((heach.kept hg4 (.inl rfl) (.inl rfl)).kept hg5 (.inr rfl) hr5).snoc hrw5
            have hrd5 := (hrd.kept hg4 (.inl rfl) (.inl rfl)).kept hg5 (.inr rfl) hr5
            have hev5 := (hev.kept hg4 (.inl rfl) (.inl rfl)).kept hg5 (.inr rfl) hr5
            have hb3 : Below w.heap.size w w3 := (hb.alloc hsz _).grown hg3 (by simp; omega) (fun k' e => by injection e with e; omega)
            have hs3 := hb3.size
            have hb5 : Below w.heap.size w w5 := below_own (own_over hown hg3) (hb3.alloc hs3 _) (by simp; omega) hg5
            rw [← HTK.out] at heach5
            have hmm := hm.out
            clear hrw hrw5 hg4 hg5 hg3 hown3 hb3 hloc hown heach hrd hev hb hrow2 hcell hcell2 hat1 hr5
            go_wp2
            exact ⟨⟨n + 1, m + 1, A5, c5, _, by omega, by go_num, rfl, by show _ = _; omega, hm2, hown5, heach5, hrd5, hev5, hb5⟩, by simp [intOf]; omega⟩
          · obtain rfl : n = l1.length := by omega
            rw [List.take_length] at heach
            have hmm := hm.out
            go_wp2
            exact ⟨⟨k + 1, m, A, c0, _, xs, by omega, by go_num, rfl, by show _ = _; simp; omega, hm1, hown, heach, by show _ = _; rw [List.append_assoc, ← HST.out]; exact HL.out, hb⟩, by simp [intOf]; omega⟩
      · have hbb : ((aa[k].toNat : Int) != (c.toNat : Int)) = true := by
          rw [bne_iff_ne]; intro e; exact heq (UInt8.toNat_inj.1 (by omega))
        have hst := pl_miss (q := q) h1l heq
        have HST := Lib.hid hst; clear hst heq
        go_wp2
        go_quiet (fail)
        go_wp2
        exact ⟨⟨k + 1, m, A, c0, L, xs, by omega, by go_num, rfl, hm, hm1, hown, heach, by show _ = _; rw [← HST.out]; exact hl.out, below_drewN hb nq⟩, by simp [intOf]; omega⟩
    · have e : L = r := by
        have := hl.out
        rw [List.drop_eq_nil_of_le (by simp; omega), plL_none, List.append_nil] at this
        exact this
      have hmm := hm.out
      subst e; subst hmm
      go_wp2
      go_ret
      exact ⟨A, c0, xs, rfl, hown, heach, hb⟩
theorem places_any : ∀ (p : List UInt8) (aa : ByteArray) (f : Nat) (w : World), aa.size ≤ 10 → p.length ≤ 10 → f ≤ aa.size →
    Calls Try.prog 59 #[.string aa, .string ⟨p.toArray⟩, .int .i64 f] w (PlPost w (plL (aa.data.toList.drop f) f p))
  | [], aa, f, w, _, _, _ => by rw [plL_nil]; exact places_nil aa f w
  | c :: q, aa, f, w, ha, hp, hf => places_cons aa c q f w ha (by simp at hp; omega) hf fun f' z W hz hf' => by
      subst hz; exact places_any q aa f' W ha (by simp at hp; omega) hf'

end Go.Proofs.Ytalildjhighlhaa
