/-
  The walk of the statements' helper ofSize: the parts of one size out of a map of all, in ascending order.
-/
import Derived.Test.YtalildjhighlhaaFst
import Derived.Test.YtalildjhighlhaaMostLaw
import Derived.Test.YtalildjhighlhaaMathJ
import Derived.Test.YtalildjhighlhaaShelfE
import Derived.Sort.OwnSorted
import Derived.Shelf.Slices.In.SortNone
namespace Go.Proofs.Ytalildjhighlhaa
open Go.RowKit Go.Proofs.Short Go.Maps Go.WideMaps Go.Sort

theorem lt_ltW {x y : List UInt8} (h : x.length = y.length) : ltW x y = decide (x < y) := by
  rw [← bytesLess_eq, bytesLess_cb, Bool.eq_iff_iff, ltW_iff, decide_eq_true_eq]
  constructor
  · rintro (h1 | ⟨_, h1⟩)
    · omega
    · exact h1
  · exact fun h1 => .inr ⟨h, h1⟩
/-- words of one size, each once, sorted as Go's strings are, are the sorted list of these words -/
theorem sort_size {L M : List (List UInt8)} {z : Nat} (hn : L.Nodup) (hz : ∀ p ∈ L, p.length = z) (hM : Srt M) (hm : ∀ p, p ∈ L ↔ p ∈ M) : (L.mergeSort fun x y => decide (x ≤ y)) = M := by
  have hp := List.mergeSort_perm L (fun x y => decide (x ≤ y))
  refine srt_ext ?_ hM fun p => by rw [hp.mem_iff, hm p]
  have tr : ∀ a b c : List UInt8, decide (a ≤ b) = true → decide (b ≤ c) = true → decide (a ≤ c) = true := fun a b c h1 h2 => by
    simp only [decide_eq_true_eq] at *; exact List.le_trans h1 h2
  have tot : ∀ a b : List UInt8, (decide (a ≤ b) || decide (b ≤ a)) = true := fun a b => by
    simp only [Bool.or_eq_true, decide_eq_true_eq]; exact List.le_total a b
  have hs := List.pairwise_mergeSort (le := fun x y => decide (x ≤ y)) tr tot L
  have hnd : (L.mergeSort fun x y => decide (x ≤ y)).Nodup := hp.nodup_iff.2 hn
  have hlen : ∀ p ∈ (L.mergeSort fun x y => decide (x ≤ y)), p.length = z := fun p h => hz p (hp.mem_iff.1 h)
  unfold Srt
  refine (hs.and hnd).imp_of_mem fun {a b} ha hb ⟨h1, h2⟩ => ?_
  simp only [decide_eq_true_eq] at h1
  rw [lt_ltW ((hlen a ha).trans (hlen b hb).symm), decide_eq_true_eq]
  rcases Decidable.em (a < b) with h | h
  · exact h
  · exact absurd (List.le_antisymm h1 (List.not_lt.1 h)) h2

/-- slices.Sort of a row that the call owns -/
theorem sortRowC (base n c : Nat) (A : Option Addr) (L M : List (List UInt8)) (w : World) (hrow : w.ownsRow base 9 1 (.slice A n c) n (L.map encStr)) (hn : n ≤ 100000) (hM : (L.mergeSort fun x y => decide (x ≤ y)) = M) :
    Calls Try.prog 74 #[.slice A n c] w fun e w' => e = .returned (.tuple #[]) ∧ w'.ownsRow base 9 1 (.slice A n c) n (M.map encStr) ∧ Below base w w' := by
  have hlen : L.length = n := by simpa using hrow.1
  have hperm := List.mergeSort_perm L (fun x y => decide (x ≤ y))
  rw [hM] at hperm
  rcases hrow.2 with ⟨hv, h0⟩ | ⟨g, cap, cur, hv, hbase, hb, h1, h2, h3, h4⟩
  · subst h0
    have hL : L = [] := List.eq_nil_of_length_eq_zero hlen
    have hMn : M = [] := by rw [hL] at hperm; exact hperm.eq_nil
    refine (Any.slices_Sort_string_none Try.lays190 A c w).mono ?_
    rintro e w' ⟨rfl, rfl⟩
    rw [hMn, ← hL]
    exact ⟨rfl, hrow, Below.refl _ _⟩
  · obtain ⟨rfl, rfl⟩ : A = some ⟨g, 0, none⟩ ∧ c = cap := by simpa using hv
    subst hlen
    have hH : Holds encStr w g 0 L.toArray := holds_of_block hb (by simpa using h4)
    have hgl : g < w.heap.size := (Array.getElem?_eq_some_iff.1 hb).1
    refine (Any.slices_Sort_string Try.lays190 g 0 c L w hH hgl (by omega)).mono ?_
    rintro e w' ⟨rfl, q, os, rfl⟩
    rw [hM]
    exact ⟨rfl, ownsRow_sorted hperm.length_eq hbase hb h1 h2 h3, (Below.refl _ _).grown (grownBy_sorted _) (by omega) (fun k e => by cases e; exact hbase)⟩
def SizePost (w : World) (x : List UInt8) (z : Nat) (e : Ending) (w' : World) : Prop :=
  ∃ A c, e = .returned (.slice A ((partsL [x]).filter fun p => p.length == z).length c) ∧ Rd w' A ((partsL [x]).filter fun p => p.length == z).length (((partsL [x]).filter fun p => p.length == z).map encStr) ∧ Below w.heap.size w w'
/-- the loop's relation: the parts of the size that came already -/
def SizeIn (x : List UInt8) (z b R n B : Nat) (D : DataW Unit) (W1 : World) (v : Value) (wx : World) : Prop :=
  ∃ (left : Lit → Bool) (cnt : Nat) (L : List (List UInt8)), wx.ranges Try.prog 9 (plainElem Try.prog 3) b R n D left cnt ∧ wx.ownsRow (R + 1) 9 1 v L.length (L.map encStr) ∧
    Hid (∀ p, p ∈ L ↔ (p.length = z ∧ has D (.string p) = true ∧ left (.string p) = false)) ∧ Hid L.Nodup ∧ L.length + cnt ≤ 1024 ∧ Below R W1 wx ∧ R < wx.heap.size

set_option maxRecDepth 100000 in
set_option maxHeartbeats 2000000 in
theorem ofSize_m (b n z : Nat) (D : DataW Unit) (x : List UInt8) (w : World) (hown : OwnI w b n D) (hc : Cnt D (fun p => (subs x).count p)) (hx : x.length ≤ 10) (hz : z ≤ 10) :
    Calls Try.prog 51 #[.map (some b), .int .i64 z] w (SizePost w x z) := by
  have hsz := size_cnt hown hc
  have hs10 : totL x ≤ 1024 := by have := partsL_length [x] (by simpa using hx); simpa [totL] using this
  obtain ⟨i0, hi, hz0, hz1, hz2⟩ := info_parts Try.infoStr
  have HSZ := Lib.hid hsz; have HC := Lib.hid hc; clear hsz hc
  have hbl := hown.lt
  go_enter Try.func51, Try.ntmps51
  go_wp2_with (refine wpList_range_own _ rfl _ 56 rfl 9 3 Try.keyT Try.underlying56 _ b n D rfl hown ?_; intro w0 hrg0 hg0 hs0)
  go_frame
  obtain ⟨R, hR⟩ : ∃ R, Hid (w.heap.size = R) := ⟨_, Lib.hid rfl⟩
  have hb0 : Below w.heap.size w w0 := ⟨hg0.os, hg0.tape, hg0.output, hg0.size, fun k hk => hg0.block k hk (by simp)⟩
  rw [HSZ.out] at hrg0
  rw [hR.out] at hrg0 hs0 hb0 hbl ⊢
  clear hg0
  go_loopw [5] (fun v wx => SizeIn x z b R n R D w v wx) (fun _ wx => wx.rangeLeft b R)
  case atStart => exact ⟨_, _, [], hrg0, ⟨rfl, .inl ⟨rfl, rfl⟩⟩, fun p => by simp, List.nodup_nil, by simpa using hs10, hb0, by omega⟩
  case round =>
    clear hrg0 hs0 hb0
    obtain ⟨left, cnt, L, hrg, hrow, hL, hnd, hcn, hbx, hRx⟩ := hrel
    have hmeas := Lib.hid hrg.left_eq
    go_wp2_with (refine wpList_next_si _ rfl _ rfl 9 3 Try.keyT Try.underlying9 Try.underlying3 b R n D left cnt rfl hrg ?_ ?_)
    · intro hc0 hl0
      obtain ⟨A, c0, rfl⟩ := ownsRow_shape hrow
      have hM : (L.mergeSort fun x y => decide (x ≤ y)) = (partsL [x]).filter fun p => p.length == z :=
        sort_size hnd.out (fun p hp => ((hL.out p).1 hp).1) ((srt_partsL [x]).filter _) fun p => by
          rw [hL.out p, (HC.out p).1, List.count_pos_iff, mem_subs, List.mem_filter, mem_partsL]
          constructor
          · rintro ⟨h1, h2, _⟩; exact ⟨⟨x, by simp, h2⟩, by simpa using h1⟩
          · rintro ⟨⟨y, hy, h2⟩, h1⟩
            rw [List.mem_singleton.1 hy] at h2
            exact ⟨by simpa using h1, h2, hl0 _⟩
      have hlen : ((partsL [x]).filter fun p => p.length == z).length = L.length := by rw [← hM]; exact (List.mergeSort_perm L _).length_eq
      have hS := sortRowC (R + 1) L.length c0 A L _ wr hrow (by omega) hM
      have HS := Lib.hid hS; have HLEN := Lib.hid hlen
      have hRw := hR.out
      clear hl0 hrg hrow hS hM hlen
      go_wp2_with (go_at_call 74; refine HS.out.mono ?_; rintro e w2 ⟨rfl, hrow2, hb2⟩)
      go_ret
      have hbW : Below w.heap.size w w2 := by rw [hRw]; exact hbx.trans (hb2.mono (by omega))
      refine ⟨A, c0, ?_, ?_, hbW⟩
      · rw [HLEN.out]; rfl
      · rw [HLEN.out]; exact rd_own hrow2
    · intro y c w1 cnt1 hyl hhy hly hrg1 hlt1 hg1 hs1 hen
      have hmeas1 := Lib.hid hrg1.left_eq
      have hrow1 : w1.ownsRow (R + 1) 9 1 u5 L.length (L.map encStr) := hrow.kept hg1 (.inr fun e => by have := (hrow.lt R e).1; omega)
      have hbx1 : Below R w w1 := hbx.grown hg1 (by omega) (fun j e => by cases e; exact Nat.le_refl _)
      obtain ⟨A, c0, rfl⟩ := ownsRow_shape hrow1
      have hR1 : R < w1.heap.size := by omega
      clear hs1
      have hyl' : y.length ≤ 9223372036854775807 := hyl
      clear hrow hbx hrg hg1
      by_cases hyz : y.length = z
      · have hyb : ((y.length : Int) == (z : Int)) = true := by simp [hyz]
        have hn1 : L.length + 1 ≤ 1024 := by omega
        have HYZ := Lib.hid hyz; clear hyz
        have hnew : y ∉ L := fun h => by have := ((hL.out y).1 h).2.2; rw [hly] at this; exact absurd this (by decide)
        go_wp2_with (at_builtin; refine wpList_append_own_at _ rfl _ _ 36 rfl (R + 1) 9 i0 (.string ByteArray.empty) 1 16 Try.underlying36 hi hz0 hz1 hz2 rfl (by decide) _ _ _ rfl (hrow1.alloc _) ⟨w1.heap.size, 0, none⟩ 1 1 [.string ⟨y.toArray⟩] rfl rfl ?c1 ?c2 ?c3 ?c4 ?c5 ?_)
        case c1 => exact cell_one_new _ _ _
        case c2 => exact fun u hu => by rw [List.mem_singleton.1 hu]; rfl
        case c3 => unfold maxLen; omega
        case c4 => omega
        case c5 => simp; omega
        intro v5 w5 hown5 hg5 _ hloc
        have hrg5 := (hrg1.alloc (.cells #[.string ⟨y.toArray⟩] 9)).kept hg5 (by
          intro e
          have := ((hrow1.alloc (.cells #[.string ⟨y.toArray⟩] 9)).lt b e.symm).1
          omega) (by
          intro e
          have := ((hrow1.alloc (.cells #[.string ⟨y.toArray⟩] 9)).lt R e.symm).1
          omega)
        have hb5 : Below R w w5 := (hbx1.alloc (by omega) (.cells #[.string ⟨y.toArray⟩] 9)).grown hg5 (by simp; omega) (fun k e => by have := ((hrow1.alloc (.cells #[.string ⟨y.toArray⟩] 9)).lt k e).1; omega)
        have hR5 : R < w5.heap.size := hrg5.lt
        have e5 : L.map encStr ++ [.string ⟨y.toArray⟩] = (L ++ [y]).map encStr := by simp [encStr]
        rw [e5] at hown5
        have hL5 : ∀ p, p ∈ L ++ [y] ↔ (p.length = z ∧ has D (.string p) = true ∧ (left (.string p) && !(Lit.string p).sameKey (.string y)) = false) := fun p => by
          rw [List.mem_append, hL.out p, same_str (.string p) y p left, List.mem_singleton]
          constructor
          · rintro (⟨h1, h2, h3⟩ | rfl)
            · exact ⟨h1, h2, .inl h3⟩
            · exact ⟨HYZ.out, hhy, .inr rfl⟩
          · rintro ⟨h1, h2, h3 | h3⟩
            · exact .inl ⟨h1, h2, h3⟩
            · exact .inr h3
        have hnd5 : (L ++ [y]).Nodup := List.nodup_append.2 ⟨hnd.out, by simp, fun a ha b hb e => by rw [List.mem_singleton.1 hb] at e; exact hnew (e ▸ ha)⟩
        have hfin : SizeIn x z b R n R D w v5 w5 ∧ w5.rangeLeft b R < wr.rangeLeft b R :=
          ⟨⟨_, cnt1, L ++ [y], hrg5, by simpa using hown5, hL5, hnd5, by simp; omega, hb5, hR5⟩, by rw [hrg5.left_eq, hmeas.out]; exact hlt1⟩
        have HF := Lib.hid hfin
        clear hfin hnd5 hL5 hown5 hrg5 hb5 hg5 hloc hrg1 hrow1 hbx1 hly hhy
        go_wp2
        exact HF.out
      · have hyb : ((y.length : Int) == (z : Int)) = false := by simp; omega
        have hL5 : ∀ p, p ∈ L ↔ (p.length = z ∧ has D (.string p) = true ∧ (left (.string p) && !(Lit.string p).sameKey (.string y)) = false) := fun p => by
          rw [hL.out p, same_str (.string p) y p left]
          constructor
          · rintro ⟨h1, h2, h3⟩; exact ⟨h1, h2, .inl h3⟩
          · rintro ⟨h1, h2, h3 | rfl⟩
            · exact ⟨h1, h2, h3⟩
            · exact absurd h1 hyz
        have hfin : SizeIn x z b R n R D w (.slice A L.length c0) w1 ∧ w1.rangeLeft b R < wr.rangeLeft b R :=
          ⟨⟨_, cnt1, L, hrg1, hrow1, hL5, hnd, by omega, hbx1, by omega⟩, by rw [hmeas1.out, hmeas.out]; exact hlt1⟩
        have HF := Lib.hid hfin
        clear hfin hL5 hrg1 hrow1 hbx1 hly hhy hyz
        go_wp2
        exact HF.out
end Go.Proofs.Ytalildjhighlhaa
