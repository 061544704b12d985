/-
  The walk of the statements' helper first: of two maps of parts, the first of the shortest words that just one of them has.
-/
import Derived.Test.YtalildjhighlhaaCounts
import Derived.Test.YtalildjhighlhaaMathE
import Derived.Sort.KeysCollected
namespace Go.Proofs.Ytalildjhighlhaa
open Go.RowKit Go.Proofs.Short Go.Maps Go.WideMaps

/-- the step of a range over a map from words to numbers -/
theorem wpList_next_si {P : Program} {ops : Array Oper} {rest : List Oper} {o : Oper} {a : Act} {Q : Exit → Act → World → Prop} (w : World) (hg : o.guard = none) (it : Operand) (hop : o.op = Op.next it false) (k e : TypeId) (K : Keyed P k) (hk : P.underlying k = some .string) (he : P.underlying e = some (.int .i64))
    (b r n : Nat) (D : DataW Unit) (left : Lit → Bool) (cnt : Nat) (hit : a.eval it = .pointer (some ⟨r, 0, none⟩)) (h : w.ranges P k (plainElem P e) b r n D left cnt)
    (hDone : cnt = 0 → (∀ kl, left kl = false) → wpList P ops Q rest (a.put o.dst (.tuple #[.bool false])) w)
    (hMore : ∀ (x : List UInt8) (c : Int) (w' : World) (cnt' : Nat), x.length ≤ maxLen → has D (.string x) = true → left (.string x) = true → w'.ranges P k (plainElem P e) b r n D (fun z => left z && !z.sameKey (.string x)) cnt' → cnt' < cnt →
      w.grownBy w' (some r) → w'.heap.size = w.heap.size → (Instr.entry (.pointer (some ⟨r, 0, none⟩))).run P w' = .ok (.tuple #[.string ⟨x.toArray⟩, .int .i64 c]) w' → wpList P ops Q rest (a.put o.dst (.tuple #[.bool true, .string ⟨x.toArray⟩, .int .i64 c])) w') :
    wpList P ops Q (o :: rest) a w :=
  wpList_next_ranges w hg it hop k K (plainElem P e) encStr (Value.int .i64) (fun key kl hkey => by obtain ⟨x, rfl, _⟩ := Maps.keyOf_str hk hkey; exact ⟨x, rfl⟩) (fun v y hv => by obtain ⟨c, rfl, _⟩ := plainElem_int_inv he hv; exact ⟨c, rfl⟩)
    b r n D left cnt hit h hDone (fun x c kl y w' cnt' hkey hlk hv hat hrg hlt hgr hsz hen => by
      obtain ⟨x', ex, rfl, hwx⟩ := Maps.keyOf_str hk hkey
      have e : x = x' := by
        have h1 := congrArg (fun v => match v with | Value.string s => s.data.toList | _ => []) ex
        simpa [encStr] using h1
      subst e
      have hh : has D (.string x) = true := by
        cases hc : has D (.string x) with
        | true => rfl
        | false =>
          have h1 := hat (.lit (.bool true))
          have h2 := hat (.lit (.bool false))
          rw [atKey_of_not_has hc] at h1 h2
          rw [← h2] at h1
          simp at h1
      exact hMore x c w' cnt' hwx hh hlk hrg hlt hgr hsz hen)

theorem bytesLess_cb : ∀ (x y : List UInt8), Op.bytesLess x y = decide (Lib.compareBytes x y < 0)
  | [], [] => rfl
  | [], _ :: _ => rfl
  | _ :: _, [] => rfl
  | a :: x, b :: y => by
    unfold Op.bytesLess Lib.compareBytes
    by_cases h1 : a < b
    · simp [h1]
    · by_cases h2 : b < a
      · have h3 : a ≠ b := fun e => by subst e; exact h1 h2
        simp [h1, h2, h3]
      · have h3 : a = b := by
          rw [UInt8.lt_iff_toNat_lt] at h1 h2
          exact UInt8.toNat_inj.1 (by omega)
        simp [h1, h2, h3, bytesLess_cb x y]
/-- what is the best of the words that were seen -/
def BestOf (S : List UInt8 → Prop) (P : List UInt8 → Bool) (is : Bool) (l : List UInt8) : Prop :=
  (is = false ∧ l = [] ∧ ∀ p, S p → P p = false) ∨ (is = true ∧ P l = true ∧ S l ∧ ∀ p, S p → P p = true → ltW p l = false)
theorem best_more {S S' : List UInt8 → Prop} {P : List UInt8 → Bool} {is : Bool} {l q : List UInt8} (h : BestOf S P is l) (hS : ∀ p, S' p → S p ∨ p = q) (hS' : ∀ p, S p → S' p) (hq : P q = false ∨ (is = true ∧ ltW q l = false)) : BestOf S' P is l := by
  rcases h with ⟨h1, h2, h3⟩ | ⟨h1, h2, h3, h4⟩
  · refine .inl ⟨h1, h2, fun p hp => ?_⟩
    rcases hS p hp with hp | rfl
    · exact h3 p hp
    · rcases hq with hq | ⟨hq, _⟩
      · exact hq
      · rw [h1] at hq; exact absurd hq (by decide)
  · refine .inr ⟨h1, h2, hS' _ h3, fun p hp hpp => ?_⟩
    rcases hS p hp with hp | rfl
    · exact h4 p hp hpp
    · rcases hq with hq | ⟨_, hq⟩
      · rw [hq] at hpp; exact absurd hpp (by decide)
      · exact hq
theorem best_take {S S' : List UInt8 → Prop} {P : List UInt8 → Bool} {is : Bool} {l q : List UInt8} (h : BestOf S P is l) (hS : ∀ p, S' p → S p ∨ p = q) (hq' : S' q) (hq : P q = true) (hb : is = false ∨ ltW q l = true) : BestOf S' P true q := by
  refine .inr ⟨rfl, hq, hq', fun p hp hpp => ?_⟩
  rcases hS p hp with hp | rfl
  · rcases h with ⟨h1, h2, h3⟩ | ⟨h1, h2, _, h4⟩
    · rw [h3 p hp] at hpp; exact absurd hpp (by decide)
    · rcases hb with hb | hb
      · rw [h1] at hb; exact absurd hb (by decide)
      · cases hc : ltW p q with
        | false => rfl
        | true => have := ltW_trans hc hb; rw [h4 p hp hpp] at this; exact absurd this (by decide)
  · exact ltW_irrefl _
def difN (fa fb : List UInt8 → Nat) (p : List UInt8) : Bool := decide (0 < fa p) != decide (0 < fb p)
/-- seen behind k maps -/
def SeenK (fa fb : List UInt8 → Nat) (k : Nat) (p : List UInt8) : Prop := (1 ≤ k ∧ 0 < fa p) ∨ (2 ≤ k ∧ 0 < fb p)
def FstPost (w : World) (fa fb : List UInt8 → Nat) (e : Ending) (w' : World) : Prop :=
  ∃ is l, e = .returned (.tuple #[.string ⟨l.toArray⟩, .bool is]) ∧ BestOf (fun p => 0 < fa p ∨ 0 < fb p) (difN fa fb) is l ∧ Below w.heap.size w w'

theorem best_congr {S S' : List UInt8 → Prop} {P : List UInt8 → Bool} {is : Bool} {l : List UInt8} (h : BestOf S P is l) (hS : ∀ p, S p ↔ S' p) : BestOf S' P is l := by
  have e : S = S' := funext fun p => propext (hS p)
  rw [← e]; exact h
theorem same_str (z : Lit) (x : List UInt8) (p : List UInt8) (left : Lit → Bool) : ((left (.string p) && !(Lit.string p).sameKey (.string x)) = false) ↔ (left (.string p) = false ∨ p = x) := by
  by_cases e : p = x
  · subst e; simp [Lit.sameKey]
  · have h1 : (Lit.string p).sameKey (.string x) = false := by simpa [Lit.sameKey] using e
    rw [h1]; simp [e]
def FstIn (fa fb fx : List UInt8 → Nat) (k bx R nx B : Nat) (Dx : DataW Unit) (W1 : World) (bv iv : Value) (wx : World) : Prop :=
  ∃ (left : Lit → Bool) (cnt : Nat) (l : List UInt8) (sl : ByteArray) (is : Bool), wx.ranges Try.prog 9 (plainElem Try.prog 3) bx R nx Dx left cnt ∧ bv = .string sl ∧ Hid (sl = ⟨l.toArray⟩) ∧ iv = .bool is ∧
          Hid (BestOf (fun p => SeenK fa fb k p ∨ (0 < fx p ∧ left (.string p) = false)) (difN fa fb) is l) ∧ Below B W1 wx ∧ R < wx.heap.size
set_option maxRecDepth 100000 in
set_option maxHeartbeats 2000000 in
theorem first_m (ba bb na nb : Nat) (Da Db : DataW Unit) (fa fb : List UInt8 → Nat) (w : World) (ha : OwnI w ba na Da) (hb : OwnI w bb nb Db) (hca : Cnt Da fa) (hcb : Cnt Db fb) :
    Calls Try.prog 47 #[.map (some ba), .map (some bb)] w (FstPost w fa fb) := by
  have hzv := fun (W : World) => (by kernel_rfl : (zeroValue 3).run Try.prog W = .ok (.int .i64 0) W)
  have HZ := Lib.hid hzv; have HCA := Lib.hid hca; have HCB := Lib.hid hcb; clear hzv hca hcb
  go_enter Try.func47, Try.ntmps47
  go_wp2
  have hb0 : Below w.heap.size w (w.alloc (.cells #[.map (some ba), .map (some bb)] 56)) := (Below.refl _ w).alloc (Nat.le_refl _) _
  have hs0 : (w.alloc (.cells #[.map (some ba), .map (some bb)] 56)).heap.size = w.heap.size + 1 := by simp
  have hc0 : (w.alloc (.cells #[.map (some ba), .map (some bb)] 56)).cell? ⟨w.heap.size, 0, none⟩ = some (.map (some ba)) := by simp
  have hc1 : (w.alloc (.cells #[.map (some ba), .map (some bb)] 56)).cell? ⟨w.heap.size, 1, none⟩ = some (.map (some bb)) := by simp
  have ha1 := ha.alloc (.cells #[.map (some ba), .map (some bb)] 56)
  have hb1 := hb.alloc (.cells #[.map (some ba), .map (some bb)] 56)
  have hal := ha.lt
  have hbl := hb.lt
  change OwnI _ _ _ _ at ha1
  change OwnI _ _ _ _ at hb1
  generalize w.alloc (.cells #[.map (some ba), .map (some bb)] 56) = W1 at hb0 hs0 hc0 hc1 ha1 hb1 ⊢
  have HS := Lib.hid hs0; have HC0 := Lib.hid hc0; have HC1 := Lib.hid hc1; clear hs0 hc0 hc1 ha hb
  have hbest0 : BestOf (SeenK fa fb 0) (difN fa fb) false [] := .inl ⟨rfl, rfl, fun p hp => by rcases hp with ⟨h, _⟩ | ⟨h, _⟩ <;> omega⟩
  go_loopw [6, 7, 15] (fun bv iv kv wr => ∃ (k : Nat) (l : List UInt8) (sl : ByteArray) (is : Bool), k ≤ 2 ∧ kv = .int .i64 k ∧ bv = .string sl ∧ Hid (sl = ⟨l.toArray⟩) ∧ iv = .bool is ∧ BestOf (SeenK fa fb k) (difN fa fb) is l ∧ Below (w.heap.size + 1) W1 wr) (fun _ _ kv _ => 2 - (intOf kv).toNat)
  case atStart => exact ⟨0, [], _, false, by omega, rfl, rfl, rfl, rfl, hbest0, Below.refl _ _⟩
  case round =>
    obtain ⟨k, l, sl, is, hk, rfl, rfl, hsl, rfl, hbest, hbr⟩ := hrel
    by_cases hlt : k < 2
    · obtain ⟨bx, nx, Dx, fx, hcell, hown, hcx, hseen⟩ : ∃ bx nx Dx fx, wr.cell? ⟨w.heap.size, k, none⟩ = some (.map (some bx)) ∧ OwnI W1 bx nx Dx ∧ Hid (Cnt Dx fx) ∧ Hid (∀ p, SeenK fa fb (k + 1) p ↔ SeenK fa fb k p ∨ 0 < fx p) := by
        by_cases h0 : k = 0
        · subst h0
          exact ⟨ba, na, Da, fa, (hbr.cell (p := ⟨w.heap.size, 0, none⟩) (Nat.lt_succ_self _)).trans HC0.out, ha1, HCA, fun p => by unfold SeenK; simp⟩
        · obtain rfl : k = 1 := by omega
          exact ⟨bb, nb, Db, fb, (hbr.cell (p := ⟨w.heap.size, 1, none⟩) (Nat.lt_succ_self _)).trans HC1.out, hb1, HCB, fun p => by unfold SeenK; simp⟩
      have hownr : OwnI wr bx nx Dx := hown.kept ⟨hbr.os, hbr.tape, hbr.output, hbr.size, fun i hi _ => hbr.block i (by have := HS.out; omega)⟩ (row := none) (by simp)
      have hbxl : bx < W1.heap.size := hown.lt
      have hrz : w.heap.size + 1 ≤ wr.heap.size := by have := hbr.size; have := HS.out; omega
      have hkd : decide ((k : Int) < 2) = true := by simp; omega
      go_wp2_with (refine wpList_range_own _ rfl _ 56 rfl 9 3 Try.keyT Try.underlying56 _ bx nx Dx rfl hownr ?_; intro w0 hrg0 hg0 hs0)
      go_frame
      have hbst1 : Hid (BestOf (fun p => SeenK fa fb k p ∨ (0 < fx p ∧ has Dx (.string p) = false)) (difN fa fb) is l) := best_congr hbest fun p => by
        constructor
        · exact .inl
        · rintro (h | ⟨h1, h2⟩)
          · exact h
          · rw [((hcx.out p).1.2 h1)] at h2; exact absurd h2 (by decide)
      have hb01 : Below (w.heap.size + 1) W1 w0 := hbr.grown hg0 hrz (fun j e => by cases e)
      have hRl : w.heap.size + 1 ≤ wr.heap.size := hrz
      have hRx : bx < wr.heap.size := by have := hbr.size; omega
      obtain ⟨R, hR⟩ : ∃ R, Hid (wr.heap.size = R) := ⟨_, Lib.hid rfl⟩
      rw [hR.out] at hrg0 hRl hRx hs0 ⊢
      clear hbest hbr hg0 hownr hcell hrz
      go_loopw [6, 7] (fun bv iv wx => FstIn fa fb fx k bx R nx (w.heap.size + 1) Dx W1 bv iv wx) (fun _ _ wx => wx.rangeLeft bx R)
      case atStart => exact ⟨_, _, l, sl, is, hrg0, rfl, hsl, rfl, hbst1, hb01, by omega⟩
      case round =>
        clear hbst1 hb01 hrg0 hsl hs0
        obtain ⟨left, cnt, l, sl, is, hrg, rfl, hsl, rfl, hbest, hbx, hRx2⟩ := hrel
        have hmeas := Lib.hid hrg.left_eq
        have hsz := hbx.size
        have hcl := HS.out
        go_wp2_with (refine wpList_next_si _ rfl _ rfl 9 3 Try.keyT Try.underlying9 Try.underlying3 bx R nx Dx left cnt rfl hrg ?_ ?_)
        · intro hc0 hl0
          have hbest2 : Hid (BestOf (SeenK fa fb (k + 1)) (difN fa fb) is l) := best_congr hbest.out fun p => by
            rw [hseen.out p]
            constructor
            · rintro (h | ⟨h, _⟩)
              · exact .inl h
              · exact .inr h
            · rintro (h | h)
              · exact .inl h
              · exact .inr ⟨h, hl0 _⟩
          clear hl0 hrg
          go_wp2
          exact ⟨⟨k + 1, l, sl, is, by omega, by go_num, rfl, hsl, rfl, hbest2.out, hbx⟩, by simp [intOf]; omega⟩
        · intro x c w1 cnt1 hxl hhx hlx hrg1 hlt1 hg1 hs1 hen
          have hown1 : OwnI w1 ba na Da := ha1.kept ⟨(hg1.os.trans hbx.os), (hg1.tape.trans hbx.tape), (hg1.output.trans hbx.output), by omega, fun i hi hne => (hg1.block i (by omega) (by intro e; cases e; omega)).trans (hbx.block i (by omega))⟩ (row := none) (by simp)
          have hown2 : OwnI w1 bb nb Db := hb1.kept ⟨(hg1.os.trans hbx.os), (hg1.tape.trans hbx.tape), (hg1.output.trans hbx.output), by omega, fun i hi hne => (hg1.block i (by omega) (by intro e; cases e; omega)).trans (hbx.block i (by omega))⟩ (row := none) (by simp)
          have hbx1 : Below (w.heap.size + 1) W1 w1 := hbx.grown hg1 (by omega) (fun j e => by cases e; omega)
          have hmeas1 := Lib.hid hrg1.left_eq
          have hSS : Hid (∀ p, (SeenK fa fb k p ∨ (0 < fx p ∧ (left (.string p) && !(Lit.string p).sameKey (.string x)) = false)) → ((SeenK fa fb k p ∨ (0 < fx p ∧ left (.string p) = false)) ∨ p = x)) := fun p h => by
            rcases h with h | ⟨h1, h2⟩
            · exact .inl (.inl h)
            · rcases (same_str (.string p) x p left).1 h2 with h3 | h3
              · exact .inl (.inr ⟨h1, h3⟩)
              · exact .inr h3
          have hSS' : Hid (∀ p, (SeenK fa fb k p ∨ (0 < fx p ∧ left (.string p) = false)) → (SeenK fa fb k p ∨ (0 < fx p ∧ (left (.string p) && !(Lit.string p).sameKey (.string x)) = false))) := fun p h => by
            rcases h with h | ⟨h1, h2⟩
            · exact .inl h
            · exact .inr ⟨h1, (same_str (.string p) x p left).2 (.inl h2)⟩
          have hz1 := HZ.out w1
          have hkey := keyT_str x hxl
          have hat1 := Lib.hid (HCA.out x).2
          have hat2 := Lib.hid (HCB.out x).2
          obtain ⟨sx, hsx⟩ : ∃ sx : ByteArray, Hid (sx = ⟨x.toArray⟩) := ⟨_, Lib.hid rfl⟩
          rw [← hsx.out] at hen hkey ⊢
          obtain ⟨d, hd⟩ : ∃ d, Hid (difN fa fb x = d) := ⟨_, Lib.hid rfl⟩
          have hdd : Hid ((decide (0 < fa x) != decide (0 < fb x)) = d) := hd.out
          generalize fa x = ca at hat1 hdd
          generalize fb x = cb at hat2 hdd
          have key : ∀ (is2 : Bool) (l2 : List UInt8) (sl2 : ByteArray), sl2 = ⟨l2.toArray⟩ → BestOf (fun p => SeenK fa fb k p ∨ (0 < fx p ∧ (left (.string p) && !(Lit.string p).sameKey (.string x)) = false)) (difN fa fb) is2 l2 →
              FstIn fa fb fx k bx R nx (w.heap.size + 1) Dx W1 (.string sl2) (.bool is2) w1 ∧ w1.rangeLeft bx R < wr.rangeLeft bx R := fun is2 l2 sl2 h1 h2 =>
            ⟨⟨_, cnt1, l2, sl2, is2, hrg1, rfl, h1, rfl, h2, hbx1, by omega⟩, by rw [hmeas1.out, hmeas.out]; exact hlt1⟩
          have hSx : SeenK fa fb k x ∨ (0 < fx x ∧ (left (.string x) && !(Lit.string x).sameKey (.string x)) = false) :=
            .inr ⟨(hcx.out x).1.1 hhx, (same_str (.string x) x x left).2 (.inr rfl)⟩
          have KEY := Lib.hid key
          have HSX := Lib.hid hSx
          clear hrg hlx hhx hg1 hbx key hSx
          have hnot : d = false → FstIn fa fb fx k bx R nx (w.heap.size + 1) Dx W1 (.string sl) (.bool is) w1 ∧ w1.rangeLeft bx R < wr.rangeLeft bx R := fun h =>
            KEY.out is l sl hsl.out (best_more hbest.out hSS.out hSS'.out (.inl (hd.out.trans h)))
          have hkeep : is = true → ltW x l = false → FstIn fa fb fx k bx R nx (w.heap.size + 1) Dx W1 (.string sl) (.bool is) w1 ∧ w1.rangeLeft bx R < wr.rangeLeft bx R := fun h h2 =>
            KEY.out is l sl hsl.out (best_more hbest.out hSS.out hSS'.out (.inr ⟨h, h2⟩))
          have htake : d = true → (is = false ∨ ltW x l = true) → FstIn fa fb fx k bx R nx (w.heap.size + 1) Dx W1 (.string sx) (.bool true) w1 ∧ w1.rangeLeft bx R < wr.rangeLeft bx R := fun h h2 =>
            KEY.out true x sx hsx.out (best_take hbest.out hSS.out HSX.out (hd.out.trans h) h2)
          have HNOT := Lib.hid hnot; have HKEEP := Lib.hid hkeep; have HTAKE := Lib.hid htake
          have hszx : sx.size = x.length := by rw [hsx.out]; simp [ByteArray.size]
          have hszl : sl.size = l.length := by rw [hsl.out]; simp [ByteArray.size]
          have hltx : ltW x l = (decide (sx.size < sl.size) || (decide (sx.size = sl.size) && Op.bytesLess sx.toList sl.toList)) := by
            rw [hszx, hszl, bytesLess_cb, hsx.out, hsl.out, Bool.eq_iff_iff, ltW_iff]
            simp [Lib.toList_data]
          have HLT := Lib.hid hltx
          clear hnot hkeep htake hltx hszx hszl KEY hSS hSS' HSX hbest
          by_cases h0 : d = false
          · have hN := HNOT.out h0
            have HN := Lib.hid hN; clear hN
            by_cases hA : 0 < ca
            · have hB : 0 < cb := by have := hdd.out; rw [h0] at this; simpa [hA] using this
              have hAd : decide (0 < ca) = true := by simpa using hA
              have hBd : decide (0 < cb) = true := by simpa using hB
              clear h0 hA hB
              go_wp2_with (first
              | (at_lookup; refine wpList_lookup_own_int _ rfl (.tmp 25) (.tmp 26) 56 rfl 9 3 .i64 Try.keyT Try.underlying56 Try.underlying3 hz1 ba na Da rfl hown1 _ _ rfl hkey ?_; intro z hat hwz; obtain rfl : z = (ca : Int) := (by have h := hat1.out; rw [hat] at h; simpa using h); clear hat hwz)
              | (at_lookup; refine wpList_lookup_own_int _ rfl (.tmp 29) (.tmp 30) 56 rfl 9 3 .i64 Try.keyT Try.underlying56 Try.underlying3 hz1 bb nb Db rfl hown2 _ _ rfl hkey ?_; intro z hat hwz; obtain rfl : z = (cb : Int) := (by have h := hat2.out; rw [hat] at h; simpa using h); clear hat hwz))
              exact HN.out
            · have hB : ¬ 0 < cb := by have := hdd.out; rw [h0] at this; simpa [hA] using this
              have hAd : decide (0 < ca) = false := by simpa using hA
              have hBd : decide (0 < cb) = false := by simpa using hB
              clear h0 hA hB
              go_wp2_with (first
              | (at_lookup; refine wpList_lookup_own_int _ rfl (.tmp 25) (.tmp 26) 56 rfl 9 3 .i64 Try.keyT Try.underlying56 Try.underlying3 hz1 ba na Da rfl hown1 _ _ rfl hkey ?_; intro z hat hwz; obtain rfl : z = (ca : Int) := (by have h := hat1.out; rw [hat] at h; simpa using h); clear hat hwz)
              | (at_lookup; refine wpList_lookup_own_int _ rfl (.tmp 29) (.tmp 30) 56 rfl 9 3 .i64 Try.keyT Try.underlying56 Try.underlying3 hz1 bb nb Db rfl hown2 _ _ rfl hkey ?_; intro z hat hwz; obtain rfl : z = (cb : Int) := (by have h := hat2.out; rw [hat] at h; simpa using h); clear hat hwz))
              exact HN.out
          · have h0' : d = true := by simpa using h0
            clear h0
            have hAB : (decide (0 < ca) = true ∧ decide (0 < cb) = false) ∨ (decide (0 < ca) = false ∧ decide (0 < cb) = true) := by
              have := hdd.out; rw [h0'] at this
              by_cases hA : 0 < ca
              · exact .inl ⟨by simpa using hA, by simpa [hA] using this⟩
              · exact .inr ⟨by simpa using hA, by simpa [hA] using this⟩
            cases is with
            | false =>
              have HN := Lib.hid (HTAKE.out h0' (.inl rfl))
              clear h0'
              rcases hAB with ⟨hAd, hBd⟩ | ⟨hAd, hBd⟩
              all_goals
                go_wp2_with (first
              | (at_lookup; refine wpList_lookup_own_int _ rfl (.tmp 25) (.tmp 26) 56 rfl 9 3 .i64 Try.keyT Try.underlying56 Try.underlying3 hz1 ba na Da rfl hown1 _ _ rfl hkey ?_; intro z hat hwz; obtain rfl : z = (ca : Int) := (by have h := hat1.out; rw [hat] at h; simpa using h); clear hat hwz)
              | (at_lookup; refine wpList_lookup_own_int _ rfl (.tmp 29) (.tmp 30) 56 rfl 9 3 .i64 Try.keyT Try.underlying56 Try.underlying3 hz1 bb nb Db rfl hown2 _ _ rfl hkey ?_; intro z hat hwz; obtain rfl : z = (cb : Int) := (by have h := hat2.out; rw [hat] at h; simpa using h); clear hat hwz))
                exact HN.out
            | true =>
              by_cases hs : sx.size < sl.size
              · have HN := Lib.hid (HTAKE.out h0' (.inr (by rw [HLT.out]; simp [hs])))
                have hs1 : decide (sx.size < sl.size) = true := by simpa using hs
                clear h0' hs
                rcases hAB with ⟨hAd, hBd⟩ | ⟨hAd, hBd⟩
                all_goals
                  go_wp2_with (first
              | (at_lookup; refine wpList_lookup_own_int _ rfl (.tmp 25) (.tmp 26) 56 rfl 9 3 .i64 Try.keyT Try.underlying56 Try.underlying3 hz1 ba na Da rfl hown1 _ _ rfl hkey ?_; intro z hat hwz; obtain rfl : z = (ca : Int) := (by have h := hat1.out; rw [hat] at h; simpa using h); clear hat hwz)
              | (at_lookup; refine wpList_lookup_own_int _ rfl (.tmp 29) (.tmp 30) 56 rfl 9 3 .i64 Try.keyT Try.underlying56 Try.underlying3 hz1 bb nb Db rfl hown2 _ _ rfl hkey ?_; intro z hat hwz; obtain rfl : z = (cb : Int) := (by have h := hat2.out; rw [hat] at h; simpa using h); clear hat hwz))
                  exact HN.out
              · have hs1 : decide (sx.size < sl.size) = false := by simpa using hs
                by_cases he : sx.size = sl.size
                · have he1 : ((sx.size : Int) == (sl.size : Int)) = true := by simp [he]
                  cases hbl : Op.bytesLess sx.toList sl.toList with
                  | true =>
                    have HN := Lib.hid (HTAKE.out h0' (.inr (by rw [HLT.out, hs1, hbl]; simp [he])))
                    clear h0' hs he
                    rcases hAB with ⟨hAd, hBd⟩ | ⟨hAd, hBd⟩
                    all_goals
                      go_wp2_with (first
              | (at_lookup; refine wpList_lookup_own_int _ rfl (.tmp 25) (.tmp 26) 56 rfl 9 3 .i64 Try.keyT Try.underlying56 Try.underlying3 hz1 ba na Da rfl hown1 _ _ rfl hkey ?_; intro z hat hwz; obtain rfl : z = (ca : Int) := (by have h := hat1.out; rw [hat] at h; simpa using h); clear hat hwz)
              | (at_lookup; refine wpList_lookup_own_int _ rfl (.tmp 29) (.tmp 30) 56 rfl 9 3 .i64 Try.keyT Try.underlying56 Try.underlying3 hz1 bb nb Db rfl hown2 _ _ rfl hkey ?_; intro z hat hwz; obtain rfl : z = (cb : Int) := (by have h := hat2.out; rw [hat] at h; simpa using h); clear hat hwz))
                      exact HN.out
                  | false =>
                    have HN := Lib.hid (HKEEP.out rfl (by rw [HLT.out, hs1, hbl]; simp))
                    clear h0' hs he
                    rcases hAB with ⟨hAd, hBd⟩ | ⟨hAd, hBd⟩
                    all_goals
                      go_wp2_with (first
              | (at_lookup; refine wpList_lookup_own_int _ rfl (.tmp 25) (.tmp 26) 56 rfl 9 3 .i64 Try.keyT Try.underlying56 Try.underlying3 hz1 ba na Da rfl hown1 _ _ rfl hkey ?_; intro z hat hwz; obtain rfl : z = (ca : Int) := (by have h := hat1.out; rw [hat] at h; simpa using h); clear hat hwz)
              | (at_lookup; refine wpList_lookup_own_int _ rfl (.tmp 29) (.tmp 30) 56 rfl 9 3 .i64 Try.keyT Try.underlying56 Try.underlying3 hz1 bb nb Db rfl hown2 _ _ rfl hkey ?_; intro z hat hwz; obtain rfl : z = (cb : Int) := (by have h := hat2.out; rw [hat] at h; simpa using h); clear hat hwz))
                      exact HN.out
                · have he1 : ((sx.size : Int) == (sl.size : Int)) = false := by simp; omega
                  have HN := Lib.hid (HKEEP.out rfl (by rw [HLT.out, hs1]; simp [he]))
                  clear h0' hs he
                  rcases hAB with ⟨hAd, hBd⟩ | ⟨hAd, hBd⟩
                  all_goals
                    go_wp2_with (first
              | (at_lookup; refine wpList_lookup_own_int _ rfl (.tmp 25) (.tmp 26) 56 rfl 9 3 .i64 Try.keyT Try.underlying56 Try.underlying3 hz1 ba na Da rfl hown1 _ _ rfl hkey ?_; intro z hat hwz; obtain rfl : z = (ca : Int) := (by have h := hat1.out; rw [hat] at h; simpa using h); clear hat hwz)
              | (at_lookup; refine wpList_lookup_own_int _ rfl (.tmp 29) (.tmp 30) 56 rfl 9 3 .i64 Try.keyT Try.underlying56 Try.underlying3 hz1 bb nb Db rfl hown2 _ _ rfl hkey ?_; intro z hat hwz; obtain rfl : z = (cb : Int) := (by have h := hat2.out; rw [hat] at h; simpa using h); clear hat hwz))
                    exact HN.out
    · obtain rfl : k = 2 := by omega
      have hfin : BestOf (fun p => 0 < fa p ∨ 0 < fb p) (difN fa fb) is l := best_congr hbest fun p => by unfold SeenK; simp
      have HF := Lib.hid hfin
      have hW : Below w.heap.size w wr := hb0.trans (hbr.mono (Nat.le_succ _))
      clear hbest hfin hbr
      go_wp2
      go_ret2
      rw [hsl.out]
      exact ⟨is, l, rfl, HF.out, hW⟩
end Go.Proofs.Ytalildjhighlhaa
