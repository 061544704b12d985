/-
  The walk of the reference's differ: the least of the words of one size that tell two words apart.
-/
import Derived.Test.YtalildjhighlhaaMathM
import Derived.Test.YtalildjhighlhaaRefC
namespace Go.Proofs.Ytalildjhighlhaa
open Go.RowKit Go.Proofs.Short Go.Lib

/-- a row of words, and another one behind it -/
theorem append_strs {w : World} {ops : Array Oper} {rest : List Oper} {o : Oper} {a : Act} {Q : Exit → Act → World → Prop} (hgd : o.guard = none) (s x : Operand)
    (ho : o.op = .call { callee := .builtin .append, args := #[s, x], argTypes := #[36, 36] })
    (B : Nat) (v : Value) (m : Nat) (X : List (List UInt8)) (hs : a.eval s = v) (hown : w.ownsRow B 9 1 v m (X.map encStr)) (hsz : B ≤ w.heap.size)
    {A : Option Addr} {c B2 : Nat} {Y : List (List UInt8)} (hy : w.ownsRow B2 9 1 (.slice A Y.length c) Y.length (Y.map encStr)) (hlt : ∀ k, v.ownBlock = some k → k < B2) (hx : a.eval x = .slice A Y.length c) (hm : m ≤ 1024) (hyl : Y.length ≤ 1024)
    (h : ∀ v' w', w'.ownsRow B 9 1 v' (m + Y.length) ((X ++ Y).map encStr) → w.grownBy w' v.ownBlock → wpList Try.prog ops Q rest (a.put o.dst v') w') :
    wpList Try.prog ops Q (o :: rest) a w := by
  obtain ⟨i0, hi, hz0, hz1, hz2'⟩ := info_parts Try.infoStr
  rcases hy.2 with ⟨hv, h0⟩ | ⟨g, cap, cur, hv, hg, hrest⟩
  · have hv1 : (Value.slice A Y.length c) = .slice none 0 0 := hv
    rw [hv1] at hx
    obtain rfl : Y = [] := List.length_eq_zero_iff.1 h0
    refine wpList_append_own_none hgd s x 36 ho B 9 i0 1 Try.underlying36 hi v m _ hs hown hx (h v w (by simpa using hown) ⟨rfl, rfl, rfl, Nat.le_refl _, fun _ _ _ => rfl⟩)
  · obtain ⟨rfl, rfl⟩ : A = some ⟨g, 0, none⟩ ∧ c = cap := by injection hv; exact ⟨by assumption, by assumption⟩
    have hc : ∀ j, j < Y.length → w.cell? ⟨g, 0 + j, none⟩ = some ((Y.map encStr).getD j (.bool false)) := fun j hj => by
      obtain ⟨g', hA, _, hat⟩ := rdN_own hy _ hlt (by omega)
      simp only [Option.some.injEq, Addr.mk.injEq, and_true] at hA
      subst hA
      exact hat.2 j hj
    refine wpList_append_own w hgd s x 36 ho B 9 i0 (.string ByteArray.empty) 1 16 Try.underlying36 hi hz0 hz1 hz2' rfl (by decide) v m _ hs hown ⟨g, 0, none⟩ Y.length c (Y.map encStr) hx (by simp) ?_ ?_ (by unfold maxLen; omega) (by omega) hsz ?_
    · intro j u hj
      have hjl : j < Y.length := by simpa using (List.getElem?_eq_some_iff.1 hj).1
      have := hc j hjl
      rw [getD_lt _ _ _ (by simpa using hjl)] at this
      rw [(List.getElem?_eq_some_iff.1 hj).2.symm]
      rw [Addr.add]; split
      · rename_i h0; subst h0; simpa using this
      · simpa using this
    · intro u hu
      obtain ⟨n, _, rfl⟩ := List.mem_map.1 hu
      rfl
    · intro v' w' h1 h2 _
      rw [← List.map_append] at h1
      exact h v' w' h1 h2

def DfPost (w : World) (a b : List UInt8) (n : Nat) (e : Ending) (w' : World) : Prop :=
  ∃ is l, e = .returned (.tuple #[.string ⟨l.toArray⟩, .bool is]) ∧ difB a b n is l ∧ Below w.heap.size w w'

set_option maxRecDepth 100000 in
set_option maxHeartbeats 2000000 in
theorem differ_any (a b : List UInt8) (n : Nat) (z : Int) (w : World) (hz : z = (n : Int)) (hn : n ≤ 50) (ha : a.length ≤ 10) (hb : b.length ≤ 10) (hoa : a.all okc = true) (hob : b.all okc = true) :
    Calls Try.prog 70 #[.string ⟨a.toArray⟩, .string ⟨b.toArray⟩, .int .i64 z] w (DfPost w a b n) := by
  subst hz
  have hla := szL_le n a hoa ha
  have hlb := szL_le n b hob hb
  have hsa := sz_min n a hoa
  have hsb := sz_min n b hob
  have HOA := Lib.hid hoa; have HOB := Lib.hid hob; have HSA := Lib.hid hsa; have HSB := Lib.hid hsb
  have hcA : ∀ W, Calls Try.prog 63 #[.string ⟨a.toArray⟩, .int .i64 (min (n : Int) ((a.length : Int) + 1))] W (SzPost W (szL n a)) := fun W => by
    have := sized_any (min n (a.length + 1)) a (min (n : Int) ((a.length : Int) + 1)) W (by omega) (by omega) ha hoa
    rw [hsa] at this; exact this
  have hcB : ∀ W, Calls Try.prog 63 #[.string ⟨b.toArray⟩, .int .i64 (min (n : Int) ((b.length : Int) + 1))] W (SzPost W (szL n b)) := fun W => by
    have := sized_any (min n (b.length + 1)) b (min (n : Int) ((b.length : Int) + 1)) W (by omega) (by omega) hb hob
    rw [hsb] at this; exact this
  have HCA := Lib.hid hcA; have HCB := Lib.hid hcB
  clear hoa hob hsa hsb hcA hcB
  go_enter Try.func70, Try.ntmps70
  go_wp2_with (first
    | (go_at_call 63; (with_reducible refine (HCA.out _).mono ?_); rintro e w1 ⟨A1, c1, rfl, hown1, hb1⟩)
    | (go_at_call 63; (with_reducible refine (HCB.out _).mono ?_); rintro e w2 ⟨A2, c2, rfl, hown2, hb2⟩; have hlt1 : ∀ k', (Value.slice A1 (szL n a).length c1).ownBlock = some k' → k' < w1.heap.size := (fun k' e => (hown1.lt k' e).2); have hsz2 : w.heap.size ≤ w2.heap.size := Nat.le_trans hb1.size hb2.size)
    | (at_builtin; refine append_strs rfl _ _ rfl w.heap.size _ _ _ rfl (own_below hown1 hb2) hsz2 hown2 hlt1 rfl hla hlb ?_; intro v3 w3 hown3 hg3; obtain ⟨A3, c3, rfl⟩ := ownsRow_shape hown3))
  have hb3 : Below w.heap.size w w3 := below_own (own_below hown1 hb2) (hb1.trans (hb2.mono hb1.size)) (by omega) hg3
  have hrd3 := rd_own hown3
  have hLl : (szL n a ++ szL n b).length = (szL n a).length + (szL n b).length := by simp
  have hmem : ∀ p ∈ szL n a ++ szL n b, p.length = n := fun p hp => by
    rcases List.mem_append.1 hp with hp | hp
    · exact ((mem_szL n a HOA.out p).1 hp).1
    · exact ((mem_szL n b HOB.out p).1 hp).1
  have hfin := fun is l (h : BestOf (fun p => p ∈ szL n a ++ szL n b) (dif a b) is l) => difB_of HOA.out HOB.out h
  rw [← hLl] at hrd3 ⊢
  have hLn : (szL n a ++ szL n b).length ≤ 2048 := by omega
  generalize szL n a ++ szL n b = L at hrd3 hmem hfin hLn ⊢
  have HMEM := Lib.hid hmem; have HFIN := Lib.hid hfin
  clear hmem hfin hown1 hown2 hown3 hb1 hb2 hg3 hlt1 hla hlb hLl HCA HCB HSA HSB
  have hbest0 : Hid (BestOf (fun p => p ∈ L.take 0) (dif a b) false []) := .inl ⟨rfl, rfl, fun p hp => by simp at hp⟩
  go_loopw [8, 9, 11] (fun bv iv kv wr => ∃ (k : Nat) (l : List UInt8) (sl : ByteArray) (is : Bool), k ≤ L.length ∧ kv = .int .i64 k ∧ bv = .string sl ∧ Hid (sl = ⟨l.toArray⟩) ∧ iv = .bool is ∧ Hid (BestOf (fun p => p ∈ L.take k) (dif a b) is l) ∧ Rd wr A3 L.length (L.map encStr) ∧ Below w.heap.size w wr) (fun _ _ kv _ => L.length - (intOf kv).toNat)
  case atStart => exact ⟨0, [], _, false, by omega, rfl, rfl, rfl, rfl, hbest0, hrd3, hb3⟩
  case round =>
    clear hbest0 hrd3 hb3
    obtain ⟨k, l, sl, is, hk, rfl, rfl, hsl, rfl, hbest, hrd, hb0⟩ := hrel
    by_cases hlt : k < L.length
    · obtain ⟨g, o, rfl, hat⟩ := hrd.at (by omega)
      have hcell := hat.str hlt rfl
      have hyl : (L.getD k []).length = n := HMEM.out _ (by rw [getD_lt _ _ _ hlt]; exact List.getElem_mem _)
      have HTS := Lib.hid (fun p => take_mem_succ hlt p)
      generalize L.getD k [] = y at hcell hyl HTS
      obtain ⟨sy, hsy⟩ : ∃ sy : ByteArray, Hid (sy = ⟨y.toArray⟩) := ⟨_, rfl⟩
      have hdy : sy.data.toList = y := by rw [hsy.out]
      have hysz : sy.size = n := by rw [hsy.out]; simpa [ByteArray.size] using hyl
      have hla : ∀ (W : World), Calls Try.prog 28 #[.string ⟨a.toArray⟩, .string sy] W fun e w' => e = .returned (.bool (leftL a y)) ∧ ∃ q, w' = W.drewN q := fun W => by
        have := rleft_any ⟨a.toArray⟩ sy W (by simp [ByteArray.size]; unfold maxLen; omega) (by unfold maxLen; omega)
        rw [hdy] at this; exact this
      have hlb : ∀ (W : World), Calls Try.prog 28 #[.string ⟨b.toArray⟩, .string sy] W fun e w' => e = .returned (.bool (leftL b y)) ∧ ∃ q, w' = W.drewN q := fun W => by
        have := rleft_any ⟨b.toArray⟩ sy W (by simp [ByteArray.size]; unfold maxLen; omega) (by unfold maxLen; omega)
        rw [hdy] at this; exact this
      have hd0 : ((sy.size : Int) == (n : Int)) = true := by simp [hysz]
      have hcell1 : wr.cell? ⟨g, o + k, none⟩ = some (.string sy) := by rw [hcell, hsy.out]
      have hdd : dif a b y = (leftL a y != leftL b y) := rfl
      have key : ∀ (is2 : Bool) (l2 : List UInt8) (sl2 : ByteArray) (w5 : World), (∃ q, w5 = wr.drewN q) → sl2 = ⟨l2.toArray⟩ → BestOf (fun p => p ∈ L.take (k + 1)) (dif a b) is2 l2 →
          ∃ (k1 : Nat) (l : List UInt8) (sl : ByteArray) (is : Bool), k1 ≤ L.length ∧ (Value.int .i64 ((k : Int) + 1)) = .int .i64 k1 ∧ (Value.string sl2) = .string sl ∧ Hid (sl = ⟨l.toArray⟩) ∧ (Value.bool is2) = .bool is ∧ Hid (BestOf (fun p => p ∈ L.take k1) (dif a b) is l) ∧ Rd w5 (some ⟨g, o, none⟩) L.length (L.map encStr) ∧ Below w.heap.size w w5 := fun is2 l2 sl2 w5 ⟨q, hq⟩ h1 h2 => by
        subst hq
        exact ⟨k + 1, l2, sl2, is2, by omega, by go_num, rfl, h1, rfl, h2, hrd, below_drewN hb0 _⟩
      have KEY := Lib.hid key
      have hmore := fun (hq : dif a b y = false ∨ (is = true ∧ ltW y l = false)) => best_more (S' := fun p => p ∈ L.take (k + 1)) hbest.out (fun p h => (HTS.out p).1 h) (fun p h => (HTS.out p).2 (.inl h)) hq
      have htake := fun (h1 : dif a b y = true) (h2 : is = false ∨ ltW y l = true) => best_take (S' := fun p => p ∈ L.take (k + 1)) hbest.out (fun p h => (HTS.out p).1 h) ((HTS.out y).2 (.inr rfl)) h1 h2
      have HMORE := Lib.hid hmore; have HTAKE := Lib.hid htake
      have hlw : is = true → ltW y l = Op.bytesLess sy.toList sl.toList := fun his => by
        have hll : l.length = n := by
          rcases hbest.out with ⟨h1, _⟩ | ⟨_, _, h3, _⟩
          · rw [his] at h1; exact absurd h1 (by decide)
          · exact HMEM.out _ (List.mem_of_mem_take h3)
        rw [bytesLess_cb, hsy.out, hsl.out, toList_data, toList_data, Bool.eq_iff_iff, ltW_iff]
        simp [hll, hyl]
      have HLW := Lib.hid hlw; have HY := Lib.hid hyl; have HDD := Lib.hid hdd
      clear hlw hmore htake key hdd hcell hyl hdy
      generalize leftL a y = la at hla HDD
      generalize leftL b y = lb at hlb HDD
      have HLA := Lib.hid hla; have HLB := Lib.hid hlb; clear hla hlb
      by_cases hdif : (la != lb) = true
      · have hdt : dif a b y = true := HDD.out.trans hdif
        have HDT := Lib.hid hdt
        have hAB : (la = true ∧ lb = false) ∨ (la = false ∧ lb = true) := by cases la <;> cases lb <;> simp_all
        clear hdt hdif HDD
        cases is with
        | false =>
          have HN := Lib.hid (HTAKE.out HDT.out (.inl rfl))
          rcases hAB with ⟨rfl, rfl⟩ | ⟨rfl, rfl⟩
          all_goals
            go_wp2_with (fail)
            go_quiet (first | (go_at_call 28; with_reducible exact Calls.quiet_of (HLA.out _)) | (go_at_call 28; with_reducible exact Calls.quiet_of (HLB.out _)))
            go_wp2_with (fail)
            exact ⟨KEY.out true y sy _ ⟨_, rfl⟩ hsy.out HN.out, by simp [intOf]; omega⟩
        | true =>
          have hlw := HLW.out rfl
          cases hbl : Op.bytesLess sy.toList sl.toList with
          | true =>
            have HN := Lib.hid (HTAKE.out HDT.out (.inr (hlw.trans hbl)))
            clear hlw
            rcases hAB with ⟨rfl, rfl⟩ | ⟨rfl, rfl⟩
            all_goals
              go_wp2_with (fail)
              go_quiet (first | (go_at_call 28; with_reducible exact Calls.quiet_of (HLA.out _)) | (go_at_call 28; with_reducible exact Calls.quiet_of (HLB.out _)))
              go_wp2_with (fail)
              exact ⟨KEY.out true y sy _ ⟨_, rfl⟩ hsy.out HN.out, by simp [intOf]; omega⟩
          | false =>
            have HN := Lib.hid (HMORE.out (.inr ⟨rfl, hlw.trans hbl⟩))
            clear hlw
            rcases hAB with ⟨rfl, rfl⟩ | ⟨rfl, rfl⟩
            all_goals
              go_wp2_with (fail)
              go_quiet (first | (go_at_call 28; with_reducible exact Calls.quiet_of (HLA.out _)) | (go_at_call 28; with_reducible exact Calls.quiet_of (HLB.out _)))
              go_wp2_with (fail)
              exact ⟨KEY.out true l sl _ ⟨_, rfl⟩ hsl.out HN.out, by simp [intOf]; omega⟩
      · have hdf : (la != lb) = false := by simpa using hdif
        have hst := HMORE.out (.inl (HDD.out.trans hdf))
        have HST := Lib.hid hst
        obtain rfl : la = lb := by simpa using hdf
        clear hdif hdf hst
        go_wp2_with (fail)
        go_quiet (first | (go_at_call 28; with_reducible exact Calls.quiet_of (HLA.out _)) | (go_at_call 28; with_reducible exact Calls.quiet_of (HLB.out _)))
        go_wp2_with (fail)
        exact ⟨KEY.out is l sl _ ⟨_, rfl⟩ hsl.out HST.out, by simp [intOf]; omega⟩
    · obtain rfl : k = L.length := by omega
      have hf := HFIN.out is l (by have := hbest.out; rwa [List.take_length] at this)
      have HF := Lib.hid hf; clear hf
      go_wp2
      go_ret2
      rw [hsl.out]
      exact ⟨is, l, rfl, HF.out, hb0⟩
end Go.Proofs.Ytalildjhighlhaa
