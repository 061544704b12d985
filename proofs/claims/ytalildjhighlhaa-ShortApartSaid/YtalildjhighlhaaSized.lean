/-
  The walk of the reference's sized: it returns a new row of the parts of one size, in ascending order.
-/
import Derived.Test.YtalildjhighlhaaPlaces
import Derived.Test.YtalildjhighlhaaMathC
import Derived.Laws.BytesArg
namespace Go.Proofs.Ytalildjhighlhaa
open Go.RowKit Go.Proofs.Short Go.Lib

def SzPost (w : World) (L : List (List UInt8)) (e : Ending) (w' : World) : Prop :=
  ∃ A c, e = .returned (.slice A L.length c) ∧ w'.ownsRow w.heap.size 9 1 (.slice A L.length c) L.length (L.map encStr) ∧ Below w.heap.size w w'
theorem alpha_at {k : Nat} (hk : k < 6) : ∃ c, (alphaL 6)[k]? = some c ∧ c.toNat = 97 + k := by
  match k, hk with
  | 0, _ => exact ⟨97, rfl, rfl⟩
  | 1, _ => exact ⟨98, rfl, rfl⟩
  | 2, _ => exact ⟨99, rfl, rfl⟩
  | 3, _ => exact ⟨100, rfl, rfl⟩
  | 4, _ => exact ⟨101, rfl, rfl⟩
  | 5, _ => exact ⟨102, rfl, rfl⟩
theorem szL_le (n : Nat) (w : List UInt8) (hw : w.all okc = true) (hl : w.length ≤ 10) : (szL n w).length ≤ 1024 := by
  rw [szL_sized n w hw]
  exact Nat.le_trans (List.length_filter_le _ _) (by have := partsL_length [w] (by simpa using hl); simpa using this)
theorem conv_one (c : UInt8) (z : Int) (hz : z = (c.toNat : Int)) (W : World) : (convert 79 9 (.slice (some ⟨W.heap.size, 0, none⟩) 1 1)).run Try.prog (W.alloc (.cells #[.int .u8 z] 5)) = .ok (.string ⟨#[c]⟩) (W.alloc (.cells #[.int .u8 z] 5)) := by
  subst hz
  have h := run_convert_bytes_arg (P := Try.prog) (W.alloc (.cells #[.int .u8 (c.toNat : Int)] 5)) 79 5 Try.underlying79 Try.underlying5 W.heap.size 0 1 1 [(c.toNat : Int)] rfl (fun i hi => by
    match i, hi with
    | 0, _ => simp) 9 Try.underlying9
  rw [h]
  simp [strOfNums]
theorem slice_one (x : List UInt8) (j : Nat) (hj : j < x.length) (W : World) : (Instr.slice 9 (.string ⟨x.toArray⟩) (some (.int .i64 (j : Int))) (some (.int .i64 ((j : Int) + 1))) none).run Try.prog W = .ok (.string ⟨#[x[j]]⟩) W := by
  have hz : (⟨x.toArray⟩ : ByteArray).size = x.length := by simp [ByteArray.size]
  have h := run_slice_string (P := Try.prog) (w := W) 9 ⟨x.toArray⟩ .i64 .i64 (j : Int) ((j : Int) + 1) Try.underlying9 (by omega) (by omega) (by rw [hz]; omega)
  rw [h]
  have e : ((j : Int) + 1).toNat = j + 1 := by omega
  have e1 : j + 1 - j = 1 := by omega
  have e2 : (x.drop j).take 1 = [x[j]] := by rw [List.drop_eq_getElem_cons hj]; rfl
  rw [e, Int.toNat_natCast, ByteArray.extract_mk, e1, e2]
theorem idx_step {c : UInt8} {x : List UInt8} {j : Nat} (hj : j < x.length) (h : x[j] ≠ c) : idxL c (x.drop j) = (idxL c (x.drop (j + 1))).map (· + 1) := by
  rw [List.drop_eq_getElem_cons hj]; show (if _ then _ else _) = _; rw [if_neg h]
theorem idx_here {c : UInt8} {x : List UInt8} {j : Nat} (hj : j < x.length) (h : x[j] = c) : idxL c (x.drop j) = some 0 := by
  rw [List.drop_eq_getElem_cons hj]; show (if _ then _ else _) = _; rw [if_pos h]
theorem sized_zero (x : ByteArray) (w : World) :
    Calls Try.prog 63 #[.string x, .int .i64 0] w (SzPost w [[]]) := by
  go_enter Try.func63, Try.ntmps63
  go_wp2
  go_ret
  exact ⟨_, _, rfl, own_one w _ _ _ (Nat.le_refl _), (Below.refl _ w).alloc (Nat.le_refl _) _⟩

set_option maxRecDepth 100000 in
set_option maxHeartbeats 2000000 in
theorem sized_succ (n : Nat) (x : List UInt8) (w : World) (hn : n ≤ 100) (hx : x.length ≤ 10) (hok : x.all okc = true)
    (ih : ∀ (y : List UInt8) (z : Int) (W : World), z = (n : Int) → y.length ≤ 10 → y.all okc = true → Calls Try.prog 63 #[.string ⟨y.toArray⟩, .int .i64 z] W (SzPost W (szL n y))) :
    Calls Try.prog 63 #[.string ⟨x.toArray⟩, .int .i64 ((n : Int) + 1)] w (SzPost w (szL (n + 1) x)) := by
  have hle := szL_le (n + 1) x hok hx
  have hn0 : ((n : Int) + 1 == 0) = false := by rw [beq_eq_false_iff_ne]; omega
  obtain ⟨r, hr⟩ : ∃ r, Hid (((alphaL 6).drop 0).flatMap (szF n x) = r) := ⟨_, rfl⟩
  have hrr : szL (n + 1) x = r := hr.out
  rw [hrr] at hle ⊢
  obtain ⟨i0, hi, hz0, hz1, hz2'⟩ := info_parts Try.infoStr
  have HI := Lib.hid ih; have HOK := Lib.hid hok; clear ih hok hrr
  go_enter Try.func63, Try.ntmps63
  go_wp2
  go_loopw [5, 6] (fun v i wr => ∃ (k m : Nat) (A : Option Addr) (c0 : Nat) (L : List (List UInt8)), k ≤ 6 ∧ i = .int .i64 k ∧ v = .slice A m c0 ∧ Hid (m = L.length) ∧ m ≤ 1024 ∧
      wr.ownsRow w.heap.size 9 1 (.slice A m c0) m (L.map encStr) ∧ Hid (L ++ ((alphaL 6).drop k).flatMap (szF n x) = r) ∧ Below w.heap.size w wr)
    (fun _ i _ => 6 - (intOf i).toNat)
  case atStart => exact ⟨0, 0, none, 0, [], by omega, rfl, rfl, rfl, by omega, ⟨rfl, .inl ⟨rfl, rfl⟩⟩, hr, Below.refl _ w⟩
  case round =>
    obtain ⟨k, m, A, c0, L, hk, rfl, rfl, hm, hm1, hown, hl, hb⟩ := hrel
    by_cases h1 : k < 6
    · obtain ⟨c, hc, hcn⟩ := alpha_at h1
      have hcv := conv_one c (97 + (k : Int)) (by omega) wr
      obtain ⟨lt, hlt⟩ : ∃ lt : ByteArray, Hid (lt = ⟨#[c]⟩) := ⟨_, rfl⟩
      rw [← hlt.out] at hcv
      have HC := Lib.hid hc; have HCN := Lib.hid hcn; clear hc hcn
      go_wp2
      have hb1 := hb.alloc hb.size (.cells #[.int .u8 (97 + (k : Int))] 5)
      have hown1 := hown.alloc (.cells #[.int .u8 (97 + (k : Int))] 5)
      generalize wr.alloc (.cells #[.int .u8 (97 + (k : Int))] 5) = w1 at hb1 hown1 ⊢
      clear hb hown hcv
      go_loopw [8] (fun i wr => ∃ (j : Nat), j ≤ x.length ∧ i = .int .i64 j ∧ wr = w1 ∧ Hid (idxL c x = (idxL c (x.drop j)).map (· + j))) (fun i _ => x.length - (intOf i).toNat)
      case atStart => exact ⟨0, Nat.zero_le _, rfl, rfl, by show _ = _; simp⟩
      case round =>
        obtain ⟨j, hj, rfl, rfl, hix⟩ := hrel
        by_cases h2 : j < x.length
        · have hsl := slice_one x j h2
          by_cases he : x[j] = c
          · have hst := idx_here h2 he
            rw [he, ← hlt.out] at hsl
            have hsf := slice_from x (j + 1) (by omega)
            have hxf : idxL c x = some j := by rw [hix.out, hst]; simp
            have HST := Lib.hid (szF_some (n := n) hxf)
            have HOD := Lib.hid (all_drop_n HOK.out (j + 1))
            have hszl := szL_le n (x.drop (j + 1)) HOD.out (by simp; omega)
            have hlen : L.length + (szL n (x.drop (j + 1))).length ≤ 1024 := by
              have := congrArg List.length hl.out
              rw [drop_get HC.out, List.flatMap_cons, HST.out] at this
              simp only [List.length_append, List.length_map] at this
              omega
            have hsf' : ∀ W : World, (Instr.slice 9 (.string ⟨x.toArray⟩) (some (.int .i64 ((j : Int) + 1))) none none).run Try.prog W = .ok (.string ⟨(x.drop (j + 1)).toArray⟩) W := hsf
            clear hst he hsf hxf hix
            go_wp2_with (go_at_call 63; refine (HI.out (x.drop (j + 1)) _ _ (by omega) (by simp; omega) HOD.out).mono ?_; rintro e w2 ⟨A1, c1, rfl, hown2, hb2⟩)
            have hownw := own_below hown1 hb2
            have hbw := hb1.trans (hb2.mono hb1.size)
            have hlt1 : ∀ k', (.slice A m c0 : Value).ownBlock = some k' → k' < _ := fun k' e => (hown1.lt k' e).2
            have hrd1 := rdN_own hown2 _ hlt1
            generalize hyl : szL n (x.drop (j + 1)) = l1 at hown2 hrd1 HST hszl hlen ⊢
            have HYL : Hid (∀ y ∈ l1, y.length = n) := by
              show _; rw [← hyl]; exact fun y hy => ((mem_szL n _ HOD.out y).1 hy).1
            have hmL := hm.out
            have hcl : (⟨#[c]⟩ : ByteArray).size = 1 := rfl
            clear hown1 hb1 hown2 hb2 hlt1 hyl hszl hsl hsf' hcl
            go_loopw [5, 10] (fun v i wr => ∃ (q m : Nat) (A : Option Addr) (c0 : Nat), q ≤ l1.length ∧ i = .int .i64 q ∧ v = .slice A m c0 ∧ Hid (m = L.length + q) ∧ m ≤ 1024 ∧
                wr.ownsRow w.heap.size 9 1 (.slice A m c0) m ((L ++ (l1.take q).map (c :: ·)).map encStr) ∧ RdN wr (.slice A m c0 : Value).ownBlock A1 l1.length (l1.map encStr) ∧ Below w.heap.size w wr)
              (fun _ i _ => l1.length - (intOf i).toNat)
            case atStart => exact ⟨0, m, A, c0, Nat.zero_le _, rfl, rfl, hm, hm1, by simpa using hownw, hrd1, hbw⟩
            case round =>
              have HL := hl
              clear hownw hrd1 hbw hm hm1 hmL hl
              obtain ⟨q, m, A, c0, hq, rfl, rfl, hm, hm1, hown, hrd, hb⟩ := hrel
              have hsz := hb.size
              obtain ⟨xq, hxq⟩ : ∃ xq, Hid (xq = (L ++ (l1.take q).map (c :: ·)).map encStr) := ⟨_, rfl⟩
              rw [← hxq.out] at hown
              by_cases h3 : q < l1.length
              · obtain ⟨y, hy⟩ : ∃ y, l1[q]? = some y := ⟨_, List.getElem?_eq_getElem h3⟩
                have hyl : y.length ≤ 100 := by rw [HYL.out y (List.mem_of_getElem? hy)]; exact hn
                obtain ⟨g1, rfl, hne1, hat1⟩ := hrd (by omega)
                have hcell : wr.cell? ⟨g1, q, none⟩ = some (.string ⟨y.toArray⟩) := by
                  have := hat1.2 q h3
                  rw [Nat.zero_add, List.getD_eq_getElem?_getD, List.getElem?_map, hy] at this; exact this
                have hm2 : m + 1 ≤ 1024 := by have := hm.out; omega
                have HTK : Hid (xq ++ [.string (lt ++ ⟨y.toArray⟩)] = (L ++ (l1.take (q + 1)).map (c :: ·)).map encStr) := by
                  show _ = _
                  rw [hxq.out, List.take_add_one, hy, hlt.out, ByteArray.mk_append_mk]; simp [encStr]
                have hltz : lt.size = 1 := by rw [hlt.out]; rfl
                have hltn : ¬ 9223372036854775807 < lt.size + y.length := by omega
                clear hy hat1 hne1
                go_wp2_with (first
                  | (at_builtin; refine wpList_append_own_at _ rfl _ _ 36 rfl w.heap.size 9 i0 (.string ByteArray.empty) 1 16 Try.underlying36 hi hz0 hz1 hz2' rfl (by decide) _ _ _ rfl (hown.alloc _) ⟨wr.heap.size, 0, none⟩ 1 1 [.string (lt ++ ⟨y.toArray⟩)] rfl rfl ?c1 ?c2 ?c3 ?c4 ?c5 ?_))
                case c1 => exact cell_one_new _ _ _
                case c2 => exact fun u hu => by rw [List.mem_singleton.1 hu]; rfl
                case c3 => unfold maxLen; omega
                case c4 => omega
                case c5 => simp; omega
                intro v5 w5 hown5 hg5 _ hloc
                obtain ⟨A5, c5, rfl⟩ := ownsRow_shape hown5
                have hr5 : (.slice A5 (m + 1) c5 : Value).ownBlock = (.slice A m c0 : Value).ownBlock ∨ ∃ k', (.slice A5 (m + 1) c5 : Value).ownBlock = some k' ∧ (wr.alloc (.cells #[.string (lt ++ ⟨y.toArray⟩)] 9)).heap.size ≤ k' :=
                  hloc.imp id fun h => ⟨wr.heap.size + 1, h, by simp⟩
                have hrd5 := (hrd.kept (World.grownBy_alloc wr (.cells #[.string (lt ++ ⟨y.toArray⟩)] 9) none) (.inl rfl) (.inl rfl)).kept hg5 (.inr rfl) hr5
                have hb5 := below_own (hown.alloc _) (hb.alloc hsz _) (by simp; omega) hg5
                rw [HTK.out] at hown5
                have hmm := hm.out
                clear hg5 hloc hown hrd hb hcell hr5
                go_wp2
                exact ⟨⟨q + 1, m + 1, A5, c5, by omega, by go_num, rfl, by show _ = _; omega, hm2, hown5, hrd5, hb5⟩, by simp [intOf]; omega⟩
              · obtain rfl : q = l1.length := by omega
                rw [hxq.out, List.take_length] at hown
                have hmm := hm.out
                go_wp2
                exact ⟨⟨k + 1, m, A, c0, _, by omega, by go_num, rfl, by show _ = _; simp; omega, hm1, hown, by show _ = _; rw [List.append_assoc, ← HST.out]; rw [← HL.out, drop_get HC.out, List.flatMap_cons], hb⟩, by simp [intOf]; omega⟩
          · have hne : ([x[j]] == lt.toList) = false := by rw [hlt.out, toList_data]; simp [he]
            have hst := idx_step h2 he
            have HST := Lib.hid hst; clear hst
            go_wp2
            exact ⟨⟨j + 1, by omega, by go_num, trivial, by show _ = _; rw [hix.out, HST.out]; simp [Option.map_map]; congr 1; funext i; simp; omega⟩, by simp [intOf]; omega⟩
        · have hxn : idxL c x = none := by rw [hix.out, List.drop_eq_nil_of_le (by omega)]; rfl
          have hdc : decide ((j : Int) < (x.length : Int)) = false := by rw [decide_eq_false_iff_not]; omega
          have hjb : ((j : Int) == (x.length : Int)) = true := by rw [beq_iff_eq]; omega
          have HXN := Lib.hid hxn; clear hxn hix
          go_wp2
          exact ⟨⟨k + 1, m, A, c0, L, by omega, by go_num, rfl, hm, hm1, hown1, by show _ = _; rw [← hl.out, drop_get HC.out, List.flatMap_cons, szF_none HXN.out]; simp, hb1⟩, by simp [intOf]; omega⟩
    · obtain rfl : k = 6 := by omega
      have e : L = r := by have := hl.out; simpa [alphaL] using this
      have hmm := hm.out
      subst e; subst hmm
      go_wp2
      go_ret
      exact ⟨A, c0, rfl, hown, hb⟩
theorem sized_any : ∀ (n : Nat) (x : List UInt8) (z : Int) (W : World), n ≤ 100 → z = (n : Int) → x.length ≤ 10 → x.all okc = true →
    Calls Try.prog 63 #[.string ⟨x.toArray⟩, .int .i64 z] W (SzPost W (szL n x))
  | 0, x, z, W, _, hz, _, _ => by subst hz; exact sized_zero ⟨x.toArray⟩ W
  | n + 1, x, z, W, hn, hz, hx, hok => by
    have e : z = (n : Int) + 1 := by omega
    subst e
    exact sized_succ n x W (by omega) hx hok fun y z' W' hz' hy hoky => sized_any n y z' W' (by omega) hz' hy hoky
end Go.Proofs.Ytalildjhighlhaa
