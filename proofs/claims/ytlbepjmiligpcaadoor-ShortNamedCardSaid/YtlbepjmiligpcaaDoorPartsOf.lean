/-
  The walks of package short's addParts, shortestFirst and partsOf, and of the library's cmp.Or and slices.SortedFunc as they stand in this program: partsOf hands back a new row that holds the parts in their order.
-/
import Derived.Test.YtlbepjmiligpcaaDoorParts
import Derived.Test.YtlbepjmiligpcaaDoorShelf
import Derived.Maps.OwnSet
import Derived.Laws.IdiomStrings
import Derived.StringKeys
import Derived.Sort.OwnSorted
set_option linter.unusedSimpArgs false
set_option linter.unusedVariables false
namespace Go.Proofs.YtlbepjmiligpcaaDoor
open Go.RowKit Go.Proofs.Short Go.Lib Go.Maps Go.WideMaps Go.Shelf Go.Sort

/-- the world holds a map of words, at block b -/
abbrev OwnM (w : World) (b n : Nat) (D : DataW Unit) : Prop := w.ownsMap Tryd.prog 9 (plainElem Tryd.prog 4) b n D
theorem Tryd.keyS : Keyed Tryd.prog 9 := string_keyed Tryd.underlying9

/-- the map's keys are just the words of S -/
def Keys (D : DataW Unit) (S : List UInt8 → Prop) : Prop := ∀ k, has D (.string k) = true ↔ S k

theorem mem_strKeys {w : World} {b n : Nat} {D : DataW Unit} (hown : OwnM w b n D) : (strKeys D).Nodup ∧ ∀ x, x ∈ strKeys D ↔ has D (.string x) = true := by
  obtain ⟨es, hD, hpw, _⟩ := hown.entries Tryd.keyS
  obtain ⟨es', hD', hko⟩ := hown.keysOf
  obtain rfl : es = es' := by rw [hD] at hD'; simpa using hD'
  subst hD
  have hk : ∀ p ∈ es, ∃ x, p.1 = .string x := fun p hp => by obtain ⟨v, hv⟩ := hko p hp; obtain ⟨x, _, hx, _⟩ := Maps.keyOf_str Tryd.underlying9 hv; exact ⟨x, hx⟩
  constructor
  · show (es.map fun p => strOf p.1).Nodup
    refine List.pairwise_map.2 (hpw.imp_of_mem fun {p q} hp' hq' hne e => hne ?_)
    obtain ⟨a, ha⟩ := hk p hp'
    obtain ⟨b, hb⟩ := hk q hq'
    rw [ha, hb] at e ⊢
    exact congrArg _ e
  · intro x
    rw [has_eq, List.any_eq_true]
    show x ∈ es.map (fun p => strOf p.1) ↔ _
    rw [List.mem_map]
    constructor
    · rintro ⟨p, hp', rfl⟩
      obtain ⟨a, ha⟩ := hk p hp'
      exact ⟨p, hp', by rw [ha]; simp [Lit.sameKey, strOf]⟩
    · rintro ⟨p, hp', hs⟩
      obtain ⟨a, ha⟩ := hk p hp'
      rw [ha] at hs
      exact ⟨p, hp', by rw [ha]; simpa [Lit.sameKey, strOf] using hs⟩
theorem isKey_str (k : List UInt8) (hk : k.length ≤ maxLen) : WideAt.IsKeyLit (.string k) :=
  Tryd.keyS.key (keyOf_string_mk (s := ⟨k.toArray⟩) Tryd.underlying9 (by simpa [ByteArray.size] using hk))
theorem keys_put {D : DataW Unit} {S : List UInt8 → Prop} {k : List UInt8} {d : DataW Unit} (h : Keys D S) (hm : IsMap D) (hk : k.length ≤ maxLen) : Keys (D.put (.string k) d) (fun x => S x ∨ x = k) := by
  intro x
  by_cases e : x = k
  · subst e
    rw [has_put_same hm (isKey_str _ hk)]; simp
  · rw [has_put_other (by simpa using e)]
    rw [h x]; simp [e]
theorem keys_empty : Keys (.map []) (fun _ => False) := by intro k; simp [has]

theorem wpList_insert_own {H : Type} {P : Program} (w : World) {ops : Array Oper} {rest : List Oper} {o : Oper} {a : Act} {Q : Exit → Act → World → Prop}
    (hg : o.guard = none) (m x v : Operand) (t : TypeId) (hop : o.op = Op.insert t m x v)
    (k e : TypeId) (K : Keyed P k) (ht : P.underlying t = some (.map k e)) (R : Value → Option (DataW H × List MemPlace)) (b n : Nat) (D : DataW H)
    (hm : a.eval m = .map (some b)) (hown : w.ownsMap P k R b n D) (hn : n < maxLen) (key val : Value) (kl : Lit) (hx : a.eval x = key) (hv : a.eval v = val) (hkey : keyOf P k key = some kl)
    (d : DataW H) (ps : List MemPlace) (hval : R val = some (d, ps))
    (hK : ∀ w', w'.ownsMap P k R b (n + 1) (D.put kl d) → w.grownBy w' (some b) → wpList P ops Q rest (a.put o.dst undef) w') :
    wpList P ops Q (o :: rest) a w := by
  refine wpList_plain hg fun K' hK' => ?_
  obtain ⟨w', hrun, r1, r2⟩ := hown.update K ht hn hkey hval
  unfold Oper.wp
  simp [execOp, hop, hm, hx, hv, hrun, Result.andThen]
  exact hK' _ _ (hK w' r1 r2)

theorem keysC (mb : Option Nat) (W : World) : Calls Tryd.prog 43 #[.map mb] W fun e w' => e = .returned (.func (.func 55) #[] #[.pointer (some ⟨W.heap.size, 0, none⟩)]) ∧ w' = W.alloc (.cells #[.map mb] 78) :=
  callsIn_wide.1 (AnyZ.keys_in Tryd.keysZ Fence.wide 5 trivial rfl mb W)

theorem collectC (b n : Nat) (D : DataW Unit) (w : World) (hown : OwnM w b n D) (hn : n ≤ 1000000) :
    Calls Tryd.prog 52 #[.func (.func 55) #[] #[.pointer (some ⟨w.heap.size, 0, none⟩)]] (w.alloc (.cells #[.map (some b)] 78)) fun e w' => ∃ (v : Value) (ss : List (List UInt8)), e = .returned v ∧ ss.Perm (strKeys D) ∧
      w'.ownsRow (w.heap.size + 1) 9 1 v ss.length (ss.map encStr) ∧ (v = .slice none 0 0 ↔ ss = []) ∧ Below (w.heap.size + 1) (w.alloc (.cells #[.map (some b)] 78)) w' := by
  have hsz := hown.size_le
  have hbl := hown.lt
  have hseq : SeqGives Fence.wide 2 Tryd.prog 55 #[.pointer (some ⟨w.heap.size, 0, none⟩)] encStr (fun ss => ss.Perm (strKeys D)) (Maps.size D) (w.alloc (.cells #[.map (some b)] 78)) :=
    AnyZ.keys_gives (ρ := Tryd.keysZ_ren) { Tryd.keysZ with } Fence.wide _ trivial rfl (by omega) w.heap.size b n D _ (by simp) (by simp) (by
      obtain ⟨es, clock, hb, Ft, hs, hD⟩ := hown
      exact ⟨es, clock, (Below.heap_alloc _ _ b hbl).trans hb, Ft, hs, hD⟩)
  have h := callsIn_wide.1 (AnyZ.collect_in Tryd.collectZ Fence.wide 4 trivial trivial rfl (by omega) 55 #[.pointer (some ⟨w.heap.size, 0, none⟩)] trivial (enters_of Tryd.func55 (by kernel_rfl) rfl) _ (Maps.size D) (by unfold maxLen; omega) (by omega) _ hseq)
  simp only [World.size_alloc] at h
  exact h

def orZ (x y : Int) : Int := if x = 0 then y else x
theorem orZ_zero (y : Int) : orZ 0 y = y := rfl
theorem orZ_ne {x : Int} (y : Int) (h : ¬ x = 0) : orZ x y = x := if_neg h
set_option maxHeartbeats 400000 in
theorem or2 (b o c : Nat) (x y : Int) (w : World) (hx : w.cell? ⟨b, o, none⟩ = some (.int .i64 x)) (hy : w.cell? ⟨b, o + 1, none⟩ = some (.int .i64 y)) :
    Calls Tryd.prog 56 #[.slice (some ⟨b, o, none⟩) 2 c] w fun e w' => e = .returned (.int .i64 (orZ x y)) ∧ w' = w := by
  by_cases h0 : x = 0
  · subst h0
    rw [orZ_zero]
    by_cases h1 : y = 0
    · subst h1
      go_enter Tryd.func56, Tryd.ntmps56
      go_wp2
      refine wp_loop_rounds 3 ?_
      rw [rounds_succ]
      go_wp2
      rw [rounds_succ]
      go_wp2
      rw [rounds_succ]
      go_wp2
      go_ret
      exact ⟨rfl, rfl⟩
    · have hb : (y != 0) = true := by simpa using h1
      have H1 := Lib.hid h1; clear h1
      go_enter Tryd.func56, Tryd.ntmps56
      go_wp2
      refine wp_loop_rounds 3 ?_
      rw [rounds_succ]
      go_wp2
      rw [rounds_succ]
      go_wp2
      go_ret
      exact ⟨rfl, rfl⟩
  · have hb : (x != 0) = true := by simpa using h0
    rw [orZ_ne y h0]
    clear h0
    go_enter Tryd.func56, Tryd.ntmps56
    go_wp2
    refine wp_loop_rounds 3 ?_
    rw [rounds_succ]
    go_wp2
    go_ret
    exact ⟨rfl, rfl⟩

theorem cmpInt (x y : Int) (w : World) : Calls Tryd.prog 57 #[.int .i64 x, .int .i64 y] w fun e w' => e = .returned (.int .i64 (Lib.compareInt x y)) ∧ w' = w := Any.cmp_Compare_int Tryd.lays122 x y w
theorem cmpStr (a b : List UInt8) (w : World) : Calls Tryd.prog 58 #[.string ⟨a.toArray⟩, .string ⟨b.toArray⟩] w fun e w' => e = .returned (.int .i64 (Lib.compareBytes a b)) ∧ w' = w := Any.strings_Compare Tryd.lays106 ⟨a.toArray⟩ ⟨b.toArray⟩ w

set_option maxHeartbeats 400000 in
theorem shortest_any (a b : List UInt8) (w : World) (ha : a.length ≤ maxLen) (hb : b.length ≤ maxLen) :
    Calls Tryd.prog 44 #[.string ⟨a.toArray⟩, .string ⟨b.toArray⟩] w fun e w' => e = .returned (.int .i64 (cfW a b)) ∧ ∃ o, w' = w.alloc o := by
  have hc : cfW a b = orZ (Lib.compareInt a.length b.length) (Lib.compareBytes a b) := rfl
  have HC := Lib.hid hc; clear hc
  have ha' := ha; have hb' := hb
  unfold maxLen at ha' hb'
  clear ha hb
  go_enter Tryd.func44, Tryd.ntmps44
  go_wp2_with (first
    | (go_at_call 57; refine (cmpInt _ _ _).mono ?_; rintro e w1 ⟨rfl, rfl⟩)
    | (go_at_call 58; refine (cmpStr _ _ _).mono ?_; rintro e w1 ⟨rfl, rfl⟩)
    | (go_at_call 56; refine (or2 _ _ _ (Lib.compareInt a.length b.length) (Lib.compareBytes a b) _ (by rw [World.cell?_alloc_at _ _ _ _ rfl]; rfl) (by rw [World.cell?_alloc_at _ _ _ _ rfl]; rfl)).mono ?_; rintro e w2 ⟨rfl, rfl⟩))
  go_ret
  rw [HC.out]
  exact ⟨rfl, _, rfl⟩

/-! ### the sort -/
abbrev W64 : Type := { x : List UInt8 // x.length ≤ 64 }
instance instW64 : Inhabited W64 := ⟨⟨[], by decide⟩⟩
def encW (x : W64) : Value := encStr x.1
def cfS (x y : W64) : Int := cfW x.1 y.1
theorem ltS (x y : W64) : ltOf cfS x y = ltW x.1 y.1 := rfl
theorem swoS : SWO (ltOf cfS) where
  irrefl x := by rw [ltS]; exact ltW_irrefl _
  trans x y z h1 h2 := by rw [ltS] at *; exact ltW_trans h1 h2
  ntrans x y z h1 h2 := by
    rw [ltS] at *
    cases h : ltW x.1 z.1 with
    | false => rfl
    | true =>
      cases h3 : ltW y.1 x.1 with
      | false => have e := ltW_total h1 h3; rw [e] at h; rw [h] at h2; exact absurd h2 (by decide)
      | true => have := ltW_trans h3 h; rw [this] at h2; exact absurd h2 (by decide)
theorem totS (x y : W64) (h1 : ltOf cfS x y = false) (h2 : ltOf cfS y x = false) : x = y := Subtype.ext (ltW_total h1 h2)
theorem cmpS (blk off size : Nat) (w : World) : CmpLays1 Tryd.prog 44 #[] encW cfS blk off size w := by
  intro m os dk hdk x y
  have hx := x.2; have hy := y.2
  refine (shortest_any x.1 y.1 _ (by unfold maxLen; omega) (by unfold maxLen; omega)).mono ?_
  rintro e w' ⟨he, o, hw⟩
  exact ⟨he, 0, #[o], by rw [hw, alloc_eq_grow]; rfl⟩

theorem putRow_W (w : World) (blk : Nat) (d : Array W64) : putRow encW w blk 0 d = putRow encStr w blk 0 (d.map (·.1)) := by
  unfold putRow
  have e : putCells encW 0 d = putCells encStr 0 (d.map (·.1)) := by
    funext c
    unfold putCells
    congr 1
    funext k x
    by_cases h : k < d.size
    · have h1 : 0 ≤ k ∧ k < 0 + d.size := by omega
      have h2 : 0 ≤ k ∧ k < 0 + (d.map (·.1)).size := by simpa using h1
      rw [if_pos h1, if_pos h2]
      simp only [Nat.sub_zero]
      rw [getElem!_pos d k h, getElem!_pos (d.map (·.1)) k (by simpa using h), Array.getElem_map]; rfl
    · rw [if_neg (by omega), if_neg (by simp; omega)]
  rw [e]
theorem holds_W {w : World} {g : Nat} {d : Array W64} (h : Holds encStr w g 0 (d.map (·.1))) : Holds encW w g 0 d := by
  intro j hj
  have := h j (by simpa using hj)
  rw [getElem!_pos (d.map (·.1)) j (by simpa using hj), Array.getElem_map] at this
  rw [getElem!_pos d j hj]
  exact this
theorem lift_W : ∀ (ss : List (List UInt8)), (∀ x ∈ ss, x.length ≤ 64) → ∃ d : List W64, d.map (·.1) = ss
  | [], _ => ⟨[], rfl⟩
  | x :: l, h => by
    obtain ⟨d, hd⟩ := lift_W l (fun y hy => h y (List.mem_cons_of_mem _ hy))
    exact ⟨⟨x, h x (List.mem_cons_self ..)⟩ :: d, by simp [hd]⟩
theorem sorted_srt (d : List W64) (hnd : (d.map (·.1)).Nodup) : Srt ((d.mergeSort fun x y => !(ltOf cfS) y x).map (·.1)) := by
  have tr : ∀ a b c : W64, (!(ltOf cfS) b a) = true → (!(ltOf cfS) c b) = true → (!(ltOf cfS) c a) = true := by
    intro a b c h1 h2
    simp only [Bool.not_eq_true'] at *
    exact swoS.ntrans _ _ _ h2 h1
  have to : ∀ a b : W64, ((!(ltOf cfS) b a) || (!(ltOf cfS) a b)) = true := by
    intro a b
    cases h : ltOf cfS b a with
    | false => rfl
    | true => rw [ltS] at h; rw [ltS, ltW_asymm h]; rfl
  have hp := List.pairwise_mergeSort (le := fun x y => !(ltOf cfS) y x) tr to d
  have hperm := List.mergeSort_perm d (fun x y => !(ltOf cfS) y x)
  have hn : ((d.mergeSort fun x y => !(ltOf cfS) y x).map (·.1)).Nodup := (hperm.map (·.1)).nodup_iff.2 hnd
  unfold Srt
  rw [List.pairwise_map]
  have hn2 := List.pairwise_map.1 hn
  refine hp.imp₂ ?_ hn2
  intro a b h1 h2
  simp only [Bool.not_eq_true'] at h1
  rw [ltS] at h1
  cases h : ltW a.1 b.1 with
  | true => rfl
  | false => exact absurd (ltW_total h h1) h2

set_option maxHeartbeats 1000000 in
theorem sortedC (b n : Nat) (D : DataW Unit) (w : World) (ws : List (List UInt8)) (hown : OwnM w b n D) (hn : n ≤ 1000000) (hk : Keys D (fun k => ∃ x ∈ ws, k.Sublist x)) (hws : ws ≠ []) (h10 : ∀ x ∈ ws, x.length ≤ 10) :
    Calls Tryd.prog 42 #[.func (.func 55) #[] #[.pointer (some ⟨w.heap.size, 0, none⟩)], .func (.func 44) #[] #[]] (w.alloc (.cells #[.map (some b)] 78)) fun e w' =>
      ∃ A c, e = .returned (.slice A (partsL ws).length c) ∧ w'.ownsRow (w.heap.size + 1) 9 1 (.slice A (partsL ws).length c) (partsL ws).length ((partsL ws).map encStr) ∧ Below (w.heap.size + 1) (w.alloc (.cells #[.map (some b)] 78)) w' := by
  have hC := collectC b n D w hown hn
  obtain ⟨hnd, hmem⟩ := mem_strKeys hown
  have hall : ∀ x ∈ strKeys D, x.length ≤ 64 := fun x hx => by
    obtain ⟨y, hy, hs⟩ := (hk x).1 ((hmem x).1 hx)
    have := h10 y hy; have := hs.length_le; omega
  have hne : strKeys D ≠ [] := by
    cases ws with
    | nil => exact absurd rfl hws
    | cons y l => exact List.ne_nil_of_mem ((hmem []).2 ((hk []).2 ⟨y, List.mem_cons_self .., List.nil_sublist y⟩))
  have hfin : ∀ ts : List (List UInt8), Srt ts → (∀ x, x ∈ ts ↔ x ∈ strKeys D) → ts = partsL ws := fun ts h1 h2 =>
    srt_ext h1 (srt_partsL ws) fun x => by rw [h2 x, hmem x, hk x, mem_partsL]
  have hlen : (strKeys D).length ≤ 1000000 := by
    have h1 := hown.size_le
    obtain ⟨es, hD, _, _⟩ := hown.entries Tryd.keyS
    have : (strKeys D).length = Maps.size D := by rw [hD]; simp [strKeys, Maps.size]
    omega
  have HND := Lib.hid hnd; have HALL := Lib.hid hall; have HNE := Lib.hid hne; have HFIN := Lib.hid hfin
  clear hnd hmem hall hne hfin hk hws h10 hown
  have eg : ∀ args w, (callFunc 44 args).run Tryd.prog w = .ok (.enter 44 args) w := enters_of Tryd.func44 (by kernel_rfl) rfl
  have HEG := Lib.hid eg; clear eg
  go_enter Tryd.func42, Tryd.ntmps42
  go_wp2_with (go_at_call 52; refine hC.mono ?_; rintro e w1 ⟨v, ss, rfl, hperm, hrow, hnil, hb1⟩)
  rcases hrow.2 with ⟨hv, h0⟩ | ⟨g, cap, cur, hv, hbase, hb, h1, h2, h3, h4⟩
  · have : strKeys D = [] := by
      have e := hperm.length_eq
      rw [h0] at e
      exact List.eq_nil_of_length_eq_zero e.symm
    exact absurd this HNE.out
  · obtain ⟨d, hd⟩ := lift_W ss (fun x hx => HALL.out x (hperm.mem_iff.1 hx))
    have hmapd : d.toArray.map (·.1) = ss.toArray := by rw [List.map_toArray, hd]
    have hH : Holds encW w1 g 0 d.toArray := holds_W (by rw [hmapd]; exact holds_of_block hb (by simpa using h4))
    have hgl : g < w1.heap.size := (Array.getElem?_eq_some_iff.1 hb).1
    have hdl : d.length = ss.length := by rw [← hd]; simp
    have hsl : ss.length ≤ 1000000 := by have := hperm.length_eq; omega
    have hS := Any.slices_SortFunc_total Tryd.sortF encW (fun _ => rfl) cfS swoS 44 #[] g 0 cap d.toArray w1 HEG.out (cmpS _ _ _ _) hH hgl (by simp; omega) totS
    change Calls Tryd.prog 54 _ _ _ at hS
    have hsz : d.toArray.size = ss.length := by simpa using hdl
    rw [hsz] at hS
    have hnd2 : (d.map (·.1)).Nodup := by rw [hd]; exact hperm.nodup_iff.2 HND.out
    have hts := HFIN.out _ (sorted_srt d hnd2) (fun x => by
      rw [((List.mergeSort_perm d _).map (·.1)).mem_iff, hd]; exact hperm.mem_iff)
    have hlt : (partsL ws).length = ss.length := by rw [← hts]; simp [hdl]
    have hrow2 : ∀ q os, (sortWorld encW w1 g 0 q (d.mergeSort fun x y => !(ltOf cfS) y x).toArray os).ownsRow (w.heap.size + 1) 9 1 (.slice (some ⟨g, 0, none⟩) ss.length cap) ss.length ((partsL ws).map encStr) := fun q os => by
      unfold sortWorld
      rw [putRow_W, List.map_toArray, hts]
      exact ownsRow_sorted hlt hbase hb h1 h2 h3
    have hbel : ∀ q os, Below (w.heap.size + 1) w1 (sortWorld encW w1 g 0 q (d.mergeSort fun x y => !(ltOf cfS) y x).toArray os) := fun q os => by
      unfold sortWorld
      rw [putRow_W]
      exact (Below.refl _ _).grown (grownBy_sorted _) (by omega) (fun k e => by cases e; exact hbase)
    have HR := Lib.hid hrow2; have HB := Lib.hid hbel; have HL := Lib.hid hlt
    have HV := Lib.hid hv
    clear hrow2 hbel hlt hts hnd2 hsz hdl hmapd hH h4 h3 h2 h1 hb hd hrow hnil hperm hv
    rw [HV.out]
    refine hS.mono ?_
    rintro e w2 ⟨rfl, q, os, hw2⟩
    have hr2 := HR.out q os
    have hb2 := HB.out q os
    rw [← hw2] at hr2 hb2
    have HR2 := Lib.hid hr2; clear hr2 hw2 HR HB hS
    go_wp2
    go_ret
    rw [HL.out]
    exact ⟨_, _, rfl, HR2.out, hb1.trans hb2⟩
end Go.Proofs.YtlbepjmiligpcaaDoor
