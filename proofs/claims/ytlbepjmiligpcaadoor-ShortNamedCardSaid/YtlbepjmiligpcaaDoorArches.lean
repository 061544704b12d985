/-
  The walks of package short's checkLetters and Arches: each returns what the plain Lean function says.
-/
import Derived.Test.YtlbepjmiligpcaaDoorPartsOf
import Derived.Maps.AppendAt
import Derived.ChangeMaps5
set_option linter.unusedSimpArgs false
set_option linter.unusedVariables false
namespace Go.Proofs.YtlbepjmiligpcaaDoor
open Go.RowKit Go.Proofs.Short Go.Lib Go.Maps Go.WideMaps Go.Shelf

theorem index_lt : ∀ {l : List UInt8} {c : UInt8}, decide (0 ≤ Lib.indexByte l c) = l.contains c
  | [], c => by simp [Lib.indexByte]
  | b :: l, c => by
    have ih := index_lt (l := l) (c := c)
    unfold Lib.indexByte
    rw [List.contains_cons]
    by_cases h : b = c
    · subst h; simp
    · have h1 : (b == c) = false := by simpa using h
      have h2 : (c == b) = false := by simpa using fun e => h e.symm
      rw [h1, h2, ← ih]
      simp only [Bool.false_eq_true, if_false, Bool.false_or]
      by_cases h3 : Lib.indexByte l c = -1
      · simp [h3]
      · have h4 : (Lib.indexByte l c == -1) = false := by simpa using h3
        rw [h4]
        simp only [Bool.false_eq_true, if_false]
        have h5 : -1 ≤ Lib.indexByte l c := by
          clear ih h3 h4
          induction l with
          | nil => simp [Lib.indexByte]
          | cons d l ih =>
            unfold Lib.indexByte
            split
            · omega
            · split <;> omega
        rw [decide_eq_decide]
        omega
theorem byte_back (c : UInt8) : (c.toNat : Int).toNat.toUInt8 = c := by simp
theorem containsC (l : List UInt8) (c : UInt8) (hc : c.toNat < 128) (W : World) :
    Calls Tryd.prog 45 #[.string ⟨l.toArray⟩, .int .i32 (c.toNat : Int)] W fun e w' => e = .returned (.bool (l.contains c)) ∧ w' = W := by
  have h := Any.strings_ContainsRune_ascii Tryd.lays151 ⟨l.toArray⟩ (c.toNat : Int) W (by omega) (by omega)
  rw [byte_back, index_lt] at h
  exact h
theorem slice_alpha (k : Nat) (h1 : 1 ≤ k) (h6 : k ≤ 6) (W : World) :
    (Instr.slice 9 (.string ⟨#[97, 98, 99, 100, 101, 102]⟩) none (some (.int .i64 (k : Int))) none).run Tryd.prog W = .ok (.string ⟨(alphaL k).toArray⟩) W := by
  have hs : ∀ W : World, (Instr.slice 9 (.string ⟨#[97, 98, 99, 100, 101, 102]⟩) none (some (.int .i64 ((k : Nat) : Int))) none).run Tryd.prog W = .ok (.string ((⟨#[97, 98, 99, 100, 101, 102]⟩ : ByteArray).extract 0 k)) W := fun W => by
    have h6' : (k : Int) ≤ ((⟨#[97, 98, 99, 100, 101, 102]⟩ : ByteArray).size : Int) := by show (k : Int) ≤ 6; omega
    go_simp
    intro h; omega
  rw [hs W]
  have : k = 1 ∨ k = 2 ∨ k = 3 ∨ k = 4 ∨ k = 5 ∨ k = 6 := by omega
  rcases this with rfl | rfl | rfl | rfl | rfl | rfl <;> rfl

theorem all_drop {p : UInt8 → Bool} {l : List UInt8} {k : Nat} {c : UInt8} (hc : l[k]? = some c) : (l.drop k).all p = (p c && (l.drop (k + 1)).all p) := by
  rw [drop_get hc, List.all_cons]

set_option maxHeartbeats 400000 in
theorem letters_chk (x : List UInt8) (k : Int) (w : World) (hx : x.length ≤ maxLen) (hz : chk x ≠ 0) :
    Calls Tryd.prog 24 #[.string ⟨x.toArray⟩, .int .i64 k] w fun e w' => e = .returned (.int .i64 (chk x)) ∧ Below w.heap.size w w' := by
  have hz2 : (chk x != 0) = true := by simp [hz]
  clear hz
  go_enter Tryd.func24, Tryd.ntmps24
  go_wp2_with (go_at_call 22; refine (check_l x _ hx).mono ?_; rintro e w1 ⟨rfl, hb1⟩)
  go_ret
  exact ⟨rfl, hb1⟩
set_option maxHeartbeats 400000 in
theorem letters_range (x : List UInt8) (k : Int) (w : World) (hz : chk x = 0) (hk : k < 1 ∨ 6 < k) :
    Calls Tryd.prog 24 #[.string ⟨x.toArray⟩, .int .i64 k] w fun e w' => e = .returned (.int .i64 1) ∧ Below w.heap.size w w' := by
  have hx : x.length ≤ maxLen := by have := (chk_zero hz).1; unfold maxLen; omega
  have hz2 : (chk x != 0) = false := by simp [hz]
  clear hz
  rcases hk with h | h
  all_goals
    go_enter Tryd.func24, Tryd.ntmps24
    go_wp2_with (go_at_call 22; refine (check_l x _ hx).mono ?_; rintro e w1 ⟨rfl, hb1⟩)
    all_goals (go_ret; exact ⟨rfl, hb1⟩)

def allIn (k : Nat) (x : List UInt8) : Bool := x.all fun b => (alphaL k).contains b
set_option maxRecDepth 100000 in
set_option maxHeartbeats 1000000 in
theorem letters_in (x : List UInt8) (k : Nat) (w : World) (hz : chk x = 0) (h1 : 1 ≤ k) (h6 : k ≤ 6) :
    Calls Tryd.prog 24 #[.string ⟨x.toArray⟩, .int .i64 k] w fun e w' => e = .returned (.int .i64 (if allIn k x then 0 else 2)) ∧ Below w.heap.size w w' := by
  obtain ⟨hx10, hok⟩ := chk_zero hz
  have hx : x.length ≤ maxLen := by unfold maxLen; omega
  have hz2 : (chk x != 0) = false := by simp [hz]
  have HOK := Lib.hid hok
  have hsl := slice_alpha k h1 h6
  obtain ⟨r, hr⟩ : ∃ r, Hid (allIn k x = r) := ⟨_, rfl⟩
  rw [hr.out]
  clear hz hok
  obtain ⟨rv, hrv⟩ : ∃ rv : Int, Hid ((if r then 0 else 2) = rv) := ⟨_, rfl⟩
  rw [hrv.out]
  go_enter Tryd.func24, Tryd.ntmps24
  go_wp2_with (go_at_call 22; refine (check_l x _ hx).mono ?_; rintro e w1 ⟨rfl, hb1⟩)
  have hitA := World.iter_heap w1 ⟨x.toArray⟩ 0
  have hbA : Below w.heap.size w (w1.iter ⟨x.toArray⟩ 0) := hb1.alloc hb1.size _
  have hI := hb1.size
  generalize w1.iter ⟨x.toArray⟩ 0 = wA at hitA hbA ⊢
  generalize w1.heap.size = I at hitA hI ⊢
  clear hb1
  go_loopw [7] (fun _ wr => ∃ (pos : Nat), pos ≤ x.length ∧ wr.heap[I]? = some (.stringIter ⟨x.toArray⟩ pos) ∧ Below w.heap.size w wr ∧ Hid ((x.drop pos).all (fun b => (alphaL k).contains b) = r)) (fun _ wr => x.length - wr.iterPos I)
  case atStart => exact ⟨0, Nat.zero_le _, hitA, hbA, hr⟩
  case round =>
    obtain ⟨pos, hpos, hit, hbr, hf⟩ := hrel
    have hit0 := Lib.hid hit
    by_cases hp : pos < x.length
    · obtain ⟨c, hc⟩ : ∃ c, x[pos]? = some c := ⟨_, List.getElem?_eq_getElem hp⟩
      have hcc := okc_lt (okc_get HOK.out hc)
      have hnx := next_l (P := Tryd.prog) wr I x pos c hit hc hcc
      have hst := all_drop (p := fun b => (alphaL k).contains b) hc
      have HST := Lib.hid hst; clear hst hc
      have hitB := iterAt_heap wr I ⟨x.toArray⟩ pos (pos + 1) hit
      have hbB := below_iterAt hbr (k := I) hI ⟨x.toArray⟩ (pos + 1)
      have hcon := fun W => containsC (alphaL k) c hcc W
      cases hin : (alphaL k).contains c with
      | true =>
        have e : (x.drop (pos + 1)).all (fun b => (alphaL k).contains b) = r := by rw [← hf.out, HST.out, hin]; rfl
        have HE := Lib.hid e; clear e
        rw [hin] at hcon
        clear hin
        go_wp2_with (go_at_call 45; refine (hcon _).mono ?_; rintro e w3 ⟨rfl, rfl⟩)
        exact ⟨⟨pos + 1, by omega, hitB, hbB, HE⟩, by rw [iterPos_of hitB, iterPos_of hit0.out]; omega⟩
      | false =>
        have e : r = false := by rw [← hf.out, HST.out, hin]; rfl
        have e2 : rv = 2 := by rw [← hrv.out, e]; rfl
        have HE := Lib.hid e2; clear e e2
        rw [hin] at hcon
        clear hin
        go_wp2_with (go_at_call 45; refine (hcon _).mono ?_; rintro e w3 ⟨rfl, rfl⟩)
        go_ret
        rw [HE.out]
        exact ⟨rfl, hbB⟩
    · have hnx := next_l_end (P := Tryd.prog) wr I x pos hit hp
      have e : r = true := by rw [← hf.out, List.drop_eq_nil_of_le (by omega)]; rfl
      have e2 : rv = 0 := by rw [← hrv.out, e]; rfl
      have HE := Lib.hid e2; clear e e2
      go_wp2
      go_ret
      rw [HE.out]
      exact ⟨rfl, hbr⟩

/-! ### the built-in clear at a map of the call's own -/
theorem clear_own {H : Type} {P : Program} {w : World} {k : TypeId} {R : Value → Option (DataW H × List MemPlace)} {b n : Nat} {D : DataW H} {t e : TypeId} (h : w.ownsMap P k R b n D) (ht : P.underlying t = some (.map k e)) (ty : TypeId) :
    ∃ w', (Builtin.clear_ #[t] ty #[.map (some b)]).run P w = .ok (.tuple #[]) w' ∧ w'.ownsMap P k R b 0 (.map []) ∧ w.grownBy w' (some b) := by
  obtain ⟨es, clock, hb, F, hs, rfl⟩ := h
  refine ⟨ChangeMaps.setBlock w b (.map #[] clock), ?_, ⟨#[], clock, ChangeMaps.heap_setBlock_same hb _, ⟨by simp, MapKept.stamped_empty clock, by simp⟩, Nat.le_refl _, rfl⟩, ⟨rfl, rfl, rfl, by simp [ChangeMaps.setBlock], fun i _ hi => ChangeMaps.heap_setBlock_other hb _ (fun e => hi (by rw [e]))⟩⟩
  simp [Builtin.clear_, run_underlying ht, MapKept.run_getObj_map hb, MapKept.run_setObj_map _ hb, Result.andThen]
  rfl
theorem wpList_clear_own {H : Type} {P : Program} (w : World) {ops : Array Oper} {rest : List Oper} {o : Oper} {a : Act} {Q : Exit → Act → World → Prop} (hg : o.guard = none) (m : Operand) (t : TypeId)
    (hop : o.op = Op.call { callee := Callee.builtin Builtin.clear, args := #[m], argTypes := #[t] }) (k e : TypeId) (ht : P.underlying t = some (.map k e)) (R : Value → Option (DataW H × List MemPlace)) (b n : Nat) (D : DataW H)
    (hm : a.eval m = .map (some b)) (hown : w.ownsMap P k R b n D)
    (hK : ∀ w', w'.ownsMap P k R b 0 (.map []) → w.grownBy w' (some b) → wpList P ops Q rest (a.put o.dst (.tuple #[])) w') :
    wpList P ops Q (o :: rest) a w := by
  refine wpList_plain hg fun K' hK' => ?_
  obtain ⟨w', hrun, r1, r2⟩ := clear_own hown ht o.type
  unfold Oper.wp
  simp [execOp, hop, resolve, invoke, builtin, hm, hrun, Result.andThen]
  exact hK' _ _ (hK w' r1 r2)

abbrev OwnR (w : World) (b n : Nat) (D : DataW Unit) : Prop := w.ownsMap Tryd.prog 21 (plainElem Tryd.prog 4) b n D
theorem Tryd.keyR : Keyed Tryd.prog 21 := int_keyed Tryd.underlying21
/-- the map has just the letters of met -/
def Met (D : DataW Unit) (met : List UInt8) : Prop := (∀ c : UInt8, has D (.int .i32 (c.toNat : Int)) = met.contains c) ∧ Maps.size D = met.length
theorem met_empty : Met (.map []) [] := ⟨fun c => by simp [has], rfl⟩
theorem key_rune (c : UInt8) : keyOf Tryd.prog 21 (.int .i32 (c.toNat : Int)) = some (.int .i32 (c.toNat : Int)) := keyOf_int_mk Tryd.underlying21 (by
  have := c.toNat_lt
  unfold Lit.wf
  rw [Bool.and_eq_true, decide_eq_true_eq, decide_eq_true_eq]
  exact ⟨by show (-2147483648 : Int) ≤ _; omega, by show _ ≤ (2147483647 : Int); omega⟩)
theorem met_put {w : World} {b n : Nat} {D : DataW Unit} {met : List UInt8} {c : UInt8} (d : DataW Unit) (hown : OwnR w b n D) (h : Met D met) : Met (D.put (.int .i32 (c.toNat : Int)) d) (if c ∈ met then met else c :: met) := by
  have hk := Tryd.keyR.key (key_rune c)
  constructor
  · intro x
    by_cases e : x = c
    · subst e
      rw [has_put_same hown.isMap hk]
      by_cases hm : x ∈ met
      · rw [if_pos hm]; simpa using hm
      · rw [if_neg hm]; simp
    · rw [has_put_other (by intro he; apply e; injection he with h1 h2; exact UInt8.toNat_inj.1 (by omega)), h.1 x]
      by_cases hm : c ∈ met
      · rw [if_pos hm]
      · rw [if_neg hm, List.contains_cons]
        have : (x == c) = false := by simpa using e
        rw [this, Bool.false_or]
  · rw [size_put (hown.tidy Tryd.keyR), h.1 c]
    by_cases hm : c ∈ met
    · rw [if_pos hm, if_pos (by simpa using hm)]; exact h.2
    · rw [if_neg hm, if_neg (by simpa using hm), h.2]; rfl

def ArchPost (w : World) (l : List Nat) (e : Ending) (w' : World) : Prop := Below w.heap.size w w' ∧ ∃ v, e = .returned (.tuple #[v, .int .i64 0]) ∧ w'.ownsRow w.heap.size 3 1 v l.length (ints l)
theorem arch_step {k pos : Nat} {met x : List UInt8} {c : UInt8} (hc : x[pos]? = some c) :
    archesL k pos met (x.drop pos) = if (if c ∈ met then met else c :: met).length = k then (pos + 1) :: archesL k (pos + 1) [] (x.drop (pos + 1)) else archesL k (pos + 1) (if c ∈ met then met else c :: met) (x.drop (pos + 1)) := by
  rw [drop_get hc]; rfl
theorem own_ne_map {w : World} {base : Nat} {e : TypeId} {size n : Nat} {v : Value} {xs : List Value} (h : w.ownsRow base e size v n xs) {M m : Nat} {D : DataW Unit} (hm : OwnR w M m D) : v.ownBlock ≠ some M := by
  obtain ⟨es, clock, hb, _⟩ := hm
  rcases h.2 with ⟨rfl, _⟩ | ⟨g, cap, cur, rfl, _, hh, _⟩
  · simp [Value.ownBlock]
  · intro e1
    have : g = M := by simpa [Value.ownBlock] using e1
    subst this
    rw [hh] at hb
    cases hb
theorem it_ne_map {w : World} {I : Nat} {s : ByteArray} {p : Nat} (hit : w.heap[I]? = some (.stringIter s p)) {M m : Nat} {D : DataW Unit} (hm : OwnR w M m D) : I ≠ M := by
  obtain ⟨es, clock, hb, _⟩ := hm
  rintro rfl
  rw [hit] at hb
  cases hb

set_option maxRecDepth 100000 in
set_option maxHeartbeats 1000000 in
theorem arches_ok (x : List UInt8) (k : Nat) (w : World) (hz : chk x = 0) (h1 : 1 ≤ k) (h6 : k ≤ 6) (hin : allIn k x = true) :
    Calls Tryd.prog 10 #[.string ⟨x.toArray⟩, .int .i64 k] w (ArchPost w (archesL k 0 [] x)) := by
  obtain ⟨hx10, hok⟩ := chk_zero hz
  have hL := letters_in x k w hz h1 h6
  rw [hin] at hL
  simp only [if_true] at hL
  have HOK := Lib.hid hok
  have hmm := @run_makeMap Tryd.prog
  obtain ⟨i0, hi, hz0, hz1, hz2'⟩ := info_parts Tryd.infoInt
  obtain ⟨r, hr⟩ : ∃ r, Hid (archesL k 0 [] x = r) := ⟨_, rfl⟩
  rw [hr.out]
  clear hz hok hin
  go_enter Tryd.func10, Tryd.ntmps10
  go_wp2_with (go_at_call 24; refine hL.mono ?_; rintro e w1 ⟨rfl, hb1⟩)
  have hsz1 := hb1.size
  have hownA := ((World.ownsRow_made (base := w.heap.size) (e := 3) (size := 1) w1 #[] 0 hsz1 (Nat.zero_le _) rfl).alloc (.map #[] 0)).alloc (.stringIter ⟨x.toArray⟩ 0)
  have hmapA : OwnR (((w1.alloc (.cells #[] 3)).alloc (.map #[] 0)).alloc (.stringIter ⟨x.toArray⟩ 0)) (w1.heap.size + 1) 0 (.map []) := by
    have h := (World.ownsMap_made (w1.alloc (.cells #[] 3)) Tryd.prog 21 (plainElem (H := Unit) Tryd.prog 4)).alloc (.stringIter ⟨x.toArray⟩ 0)
    simpa using h
  have hitA := World.iter_heap ((w1.alloc (.cells #[] 3)).alloc (.map #[] 0)) ⟨x.toArray⟩ 0
  have hsA : ((w1.alloc (.cells #[] 3)).alloc (.map #[] 0)).heap.size = w1.heap.size + 1 + 1 := by simp
  rw [hsA] at hitA
  have hbA : Below w.heap.size w (((w1.alloc (.cells #[] 3)).alloc (.map #[] 0)).iter ⟨x.toArray⟩ 0) := ((hb1.alloc hsz1 _).alloc (by simp; omega) _).alloc (by rw [hsA]; omega) _
  change OwnR (((w1.alloc (.cells #[] 3)).alloc (.map #[] 0)).iter ⟨x.toArray⟩ 0) _ _ _ at hmapA
  change World.ownsRow (((w1.alloc (.cells #[] 3)).alloc (.map #[] 0)).iter ⟨x.toArray⟩ 0) _ _ _ _ _ _ at hownA
  have hI : w.heap.size ≤ w1.heap.size + 1 + 1 := by omega
  have hM : w.heap.size ≤ w1.heap.size + 1 := by omega
  have hr0 : Hid ([] ++ archesL k 0 [] (x.drop 0) = r) := hr.out
  generalize ((w1.alloc (.cells #[] 3)).alloc (.map #[] 0)).iter ⟨x.toArray⟩ 0 = wA at hownA hmapA hitA hbA ⊢
  generalize w1.heap.size + 1 + 1 = I at hitA hI ⊢
  generalize w1.heap.size + 1 = M at hmapA hM ⊢
  generalize w1.heap.size = B at hownA ⊢
  clear hsA hb1 hsz1
  go_loopw [7] (fun v wr => ∃ (pos m n : Nat) (A : Option Addr) (c : Nat) (es : List Nat) (D : DataW Unit) (met : List UInt8), pos ≤ x.length ∧ v = .slice A m c ∧ m ≤ pos ∧ n ≤ pos ∧ Hid (es.length = m) ∧ wr.ownsRow w.heap.size 3 1 (.slice A m c) m (ints es) ∧
      OwnR wr M n D ∧ Hid (Met D met) ∧ wr.heap[I]? = some (.stringIter ⟨x.toArray⟩ pos) ∧ Below w.heap.size w wr ∧ Hid (es ++ archesL k pos met (x.drop pos) = r))
    (fun _ wr => x.length - wr.iterPos I)
  case atStart => exact ⟨0, 0, 0, _, _, [], _, [], Nat.zero_le _, rfl, Nat.le_refl _, Nat.le_refl _, rfl, hownA, hmapA, met_empty, hitA, hbA, hr0⟩
  case round =>
    obtain ⟨pos, m, n, A, c0, es, D, met, hpos, rfl, hmp, hnp, hel, hown, hmap, hmet, hit, hbr, hf⟩ := hrel
    have hit0 := Lib.hid hit
    have hsz := hbr.size
    by_cases hp : pos < x.length
    · obtain ⟨c, hc⟩ : ∃ c, x[pos]? = some c := ⟨_, List.getElem?_eq_getElem hp⟩
      have hcc := okc_lt (okc_get HOK.out hc)
      have hnx := next_l (P := Tryd.prog) wr I x pos c hit hc hcc
      have hst := arch_step (k := k) (met := met) hc
      have hIM := it_ne_map hit hmap
      have hownB := ownsRow_it hown hit (pos + 1)
      have hitB := iterAt_heap wr I ⟨x.toArray⟩ pos (pos + 1) hit
      have hbB := below_iterAt hbr (k := I) hI ⟨x.toArray⟩ (pos + 1)
      have hmapB : OwnR (wr.iterAt I ⟨x.toArray⟩ (pos + 1)) M n D := hmap.kept (grownBy_iterAt wr I _ _ (some I) rfl) (by simpa using fun e => hIM e.symm)
      have hszB := iterAt_size wr I ⟨x.toArray⟩ (pos + 1)
      have hmet2 := met_put (c := c) (.lit (.bool true)) hmapB hmet.out
      have hel2 : plainElem (H := Unit) Tryd.prog 4 (.bool true) = some (.lit (.bool true), []) := plainElem_bool Tryd.underlying4 true
      have HSZ := Lib.hid hszB; have HST := Lib.hid hst; have HM2 := Lib.hid hmet2; have HEL := Lib.hid hel2; clear hszB hst hc hmet2 hel2
      generalize hwB : wr.iterAt I ⟨x.toArray⟩ (pos + 1) = wB at hnx hownB hitB hbB hmapB HSZ
      clear hwB
      generalize hm' : (if c ∈ met then met else c :: met) = met' at HM2 HST
      clear hm'
      obtain ⟨L, hL'⟩ : ∃ L, Hid (met'.length = L) := ⟨_, rfl⟩
      rw [hL'.out] at HST
      have hsize : Maps.size (D.put (.int .i32 (c.toNat : Int)) (.lit (.bool true))) = L := HM2.out.2.trans hL'.out
      have HS := Lib.hid hsize; clear hsize
      by_cases hLk : L = k
      · have hbL : ((L : Int) == (k : Int)) = true := by simp [hLk]
        have HLK := Lib.hid hLk; clear hLk
        go_wp2_with (first
          | (at_mapUpdate; refine wpList_mapUpdate_own _ rfl _ _ _ 61 rfl 21 4 Tryd.keyR Tryd.underlying61 (plainElem (H := Unit) Tryd.prog 4) M n _ rfl hmapB (by unfold maxLen; omega) _ _ _ rfl rfl (key_rune c) _ [] HEL.out ?_; intro w5 hmap5 hgrow5)
          | (at_len; refine wpList_len_own _ rfl _ 61 rfl 21 4 Tryd.underlying61 _ M (n + 1) _ rfl hmap5 ?_; rw [HS.out])
          | (at_builtin; refine wpList_append_own _ rfl _ _ 35 rfl w.heap.size 3 i0 (.int .i64 0) 1 8 Tryd.underlying35 hi hz0 hz1 hz2' rfl (by decide) _ _ _ rfl ((hownB.kept hgrow5 (.inr (own_ne_map hownB hmapB))).alloc _) ⟨w5.heap.size, 0, none⟩ 1 1 [.int .i64 ((pos : Int) + 1)] rfl rfl ?c1 ?c2 ?c3 ?c4 ?c5 ?_))
        case c1 => exact cell_one_new _ _ _
        case c2 => exact fun u hu => by rw [List.mem_singleton.1 hu]; rfl
        case c3 => unfold maxLen; omega
        case c4 => omega
        case c5 => have h5 := hgrow5.size; have h6 := HSZ.out; simp only [World.size_alloc]; omega
        intro v1 w6 hown6 hg6 _
        obtain ⟨A6, c6, rfl⟩ := ownsRow_shape hown6
        have h5s := hgrow5.size
        have h6s := HSZ.out
        have hown5 := hownB.kept hgrow5 (.inr (own_ne_map hownB hmapB))
        have hit5 : w5.heap[I]? = some (.stringIter ⟨x.toArray⟩ (pos + 1)) := (hgrow5.block I (Array.getElem?_eq_some_iff.1 hitB).1 (by simpa using hIM)).trans hitB
        have hb5 := hbB.grown hgrow5 (by omega) (fun j e => by cases e; exact hM)
        have hmap6 : OwnR w6 M (n + 1) _ := (hmap5.alloc (.cells #[.int .i64 ((pos : Int) + 1)] 3)).kept hg6 (fun e => own_ne_map hown5 hmap5 e.symm)
        have hit6 : w6.heap[I]? = some (.stringIter ⟨x.toArray⟩ (pos + 1)) := it_grown (hown5.alloc (.cells #[.int .i64 ((pos : Int) + 1)] 3)) ((Below.heap_alloc _ _ I (Array.getElem?_eq_some_iff.1 hit5).1).trans hit5) hg6
        have hb6 := below_own (hown5.alloc (.cells #[.int .i64 ((pos : Int) + 1)] 3)) (hb5.alloc (by omega) _) (by simp only [World.size_alloc]; omega) hg6
        have hs6 := hg6.size
        simp only [World.size_alloc] at hs6
        have e6 : ints es ++ [.int .i64 ((pos : Int) + 1)] = ints (es ++ [pos + 1]) := by simp [ints]
        rw [e6] at hown6
        have hel6 : Hid ((es ++ [pos + 1]).length = m + 1) := by rw [List.length_append, hel.out]; rfl
        have hf6 : Hid ((es ++ [pos + 1]) ++ archesL k (pos + 1) [] (x.drop (pos + 1)) = r) := by
          show _ = r
          rw [← hf.out, HST.out, if_pos HLK.out]; simp
        clear e6 hg6 hgrow5
        go_wp2_with (refine wpList_clear_own _ rfl _ 61 rfl 21 4 Tryd.underlying61 (plainElem (H := Unit) Tryd.prog 4) M (n + 1) _ rfl hmap6 ?_; intro w7 hmap7 hg7; go_frame)
        have hown7 := hown6.kept hg7 (.inr (own_ne_map hown6 hmap6))
        have hit7 : w7.heap[I]? = some (.stringIter ⟨x.toArray⟩ (pos + 1)) := (hg7.block I (Array.getElem?_eq_some_iff.1 hit6).1 (by simpa using hIM)).trans hit6
        have hb7 := hb6.grown hg7 hb6.size (fun j e => by cases e; exact hM)
        exact ⟨⟨pos + 1, m + 1, 0, A6, c6, es ++ [pos + 1], _, [], by omega, by go_num, by omega, by omega, hel6, hown7, hmap7, met_empty, hit7, hb7, hf6⟩, by rw [iterPos_of hit7, iterPos_of hit0.out]; omega⟩
      · have hbL : ((L : Int) == (k : Int)) = false := by simp; omega
        have hf6 : Hid (es ++ archesL k (pos + 1) met' (x.drop (pos + 1)) = r) := by
          show _ = r
          rw [← hf.out, HST.out, if_neg hLk]
        clear hLk
        go_wp2_with (first
          | (at_mapUpdate; refine wpList_mapUpdate_own _ rfl _ _ _ 61 rfl 21 4 Tryd.keyR Tryd.underlying61 (plainElem (H := Unit) Tryd.prog 4) M n _ rfl hmapB (by unfold maxLen; omega) _ _ _ rfl rfl (key_rune c) _ [] HEL.out ?_; intro w5 hmap5 hgrow5)
          | (at_len; refine wpList_len_own _ rfl _ 61 rfl 21 4 Tryd.underlying61 _ M (n + 1) _ rfl hmap5 ?_; rw [HS.out]))
        have h6s := HSZ.out
        have hown5 := hownB.kept hgrow5 (.inr (own_ne_map hownB hmapB))
        have hit5 : w5.heap[I]? = some (.stringIter ⟨x.toArray⟩ (pos + 1)) := (hgrow5.block I (Array.getElem?_eq_some_iff.1 hitB).1 (by simpa using hIM)).trans hitB
        have hb5 := hbB.grown hgrow5 (by omega) (fun j e => by cases e; exact hM)
        exact ⟨⟨pos + 1, m, n + 1, A, c0, es, _, met', by omega, rfl, by omega, by omega, hel, hown5, hmap5, HM2, hit5, hb5, hf6⟩, by rw [iterPos_of hit5, iterPos_of hit0.out]; omega⟩
    · have hnx := next_l_end (P := Tryd.prog) wr I x pos hit hp
      have e : r = es := by rw [← hf.out, List.drop_eq_nil_of_le (by omega)]; simp [archesL]
      have HE := Lib.hid e; clear e
      go_wp2
      go_ret2
      rw [HE.out]
      exact ⟨hbr, _, rfl, by rw [hel.out]; exact hown⟩
end Go.Proofs.YtlbepjmiligpcaaDoor
