/-
  The walk by creases: a row of points.
-/
import Derived.Test.YtbkmicimpgabgaaDoorStep
import Derived.Test.YtbkmicimpgabgaaDoorOwn
import Derived.Test.YtbkmicimpgabgaaDoorMath
set_option linter.unusedSimpArgs false
set_option linter.unusedVariables false
namespace Go.Proofs.YtbkmicimpgabgaaDoor
open Go.RowKit Go.Lib Go.Proofs.Quire

theorem Tryd.infoP : (Tryd.prog.info? 62).map (fun i => (i.zero, i.size, i.bytes)) = some (some (.agg #[.int .i64 0, .int .i64 0]), 2, 16) := by kernel_rfl
def pvals (l : List (Int × Int)) : List Value := l.flatMap fun p => [.int .i64 p.1, .int .i64 p.2]
theorem pvals_snoc (l : List (Int × Int)) (p : Int × Int) : pvals (l ++ [p]) = pvals l ++ [.int .i64 p.1, .int .i64 p.2] := by simp [pvals]
/-- the function value of a turn -/
def stepV (p : Nat) : Option Bool → Value
  | none => .func (.func 60) #[.pointer (some ⟨p, 0, none⟩)] #[]
  | some true => .func (.func 62) #[.pointer (some ⟨p, 0, none⟩)] #[]
  | some false => .func (.func 61) #[.pointer (some ⟨p, 0, none⟩)] #[]
def fnQ : Option Bool → Nat
  | none => 60
  | some true => 62
  | some false => 61
theorem step_q (q : Option Bool) (p : Nat) (x y dx dy ex ey : Int) (w : World) (h : Wkr w p x y dx dy) (hx : -1000 ≤ x ∧ x ≤ 1000) (hy : -1000 ≤ y ∧ y ≤ 1000) (hdx : -1000 ≤ dx ∧ dx ≤ 1000) (hdy : -1000 ≤ dy ∧ dy ≤ 1000) (ht : turn q (dx, dy) = (ex, ey)) :
    Calls Tryd.prog (fnQ q) #[.pointer (some ⟨p, 0, none⟩)] w (AheadPost p (x + ex) (y + ey) ex ey w) := by
  rcases q with _ | _ | _ <;> (simp only [turn, Prod.mk.injEq] at ht; obtain ⟨rfl, rfl⟩ := ht)
  · exact ahead_any p x y _ _ w h hx hy hdx hdy
  · exact right_any p x y _ _ w h hx hy hdx hdy
  · exact left_any p x y _ _ w h hx hy hdx hdy
theorem wgo_step {cs : List UInt8} {pos : Nat} (hp : pos < cs.length) {q : Option Bool} {x y dx dy ex ey : Int} (ht : turn q (dx, dy) = (ex, ey)) :
    wgo q (x, y) (dx, dy) (cs.drop pos) = (x + ex, y + ey) :: wgo (some (cs[pos] == 118)) (x + ex, y + ey) (ex, ey) (cs.drop (pos + 1)) := by
  rw [List.drop_eq_getElem_cons hp, wgo, ht]
theorem wgo_end {cs : List UInt8} {pos : Nat} (hp : ¬ pos < cs.length) {q : Option Bool} {x y dx dy ex ey : Int} (ht : turn q (dx, dy) = (ex, ey)) :
    wgo q (x, y) (dx, dy) (cs.drop pos) = [(x + ex, y + ey)] := by
  rw [List.drop_eq_nil_of_le (by omega), wgo, ht]
/-- a row of points, and one more behind it -/
theorem append_pair {ops : Array Oper} {rest : List Oper} {o : Oper} {a : Act} {Q : Exit → Act → World → Prop} (w0 : World) (hgd : o.guard = none) (s x : Operand)
    (ho : o.op = .call { callee := .builtin .append, args := #[s, x], argTypes := #[47, 47] })
    (B n : Nat) (v : Value) (P : List (Int × Int)) (u z : Int) (hs : a.eval s = v) (hown : (w0.alloc (.cells #[.int .i64 u, .int .i64 z] 62)).ownsRow B 62 2 v n (pvals P)) (g : Nat) (hgz : w0.heap.size = g) (hx : a.eval x = .slice (some ⟨g, 0, none⟩) 1 1) (hn : n ≤ 100) (hB : B ≤ w0.heap.size)
    (h : ∀ A c w', w'.ownsRow B 62 2 (.slice A (n + 1) c) (n + 1) (pvals (P ++ [(u, z)])) → (w0.alloc (.cells #[.int .i64 u, .int .i64 z] 62)).grownBy w' v.ownBlock → wpList Tryd.prog ops Q rest (a.put o.dst (.slice A (n + 1) c)) w') :
    wpList Tryd.prog ops Q (o :: rest) a (w0.alloc (.cells #[.int .i64 u, .int .i64 z] 62)) := by
  subst hgz
  obtain ⟨i0, hi, hz0, hz1, hz2⟩ := info_parts Tryd.infoP
  refine wpList_append_own _ hgd s x 47 ho B 62 i0 (.agg #[.int .i64 0, .int .i64 0]) 2 16 Tryd.underlying47 hi hz0 hz1 hz2 rfl (by decide) v n _ hs hown ⟨w0.heap.size, 0, none⟩ 1 1 [.int .i64 u, .int .i64 z] hx rfl ?_ ?_ (by unfold maxLen; omega) (by omega) (by simp; omega) ?_
  · intro j v hj
    rcases j with _ | _ | j
    · simpa [Addr.add] using hj
    · simpa [Addr.add] using hj
    · simp at hj
  · intro v hv
    simp at hv
    rcases hv with rfl | rfl <;> rfl
  · intro v' w' h1 h2 _
    obtain ⟨A, c, rfl⟩ := ownsRow_shape h1
    exact h A c w' (by rw [pvals_snoc]; exact h1) h2
def WalkPost (w : World) (ps : List (Int × Int)) (e : Ending) (w' : World) : Prop :=
  ∃ A c, e = .returned (.slice A ps.length c) ∧ w'.ownsRow (w.heap.size + 1) 62 2 (.slice A ps.length c) ps.length (pvals ps) ∧ Below w.heap.size w w'

set_option maxRecDepth 100000 in
set_option maxHeartbeats 2000000 in
theorem walk_any (cs : List UInt8) (w : World) (hs : cs.length ≤ 63) (hc : ∀ c ∈ cs, c.toNat < 128) :
    Calls Tryd.prog 39 #[.string ⟨cs.toArray⟩] w (WalkPost w (walkL cs)) := by
  obtain ⟨i0, hi, hz0, hz1, hz2⟩ := info_parts Tryd.infoP
  obtain ⟨r, hr⟩ : ∃ r, Hid (walkL cs = r) := ⟨_, rfl⟩
  rw [hr.out]
  have HC := Lib.hid hc; clear hc
  go_enter Tryd.func39, Tryd.ntmps39
  go_wp2
  have hb0 : Below w.heap.size w (((w.alloc (.cells #[.int .i64 0, .int .i64 0, .int .i64 1, .int .i64 0] 77)).alloc (.cells #[.int .i64 0, .int .i64 0] 62)).iter ⟨cs.toArray⟩ 0) :=
    (((Below.refl _ w).alloc (Nat.le_refl _) _).alloc (by simp) _).alloc (by simp; omega) _
  have hw0 : Wkr (((w.alloc (.cells #[.int .i64 0, .int .i64 0, .int .i64 1, .int .i64 0] 77)).alloc (.cells #[.int .i64 0, .int .i64 0] 62)).iter ⟨cs.toArray⟩ 0) w.heap.size 0 0 1 0 :=
    ((Arr.new w [.int .i64 0, .int .i64 0, .int .i64 1, .int .i64 0] 77).alloc _).alloc _
  have ho0 : World.ownsRow (((w.alloc (.cells #[.int .i64 0, .int .i64 0, .int .i64 1, .int .i64 0] 77)).alloc (.cells #[.int .i64 0, .int .i64 0] 62)).iter ⟨cs.toArray⟩ 0) (w.heap.size + 1) 62 2 (.slice (some ⟨w.heap.size + 1, 0, none⟩) 1 1) 1 (pvals [(0, 0)]) := by
    have h1 : World.ownsRow ((w.alloc (.cells #[.int .i64 0, .int .i64 0, .int .i64 1, .int .i64 0] 77)).alloc (.cells #[.int .i64 0, .int .i64 0] 62)) (w.heap.size + 1) 62 2 (.slice (some ⟨w.heap.size + 1, 0, none⟩) 1 1) 1 (pvals [(0, 0)]) :=
      ⟨rfl, .inr ⟨w.heap.size + 1, 1, #[.int .i64 0, .int .i64 0], rfl, Nat.le_refl _, by have := heap_alloc_new (w.alloc (.cells #[.int .i64 0, .int .i64 0, .int .i64 1, .int .i64 0] 77)) (.cells #[.int .i64 0, .int .i64 0] 62); simpa using this, Nat.le_refl _, by unfold maxLen; omega, rfl, rfl⟩⟩
    exact h1.alloc _
  have hi0 := World.iter_heap ((w.alloc (.cells #[.int .i64 0, .int .i64 0, .int .i64 1, .int .i64 0] 77)).alloc (.cells #[.int .i64 0, .int .i64 0] 62)) ⟨cs.toArray⟩ 0
  simp only [World.size_alloc] at hi0
  generalize (((w.alloc (.cells #[.int .i64 0, .int .i64 0, .int .i64 1, .int .i64 0] 77)).alloc (.cells #[.int .i64 0, .int .i64 0] 62)).iter ⟨cs.toArray⟩ 0) = wA at hb0 hw0 ho0 hi0 ⊢
  have hst : Hid ([(0, 0)] ++ wgo none (0, 0) (1, 0) (cs.drop 0) = r) := hr.out
  go_loopw [4, 5] (fun v4 v5 wr => ∃ (pos n : Nat) (A : Option Addr) (c : Nat) (P : List (Int × Int)) (q : Option Bool) (x y dx dy : Int), pos ≤ cs.length ∧ v4 = .slice A n c ∧ v5 = stepV w.heap.size q ∧ wr.heap[w.heap.size + 1 + 1]? = some (.stringIter ⟨cs.toArray⟩ pos) ∧ n = pos + 1 ∧ Hid (P.length = n) ∧
      wr.ownsRow (w.heap.size + 1) 62 2 (.slice A n c) n (pvals P) ∧ Wkr wr w.heap.size x y dx dy ∧ Hid (P ++ wgo q (x, y) (dx, dy) (cs.drop pos) = r) ∧ Below w.heap.size w wr ∧ ((-(pos : Int) ≤ x ∧ x ≤ pos) ∧ (-(pos : Int) ≤ y ∧ y ≤ pos) ∧ (-1 ≤ dx ∧ dx ≤ 1) ∧ -1 ≤ dy ∧ dy ≤ 1))
    (fun _ _ wr => cs.length - wr.iterPos (w.heap.size + 1 + 1))
  case atStart => exact ⟨0, 1, _, _, [(0, 0)], none, 0, 0, 1, 0, Nat.zero_le _, rfl, rfl, hi0, rfl, rfl, ho0, hw0, hst, hb0, by omega⟩
  case round =>
    clear hb0 hw0 ho0 hi0 hst
    obtain ⟨pos, n, A, c, P, q, x, y, dx, dy, hpos, rfl, hv5, hit, rfl, hP, hown, hwk, hre, hbr, hbx, hby, hbd, hbe⟩ := hrel
    have hit0 := Lib.hid hit
    have hsz := hbr.size
    obtain ⟨ex, ey, ht⟩ : ∃ ex ey, turn q (dx, dy) = (ex, ey) := ⟨_, _, rfl⟩
    have htl := turn_le q (dx, dy) hbd hbe
    rw [ht] at htl
    obtain ⟨hex, hey⟩ := htl
    have HS := fun W h => step_q q w.heap.size x y dx dy ex ey W h ⟨by omega, by omega⟩ ⟨by omega, by omega⟩ ⟨by omega, by omega⟩ ⟨by omega, by omega⟩ ht
    by_cases hp : pos < cs.length
    · obtain ⟨k, hk⟩ : ∃ k, cs[pos]? = some k := ⟨_, List.getElem?_eq_getElem hp⟩
      have hk2 : cs[pos] = k := by rw [List.getElem?_eq_getElem hp] at hk; exact Option.some.inj hk
      have hkk : k.toNat < 128 := HC.out k (hk2 ▸ List.getElem_mem hp)
      have hnx := next_l (P := Tryd.prog) wr (w.heap.size + 1 + 1) cs pos k hit hk hkk
      have hst := wgo_step hp (x := x) (y := y) ht
      rw [hk2] at hst
      have HST := Lib.hid hst
      clear hk hk2 hst
      have hownB := ownsRow_it hown hit (pos + 1)
      have hitB := iterAt_heap wr (w.heap.size + 1 + 1) ⟨cs.toArray⟩ pos (pos + 1) hit
      have hbB := below_iterAt hbr (k := w.heap.size + 1 + 1) (by omega) ⟨cs.toArray⟩ (pos + 1)
      have hwkB : Wkr (wr.iterAt (w.heap.size + 1 + 1) ⟨cs.toArray⟩ (pos + 1)) w.heap.size x y dx dy := hwk.keep (X := [w.heap.size + 1 + 1]) ⟨rfl, rfl, rfl, by rw [iterAt_size]; exact Nat.le_refl _, fun j _ hj => iterAt_other _ _ _ _ _ (by simpa using hj)⟩ (by simp; omega)
      have HT := Lib.hid ht
      clear hwk hown ht
      have hkv : ((k.toNat : Int) == 118) = (k == 118) := byte_eq k 118 (by omega)
      generalize (k == 118) = kb at hkv HST
      have HQ : Hid ((P ++ [(x + ex, y + ey)]).length = pos + 1 + 1) := by show _ = _; rw [List.length_append, hP.out]; rfl
      have HR : Hid ((P ++ [(x + ex, y + ey)]) ++ wgo (some kb) (x + ex, y + ey) (ex, ey) (cs.drop (pos + 1)) = r) := by
        show _ = _; rw [List.append_assoc, ← hre.out, HST.out]; rfl
      clear HST
      rcases q with _ | _ | _ <;> cases kb
      all_goals
        simp only [fnQ] at HS
        simp only [stepV] at hv5
        subst hv5
        go_wp2_with (fail)
        refine (HS _ hwkB).mono ?_; rintro e w1 ⟨rfl, hk1, hwk1⟩
        have hs1 := hk1.size
        rw [iterAt_size] at hs1
        have hown1 := own_keep hownB hk1 (fun j e => by have := (hownB.lt j e).1; simp; omega)
        have hit1 := it_keep hk1 hitB (by simp; omega)
        have hb1 : Below w.heap.size w w1 := hbB.trans (hk1.below (by rw [iterAt_size]; omega) (by simp))
        have hsB : w.heap.size + 1 ≤ w1.heap.size + 1 := by omega
        have hn100 : pos + 1 ≤ 100 := by omega
        have hnB : some w.heap.size ≠ (Value.slice A (pos + 1) c).ownBlock := fun e => by have := (hownB.lt _ e.symm).1; omega
        have hown2 := hown1.alloc (.cells #[.int .i64 (x + ex), .int .i64 (y + ey)] 62)
        have hsz2 : (w1.alloc (.cells #[.int .i64 (x + ex), .int .i64 (y + ey)] 62)).heap.size = w1.heap.size + 1 := by simp
        have hwk2 := hwk1.alloc (.cells #[.int .i64 (x + ex), .int .i64 (y + ey)] 62)
        have hit2 := alloc_it (o := .cells #[.int .i64 (x + ex), .int .i64 (y + ey)] 62) hit1
        have hb2 := hb1.alloc hb1.size (.cells #[.int .i64 (x + ex), .int .i64 (y + ey)] 62)
        clear hown1 hwk1 hit1 hb1 hk1 hownB hwkB hitB hbB
        go_wp2_with (at_builtin; refine append_pair (w1.alloc (.cells #[.int .i64 (x + ex), .int .i64 (y + ey)] 62)) rfl _ _ rfl (w.heap.size + 1) (pos + 1) _ P (x + ex) (y + ey) rfl (hown2.alloc _) _ hsz2 rfl hn100 (Nat.le_trans hsB (Nat.le_of_eq hsz2.symm)) ?_)
        intro A3 c3 w3 hown3 hg3
        have hwk3 := (hwk2.alloc (.cells #[.int .i64 (x + ex), .int .i64 (y + ey)] 62)).grown hg3 hnB
        have hit3 := it_grown (hown2.alloc _) (alloc_it (o := .cells #[.int .i64 (x + ex), .int .i64 (y + ey)] 62) hit2) hg3
        have hb3 := below_own (hown2.alloc _) (hb2.alloc hb2.size (.cells #[.int .i64 (x + ex), .int .i64 (y + ey)] 62)) (by omega) (by simp; omega) hg3
        clear hown2 hwk2 hit2 hb2 hg3 hnB
        go_wp2
        exact ⟨⟨pos + 1, pos + 1 + 1, A3, c3, _, some _, x + ex, y + ey, ex, ey, by omega, rfl, rfl, hit3, rfl, HQ, hown3, hwk3, HR, hb3, by omega⟩, by rw [iterPos_of hit3, iterPos_of hit0.out]; omega⟩
    · have hnx := next_l_end (P := Tryd.prog) wr (w.heap.size + 1 + 1) cs pos hit hp
      have hst := wgo_end hp (x := x) (y := y) ht
      have HR : Hid (P ++ [(x + ex, y + ey)] = r) := by show _ = _; rw [← hre.out, hst]
      have HL : Hid (r.length = pos + 1 + 1) := by show _ = _; rw [← HR.out, List.length_append, hP.out]; rfl
      have HT := Lib.hid ht
      clear hst ht
      rcases q with _ | _ | _
      all_goals
        simp only [fnQ] at HS
        simp only [stepV] at hv5
        subst hv5
        go_wp2_with (fail)
        refine (HS _ hwk).mono ?_; rintro e w1 ⟨rfl, hk1, hwk1⟩
        have hs1 := hk1.size
        have hown1 := own_keep hown hk1 (fun j e => by have := (hown.lt j e).1; simp; omega)
        have hb1 : Below w.heap.size w w1 := hbr.trans (hk1.below (by omega) (by simp))
        have hsB : w.heap.size + 1 ≤ w1.heap.size + 1 := by omega
        have hn100 : pos + 1 ≤ 100 := by omega
        have hown2 := hown1.alloc (.cells #[.int .i64 (x + ex), .int .i64 (y + ey)] 62)
        have hsz2 : (w1.alloc (.cells #[.int .i64 (x + ex), .int .i64 (y + ey)] 62)).heap.size = w1.heap.size + 1 := by simp
        have hb2 := hb1.alloc hb1.size (.cells #[.int .i64 (x + ex), .int .i64 (y + ey)] 62)
        clear hown1 hwk1 hb1 hk1
        go_wp2_with (at_builtin; refine append_pair (w1.alloc (.cells #[.int .i64 (x + ex), .int .i64 (y + ey)] 62)) rfl _ _ rfl (w.heap.size + 1) (pos + 1) _ P (x + ex) (y + ey) rfl (hown2.alloc _) _ hsz2 rfl hn100 (Nat.le_trans hsB (Nat.le_of_eq hsz2.symm)) ?_)
        intro A3 c3 w3 hown3 hg3
        have hb3 := below_own (hown2.alloc _) (hb2.alloc hb2.size (.cells #[.int .i64 (x + ex), .int .i64 (y + ey)] 62)) (by omega) (by simp; omega) hg3
        rw [HR.out] at hown3
        clear hown2 hb2 hg3
        go_wp2
        go_ret
        exact ⟨A3, c3, by rw [HL.out]; rfl, by rw [HL.out]; exact hown3, hb3⟩
end Go.Proofs.YtbkmicimpgabgaaDoor
