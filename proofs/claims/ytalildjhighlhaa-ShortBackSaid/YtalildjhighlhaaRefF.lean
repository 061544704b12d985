/-
  The walks of the reference's Arches and Missing: each returns what the plain Lean function says.
-/
import Derived.Test.YtalildjhighlhaaRefE
namespace Go.Proofs.Ytalildjhighlhaa
open Go.RowKit Go.Proofs.Short Go.Lib

theorem archesL_perm (k : Nat) : ∀ (w : List UInt8) (i : Nat) (m m' : List UInt8), m.Perm m' → archesL k i m w = archesL k i m' w
  | [], _, _, _, _ => rfl
  | a :: w, i, m, m', h => by
    have hp : (if a ∈ m then m else a :: m).Perm (if a ∈ m' then m' else a :: m') := by
      by_cases ha : a ∈ m
      · rw [if_pos ha, if_pos (h.mem_iff.1 ha)]; exact h
      · rw [if_neg ha, if_neg (fun e => ha (h.mem_iff.2 e))]; exact h.cons a
    have e1 : archesL k i m (a :: w) = if (if a ∈ m then m else a :: m).length = k then (i + 1) :: archesL k (i + 1) [] w else archesL k (i + 1) (if a ∈ m then m else a :: m) w := rfl
    have e2 : archesL k i m' (a :: w) = if (if a ∈ m' then m' else a :: m').length = k then (i + 1) :: archesL k (i + 1) [] w else archesL k (i + 1) (if a ∈ m' then m' else a :: m') w := rfl
    rw [e1, e2, hp.length_eq, archesL_perm k w (i + 1) _ _ hp]
def ones (met : List UInt8) : List (List UInt8) := met.map fun c => [c]
theorem ones_has (met : List UInt8) (c : UInt8) : (ones met).contains [c] = decide (c ∈ met) := by
  unfold ones
  rw [Bool.eq_iff_iff]
  simp
/-- how the arches go on behind letter c -/
theorem arch_in {k pos : Nat} {met x : List UInt8} {c : UInt8} (hc : x[pos]? = some c) (hm : c ∈ met) :
    archesL k pos met (x.drop pos) = if met.length = k then (pos + 1) :: archesL k (pos + 1) [] (x.drop (pos + 1)) else archesL k (pos + 1) met (x.drop (pos + 1)) := by
  rw [arch_step hc, if_pos hm]
theorem arch_new {k pos : Nat} {met x : List UInt8} {c : UInt8} (hc : x[pos]? = some c) (hm : c ∉ met) :
    archesL k pos met (x.drop pos) = if met.length + 1 = k then (pos + 1) :: archesL k (pos + 1) [] (x.drop (pos + 1)) else archesL k (pos + 1) (met ++ [c]) (x.drop (pos + 1)) := by
  rw [arch_step hc, if_neg hm, List.length_cons, archesL_perm k _ _ (c :: met) (met ++ [c]) (List.perm_append_comm (l₁ := [c]))]
def NeB (a b : Value) : Prop := ∀ g, a.ownBlock = some g → b.ownBlock ≠ some g
theorem kept_ne {w w' : World} {base : Nat} {e : TypeId} {v u : Value} {n : Nat} {xs : List Value} (h : w.ownsRow base e 1 v n xs) (hg : w.grownBy w' u.ownBlock) (hne : NeB v u) : w'.ownsRow base e 1 v n xs :=
  h.kept hg (by
    cases hv : v.ownBlock with
    | none => left; rfl
    | some g => right; exact fun e => hne g hv e.symm)

set_option maxRecDepth 100000 in
set_option maxHeartbeats 2000000 in
theorem rarches_ok (x : List UInt8) (k : Nat) (w : World) (hz : chk x = 0) (h1 : 1 ≤ k) (h6 : k ≤ 6) (hin : allIn k x = true) :
    Calls Try.prog 37 #[.string ⟨x.toArray⟩, .int .i64 k] w (RowErr w (archesL k 0 [] x) 0) := by
  have hx := (chk_zero hz).1
  have hL := fun W => rlettered_in x k W hz h1 h6
  rw [hin] at hL
  simp only [if_true] at hL
  obtain ⟨i0, hi, hz0, hz1, hz2'⟩ := info_parts Try.infoInt
  obtain ⟨s0, si, sz0, sz1, sz2'⟩ := info_parts Try.infoStr
  obtain ⟨r, hr⟩ : ∃ r, Hid (([] : List Nat) ++ archesL k 0 [] (x.drop 0) = r) := ⟨_, rfl⟩
  have e0 : archesL k 0 [] x = r := hr.out
  rw [e0]
  have HL := Lib.hid hL; clear hL hz hin e0
  go_enter Try.func37, Try.ntmps37
  go_wp2_with (go_at_call 66; refine (HL.out _).mono ?_; rintro e w1 ⟨rfl, rfl⟩)
  go_loopw [7, 8, 9] (fun o mt i wr => ∃ (pos mo : Nat) (Ao : Option Addr) (co : Nat) (L : List Nat) (mm : Nat) (Am : Option Addr) (cm : Nat) (met : List UInt8), pos ≤ x.length ∧ i = .int .i64 pos ∧ o = .slice Ao mo co ∧ mt = .slice Am mm cm ∧ mo ≤ pos ∧ Hid (mm = met.length) ∧ mm ≤ pos ∧
      wr.ownsRow w1.heap.size 3 1 (.slice Ao mo co) mo (ints L) ∧ wr.ownsRow w1.heap.size 9 1 (.slice Am mm cm) mm ((ones met).map encStr) ∧ NeB (.slice Ao mo co) (.slice Am mm cm) ∧ Hid (L ++ archesL k pos met (x.drop pos) = r) ∧ Below w1.heap.size w1 wr)
    (fun _ _ i _ => x.length - (intOf i).toNat)
  case atStart => exact ⟨0, 0, none, 0, [], 0, none, 0, [], Nat.zero_le _, rfl, rfl, rfl, Nat.le_refl _, rfl, Nat.le_refl _, ⟨rfl, .inl ⟨rfl, rfl⟩⟩, ⟨rfl, .inl ⟨rfl, rfl⟩⟩, (fun g e => by simp [Value.ownBlock] at e), hr, Below.refl _ _⟩
  case round =>
    obtain ⟨pos, mo, Ao, co, L, mm, Am, cm, met, hpos, rfl, rfl, rfl, hmo, hmm, hmp, hownO, hownM, hne, hl, hb⟩ := hrel
    have hsz := hb.size
    have hl0 := hl
    obtain ⟨xm, hxm⟩ : ∃ xm, Hid (xm = (ones met).map encStr) := ⟨_, rfl⟩
    have hownM0 := hownM
    rw [← hxm.out] at hownM
    by_cases hp : pos < x.length
    · obtain ⟨c, hc⟩ : ∃ c, x[pos]? = some c := ⟨_, List.getElem?_eq_getElem hp⟩
      have hcc : x[pos] = c := (List.getElem?_eq_some_iff.1 hc).2
      have hsl := slice_one x pos hp
      rw [hcc] at hsl
      have hhas := fun W (h : Rd W Am mm ((ones met).map encStr)) => has_any Am mm cm (ones met) [c] W h (by unfold maxLen; omega)
      rw [ones_has] at hhas
      have hrd := rd_own hownM0
      clear hownM0
      by_cases hmem : c ∈ met
      · have hst := arch_in (k := k) hc hmem
        rw [decide_eq_true hmem] at hhas
        rw [← hmm.out] at hst
        have HH := Lib.hid hhas; have HRD := Lib.hid hrd
        clear hhas hrd hmem hc hcc
        by_cases hk : mm = k
        · have hkb : ((mm : Int) == (k : Int)) = true := by rw [beq_iff_eq]; omega
          rw [if_pos hk] at hst
          have HST := Lib.hid hst; clear hst hk hr hl0
          go_wp2_with (first
            | (go_at_call 67; refine (HH.out _ HRD.out).mono ?_; rintro e w2 ⟨rfl, hw2⟩; obtain rfl := hw2.symm; clear hw2)
            | (at_builtin; refine wpList_append_own_at _ rfl _ _ 29 rfl w1.heap.size 3 i0 (.int .i64 0) 1 8 Try.underlying29 hi hz0 hz1 hz2' rfl (by decide) (.slice Ao mo co) mo (ints L) rfl (hownO.alloc _) ⟨wr.heap.size, 0, none⟩ 1 1 [.int .i64 ((pos : Int) + 1)] rfl rfl ?c1 ?c2 ?c3 ?c4 ?c5 ?_))
          case c1 => exact cell_one_new _ _ _
          case c2 => exact fun u hu => by rw [List.mem_singleton.1 hu]; rfl
          case c3 => unfold maxLen; omega
          case c4 => omega
          case c5 => simp; omega
          intro v5 w5 hown5 hg5 _ _
          obtain ⟨A5, c5, rfl⟩ := ownsRow_shape hown5
          have e5 : ints L ++ [.int .i64 ((pos : Int) + 1)] = ints (L ++ [pos + 1]) := by simp [ints]
          rw [e5] at hown5
          have hb5 := below_own (hownO.alloc _) (hb.alloc hsz _) (by simp; omega) hg5
          clear e5 hg5 hownO hownM hne hb HH HRD
          go_wp2
          exact ⟨⟨pos + 1, mo + 1, A5, c5, L ++ [pos + 1], 0, none, 0, [], by omega, by go_num, rfl, rfl, by omega, rfl, by omega, hown5, ⟨rfl, .inl ⟨rfl, rfl⟩⟩, (fun g _ => by simp [Value.ownBlock]), by show _ = _; rw [← hl.out, HST.out]; simp, hb5⟩, by simp [intOf]; omega⟩
        · have hkb : ((mm : Int) == (k : Int)) = false := by rw [beq_eq_false_iff_ne]; omega
          rw [if_neg hk] at hst
          have HST := Lib.hid hst; clear hst hk hr hl0
          go_wp2_with (go_at_call 67; refine (HH.out _ HRD.out).mono ?_; rintro e w2 ⟨rfl, hw2⟩; obtain rfl := hw2.symm; clear hw2)
          exact ⟨⟨pos + 1, mo, Ao, co, L, mm, Am, cm, met, by omega, by go_num, rfl, rfl, by omega, hmm, by omega, hownO, hxm.out ▸ hownM, hne, by show _ = _; rw [← hl.out, HST.out], hb⟩, by simp [intOf]; omega⟩
      · have hst := arch_new (k := k) hc hmem
        rw [decide_eq_false hmem] at hhas
        rw [← hmm.out] at hst
        have HH := Lib.hid hhas; have HRD := Lib.hid hrd
        have hxc : xm ++ [.string ⟨#[c]⟩] = (ones (met ++ [c])).map encStr := by rw [hxm.out]; simp [ones, encStr]
        have HXC := Lib.hid hxc
        clear hhas hrd hmem hc hcc hxc
        by_cases hk : mm + 1 = k
        · have hkb : ((mm : Int) + 1 == (k : Int)) = true := by rw [beq_iff_eq]; omega
          rw [if_pos hk] at hst
          have HST := Lib.hid hst; clear hst hr hl0
          go_wp2_with (first
            | (go_at_call 67; refine (HH.out _ HRD.out).mono ?_; rintro e w2 ⟨rfl, hw2⟩; obtain rfl := hw2.symm; clear hw2)
            | (at_builtin; refine wpList_append_own_at _ rfl _ _ 36 rfl w1.heap.size 9 s0 (.string ByteArray.empty) 1 16 Try.underlying36 si sz0 sz1 sz2' rfl (by decide) (.slice Am mm cm) mm xm rfl (hownM.alloc _) ⟨wr.heap.size, 0, none⟩ 1 1 [.string ⟨#[c]⟩] rfl rfl ?d1 ?d2 ?d3 ?d4 ?d5 ?_))
          case d1 => exact cell_one_new _ _ _
          case d2 => exact fun u hu => by rw [List.mem_singleton.1 hu]; rfl
          case d3 => unfold maxLen; omega
          case d4 => omega
          case d5 => simp; omega
          intro v4 w4 hown4 hg4 _ _
          obtain ⟨A4, c4, rfl⟩ := ownsRow_shape hown4
          have hownO4 := kept_ne (hownO.alloc (.cells #[.string ⟨#[c]⟩] 9)) hg4 hne
          have hb4 := below_own (hownM.alloc (.cells #[.string ⟨#[c]⟩] 9)) (hb.alloc hsz _) (by simp; omega) hg4
          have hs4 := hb4.size
          clear hown4 hg4 hownO hownM hne hb HH HRD
          go_wp2_with (at_builtin; refine wpList_append_own_at _ rfl _ _ 29 rfl w1.heap.size 3 i0 (.int .i64 0) 1 8 Try.underlying29 hi hz0 hz1 hz2' rfl (by decide) (.slice Ao mo co) mo (ints L) rfl (hownO4.alloc _) ⟨w4.heap.size, 0, none⟩ 1 1 [.int .i64 ((pos : Int) + 1)] rfl rfl ?c1 ?c2 ?c3 ?c4 ?c5 ?_)
          case c1 => exact cell_one_new _ _ _
          case c2 => exact fun u hu => by rw [List.mem_singleton.1 hu]; rfl
          case c3 => unfold maxLen; omega
          case c4 => omega
          case c5 => simp; omega
          intro v5 w5 hown5 hg5 _ _
          obtain ⟨A5, c5, rfl⟩ := ownsRow_shape hown5
          have e5 : ints L ++ [.int .i64 ((pos : Int) + 1)] = ints (L ++ [pos + 1]) := by simp [ints]
          rw [e5] at hown5
          have hb5 := below_own (hownO4.alloc _) (hb4.alloc hs4 _) (by simp; omega) hg5
          clear e5 hg5 hownO4 hb4
          go_wp2
          exact ⟨⟨pos + 1, mo + 1, A5, c5, L ++ [pos + 1], 0, none, 0, [], by omega, by go_num, rfl, rfl, by omega, rfl, by omega, hown5, ⟨rfl, .inl ⟨rfl, rfl⟩⟩, (fun g _ => by simp [Value.ownBlock]), by show _ = _; rw [← hl.out, HST.out]; simp, hb5⟩, by simp [intOf]; omega⟩
        · have hkb : ((mm : Int) + 1 == (k : Int)) = false := by rw [beq_eq_false_iff_ne]; omega
          rw [if_neg hk] at hst
          have HST := Lib.hid hst; clear hst hk hr hl0
          go_wp2_with (first
            | (go_at_call 67; refine (HH.out _ HRD.out).mono ?_; rintro e w2 ⟨rfl, hw2⟩; obtain rfl := hw2.symm; clear hw2)
            | (at_builtin; refine wpList_append_own_at _ rfl _ _ 36 rfl w1.heap.size 9 s0 (.string ByteArray.empty) 1 16 Try.underlying36 si sz0 sz1 sz2' rfl (by decide) (.slice Am mm cm) mm xm rfl (hownM.alloc _) ⟨wr.heap.size, 0, none⟩ 1 1 [.string ⟨#[c]⟩] rfl rfl ?d1 ?d2 ?d3 ?d4 ?d5 ?_))
          case d1 => exact cell_one_new _ _ _
          case d2 => exact fun u hu => by rw [List.mem_singleton.1 hu]; rfl
          case d3 => unfold maxLen; omega
          case d4 => omega
          case d5 => simp; omega
          intro v4 w4 hown4 hg4 _ hloc
          obtain ⟨A4, c4, rfl⟩ := ownsRow_shape hown4
          have hownO4 := kept_ne (hownO.alloc (.cells #[.string ⟨#[c]⟩] 9)) hg4 hne
          have hb4 := below_own (hownM.alloc (.cells #[.string ⟨#[c]⟩] 9)) (hb.alloc hsz _) (by simp; omega) hg4
          have hne4 : NeB (.slice Ao mo co) (.slice A4 (mm + 1) c4) := fun g hg => by
            rcases hloc with h | h
            · rw [h]; exact hne g hg
            · rw [h]; have := (hownO.lt g hg).2; simp; omega
          rw [HXC.out] at hown4
          have hm4 : Hid (mm + 1 = (met ++ [c]).length) := by show _ = _; rw [hmm.out]; simp
          clear hg4 hownO hownM hne hb HH HRD hloc
          go_wp2
          exact ⟨⟨pos + 1, mo, Ao, co, L, mm + 1, A4, c4, met ++ [c], by omega, by go_num, rfl, rfl, by omega, hm4, by omega, hownO4, hown4, hne4, by show _ = _; rw [← hl.out, HST.out], hb4⟩, by simp [intOf]; omega⟩
    · have e : L = r := by
        have := hl.out
        rw [List.drop_eq_nil_of_le (by omega)] at this
        simpa [archesL] using this
      have hLl : L.length = mo := by have := hownO.1; simpa [ints] using this
      subst e; subst hLl
      clear hr hl hl0 hxm
      go_wp2
      go_ret2
      exact ⟨hb, Ao, co, rfl, rd_own hownO⟩
end Go.Proofs.Ytalildjhighlhaa
