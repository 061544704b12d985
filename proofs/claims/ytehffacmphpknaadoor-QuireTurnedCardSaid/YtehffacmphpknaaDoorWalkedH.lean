/-
  The statements' helper walked: the points of a walk, by directions that are numbered.
-/
import Derived.Test.YtehffacmphpknaaDoorSame
import Derived.Test.YtehffacmphpknaaDoorWalkM
import Derived.Deep.Cut
set_option linter.unusedSimpArgs false
set_option linter.unusedVariables false
namespace Go.Proofs.YtehffacmphpknaaDoor
open Go.RowKit Go.Lib Go.Proofs.Quire

def WalkedPost (w : World) (ps : List (Int × Int)) (e : Ending) (w' : World) : Prop :=
  ∃ A c, e = .returned (.slice A ps.length c) ∧ RdP w' A ps.length ps ∧ Below w.heap.size w w'
theorem byte_at (cs : List UInt8) (k : Nat) (hk : k < cs.length) (hb : k < (⟨cs.toArray⟩ : ByteArray).size) : (⟨cs.toArray⟩ : ByteArray)[k] = cs.getD k 0 := by
  rw [getD_lt _ _ _ hk]
  show cs.toArray[k] = _
  rw [List.getElem_toArray]
set_option maxRecDepth 100000 in
set_option maxHeartbeats 2000000 in
theorem walked_any (cs : List UInt8) (w : World) (hs : cs.length ≤ 63) :
    Calls Tryd.prog 44 #[.string ⟨cs.toArray⟩] w (WalkedPost w (walkL cs)) := by
  obtain ⟨i0, hi, hz0, hz1, hz2⟩ := info_parts Tryd.infoP
  obtain ⟨r, hr⟩ : ∃ r, Hid (walkL cs = r) := ⟨_, rfl⟩
  have hlen : Hid (r.length = cs.length + 2) := by show _ = _; rw [← hr.out, walkL_len]
  rw [hr.out]
  obtain ⟨n0, hn0⟩ : ∃ n0, Hid (cs.length = n0) := ⟨_, rfl⟩
  have hsz : ((⟨cs.toArray⟩ : ByteArray)).size = n0 := by rw [← hn0.out]; exact size_l cs
  have hbyt : ∀ k (hk : k < n0) (hb : k < (⟨cs.toArray⟩ : ByteArray).size), (⟨cs.toArray⟩ : ByteArray)[k] = cs.getD k 0 := fun k hk hb => byte_at cs k (by rw [hn0.out]; exact hk) hb
  have hst : Hid ([(0, 0), (1, 0)] ++ restW (1, 0) (dirN 0) (cs.drop 0) = r) := by show _ = _; rw [← hr.out, walk_rest]; rfl
  rw [hn0.out] at hs hlen
  have HB := Lib.hid hbyt
  generalize (⟨cs.toArray⟩ : ByteArray) = s at hsz HB ⊢
  clear hr hbyt
  go_enter Tryd.func44, Tryd.ntmps44
  go_wp2_with (fail)
  have hb0 : Below w.heap.size w ((w.alloc (.cells #[.int .i64 1, .int .i64 0] 47)).alloc (.cells #[.int .i64 0, .int .i64 0, .int .i64 1, .int .i64 0] 47)) := ((Below.refl _ w).alloc (Nat.le_refl _) _).alloc (by simp) _
  have ha0 : Arr ((w.alloc (.cells #[.int .i64 1, .int .i64 0] 47)).alloc (.cells #[.int .i64 0, .int .i64 0, .int .i64 1, .int .i64 0] 47)) w.heap.size [.int .i64 1, .int .i64 0] := (Arr.new w [.int .i64 1, .int .i64 0] 47).alloc _
  have ho0 : World.ownsRow ((w.alloc (.cells #[.int .i64 1, .int .i64 0] 47)).alloc (.cells #[.int .i64 0, .int .i64 0, .int .i64 1, .int .i64 0] 47)) (w.heap.size + 1) 47 2 (.slice (some ⟨w.heap.size + 1, 0, none⟩) 2 2) 2 (pvals [(0, 0), (1, 0)]) :=
    ⟨rfl, .inr ⟨w.heap.size + 1, 2, #[.int .i64 0, .int .i64 0, .int .i64 1, .int .i64 0], rfl, Nat.le_refl _, by have := heap_alloc_new (w.alloc (.cells #[.int .i64 1, .int .i64 0] 47)) (.cells #[.int .i64 0, .int .i64 0, .int .i64 1, .int .i64 0] 47); simpa using this, Nat.le_refl _, by unfold maxLen; omega, rfl, rfl⟩⟩
  generalize ((w.alloc (.cells #[.int .i64 1, .int .i64 0] 47)).alloc (.cells #[.int .i64 0, .int .i64 0, .int .i64 1, .int .i64 0] 47)) = wA at hb0 ha0 ho0 ⊢
  go_loopw [4, 5, 13] (fun v4 v5 v13 wr => ∃ (k : Nat) (A : Option Addr) (c : Nat) (P : List (Int × Int)) (b : Nat) (x y : Int), k ≤ n0 ∧ v4 = .slice A (k + 2 : Nat) c ∧ v5 = .int .i64 b ∧ v13 = .int .i64 k ∧ Hid (P.length = k + 2) ∧
      wr.ownsRow (w.heap.size + 1) 47 2 (.slice A (k + 2) c) (k + 2) (pvals P) ∧ Arr wr w.heap.size [.int .i64 x, .int .i64 y] ∧ Hid (P ++ restW (x, y) (dirN b) (cs.drop k) = r) ∧ Below w.heap.size w wr ∧ ((-(k : Int) ≤ x ∧ x ≤ k + 1) ∧ (-(k : Int) ≤ y ∧ y ≤ k + 1) ∧ b ≤ 5 * k))
    (fun _ _ v _ => n0 - (RowKit.intOf v).toNat)
  case atStart => exact ⟨0, _, _, [(0, 0), (1, 0)], 0, 1, 0, Nat.zero_le _, rfl, rfl, rfl, rfl, ho0, ha0, hst, hb0, by omega⟩
  case round =>
    clear hb0 ho0 ha0 hst
    obtain ⟨k, A, c, P, b, x, y, hk, rfl, rfl, rfl, hP, hown, har, hre, hbr, ⟨hx0, hx1⟩, ⟨hy0, hy1⟩, hb5⟩ := hrel
    by_cases hlt : k < n0
    · have hkb : k < s.size := by omega
      have hsb := HB.out k hlt hkb
      have hstp : Hid (P ++ (x + (turn (some (cs.getD k 0 == 118)) (dirN b)).1, y + (turn (some (cs.getD k 0 == 118)) (dirN b)).2) :: restW (x + (turn (some (cs.getD k 0 == 118)) (dirN b)).1, y + (turn (some (cs.getD k 0 == 118)) (dirN b)).2) (turn (some (cs.getD k 0 == 118)) (dirN b)) (cs.drop (k + 1)) = r) := by
        show _ = _; rw [← hre.out, drop_cons cs k 0 (by rw [hn0.out]; exact hlt), rest_step]
      have hq : (((cs.getD k 0).toNat : Int) == 118) = (cs.getD k 0 == 118) := byte_eq _ 118 (by omega)
      generalize cs.getD k 0 = ch at hsb hstp hq
      generalize (ch == 118) = cb at hstp hq
      obtain ⟨b', hb', hb6, hd⟩ : ∃ b' : Nat, Hid (b' = if cb = true then b + 3 + 2 else b + 3) ∧ b' ≤ 5 * (k + 1) ∧ Hid (turn (some cb) (dirN b) = dirN b') := by
        refine ⟨_, rfl, by split <;> omega, ?_⟩
        cases cb
        · exact dir_right b
        · exact dir_left b
      rw [hd.out] at hstp
      have hsz2 := hbr.size
      have hn100 : k + 2 ≤ 100 := by omega
      have q4 : ∃ c : Nat, c < 4 ∧ b' % 4 = c := ⟨_, Nat.mod_lt _ (by decide), rfl⟩
      obtain ⟨q, hq4, hqe⟩ := q4
      obtain ⟨z, hz, hc0, hfz⟩ : ∃ z, Hid (z = if q % 2 = 0 then x else y) ∧ wr.cell? ⟨w.heap.size, q % 2, none⟩ = some (.int .i64 z) ∧ wr.frozen? ⟨w.heap.size, q % 2, none⟩ = false := by
        have h0 := har.2 0 (by simp); have h1 := har.2 1 (by simp)
        have : q % 2 = 0 ∨ q % 2 = 1 := by omega
        rcases this with e | e <;> rw [e]
        · exact ⟨x, rfl, h0.1, h0.2⟩
        · exact ⟨y, rfl, h1.1, h1.2⟩
      have hzb : -(k : Int) ≤ z ∧ z ≤ k + 1 := by
        rw [hz.out]; split <;> omega
      obtain ⟨hz5, hz6⟩ := hzb
      have hset : Hid (Arr (wr.setCell ⟨w.heap.size, q % 2, none⟩ (.int .i64 (z + (1 - (q : Int) / 2 * 2)))) w.heap.size [.int .i64 (x + (dirN b').1), .int .i64 (y + (dirN b').2)]) := by
        have h := har.set (q % 2) (by simp; omega) (.int .i64 (z + (1 - (q : Int) / 2 * 2)))
        have hq : q = 0 ∨ q = 1 ∨ q = 2 ∨ q = 3 := by omega
        unfold dirN
        rw [hqe]
        rcases hq with rfl | rfl | rfl | rfl <;> simp [hz.out] at h ⊢ <;> exact h
      obtain ⟨x', y', hxy, hxb⟩ : ∃ x' y' : Int, (x' = x + (dirN b').1 ∧ y' = y + (dirN b').2) ∧ (-(k : Int) - 1 ≤ x' ∧ x' ≤ k + 2) ∧ -(k : Int) - 1 ≤ y' ∧ y' ≤ k + 2 := by
        refine ⟨_, _, ⟨rfl, rfl⟩, ?_⟩
        unfold dirN
        split
        · simp only; omega
        · split
          · simp only; omega
          · split <;> simp only <;> omega
      obtain ⟨hx', hy'⟩ := hxy
      rw [← hx', ← hy'] at hset hstp
      have HX := Lib.hid hxb
      have hdl : Hid (dirN b' = dirN b') := rfl
      clear hx' hy' hxb
      have hgb := hbr.setCell (p := ⟨w.heap.size, q % 2, none⟩) (by simp) (.int .i64 (z + (1 - (q : Int) / 2 * 2)))
      have hown1 : (wr.setCell ⟨w.heap.size, q % 2, none⟩ (.int .i64 (z + (1 - (q : Int) / 2 * 2)))).ownsRow (w.heap.size + 1) 47 2 (.slice A (k + 2) c) (k + 2) (pvals P) :=
        own_keep (X := [w.heap.size]) hown ((Keep.refl _ _).setCell (.inl (by simp)) _) (fun j e => by have := (hown.lt j e).1; simp; omega)
      have HG := Lib.hid hgb; have HO := Lib.hid hown1
      have e1 : IntKind.i64.wrap (z + (1 - (q : Int) / 2 * 2)) = z + (1 - (q : Int) / 2 * 2) := by rw [IntKind.wrap_i64]; omega
      clear hgb hown1
      cases cb
      · have hb2 : Hid (b' = b + 3) := hb'
        have hm1 : (b + 3) % 2 = q % 2 := by have := hb2.out; omega
        have hm2 : ((b : Int) + 3) / 2 % 2 = (q : Int) / 2 := by have := hb2.out; omega
        have hm3 : ((b : Int) + 3) % 2 = (q : Int) % 2 := by have := hb2.out; omega
        have HM1 := Lib.hid hm1; have HM2 := Lib.hid hm2; have HM3 := Lib.hid hm3
        clear hb' hd hn0 hlen hm1 hm2 hm3 hz
        go_upto_region 11 with (simp only [HM1.out, HM2.out, HM3.out])
        have hA := hset.out
        have hB3 := HG.out
        have hO3 := HO.out
        have hsz3 : (wr.setCell ⟨w.heap.size, q % 2, none⟩ (.int .i64 (z + (1 - (q : Int) / 2 * 2)))).heap.size = wr.heap.size := by simp
        generalize (wr.setCell ⟨w.heap.size, q % 2, none⟩ (.int .i64 (z + (1 - (q : Int) / 2 * 2)))) = W3 at hA hB3 hO3 hsz3 ⊢
        have c0 : W3.cell? ⟨w.heap.size, 0, none⟩ = some (.int .i64 x') := (hA.2 0 (by simp)).1
        have c1 : W3.cell? ⟨w.heap.size, 1, none⟩ = some (.int .i64 y') := (hA.2 1 (by simp)).1
        have hA1 := har.1
        have hsB : w.heap.size + 1 ≤ W3.heap.size := by omega
        have hA4 := hA.alloc (.cells #[.int .i64 x', .int .i64 y'] 47)
        have hB4 := hB3.alloc hB3.size (.cells #[.int .i64 x', .int .i64 y'] 47)
        have hO4 := hO3.alloc (.cells #[.int .i64 x', .int .i64 y'] 47)
        have hnB : some w.heap.size ≠ (Value.slice A (k + 2) c).ownBlock := fun e => by have := (hown.lt _ e.symm).1; omega
        have HA := Lib.hid hA4
        clear hset HG HO hc0 hfz hown har hA hA4 hA1 hO3 hB3
        go_wp2_with (at_builtin; refine append_pair W3 rfl _ _ rfl (w.heap.size + 1) (k + 2) (.slice A (k + 2) c) P x' y' rfl hO4 wr.heap.size hsz3 rfl hn100 hsB ?_)
        intro A5 c5 w5 hown5 hg5
        have hA5 := HA.out.grown hg5 hnB
        have hb5' := below_own hO4 hB4 (by omega) (by simp; omega) hg5
        have HP : Hid ((P ++ [(x', y')]).length = k + 1 + 2) := by show _ = _; rw [List.length_append, hP.out]; rfl
        have HR : Hid ((P ++ [(x', y')]) ++ restW (x', y') (dirN (b + 3)) (cs.drop (k + 1)) = r) := by
          show _ = _; rw [List.append_assoc, ← hb2.out]; exact hstp.out
        have hbb := hb2.out
        have hxx := HX.out
        go_wp2_with (fail)
        exact ⟨⟨k + 1, A5, c5, _, b + 3, x', y', by omega, rfl, by go_num, by go_num, HP, hown5, hA5, HR, hb5', by omega⟩, by simp [RowKit.intOf]; omega⟩
      · have hb2 : Hid (b' = b + 3 + 2) := hb'
        have hm1 : (b + 3 + 2) % 2 = q % 2 := by have := hb2.out; omega
        have hm2 : ((b : Int) + 3 + 2) / 2 % 2 = (q : Int) / 2 := by have := hb2.out; omega
        have hm3 : ((b : Int) + 3 + 2) % 2 = (q : Int) % 2 := by have := hb2.out; omega
        have HM1 := Lib.hid hm1; have HM2 := Lib.hid hm2; have HM3 := Lib.hid hm3
        clear hb' hd hn0 hlen hm1 hm2 hm3 hz
        go_upto_region 11 with (simp only [HM1.out, HM2.out, HM3.out])
        have hA := hset.out
        have hB3 := HG.out
        have hO3 := HO.out
        have hsz3 : (wr.setCell ⟨w.heap.size, q % 2, none⟩ (.int .i64 (z + (1 - (q : Int) / 2 * 2)))).heap.size = wr.heap.size := by simp
        generalize (wr.setCell ⟨w.heap.size, q % 2, none⟩ (.int .i64 (z + (1 - (q : Int) / 2 * 2)))) = W3 at hA hB3 hO3 hsz3 ⊢
        have c0 : W3.cell? ⟨w.heap.size, 0, none⟩ = some (.int .i64 x') := (hA.2 0 (by simp)).1
        have c1 : W3.cell? ⟨w.heap.size, 1, none⟩ = some (.int .i64 y') := (hA.2 1 (by simp)).1
        have hA1 := har.1
        have hsB : w.heap.size + 1 ≤ W3.heap.size := by omega
        have hA4 := hA.alloc (.cells #[.int .i64 x', .int .i64 y'] 47)
        have hB4 := hB3.alloc hB3.size (.cells #[.int .i64 x', .int .i64 y'] 47)
        have hO4 := hO3.alloc (.cells #[.int .i64 x', .int .i64 y'] 47)
        have hnB : some w.heap.size ≠ (Value.slice A (k + 2) c).ownBlock := fun e => by have := (hown.lt _ e.symm).1; omega
        have HA := Lib.hid hA4
        clear hset HG HO hc0 hfz hown har hA hA4 hA1 hO3 hB3
        go_wp2_with (at_builtin; refine append_pair W3 rfl _ _ rfl (w.heap.size + 1) (k + 2) (.slice A (k + 2) c) P x' y' rfl hO4 wr.heap.size hsz3 rfl hn100 hsB ?_)
        intro A5 c5 w5 hown5 hg5
        have hA5 := HA.out.grown hg5 hnB
        have hb5' := below_own hO4 hB4 (by omega) (by simp; omega) hg5
        have HP : Hid ((P ++ [(x', y')]).length = k + 1 + 2) := by show _ = _; rw [List.length_append, hP.out]; rfl
        have HR : Hid ((P ++ [(x', y')]) ++ restW (x', y') (dirN (b + 3 + 2)) (cs.drop (k + 1)) = r) := by
          show _ = _; rw [List.append_assoc, ← hb2.out]; exact hstp.out
        have hbb := hb2.out
        have hxx := HX.out
        go_wp2_with (fail)
        exact ⟨⟨k + 1, A5, c5, _, b + 3 + 2, x', y', by omega, rfl, by go_num, by go_num, HP, hown5, hA5, HR, hb5', by omega⟩, by simp [RowKit.intOf]; omega⟩
    · have hke : k = n0 := by omega
      have hR : Hid (P = r) := by
        show _ = _; rw [← hre.out, List.drop_eq_nil_of_le (by rw [hn0.out]; omega)]; simp [restW]
      rw [hR.out] at hown
      have hrd := own_rdP hown (by rw [hlen.out]; omega)
      rw [hke] at hrd
      have HRD := Lib.hid hrd
      clear hown hrd
      go_wp2_with (fail)
      go_ret
      exact ⟨A, c, by rw [hlen.out, hke]; rfl, by rw [hlen.out]; exact HRD.out, hbr⟩
end Go.Proofs.YtehffacmphpknaaDoor
