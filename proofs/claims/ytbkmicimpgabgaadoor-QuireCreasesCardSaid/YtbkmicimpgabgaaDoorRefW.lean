/-
  The reference's letters, walk and Walk.
-/
import Derived.Test.YtbkmicimpgabgaaDoorWk
set_option linter.unusedSimpArgs false
set_option linter.unusedVariables false
namespace Go.Proofs.Quire
/-- the points that are still to come behind a point -/
def rgo : Int × Int → Int × Int → List UInt8 → List (Int × Int)
  | _, _, [] => []
  | p, d, c :: cs => (p.1 + (turn (some (c == 118)) d).1, p.2 + (turn (some (c == 118)) d).2) :: rgo (p.1 + (turn (some (c == 118)) d).1, p.2 + (turn (some (c == 118)) d).2) (turn (some (c == 118)) d) cs
theorem wgo_rgo : ∀ (cs : List UInt8) q p d, wgo q p d cs = (p.1 + (turn q d).1, p.2 + (turn q d).2) :: rgo (p.1 + (turn q d).1, p.2 + (turn q d).2) (turn q d) cs
  | [], q, p, d => rfl
  | c :: cs, q, p, d => by rw [wgo, wgo_rgo cs]; rfl
theorem walkL_rgo (cs : List UInt8) : walkL cs = [(0, 0), (1, 0)] ++ rgo (1, 0) (1, 0) cs := by unfold walkL; rw [wgo_rgo]; rfl
end Go.Proofs.Quire
namespace Go.Proofs.YtbkmicimpgabgaaDoor
open Go.RowKit Go.Lib Go.Proofs.Quire

set_option maxRecDepth 100000 in
set_option maxHeartbeats 1000000 in
theorem rletters_any (s : ByteArray) (m : Nat) (a b : UInt8) (w : World) (hs : s.size ≤ maxLen) (hm : m ≤ 1000) :
    Calls Tryd.prog 42 #[.string s, .int .i64 m, .int .u8 a.toNat, .int .u8 b.toNat] w fun e w' => e = .returned (.int .i64 (chkL m a b s.data.toList)) ∧ w' = w := by
  unfold maxLen at hs
  by_cases h10 : m < s.size
  · have hc := chk_long (m := m) (a := a) (b := b) (l := s.data.toList) (by simpa using h10)
    have HC := Lib.hid hc; clear hc
    go_enter Tryd.func42, Tryd.ntmps42
    go_wp2
    go_ret
    exact ⟨ret_int HC.out.symm, rfl⟩
  · have hc := chk_all (m := m) (a := a) (b := b) (l := s.data.toList) (by simpa using h10)
    have HC := Lib.hid hc; clear hc
    generalize hf : (fun c => c == a || c == b) = f at HC
    have HF := Lib.hid hf; clear hf
    go_enter Tryd.func42, Tryd.ntmps42
    go_wp2
    go_loopw [9] (fun i wr => ∃ (k : Nat), k ≤ s.size ∧ i = .int .i64 k ∧ wr = w ∧ Hid ((s.data.toList.drop k).all f = s.data.toList.all f)) (fun i _ => s.size - (RowKit.intOf i).toNat)
    case atStart => exact ⟨0, Nat.zero_le _, rfl, rfl, rfl⟩
    case round =>
      obtain ⟨k, hk, rfl, rfl, hl⟩ := hrel
      by_cases hp : k < s.size
      · have HST := Lib.hid (all_step hp f)
        have hea := lit_eq s[k] a
        have heb := lit_eq s[k] b
        have hfx : Hid (f s[k] = (s[k] == a || s[k] == b)) := by show _ = _; rw [← HF.out]
        cases h1 : (s[k] == a) with
        | true =>
          rw [h1] at hea hfx
          have HE : Hid ((s.data.toList.drop (k + 1)).all f = s.data.toList.all f) := by show _ = _; rw [← hl.out, HST.out, hfx.out]; rfl
          clear heb hfx h1
          go_wp2
          exact ⟨⟨k + 1, by omega, by go_num, trivial, HE⟩, by simp [RowKit.intOf]; omega⟩
        | false =>
          rw [h1] at hea hfx
          cases h2 : (s[k] == b) with
          | true =>
            rw [h2] at heb hfx
            have HE : Hid ((s.data.toList.drop (k + 1)).all f = s.data.toList.all f) := by show _ = _; rw [← hl.out, HST.out, hfx.out]; rfl
            clear hfx h1 h2
            go_wp2
            exact ⟨⟨k + 1, by omega, by go_num, trivial, HE⟩, by simp [RowKit.intOf]; omega⟩
          | false =>
            rw [h2] at heb hfx
            have HZ : Hid (s.data.toList.all f = false) := by show _ = _; rw [← hl.out, HST.out, hfx.out]; rfl
            clear hfx h1 h2
            go_wp2
            go_ret
            exact ⟨ret_int (by rw [HC.out, HZ.out]; rfl), rfl⟩
      · have HZ : Hid (s.data.toList.all f = true) := by show _ = _; rw [← hl.out, List.drop_eq_nil_of_le (by simp; omega)]; rfl
        go_wp2
        go_ret
        exact ⟨ret_int (by rw [HC.out, HZ.out]; rfl), rfl⟩

set_option maxRecDepth 100000 in
set_option maxHeartbeats 2000000 in
theorem rwalk_any (cs : List UInt8) (w : World) (hs : cs.length ≤ 63) :
    Calls Tryd.prog 40 #[.string ⟨cs.toArray⟩] w (PtC (walkL cs) (cs.length + 2) w) := by
  obtain ⟨r, hr⟩ : ∃ r, Hid (walkL cs = r) := ⟨_, rfl⟩
  have hrl : Hid (r.length = cs.length + 2) := by show _ = _; rw [← hr.out]; exact walkL_len cs
  rw [hr.out]
  obtain ⟨s, hsb⟩ : ∃ s : ByteArray, s = ⟨cs.toArray⟩ := ⟨_, rfl⟩
  have hsz : s.size = cs.length := by rw [hsb]; exact size_l cs
  have hget : Hid (∀ j (hj : j < s.size) (hj' : j < cs.length), s[j] = cs[j]) := by
    subst hsb; intro j hj hj'; show cs.toArray[j] = _; simp
  rw [← hsb]
  rw [← hsz] at hrl ⊢
  have HSZ := Lib.hid hsz
  have h64 : s.size ≤ 63 := by omega
  clear hsb hsz
  go_enter Tryd.func40, Tryd.ntmps40
  go_wp2
  have hb0 : Below w.heap.size w (w.alloc (.cells #[.int .i64 0, .int .i64 0, .int .i64 1, .int .i64 0] 62)) := (Below.refl _ w).alloc (Nat.le_refl _) _
  have ho0 : World.ownsRow (w.alloc (.cells #[.int .i64 0, .int .i64 0, .int .i64 1, .int .i64 0] 62)) w.heap.size 62 2 (.slice (some ⟨w.heap.size, 0, none⟩) 2 2) 2 (pvals [(0, 0), (1, 0)]) :=
    ⟨rfl, .inr ⟨w.heap.size, 2, #[.int .i64 0, .int .i64 0, .int .i64 1, .int .i64 0], rfl, Nat.le_refl _, heap_alloc_new w _, Nat.le_refl _, by unfold maxLen; omega, rfl, rfl⟩⟩
  have hst : Hid ([(0, 0), (1, 0)] ++ rgo (1, 0) (1, 0) (cs.drop 0) = r) := by show _ = _; rw [← hr.out, walkL_rgo]; rfl
  generalize w.alloc (.cells #[.int .i64 0, .int .i64 0, .int .i64 1, .int .i64 0] 62) = wA at hb0 ho0 ⊢
  go_loopw [3, 4, 5, 6, 7, 8] (fun v3 v4 v5 v6 v7 v8 wr => ∃ (k n : Nat) (A : Option Addr) (c : Nat) (P : List (Int × Int)) (x y dx dy : Int), k ≤ s.size ∧ v3 = .int .i64 x ∧ v4 = .int .i64 y ∧ v5 = .int .i64 dx ∧ v6 = .int .i64 dy ∧ v7 = .slice A n c ∧ v8 = .int .i64 k ∧ n = k + 2 ∧
      wr.ownsRow w.heap.size 62 2 (.slice A n c) n (pvals P) ∧ Hid (P ++ rgo (x, y) (dx, dy) (cs.drop k) = r) ∧ Below w.heap.size w wr ∧ ((-(k : Int) - 1 ≤ x ∧ x ≤ k + 1) ∧ (-(k : Int) - 1 ≤ y ∧ y ≤ k + 1) ∧ (-1 ≤ dx ∧ dx ≤ 1) ∧ -1 ≤ dy ∧ dy ≤ 1))
    (fun _ _ _ _ _ v _ => s.size - (RowKit.intOf v).toNat)
  case atStart => exact ⟨0, 2, _, _, [(0, 0), (1, 0)], 1, 0, 1, 0, Nat.zero_le _, rfl, rfl, rfl, rfl, rfl, rfl, rfl, ho0, hst, hb0, by omega⟩
  case round =>
    clear hb0 ho0 hst
    obtain ⟨k, n, A, c, P, x, y, dx, dy, hk, rfl, rfl, rfl, rfl, rfl, rfl, rfl, hown, hre, hbr, hbx, hby, hbd, hbe⟩ := hrel
    by_cases hp : k < s.size
    · have hkc : k < cs.length := by rw [← HSZ.out]; exact hp
      have hbq : ((s[k].toNat : Int) == 118) = (cs[k] == 118) := by rw [hget.out k hp hkc]; exact byte_eq _ 118 (by omega)
      have hst : Hid (P ++ ((x + (turn (some (cs[k] == 118)) (dx, dy)).1, y + (turn (some (cs[k] == 118)) (dx, dy)).2) :: rgo (x + (turn (some (cs[k] == 118)) (dx, dy)).1, y + (turn (some (cs[k] == 118)) (dx, dy)).2) (turn (some (cs[k] == 118)) (dx, dy)) (cs.drop (k + 1))) = r) := by
        show _ = _; rw [← hre.out, List.drop_eq_getElem_cons hkc]; rfl
      have hn100 : k + 2 ≤ 100 := by omega
      have hsz := hbr.size
      generalize (cs[k] == 118) = bb at hbq hst
      cases bb
      · have hst2 : Hid ((P ++ [(x + dy, y + -dx)]) ++ rgo (x + dy, y + -dx) (dy, -dx) (cs.drop (k + 1)) = r) := by show _ = _; rw [List.append_assoc]; exact hst.out
        have hown2 := hown.alloc (.cells #[.int .i64 (x + dy), .int .i64 (y + -dx)] 62)
        clear hst
        go_wp2_with (at_builtin; refine append_pair wr rfl _ _ rfl w.heap.size (k + 2) (.slice A (k + 2) c) P (x + dy) (y + -dx) rfl hown2 wr.heap.size rfl rfl hn100 hsz ?_)
        intro A3 c3 w3 hown3 hg3
        have hb3 := below_own hown2 (hbr.alloc hsz (.cells #[.int .i64 (x + dy), .int .i64 (y + -dx)] 62)) (Nat.le_refl _) (by simp; omega) hg3
        clear hown hown2 hg3
        go_wp2
        exact ⟨⟨k + 1, k + 2 + 1, A3, c3, _, x + dy, y + -dx, dy, -dx, by omega, rfl, rfl, rfl, rfl, rfl, by go_num, by omega, hown3, hst2, hb3, by omega⟩, by simp [RowKit.intOf]; omega⟩
      · have hst2 : Hid ((P ++ [(x + -dy, y + dx)]) ++ rgo (x + -dy, y + dx) (-dy, dx) (cs.drop (k + 1)) = r) := by show _ = _; rw [List.append_assoc]; exact hst.out
        have hown2 := hown.alloc (.cells #[.int .i64 (x + -dy), .int .i64 (y + dx)] 62)
        clear hst
        go_wp2_with (at_builtin; refine append_pair wr rfl _ _ rfl w.heap.size (k + 2) (.slice A (k + 2) c) P (x + -dy) (y + dx) rfl hown2 wr.heap.size rfl rfl hn100 hsz ?_)
        intro A3 c3 w3 hown3 hg3
        have hb3 := below_own hown2 (hbr.alloc hsz (.cells #[.int .i64 (x + -dy), .int .i64 (y + dx)] 62)) (Nat.le_refl _) (by simp; omega) hg3
        clear hown hown2 hg3
        go_wp2
        exact ⟨⟨k + 1, k + 2 + 1, A3, c3, _, x + -dy, y + dx, -dy, dx, by omega, rfl, rfl, rfl, rfl, rfl, by go_num, by omega, hown3, hst2, hb3, by omega⟩, by simp [RowKit.intOf]; omega⟩
    · have hR : Hid (P = r) := by
        have e : cs.drop k = [] := List.drop_eq_nil_of_le (by rw [← HSZ.out]; omega)
        show _ = _; rw [← hre.out, e]; simp [rgo]
      rw [hR.out] at hown
      obtain rfl : k = s.size := by omega
      have hrd := own_rdP hown hrl.out
      have HRD := Lib.hid hrd
      clear hrd hown hR hre
      go_wp2
      go_ret
      exact ⟨⟨A, c, rfl, HRD.out⟩, hbr⟩
end Go.Proofs.YtbkmicimpgabgaaDoor
