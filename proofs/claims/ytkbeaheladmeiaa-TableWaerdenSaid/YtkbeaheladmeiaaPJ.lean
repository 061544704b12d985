/-
  The weight of an even table is least if all numbers are the same (up to four rows, sums up to eight).
-/
import Derived.Test.YtkbeaheladmeiaaPI
set_option linter.unusedSimpArgs false
set_option linter.unusedVariables false
namespace Go.Proofs.Ytkbeaheladmeiaa
open Go Go.Proofs.Eng
set_option maxRecDepth 100000
set_option maxHeartbeats 4000000
def per4 (a b c d e f g h i j l o m n p q : Nat) : Nat :=
  (a * f + b * e) * (l * q + o * p) + (a * g + c * e) * (j * q + o * n) + (a * h + d * e) * (j * p + l * n) + (b * g + c * f) * (i * q + o * m) + (b * h + d * f) * (i * p + l * m) + (c * h + d * g) * (i * n + j * m)
def ck5 (k a b c e f g i j l : Nat) : Bool := Nat.ble (24 * (k * k * k * k)) (256 * per4 a b c (k - (a + b + c)) e f g (k - (e + f + g)) i j l (k - (i + j + l)) (k - (a + e + i)) (k - (b + f + j)) (k - (c + g + l)) (k - ((k - (a + b + c)) + (k - (e + f + g)) + (k - (i + j + l)))))
def ck4 (k a b c e f g i j : Nat) : Bool := (List.range (a + 1)).all fun l => !(decide (i + j + l ≤ k) && decide (c + g + l ≤ k ∧ (k - (a + b + c)) + (k - (e + f + g)) + (k - (i + j + l)) ≤ k)) || ck5 k a b c e f g i j l
def ck3 (k a b c e f g i : Nat) : Bool := (List.range (a + 1)).all fun j => !(decide (b + f + j ≤ k) && decide (k - (b + f + j) ≤ a)) || ck4 k a b c e f g i j
def ck2 (k a b c e i f : Nat) : Bool := (List.range (a + 1)).all fun g => !(decide (e + f + g ≤ k) && decide (k - (e + f + g) ≤ a)) || ck3 k a b c e f g i
def ck1 (k a b c e : Nat) : Bool := (List.range (e + 1)).all fun i => !(decide (a + e + i ≤ k) && decide (k - (a + e + i) ≤ i)) || ((List.range (a + 1)).all fun f => ck2 k a b c e i f)
def ck0 (k a b : Nat) : Bool := (List.range (b + 1)).all fun c => !(decide (a + b + c ≤ k) && decide (k - (a + b + c) ≤ c)) || ((List.range (a + 1)).all fun e => ck1 k a b c e)
def chk4 (k : Nat) : Bool := (List.range (k + 1)).all fun a => (List.range (a + 1)).all fun b => ck0 k a b
theorem chk4_0 : chk4 0 = true := by decide +kernel
theorem chk4_1 : chk4 1 = true := by decide +kernel
theorem chk4_2 : chk4 2 = true := by decide +kernel
theorem chk4_3 : chk4 3 = true := by decide +kernel
theorem chk4_4 : chk4 4 = true := by decide +kernel
theorem chk4_5 : chk4 5 = true := by decide +kernel
theorem chk4_6 : chk4 6 = true := by decide +kernel
theorem chk4_7 : chk4 7 = true := by decide +kernel
theorem chk4_8 : chk4 8 = true := by decide +kernel
theorem chk4_all {k : Nat} (h : k ≤ 8) : chk4 k = true := by
  rcases (by omega : k = 0 ∨ k = 1 ∨ k = 2 ∨ k = 3 ∨ k = 4 ∨ k = 5 ∨ k = 6 ∨ k = 7 ∨ k = 8) with rfl | rfl | rfl | rfl | rfl | rfl | rfl | rfl | rfl
  · exact chk4_0
  · exact chk4_1
  · exact chk4_2
  · exact chk4_3
  · exact chk4_4
  · exact chk4_5
  · exact chk4_6
  · exact chk4_7
  · exact chk4_8
theorem or_at {p q : Prop} [Decidable p] [Decidable q] {r : Bool} (h : (!(decide p && decide q) || r) = true) (hp : p) (hq : q) : r = true := by
  rw [decide_eq_true hp, decide_eq_true hq] at h; simpa using h
theorem h_le {a b c d k : Nat} (h : a + b + c + d = k) : a + b + c ≤ k := by omega
theorem h_sub {a b c d k : Nat} (h : a + b + c + d = k) : k - (a + b + c) = d := by omega
theorem h_lt {a b c d k : Nat} (h : a + b + c + d = k) : a < k + 1 := by omega
theorem h_s2 {a b k : Nat} (h : a = b) (h2 : b ≤ k) : a ≤ k := h ▸ h2
theorem h_in {a b : Nat} (h : b ≤ a) : b ∈ List.range (a + 1) := List.mem_range.2 (Nat.lt_succ_of_le h)
theorem per4_ge {k a b c d e f g h i j l o m n p q : Nat} (hk : k ≤ 8) (r0 : a + b + c + d = k) (r1 : e + f + g + h = k) (r2 : i + j + l + o = k) (r3 : m + n + p + q = k) (c0 : a + e + i + m = k) (c1 : b + f + j + n = k) (c2 : c + g + l + p = k) (c3 : d + h + o + q = k)
    (s1 : b ≤ a) (s2 : c ≤ b) (s3 : d ≤ c) (t1 : e ≤ a) (t2 : i ≤ e) (t3 : m ≤ i) (m1 : f ≤ a) (m2 : g ≤ a) (m3 : h ≤ a) (m4 : j ≤ a) (m5 : n ≤ a) (m6 : l ≤ a) : 24 * (k * k * k * k) ≤ 256 * per4 a b c d e f g h i j l o m n p q := by
  have H := chk4_all hk
  unfold chk4 at H
  rw [List.all_eq_true] at H
  have H := H a (List.mem_range.2 (h_lt r0))
  rw [List.all_eq_true] at H
  have H := H b (h_in s1)
  unfold ck0 at H
  rw [List.all_eq_true] at H
  have H := or_at (H c (h_in s2)) (h_le r0) (h_s2 (h_sub r0) s3)
  rw [List.all_eq_true] at H
  have H := H e (h_in t1)
  unfold ck1 at H
  rw [List.all_eq_true] at H
  have H := or_at (H i (h_in t2)) (h_le c0) (h_s2 (h_sub c0) t3)
  rw [List.all_eq_true] at H
  have H := H f (h_in m1)
  unfold ck2 at H
  rw [List.all_eq_true] at H
  have H := or_at (H g (h_in m2)) (h_le r1) (h_s2 (h_sub r1) m3)
  unfold ck3 at H
  rw [List.all_eq_true] at H
  have H := or_at (H j (h_in m4)) (h_le c1) (h_s2 (h_sub c1) m5)
  unfold ck4 at H
  rw [List.all_eq_true] at H
  have H := or_at (H l (h_in m6)) (h_le r2) ⟨h_le c2, by rw [h_sub r0, h_sub r1, h_sub r2]; exact h_le c3⟩
  unfold ck5 at H
  have H := Nat.le_of_ble_eq_true H
  rw [h_sub r0, h_sub r1, h_sub r2, h_sub c0, h_sub c1, h_sub c2, h_sub c3] at H
  exact H
theorem sum4 (a b c d e f g h i j l o m n p q : Int) : sumW [[a, b, c, d], [e, f, g, h], [i, j, l, o], [m, n, p, q]] (plL 4) = (a * f + b * e) * (l * q + o * p) + (a * g + c * e) * (j * q + o * n) + (a * h + d * e) * (j * p + l * n) + (b * g + c * f) * (i * q + o * m) + (b * h + d * f) * (i * p + l * m) + (c * h + d * g) * (i * n + j * m) := by
  have e : sumW [[a, b, c, d], [e, f, g, h], [i, j, l, o], [m, n, p, q]] (plL 4) = 0 + 1 * a * f * l * q + 1 * a * f * o * p + 1 * a * g * j * q + 1 * a * g * o * n + 1 * a * h * j * p + 1 * a * h * l * n + 1 * b * e * l * q + 1 * b * e * o * p + 1 * b * g * i * q + 1 * b * g * o * m + 1 * b * h * i * p + 1 * b * h * l * m + 1 * c * e * j * q + 1 * c * e * o * n + 1 * c * f * i * q + 1 * c * f * o * m + 1 * c * h * i * n + 1 * c * h * j * m + 1 * d * e * j * p + 1 * d * e * l * n + 1 * d * f * i * p + 1 * d * f * l * m + 1 * d * g * i * n + 1 * d * g * j * m := rfl
  rw [e]
  grind
end Go.Proofs.Ytkbeaheladmeiaa

set_option linter.unusedSimpArgs false
set_option linter.unusedVariables false
namespace Go.Proofs.Ytkbeaheladmeiaa
open Go Go.Proofs.Eng
set_option maxRecDepth 100000
set_option maxHeartbeats 4000000
/-- tables of the same sum and weight -/
structure Cls (k w : Int) (S : List (List Int)) : Prop where
  g : gT 4 S
  e : EvT 4 S k
  w : wgtT 4 S = w
theorem cls_mv {k w : Int} {S : List (List Int)} (h : Cls k w S) {p q : List Int} (hp : p ∈ plL 4) (hq : q ∈ plL 4) : Cls k w (mvT 4 p q S) where
  g := gT_mv h.g hp hq
  e := by
    have g1 := gT_row h.g hp
    have g2 := gT_col g1
    have g3 := gT_row g2 hq
    have e : mvT 4 p q S = colT 4 (rowP 4 q (colT 4 (rowP 4 p S))) :=
      tab_ext (gT_mv h.g hp hq).len (gT_mv h.g hp hq).row (gT_col g3).len (gT_col g3).row fun r c hr hc => by
        have hi := ((iv_dec 4 (by omega) (by omega) q hq).1 c hc).1
        rw [cel_colT hc hr]
        unfold rowP mvT
        rw [cel_mk 4 _ hr hc, cel_mk 4 _ hc hr, cel_colT hr hi, cel_mk 4 _ hr hi]
    rw [e]
    exact (ev_col g3 k).1 ((ev_row g2 hq k).1 ((ev_col g1 k).1 ((ev_row h.g hp k).1 h.e)))
  w := by rw [(same_mv h.g hp hq).wgt]; exact h.w
def phi (S : List (List Int)) : Int := 1000 * cel S 0 0 + (3 * cel S 0 1 + 2 * cel S 0 2 + cel S 0 3) + (3 * cel S 1 0 + 2 * cel S 2 0 + cel S 3 0)
theorem phi_b {S : List (List Int)} (hg : gT 4 S) : 0 ≤ phi S ∧ phi S ≤ 9108 := by
  have h1 := hg.b (r := 0) (c := 0) (by omega) (by omega)
  have h2 := hg.b (r := 0) (c := 1) (by omega) (by omega)
  have h3 := hg.b (r := 0) (c := 2) (by omega) (by omega)
  have h4 := hg.b (r := 0) (c := 3) (by omega) (by omega)
  have h5 := hg.b (r := 1) (c := 0) (by omega) (by omega)
  have h6 := hg.b (r := 2) (c := 0) (by omega) (by omega)
  have h7 := hg.b (r := 3) (c := 0) (by omega) (by omega)
  unfold phi
  omega
theorem cls_max {k w : Int} : ∀ (m : Nat) (S : List (List Int)), Cls k w S → 9108 - phi S ≤ m → ∃ S', Cls k w S' ∧ ∀ S'', Cls k w S'' → phi S'' ≤ phi S'
  | 0, S, h, hm => ⟨S, h, fun S'' h'' => by have := phi_b h''.g; omega⟩
  | m + 1, S, h, hm => by
    by_cases hx : ∃ S'', Cls k w S'' ∧ phi S < phi S''
    · obtain ⟨S'', h1, h2⟩ := hx
      exact cls_max m S'' h1 (by omega)
    · exact ⟨S, h, fun S'' h'' => Int.not_lt.1 fun q => hx ⟨S'', h'', q⟩⟩
def sw (r : Nat) : List Int := [[0, 1, 2, 3], [1, 0, 2, 3], [2, 1, 0, 3], [3, 1, 2, 0]].getD r []
theorem sw_dec : ∀ r, r < 4 → sw r ∈ plL 4 ∧ ivL (sw r) 0 = r := by decide +kernel
theorem phi_mv {S : List (List Int)} (p q : List Int) : phi (mvT 4 p q S) = 1000 * cel S (ivL p 0) (ivL q 0) + (3 * cel S (ivL p 0) (ivL q 1) + 2 * cel S (ivL p 0) (ivL q 2) + cel S (ivL p 0) (ivL q 3)) + (3 * cel S (ivL p 1) (ivL q 0) + 2 * cel S (ivL p 2) (ivL q 0) + cel S (ivL p 3) (ivL q 0)) := by
  unfold phi mvT
  rw [cel_mk 4 _ (by omega) (by omega), cel_mk 4 _ (by omega) (by omega), cel_mk 4 _ (by omega) (by omega), cel_mk 4 _ (by omega) (by omega), cel_mk 4 _ (by omega) (by omega), cel_mk 4 _ (by omega) (by omega), cel_mk 4 _ (by omega) (by omega)]
theorem cls_best {k w : Int} {S : List (List Int)} (h : Cls k w S) : ∃ S', Cls k w S' ∧ (∀ r c, r < 4 → c < 4 → cel S' r c ≤ cel S' 0 0) ∧ cel S' 0 2 ≤ cel S' 0 1 ∧ cel S' 0 3 ≤ cel S' 0 2 ∧ cel S' 2 0 ≤ cel S' 1 0 ∧ cel S' 3 0 ≤ cel S' 2 0 := by
  obtain ⟨S', h1, hmax⟩ := cls_max 10000 S h (by have := phi_b h.g; omega)
  have i0 : [(0 : Int), 1, 2, 3] ∈ plL 4 := by decide
  have i1 : [(0 : Int), 2, 1, 3] ∈ plL 4 := by decide
  have i2 : [(0 : Int), 1, 3, 2] ∈ plL 4 := by decide
  have b := fun (r c : Nat) (hr : r < 4) (hc : c < 4) => h1.g.b hr hc
  have big : ∀ r c, r < 4 → c < 4 → cel S' r c ≤ cel S' 0 0 := fun r c hr hc => by
    obtain ⟨p1, p2⟩ := sw_dec r hr
    obtain ⟨q1, q2⟩ := sw_dec c hc
    have hm := hmax _ (cls_mv h1 p1 q1)
    have hg2 := (cls_mv h1 p1 q1).g
    have g1 := hg2.b (r := 0) (c := 1) (by omega) (by omega)
    have g2 := hg2.b (r := 0) (c := 2) (by omega) (by omega)
    have g3 := hg2.b (r := 0) (c := 3) (by omega) (by omega)
    have g4 := hg2.b (r := 1) (c := 0) (by omega) (by omega)
    have g5 := hg2.b (r := 2) (c := 0) (by omega) (by omega)
    have g6 := hg2.b (r := 3) (c := 0) (by omega) (by omega)
    have e0 : cel (mvT 4 (sw r) (sw c) S') 0 0 = cel S' r c := by
      unfold mvT
      rw [cel_mk 4 _ (by omega) (by omega), p2, q2]
    have b1 := b 0 1 (by omega) (by omega)
    have b2 := b 0 2 (by omega) (by omega)
    have b3 := b 0 3 (by omega) (by omega)
    have b4 := b 1 0 (by omega) (by omega)
    have b5 := b 2 0 (by omega) (by omega)
    have b6 := b 3 0 (by omega) (by omega)
    unfold phi at hm
    rw [e0] at hm
    omega
  have sc1 := hmax _ (cls_mv h1 i0 i1)
  have sc2 := hmax _ (cls_mv h1 i0 i2)
  have sr1 := hmax _ (cls_mv h1 i1 i0)
  have sr2 := hmax _ (cls_mv h1 i2 i0)
  rw [phi_mv] at sc1 sc2 sr1 sr2
  have a00 : ivL [(0 : Int), 1, 2, 3] 0 = 0 := by decide
  have a01 : ivL [(0 : Int), 1, 2, 3] 1 = 1 := by decide
  have a02 : ivL [(0 : Int), 1, 2, 3] 2 = 2 := by decide
  have a03 : ivL [(0 : Int), 1, 2, 3] 3 = 3 := by decide
  have a10 : ivL [(0 : Int), 2, 1, 3] 0 = 0 := by decide
  have a11 : ivL [(0 : Int), 2, 1, 3] 1 = 2 := by decide
  have a12 : ivL [(0 : Int), 2, 1, 3] 2 = 1 := by decide
  have a13 : ivL [(0 : Int), 2, 1, 3] 3 = 3 := by decide
  have a20 : ivL [(0 : Int), 1, 3, 2] 0 = 0 := by decide
  have a21 : ivL [(0 : Int), 1, 3, 2] 1 = 1 := by decide
  have a22 : ivL [(0 : Int), 1, 3, 2] 2 = 3 := by decide
  have a23 : ivL [(0 : Int), 1, 3, 2] 3 = 2 := by decide
  rw [a00, a01, a02, a03, a10, a11, a12, a13] at sc1 sr1
  rw [a00, a01, a02, a03, a20, a21, a22, a23] at sc2 sr2
  unfold phi at sc1 sc2 sr1 sr2
  exact ⟨S', h1, big, by omega, by omega, by omega, by omega⟩
theorem toN {a b c d k : Nat} (h : (((0 + (a : Int)) + b) + c) + d = k) : a + b + c + d = k := by omega
theorem toL {a b : Nat} (h : (a : Int) ≤ b) : a ≤ b := by omega
theorem waer_4 {T : List (List Int)} {k : Nat} (hk : k ≤ 8) (hg : gT 4 T) (he : EvT 4 T k) : 24 * ((k : Int) * k * k * k) ≤ 256 * wgtT 4 T := by
  obtain ⟨S, hS, big, s1, s2, s3, s4⟩ := cls_best (k := k) (w := wgtT 4 T) ⟨hg, he, rfl⟩
  rw [← hS.w, wgtT_pl hS.g]
  have hgS := hS.g
  have heS := hS.e
  match S, hgS.len, hgS.row with
  | [R0, R1, R2, R3], _, hr =>
    match R0, hr R0 (by simp), R1, hr R1 (by simp), R2, hr R2 (by simp), R3, hr R3 (by simp) with
    | [a, b, c, d], _, [e, f, g, h], _, [i, j, l, o], _, [m, n, p, q], _ =>
      have B := fun (r c : Nat) (hr : r < 4) (hc : c < 4) => hgS.b hr hc
      have Ba : 0 ≤ a := (B 0 0 (by omega) (by omega)).1
      have Bb : 0 ≤ b := (B 0 1 (by omega) (by omega)).1
      have Bc : 0 ≤ c := (B 0 2 (by omega) (by omega)).1
      have Bd : 0 ≤ d := (B 0 3 (by omega) (by omega)).1
      have Be : 0 ≤ e := (B 1 0 (by omega) (by omega)).1
      have Bf : 0 ≤ f := (B 1 1 (by omega) (by omega)).1
      have Bg : 0 ≤ g := (B 1 2 (by omega) (by omega)).1
      have Bh : 0 ≤ h := (B 1 3 (by omega) (by omega)).1
      have Bi : 0 ≤ i := (B 2 0 (by omega) (by omega)).1
      have Bj : 0 ≤ j := (B 2 1 (by omega) (by omega)).1
      have Bl : 0 ≤ l := (B 2 2 (by omega) (by omega)).1
      have Bo : 0 ≤ o := (B 2 3 (by omega) (by omega)).1
      have Bm : 0 ≤ m := (B 3 0 (by omega) (by omega)).1
      have Bn : 0 ≤ n := (B 3 1 (by omega) (by omega)).1
      have Bp : 0 ≤ p := (B 3 2 (by omega) (by omega)).1
      have Bq : 0 ≤ q := (B 3 3 (by omega) (by omega)).1
      have G1 : b ≤ a := big 0 1 (by omega) (by omega)
      have G2 : e ≤ a := big 1 0 (by omega) (by omega)
      have G3 : f ≤ a := big 1 1 (by omega) (by omega)
      have G4 : g ≤ a := big 1 2 (by omega) (by omega)
      have G5 : h ≤ a := big 1 3 (by omega) (by omega)
      have G6 : j ≤ a := big 2 1 (by omega) (by omega)
      have G7 : n ≤ a := big 3 1 (by omega) (by omega)
      have G8 : l ≤ a := big 2 2 (by omega) (by omega)
      have S1 : c ≤ b := s1
      have S2 : d ≤ c := s2
      have S3 : i ≤ e := s3
      have S4 : m ≤ i := s4
      have r0 : (((0 + a) + b) + c) + d = (k : Int) := heS.row 0 (by omega)
      have r1 : (((0 + e) + f) + g) + h = (k : Int) := heS.row 1 (by omega)
      have r2 : (((0 + i) + j) + l) + o = (k : Int) := heS.row 2 (by omega)
      have r3 : (((0 + m) + n) + p) + q = (k : Int) := heS.row 3 (by omega)
      have c0 : (((0 + a) + e) + i) + m = (k : Int) := heS.col 0 (by omega)
      have c1 : (((0 + b) + f) + j) + n = (k : Int) := heS.col 1 (by omega)
      have c2 : (((0 + c) + g) + l) + p = (k : Int) := heS.col 2 (by omega)
      have c3 : (((0 + d) + h) + o) + q = (k : Int) := heS.col 3 (by omega)
      clear big s1 s2 s3 s4 B heS hgS hS hr hg he
      obtain ⟨a, rfl⟩ := Int.eq_ofNat_of_zero_le Ba
      obtain ⟨b, rfl⟩ := Int.eq_ofNat_of_zero_le Bb
      obtain ⟨c, rfl⟩ := Int.eq_ofNat_of_zero_le Bc
      obtain ⟨d, rfl⟩ := Int.eq_ofNat_of_zero_le Bd
      obtain ⟨e, rfl⟩ := Int.eq_ofNat_of_zero_le Be
      obtain ⟨f, rfl⟩ := Int.eq_ofNat_of_zero_le Bf
      obtain ⟨g, rfl⟩ := Int.eq_ofNat_of_zero_le Bg
      obtain ⟨h, rfl⟩ := Int.eq_ofNat_of_zero_le Bh
      obtain ⟨i, rfl⟩ := Int.eq_ofNat_of_zero_le Bi
      obtain ⟨j, rfl⟩ := Int.eq_ofNat_of_zero_le Bj
      obtain ⟨l, rfl⟩ := Int.eq_ofNat_of_zero_le Bl
      obtain ⟨o, rfl⟩ := Int.eq_ofNat_of_zero_le Bo
      obtain ⟨m, rfl⟩ := Int.eq_ofNat_of_zero_le Bm
      obtain ⟨n, rfl⟩ := Int.eq_ofNat_of_zero_le Bn
      obtain ⟨p, rfl⟩ := Int.eq_ofNat_of_zero_le Bp
      obtain ⟨q, rfl⟩ := Int.eq_ofNat_of_zero_le Bq
      rw [sum4]
      have H := per4_ge (k := k) (a := a) (b := b) (c := c) (d := d) (e := e) (f := f) (g := g) (h := h) (i := i) (j := j) (l := l) (o := o) (m := m) (n := n) (p := p) (q := q) hk (toN r0) (toN r1) (toN r2) (toN r3) (toN c0) (toN c1) (toN c2) (toN c3) (toL G1) (toL S1) (toL S2) (toL G2) (toL S3) (toL S4) (toL G3) (toL G4) (toL G5) (toL G6) (toL G7) (toL G8)
      unfold per4 at H
      have H2 := Int.ofNat_le.2 H
      simp only [Int.natCast_add, Int.natCast_mul] at H2
      exact H2
def chk3 (k : Nat) : Bool := (List.range (k + 1)).all fun a => (List.range (k + 1)).all fun b => (List.range (k + 1)).all fun d => (List.range (k + 1)).all fun e =>
  !(decide (a + b ≤ k ∧ d + e ≤ k ∧ a + d ≤ k) && decide (b + e ≤ k ∧ (k - (a + b)) + (k - (d + e)) ≤ k)) || Nat.ble (6 * (k * k * k)) (27 * (a * e * (k - ((k - (a + b)) + (k - (d + e)))) + a * (k - (d + e)) * (k - (b + e)) + b * d * (k - ((k - (a + b)) + (k - (d + e)))) + b * (k - (d + e)) * (k - (a + d)) + (k - (a + b)) * d * (k - (b + e)) + (k - (a + b)) * e * (k - (a + d))))
theorem chk3_all : (List.range 9).all chk3 = true := by decide +kernel
theorem waer_3 {T : List (List Int)} {k : Nat} (hk : k ≤ 8) (hg : gT 3 T) (he : EvT 3 T k) : 6 * ((k : Int) * k * k) ≤ 27 * wgtT 3 T := by
  rw [wgtT_pl hg]
  match T, hg.len, hg.row with
  | [R0, R1, R2], _, hr =>
    match R0, hr R0 (by simp), R1, hr R1 (by simp), R2, hr R2 (by simp) with
    | [a, b, c], _, [d, e, f], _, [g, h, i], _ =>
      have B := fun (r c : Nat) (hr : r < 3) (hc : c < 3) => hg.b hr hc
      have Ba : 0 ≤ a := (B 0 0 (by omega) (by omega)).1
      have Bb : 0 ≤ b := (B 0 1 (by omega) (by omega)).1
      have Bc : 0 ≤ c := (B 0 2 (by omega) (by omega)).1
      have Bd : 0 ≤ d := (B 1 0 (by omega) (by omega)).1
      have Be : 0 ≤ e := (B 1 1 (by omega) (by omega)).1
      have Bf : 0 ≤ f := (B 1 2 (by omega) (by omega)).1
      have Bg : 0 ≤ g := (B 2 0 (by omega) (by omega)).1
      have Bh : 0 ≤ h := (B 2 1 (by omega) (by omega)).1
      have Bi : 0 ≤ i := (B 2 2 (by omega) (by omega)).1
      have r0 : ((0 + a) + b) + c = (k : Int) := he.row 0 (by omega)
      have r1 : ((0 + d) + e) + f = (k : Int) := he.row 1 (by omega)
      have r2 : ((0 + g) + h) + i = (k : Int) := he.row 2 (by omega)
      have c0 : ((0 + a) + d) + g = (k : Int) := he.col 0 (by omega)
      have c1 : ((0 + b) + e) + h = (k : Int) := he.col 1 (by omega)
      have c2 : ((0 + c) + f) + i = (k : Int) := he.col 2 (by omega)
      have es : sumW [[a, b, c], [d, e, f], [g, h, i]] (plL 3) = 0 + 1 * a * e * i + 1 * a * f * h + 1 * b * d * i + 1 * b * f * g + 1 * c * d * h + 1 * c * e * g := rfl
      rw [es]
      clear B hr hg he es
      obtain ⟨a, rfl⟩ := Int.eq_ofNat_of_zero_le Ba
      obtain ⟨b, rfl⟩ := Int.eq_ofNat_of_zero_le Bb
      obtain ⟨c, rfl⟩ := Int.eq_ofNat_of_zero_le Bc
      obtain ⟨d, rfl⟩ := Int.eq_ofNat_of_zero_le Bd
      obtain ⟨e, rfl⟩ := Int.eq_ofNat_of_zero_le Be
      obtain ⟨f, rfl⟩ := Int.eq_ofNat_of_zero_le Bf
      obtain ⟨g, rfl⟩ := Int.eq_ofNat_of_zero_le Bg
      obtain ⟨h, rfl⟩ := Int.eq_ofNat_of_zero_le Bh
      obtain ⟨i, rfl⟩ := Int.eq_ofNat_of_zero_le Bi
      have H := (List.all_eq_true.1 chk3_all) k (List.mem_range.2 (by omega))
      unfold chk3 at H
      rw [List.all_eq_true] at H
      have H := H a (List.mem_range.2 (by omega))
      rw [List.all_eq_true] at H
      have H := H b (List.mem_range.2 (by omega))
      rw [List.all_eq_true] at H
      have H := H d (List.mem_range.2 (by omega))
      rw [List.all_eq_true] at H
      have H := or_at (H e (List.mem_range.2 (by omega))) (by omega) (by omega)
      have H := Nat.le_of_ble_eq_true H
      rw [show k - (a + b) = c by omega, show k - (d + e) = f by omega, show k - (b + e) = h by omega, show k - (a + d) = g by omega, show k - (c + f) = i by omega] at H
      have H2 := Int.ofNat_le.2 H
      simp only [Int.natCast_add, Int.natCast_mul] at H2
      grind
theorem waer_2 {T : List (List Int)} {k : Nat} (hg : gT 2 T) (he : EvT 2 T k) : 2 * ((k : Int) * k) ≤ 4 * wgtT 2 T := by
  rw [wgtT_pl hg]
  match T, hg.len, hg.row with
  | [R0, R1], _, hr =>
    match R0, hr R0 (by simp), R1, hr R1 (by simp) with
    | [a, b], _, [c, d], _ =>
      have r0 : (0 + a) + b = (k : Int) := he.row 0 (by omega)
      have r1 : (0 + c) + d = (k : Int) := he.row 1 (by omega)
      have c0 : (0 + a) + c = (k : Int) := he.col 0 (by omega)
      have es : sumW [[a, b], [c, d]] (plL 2) = 0 + 1 * a * d + 1 * b * c := rfl
      rw [es]
      have e1 : d = a := by omega
      have e2 : c = b := by omega
      subst e1 e2
      have e3 : (k : Int) = d + c := by omega
      rw [e3]
      have h0 : 0 ≤ (d - c) * (d - c) := by
        rcases Int.le_total 0 (d - c) with q | q
        · exact Int.mul_nonneg q q
        · exact Int.mul_nonneg_of_nonpos_of_nonpos q q
      grind
theorem waer_1 {T : List (List Int)} {k : Nat} (hg : gT 1 T) (he : EvT 1 T k) : wgtT 1 T = k := by
  rw [wgtT_pl hg]
  match T, hg.len, hg.row with
  | [R0], _, hr =>
    match R0, hr R0 (by simp) with
    | [a], _ =>
      have r0 : 0 + a = (k : Int) := he.row 0 (by omega)
      have es : sumW [[a]] (plL 1) = 0 + 1 * a := rfl
      rw [es]; omega
end Go.Proofs.Ytkbeaheladmeiaa

