/-
  Plain mathematics of package short: words as lists of bytes; no Go and no program.
-/
import Derived.Lib.Small
import Derived.Lib.Bytealg
set_option linter.unusedSimpArgs false
set_option linter.unusedVariables false
namespace Go.Proofs.Short

def okc (b : UInt8) : Bool := decide (97 ≤ b.toNat) && decide (b.toNat ≤ 102)
def chk (w : List UInt8) : Int := if 10 < w.length then 19 else if w.all okc then 0 else 10
def chks : List (List UInt8) → Int
  | [] => 0
  | w :: l => if chk w = 0 then chks l else chk w

/-- is p left of w if letters are taken out? -/
def leftL : List UInt8 → List UInt8 → Bool
  | _, [] => true
  | [], _ :: _ => false
  | a :: w, c :: p => if a = c then leftL w p else leftL w (c :: p)

theorem leftL_nil (w : List UInt8) : leftL w [] = true := by cases w <;> rfl
theorem leftL_of_tail {a : UInt8} : ∀ {w p : List UInt8}, leftL w (a :: p) = true → leftL w p = true
  | [], _, h => by simp [leftL] at h
  | b :: w, [], _ => leftL_nil _
  | b :: w, c :: p, h => by
    unfold leftL at h ⊢
    split at h
    · split
      · exact leftL_of_tail h
      · exact h
    · split
      · exact leftL_of_tail (leftL_of_tail h)
      · exact leftL_of_tail h
theorem leftL_cons {a : UInt8} {w p : List UInt8} (h : leftL w p = true) : leftL (a :: w) p = true := by
  cases p with
  | nil => rfl
  | cons c p =>
    unfold leftL
    split
    · exact leftL_of_tail h
    · exact h
theorem leftL_iff : ∀ {w p : List UInt8}, leftL w p = true ↔ p.Sublist w
  | [], [] => by simp [leftL]
  | [], c :: p => by simp [leftL]
  | a :: w, [] => by simp [leftL]
  | a :: w, c :: p => by
    unfold leftL
    split
    · rename_i h; subst h
      rw [leftL_iff, List.cons_sublist_cons]
    · rename_i h
      rw [leftL_iff]
      constructor
      · exact fun h => h.cons a
      · intro h2
        cases h2 with
        | cons _ h3 => exact h3
        | cons_cons _ h3 => exact absurd rfl h

def subs : List UInt8 → List (List UInt8)
  | [] => [[]]
  | a :: w => subs w ++ (subs w).map (a :: ·)
theorem mem_subs : ∀ {w p : List UInt8}, p ∈ subs w ↔ p.Sublist w
  | [], p => by simp [subs]
  | a :: w, p => by
    simp only [subs, List.mem_append, List.mem_map, mem_subs]
    constructor
    · rintro (h | ⟨q, h, rfl⟩)
      · exact h.cons a
      · exact h.cons_cons a
    · intro h
      cases h with
      | cons _ h => exact .inl h
      | cons_cons _ h => exact .inr ⟨_, h, rfl⟩

theorem sublist_snoc {p w : List UInt8} {a : UInt8} : p.Sublist (w ++ [a]) ↔ p.Sublist w ∨ ∃ q, p = q ++ [a] ∧ q.Sublist w := by
  rw [List.sublist_append_iff]
  constructor
  · rintro ⟨l1, l2, rfl, h1, h2⟩
    have : l2 = [] ∨ l2 = [a] := by
      cases h2 with
      | cons _ h => left; simpa using h
      | cons_cons _ h => right; simpa using h
    rcases this with rfl | rfl
    · left; simpa using h1
    · right; exact ⟨l1, rfl, h1⟩
  · rintro (h | ⟨q, rfl, h⟩)
    · exact ⟨p, [], by simp, h, List.nil_sublist _⟩
    · exact ⟨q, [a], rfl, h, List.Sublist.refl _⟩

/-- Go's comparison of words: the shorter first, then by bytes. -/
def cfW (a b : List UInt8) : Int := if Lib.compareInt a.length b.length = 0 then Lib.compareBytes a b else Lib.compareInt a.length b.length
def ltW (a b : List UInt8) : Bool := decide (cfW a b < 0)

theorem cb_range (a b : List UInt8) : Lib.compareBytes a b = -1 ∨ Lib.compareBytes a b = 0 ∨ Lib.compareBytes a b = 1 := by
  fun_induction Lib.compareBytes a b <;> simp_all
theorem cb_eq {a b : List UInt8} : Lib.compareBytes a b = 0 ↔ a = b := by
  fun_induction Lib.compareBytes a b
  · simp
  · simp
  · simp
  · rename_i a as b bs h; simp; intro h2; subst h2; exact absurd h (by simp)
  · rename_i a as b bs h1 h; simp; intro h2; subst h2; exact absurd h (by simp)
  · rename_i a as b bs h1 h2 ih
    rw [ih]; simp; intro _
    have h1 : ¬ a < b := h1
    have h2 : ¬ b < a := h2
    rw [UInt8.lt_iff_toNat_lt] at h1 h2
    exact UInt8.toNat_inj.1 (by omega)
theorem cb_neg (a b : List UInt8) : Lib.compareBytes b a = - Lib.compareBytes a b := by
  fun_induction Lib.compareBytes a b
  · rfl
  · rfl
  · rfl
  · rename_i a as b bs h
    have : ¬ b < a := by rw [UInt8.lt_iff_toNat_lt] at *; omega
    simp [Lib.compareBytes, h, this]
  · rename_i a as b bs h1 h
    simp [Lib.compareBytes, h]
  · rename_i a as b bs h1 h2 ih
    simp [Lib.compareBytes, h1, h2, ih]
theorem cb_trans {a b c : List UInt8} (h1 : Lib.compareBytes a b < 0) (h2 : Lib.compareBytes b c < 0) : Lib.compareBytes a c < 0 := by
  induction a generalizing b c with
  | nil =>
    cases b with
    | nil => simp [Lib.compareBytes] at h1
    | cons b bs =>
      cases c with
      | nil => simp [Lib.compareBytes] at h2
      | cons c cs => simp [Lib.compareBytes]
  | cons a as ih =>
    cases b with
    | nil => simp [Lib.compareBytes] at h1
    | cons b bs =>
      cases c with
      | nil => simp [Lib.compareBytes] at h2
      | cons c cs =>
        simp only [Lib.compareBytes] at *
        simp only [UInt8.lt_iff_toNat_lt] at *
        split at h1
        · split at h2
          · rw [if_pos (by omega)]; decide
          · split at h2
            · exact absurd h2 (by decide)
            · rw [if_pos (by omega)]; decide
        · split at h1
          · exact absurd h1 (by decide)
          · split at h2
            · rw [if_pos (by omega)]; decide
            · split at h2
              · exact absurd h2 (by decide)
              · rw [if_neg (by omega), if_neg (by omega)]; exact ih h1 h2

theorem cfW_eq {a b : List UInt8} : cfW a b = 0 ↔ a = b := by
  unfold cfW
  split
  · exact cb_eq
  · rename_i h
    constructor
    · intro h2; exact absurd h2 h
    · intro h2; subst h2; exact absurd (by simp [Lib.compareInt]) h
theorem cfW_neg (a b : List UInt8) : cfW b a = - cfW a b := by
  unfold cfW
  have e : Lib.compareInt b.length a.length = - Lib.compareInt a.length b.length := by
    unfold Lib.compareInt
    split <;> split <;> (try split) <;> (try split) <;> omega
  rw [e]
  split
  · rw [if_pos (by omega)]; exact cb_neg a b
  · rw [if_neg (by omega)]
theorem cfW_lt {a b : List UInt8} : cfW a b < 0 ↔ a.length < b.length ∨ (a.length = b.length ∧ Lib.compareBytes a b < 0) := by
  unfold cfW Lib.compareInt
  by_cases h : a.length < b.length
  · have : (a.length : Int) < b.length := by omega
    simp [this, h]
  · by_cases h2 : b.length < a.length
    · have h3 : ¬ (a.length : Int) < b.length := by omega
      have h4 : (b.length : Int) < a.length := by omega
      simp [h, h3, h4]; omega
    · have h3 : ¬ (a.length : Int) < b.length := by omega
      have h4 : ¬ (b.length : Int) < a.length := by omega
      have h5 : a.length = b.length := by omega
      simp [h5]
theorem ltW_iff {a b : List UInt8} : ltW a b = true ↔ a.length < b.length ∨ (a.length = b.length ∧ Lib.compareBytes a b < 0) := by
  unfold ltW; rw [decide_eq_true_iff]; exact cfW_lt
theorem ltW_irrefl (a : List UInt8) : ltW a a = false := by
  cases h : ltW a a with
  | false => rfl
  | true =>
    rw [ltW_iff] at h
    rcases h with h | ⟨_, h⟩
    · omega
    · rw [cb_eq.2 rfl] at h; omega
theorem ltW_trans {a b c : List UInt8} (h1 : ltW a b = true) (h2 : ltW b c = true) : ltW a c = true := by
  rw [ltW_iff] at *
  rcases h1 with h1 | ⟨e1, h1⟩ <;> rcases h2 with h2 | ⟨e2, h2⟩
  · left; omega
  · left; omega
  · left; omega
  · right; exact ⟨by omega, cb_trans h1 h2⟩
theorem ltW_total {a b : List UInt8} (h1 : ltW a b = false) (h2 : ltW b a = false) : a = b := by
  unfold ltW at h1 h2
  rw [cfW_neg a b] at h2
  simp at h1 h2
  exact cfW_eq.1 (by omega)
theorem ltW_asymm {a b : List UInt8} (h1 : ltW a b = true) : ltW b a = false := by
  cases h : ltW b a with
  | false => rfl
  | true => have := ltW_trans h1 h; rw [ltW_irrefl] at this; exact absurd this (by decide)

def Srt (l : List (List UInt8)) : Prop := l.Pairwise (fun a b => ltW a b = true)
theorem srt_ext : ∀ {l l' : List (List UInt8)}, Srt l → Srt l' → (∀ x, x ∈ l ↔ x ∈ l') → l = l'
  | [], [], _, _, _ => rfl
  | [], y :: l', _, _, h => absurd ((h y).2 (List.mem_cons_self ..)) (by simp)
  | x :: l, [], _, _, h => absurd ((h x).1 (List.mem_cons_self ..)) (by simp)
  | x :: l, y :: l', h1, h2, h => by
    obtain ⟨a1, b1⟩ := List.pairwise_cons.1 h1
    obtain ⟨a2, b2⟩ := List.pairwise_cons.1 h2
    have e : x = y := by
      rcases List.mem_cons.1 ((h x).1 (List.mem_cons_self ..)) with e | hx
      · exact e
      · rcases List.mem_cons.1 ((h y).2 (List.mem_cons_self ..)) with e | hy
        · exact e.symm
        · have := ltW_asymm (a1 y hy); rw [a2 x hx] at this; exact absurd this (by decide)
    subst e
    congr 1
    refine srt_ext b1 b2 fun z => ?_
    constructor
    · intro hz
      rcases List.mem_cons.1 ((h z).1 (List.mem_cons_of_mem _ hz)) with rfl | hz'
      · have := a1 z hz; rw [ltW_irrefl] at this; exact absurd this (by decide)
      · exact hz'
    · intro hz
      rcases List.mem_cons.1 ((h z).2 (List.mem_cons_of_mem _ hz)) with rfl | hz'
      · have := a2 z hz; rw [ltW_irrefl] at this; exact absurd this (by decide)
      · exact hz'

def insW (x : List UInt8) : List (List UInt8) → List (List UInt8)
  | [] => [x]
  | y :: l => if ltW x y then x :: y :: l else if ltW y x then y :: insW x l else y :: l
theorem mem_insW {x z : List UInt8} : ∀ {l : List (List UInt8)}, z ∈ insW x l ↔ z = x ∨ z ∈ l
  | [] => by simp [insW]
  | y :: l => by
    unfold insW
    split
    · simp
    · split
      · rw [List.mem_cons, mem_insW]; simp; constructor <;> (intro h; rcases h with h | h | h <;> simp [h])
      · rename_i h1 h2
        have : x = y := ltW_total (by simpa using h1) (by simpa using h2)
        subst this; simp
theorem srt_insW {x : List UInt8} : ∀ {l : List (List UInt8)}, Srt l → Srt (insW x l)
  | [], _ => by simp [insW, Srt]
  | y :: l, h => by
    obtain ⟨a1, b1⟩ := List.pairwise_cons.1 h
    unfold insW
    split
    · rename_i h1
      refine List.pairwise_cons.2 ⟨fun z hz => ?_, h⟩
      rcases List.mem_cons.1 hz with rfl | hz
      · exact h1
      · exact ltW_trans h1 (a1 z hz)
    · split
      · rename_i h1 h2
        refine List.pairwise_cons.2 ⟨fun z hz => ?_, srt_insW b1⟩
        rcases mem_insW.1 hz with rfl | hz
        · exact h2
        · exact a1 z hz
      · exact h
/-- all different parts of some words, the shortest first, then by bytes -/
def partsL (ws : List (List UInt8)) : List (List UInt8) := (ws.flatMap subs).foldr insW []
theorem srt_foldr : ∀ l : List (List UInt8), Srt (l.foldr insW [])
  | [] => List.Pairwise.nil
  | _ :: l => srt_insW (srt_foldr l)
theorem mem_foldr {z : List UInt8} : ∀ l : List (List UInt8), z ∈ l.foldr insW [] ↔ z ∈ l
  | [] => by simp
  | x :: l => by simp only [List.foldr_cons, mem_insW, mem_foldr l, List.mem_cons]
theorem srt_partsL (ws : List (List UInt8)) : Srt (partsL ws) := srt_foldr _
theorem mem_partsL {ws : List (List UInt8)} {p : List UInt8} : p ∈ partsL ws ↔ ∃ w ∈ ws, p.Sublist w := by
  unfold partsL; rw [mem_foldr, List.mem_flatMap]; simp only [mem_subs]


/-! ### ways -/
/-- in how many ways the part (both from the end) is left -/
def waysR : List UInt8 → List UInt8 → Nat
  | _, [] => 1
  | [], _ :: _ => 0
  | a :: w, c :: p => waysR w (c :: p) + if a = c then waysR w p else 0
def waysL (w p : List UInt8) : Nat := waysR w.reverse p.reverse
theorem waysR_nil (w : List UInt8) : waysR w [] = 1 := by cases w <;> rfl
theorem waysR_le : ∀ w p : List UInt8, waysR w p ≤ 2 ^ w.length
  | w, [] => by rw [waysR_nil]; exact Nat.one_le_two_pow
  | [], _ :: _ => by simp [waysR]
  | a :: w, c :: p => by
    have h1 := waysR_le w (c :: p)
    have h2 := waysR_le w p
    unfold waysR
    rw [List.length_cons, Nat.pow_succ]
    split <;> omega

/-! ### the first places -/
def firstL : Nat → List UInt8 → List UInt8 → Option (List Nat)
  | _, _, [] => some []
  | _, [], _ :: _ => none
  | i, a :: w, c :: p => if a = c then (firstL (i + 1) w p).map (i :: ·) else firstL (i + 1) w (c :: p)
theorem firstL_nil (i : Nat) (w : List UInt8) : firstL i w [] = some [] := by cases w <;> rfl

/-! ### arches -/
def archesL (k : Nat) : Nat → List UInt8 → List UInt8 → List Nat
  | _, _, [] => []
  | i, met, a :: w =>
    let met' := if a ∈ met then met else a :: met
    if met'.length = k then (i + 1) :: archesL k (i + 1) [] w else archesL k (i + 1) met' w

/-! ### the shortest words that are missing -/
def alphaL (k : Nat) : List UInt8 := [97, 98, 99, 100, 101, 102].take k
/-- where a letter is for the first time -/
def idxL (c : UInt8) : List UInt8 → Option Nat
  | [] => none
  | a :: w => if a = c then some 0 else (idxL c w).map (· + 1)
/-- the word that is missing by letter c, the table of what is missing behind each letter being t -/
def missBy (c : UInt8) (rest : List UInt8) (t : List (List UInt8)) : List UInt8 :=
  match idxL c rest with
  | none => [c]
  | some at_ => c :: t.getD at_ []
def better (f : List UInt8) (x : List UInt8) : List UInt8 := if f = [] then x else if ltW x f then x else f
def firstMissL (rest : List UInt8) (t : List (List UInt8)) (k : Nat) : List UInt8 := (alphaL k).foldl (fun f c => better f (missBy c rest t)) []
def missT (k : Nat) : List UInt8 → List (List UInt8)
  | [] => [firstMissL [] [] k]
  | a :: w => firstMissL (a :: w) (missT k w) k :: missT k w
def missL (k : Nat) (w : List UInt8) : List UInt8 := (missT k w).getD 0 []
def letE (w : List UInt8) (k : Int) : Int := if chk w = 0 then (if k < 1 ∨ 6 < k then 1 else if w.all (fun b => (alphaL k.toNat).contains b) then 0 else 2) else chk w

/-! ### telling apart -/
def apartL (a b : List UInt8) : Option (List UInt8) := (partsL [a, b]).find? fun p => leftL a p != leftL b p
/-- is p left of a word (numbered from i on) other than word k? -/
def othersF (k : Nat) (p : List UInt8) : Nat → List (List UInt8) → Bool
  | _, [] => false
  | i, w :: l => (i != k && leftL w p) || othersF k p (i + 1) l
def othersL (ws : List (List UInt8)) (k : Nat) (p : List UInt8) : Bool := othersF k p 0 ws
def shortL (ws : List (List UInt8)) (k : Nat) : Option (List UInt8) := (partsL [ws.getD k []]).find? fun p => !othersL ws k p
def aroundL (k n : Nat) : List UInt8 := (List.range n).map fun i => (alphaL k).getD (i % k) 0

theorem chks_two {a b : List UInt8} (h : chks [a, b] = 0) : (a.length ≤ 10 ∧ a.all okc = true) ∧ (b.length ≤ 10 ∧ b.all okc = true) := by
  unfold chks at h
  have key : ∀ x : List UInt8, chk x = 0 → x.length ≤ 10 ∧ x.all okc = true := by
    intro x hx
    unfold chk at hx
    split at hx
    · exact absurd hx (by decide)
    · split at hx
      · rename_i h1 h2; exact ⟨by omega, h2⟩
      · exact absurd hx (by decide)
  split at h
  · rename_i h1
    refine ⟨key _ h1, ?_⟩
    unfold chks at h
    split at h
    · rename_i h2; exact key _ h2
    · exact key _ h
  · rename_i h1; exact absurd h h1
theorem okc_lt {x : UInt8} (h : okc x = true) : x.toNat < 128 := by unfold okc at h; simp at h; omega
theorem okc_at {l : List UInt8} (h : l.all okc = true) {k : Nat} (hk : k < l.length) : okc l[k] = true := List.all_eq_true.1 h _ (List.getElem_mem _)

/-- the row of counts while Ways reads letter a: the places behind n are done -/
def cm (ra : List UInt8) (a : UInt8) (b : List UInt8) (n : Nat) : List Nat := (List.range (b.length + 1)).map fun j => if n < j then waysR (a :: ra) (b.take j).reverse else waysR ra (b.take j).reverse
def cnts (ra b : List UInt8) : List Nat := (List.range (b.length + 1)).map fun j => waysR ra (b.take j).reverse
theorem cm_length (ra : List UInt8) (a : UInt8) (b : List UInt8) (n : Nat) : (cm ra a b n).length = b.length + 1 := by simp [cm]
theorem cnts_length (ra b : List UInt8) : (cnts ra b).length = b.length + 1 := by simp [cnts]
theorem cm_top (ra : List UInt8) (a : UInt8) (b : List UInt8) : cm ra a b b.length = cnts ra b := by
  unfold cm cnts
  refine List.map_congr_left fun j hj => ?_
  rw [if_neg (by have := List.mem_range.1 hj; omega)]
theorem cm_bot (ra : List UInt8) (a : UInt8) (b : List UInt8) : cm ra a b 0 = cnts (a :: ra) b := by
  unfold cm cnts
  refine List.map_congr_left fun j hj => ?_
  by_cases h : 0 < j
  · rw [if_pos h]
  · have : j = 0 := by omega
    subst this
    rw [if_neg h]; simp [waysR_nil]
theorem cm_at (ra : List UInt8) (a : UInt8) (b : List UInt8) (n j : Nat) (hj : j ≤ n) (hb : j ≤ b.length) : (cm ra a b n)[j]? = some (waysR ra (b.take j).reverse) := by
  unfold cm
  rw [List.getElem?_map, List.getElem?_range (by omega)]
  simp; omega
theorem cnts_at (ra : List UInt8) (b : List UInt8) (j : Nat) (hb : j ≤ b.length) : (cnts ra b)[j]? = some (waysR ra (b.take j).reverse) := by
  unfold cnts
  rw [List.getElem?_map, List.getElem?_range (by omega)]
  simp
theorem take_rev (b : List UInt8) (m : Nat) (hm : m < b.length) : (b.take (m + 1)).reverse = b[m] :: (b.take m).reverse := by
  rw [List.take_succ_eq_append_getElem hm]; simp
theorem cm_step_f (ra : List UInt8) (a : UInt8) (b : List UInt8) (m : Nat) (hm : m < b.length) (h : b[m] ≠ a) : cm ra a b (m + 1) = cm ra a b m := by
  unfold cm
  refine List.map_congr_left fun j hj => ?_
  by_cases h1 : m + 1 < j
  · rw [if_pos h1, if_pos (by omega)]
  · by_cases h2 : m < j
    · have : j = m + 1 := by omega
      subst this
      rw [if_neg h1, if_pos h2, take_rev b m hm]
      conv => rhs; unfold waysR
      rw [if_neg (fun e => h e.symm)]; rfl
    · rw [if_neg h1, if_neg h2]
theorem cm_step_t (ra : List UInt8) (a : UInt8) (b : List UInt8) (m : Nat) (hm : m < b.length) (h : b[m] = a) :
    (cm ra a b (m + 1)).set (m + 1) (waysR ra (b.take (m + 1)).reverse + waysR ra (b.take m).reverse) = cm ra a b m := by
  refine List.ext_getElem? fun j => ?_
  rw [List.getElem?_set]
  by_cases hj : j < b.length + 1
  · split
    · rename_i e; subst e
      rw [if_pos (by rw [cm_length]; omega)]
      unfold cm
      rw [List.getElem?_map, List.getElem?_range hj]
      simp only [Option.map_some, Nat.lt_succ_self, if_true]
      rw [take_rev b m hm]
      conv => rhs; rw [waysR]
      rw [if_pos h.symm]
    · unfold cm
      rw [List.getElem?_map, List.getElem?_map, List.getElem?_range hj]
      simp only [Option.map_some]
      by_cases h1 : m + 1 < j
      · rw [if_pos h1, if_pos (by omega)]
      · rw [if_neg h1, if_neg (by omega)]
  · rw [List.getElem?_eq_none (l := cm ra a b m) (by rw [cm_length]; omega)]
    split
    · rename_i e; subst e; omega
    · rw [List.getElem?_eq_none (by rw [cm_length]; omega)]
theorem cnts_nil (b : List UInt8) : cnts [] b = (List.replicate (b.length + 1) 0).set 0 1 := by
  refine List.ext_getElem? fun j => ?_
  by_cases hj : j < b.length + 1
  · rw [cnts_at _ _ _ (by omega), List.getElem?_set]
    split
    · rename_i e; subst e; simp [waysR_nil]
    · rename_i e
      rw [List.getElem?_replicate, if_pos hj]
      obtain ⟨m, rfl⟩ : ∃ m, j = m + 1 := ⟨j - 1, by omega⟩
      rw [take_rev b m (by omega)]; rfl
  · rw [List.getElem?_eq_none (by rw [cnts_length]; omega), List.getElem?_eq_none (by simp; omega)]

end Go.Proofs.Short
