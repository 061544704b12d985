/-
  Strips, creases and walks as plain Lean functions.
-/
set_option linter.unusedSimpArgs false
set_option linter.unusedVariables false
namespace Go.Proofs.Quire
/-- the letters that are wrong in a text of two letters, and its length -/
def chkL (most : Nat) (a b : UInt8) (s : List UInt8) : Int := if most < s.length then 19 else if s.all (fun c => c == a || c == b) then 0 else 10
/-- a turn: none, to the left, to the right -/
def turn : Option Bool → Int × Int → Int × Int
  | none, d => d
  | some true, d => (-d.2, d.1)
  | some false, d => (d.2, -d.1)
/-- the points that are still to come -/
def wgo : Option Bool → Int × Int → Int × Int → List UInt8 → List (Int × Int)
  | q, p, d, [] => [(p.1 + (turn q d).1, p.2 + (turn q d).2)]
  | q, p, d, c :: cs => (p.1 + (turn q d).1, p.2 + (turn q d).2) :: wgo (some (c == 118)) (p.1 + (turn q d).1, p.2 + (turn q d).2) (turn q d) cs
/-- the points of a walk -/
def walkL (cs : List UInt8) : List (Int × Int) := (0, 0) :: wgo none (0, 0) (1, 0) cs
theorem wgo_len (cs : List UInt8) : ∀ q p d, (wgo q p d cs).length = cs.length + 1 := by
  induction cs with
  | nil => intro q p d; rfl
  | cons c cs ih => intro q p d; simp [wgo, ih]
theorem walkL_len (cs : List UInt8) : (walkL cs).length = cs.length + 2 := by simp [walkL, wgo_len]
theorem turn_le (q : Option Bool) (d : Int × Int) (h1 : -1 ≤ d.1 ∧ d.1 ≤ 1) (h2 : -1 ≤ d.2 ∧ d.2 ≤ 1) : (-1 ≤ (turn q d).1 ∧ (turn q d).1 ≤ 1) ∧ -1 ≤ (turn q d).2 ∧ (turn q d).2 ≤ 1 := by
  rcases q with _ | _ | _ <;> simp [turn] <;> omega
/-- how many bits are 1 (of a number below 128), and how often it can be halved -/
def onesN (n : Nat) : Nat := n % 2 + n / 2 % 2 + n / 4 % 2 + n / 8 % 2 + n / 16 % 2 + n / 32 % 2 + n / 64 % 2
def tzF : Nat → Nat → Nat
  | 0, _ => 0
  | f + 1, n => if n % 2 = 1 then 0 else tzF f (n / 2) + 1
def tzN (n : Nat) : Nat := tzF 7 n
def tab64 : List Nat := [0, 1, 56, 2, 57, 49, 28, 3, 61, 58, 42, 50, 38, 29, 17, 4, 62, 47, 59, 36, 45, 43, 51, 22, 53, 39, 33, 30, 24, 18, 12, 5, 63, 55, 48, 27, 60, 41, 37, 16, 46, 35, 44, 21, 52, 32, 23, 11, 54, 26, 40, 15, 34, 20, 31, 10, 25, 14, 19, 9, 13, 8, 7, 6]
def tzIx (n : Nat) : Nat := ((n &&& (18446744073709551616 - n)) * 285870213051353865 % 18446744073709551616) / 288230376151711744
theorem tz_tab : ∀ n, n < 128 → 0 < n → tab64.getD (tzIx n) 0 = tzN n ∧ tzIx n < 64 ∧ tzN n < 7 := by decide +kernel
def oddN (n : Nat) : Nat := n / 2 ^ tzN n
/-- two creases that cannot go together -/
def clashB (cs : List UInt8) (i j : Nat) : Bool := if tzN (i + 1) = tzN (j + 1) then (cs.getD i 0 == cs.getD j 0) != decide ((oddN (j + 1) - oddN (i + 1)) % 4 = 0) else false
theorem odd_le {i j : Nat} (h : i ≤ j) (ht : tzN i = tzN j) : oddN i ≤ oddN j := by unfold oddN; rw [ht]; exact Nat.div_le_div_right h
/-- the first j from one on with f i j, and the first such pair -/
def firstJ (f : Nat → Nat → Bool) (i : Nat) : Nat → Nat → Option Nat
  | 0, _ => none
  | m + 1, j => if f i j then some j else firstJ f i m (j + 1)
def firstP (f : Nat → Nat → Bool) (n : Nat) : Nat → Nat → Option (Nat × Nat)
  | 0, _ => none
  | m + 1, i => match firstJ f i (n - (i + 1)) (i + 1) with
    | some j => some (i, j)
    | none => firstP f n m (i + 1)
/-- the error of the creases of a strip -/
def stripE (cs : List UInt8) : Int := if chkL 63 118 104 cs = 0 then (if onesN (cs.length + 1) = 1 then 0 else 5) else chkL 63 118 104 cs
theorem stripE_zero {cs : List UInt8} (h : stripE cs = 0) : chkL 63 118 104 cs = 0 ∧ onesN (cs.length + 1) = 1 := by
  unfold stripE at h
  split at h
  · split at h
    · exact ⟨by assumption, by assumption⟩
    · exact absurd h (by decide)
  · exact absurd h (by assumption)
theorem chkL_zero {m : Nat} {a b : UInt8} {s : List UInt8} (h : chkL m a b s = 0) : s.length ≤ m ∧ ∀ c ∈ s, c = a ∨ c = b := by
  unfold chkL at h
  split at h
  · exact absurd h (by decide)
  · split at h
    · rename_i h1 h2
      refine ⟨by omega, fun c hc => ?_⟩
      have := List.all_eq_true.1 h2 c hc
      simpa using this
    · exact absurd h (by decide)
/-- a strip that is being folded: its columns, each from its top; which squares are turned; its creases, as letters (0: none yet) -/
structure St where
  cols : List (List Nat)
  trn : List Bool
  cre : List Nat
def crOf (o t : Bool) : Nat := if o != t then 118 else 104
def markCol (i : Nat) : List Nat → List Nat → List Nat
  | [], a => a
  | s :: c, a => markCol i c (a.set s i)
def marks : List (List Nat) → Nat → List Nat → List Nat
  | [], _, a => a
  | c :: cs, i, a => marks cs (i + 1) (markCol i c a)
/-- the creases that a fold makes from place i on -/
def creL (a : List Nat) (t : List Bool) (last : Nat) (o : Bool) : Nat → Nat → List Nat → List Nat
  | 0, _, c => c
  | m + 1, i, c => creL a t last o m (i + 1) (if a.getD i 0 + a.getD (i + 1) 0 = last then c.set i (crOf o (t.getD i false)) else c)
def flip1 (t : List Bool) (s : Nat) : List Bool := t.set s (!t.getD s false)
def flips : List Nat → List Bool → List Bool
  | [], t => t
  | s :: c, t => flips c (flip1 t s)
theorem flip1_len (t : List Bool) (s : Nat) : (flip1 t s).length = t.length := by simp [flip1]
theorem flips_len (c : List Nat) : ∀ t : List Bool, (flips c t).length = t.length := by
  induction c with
  | nil => intro t; rfl
  | cons s c ih => intro t; rw [flips, ih, flip1_len]
theorem markCol_len (i : Nat) (c : List Nat) : ∀ a : List Nat, (markCol i c a).length = a.length := by
  induction c with
  | nil => intro a; rfl
  | cons s c ih => intro a; rw [markCol, ih, List.length_set]
theorem marks_len (cs : List (List Nat)) : ∀ i (a : List Nat), (marks cs i a).length = a.length := by
  induction cs with
  | nil => intro i a; rfl
  | cons c cs ih => intro i a; rw [marks, ih, markCol_len]
theorem creL_len (a : List Nat) (t : List Bool) (last : Nat) (o : Bool) (m : Nat) : ∀ i c, (creL a t last o m i c).length = c.length := by
  induction m with
  | zero => intro i c; rfl
  | succ m ih => intro i c; rw [creL, ih]; split <;> simp
/-- the column that a fold makes of two -/
def joinC (o : Bool) (l r : List Nat) : List Nat := if o then r ++ l else l ++ r
def foldL (o : Bool) (cols : List (List Nat)) : Nat → Nat → List (List Nat) → List Bool → List (List Nat) × List Bool
  | 0, _, acc, t => (acc, t)
  | m + 1, i, acc, t => foldL o cols m (i + 1) (acc ++ [joinC o (cols.getD i []) (cols.getD (cols.length - 1 - i) []).reverse]) (flips (cols.getD (cols.length - 1 - i) []).reverse t)
def fold1 (o : Bool) (s : St) : St :=
  { cols := (foldL o s.cols (s.cols.length / 2) 0 [] s.trn).1
    trn := (foldL o s.cols (s.cols.length / 2) 0 [] s.trn).2
    cre := creL (marks s.cols 0 (List.replicate s.trn.length 0)) s.trn (s.cols.length - 1) o s.cre.length 0 s.cre }
def newSt (k : Nat) : St := { cols := (List.range (2 ^ k)).map fun i => [i], trn := List.replicate (2 ^ k) false, cre := List.replicate (2 ^ k - 1) 0 }
theorem foldL_step {o : Bool} {cols : List (List Nat)} {n i : Nat} {acc : List (List Nat)} {t : List Bool} (h : i < n) :
    foldL o cols (n - i) i acc t = foldL o cols (n - (i + 1)) (i + 1) (acc ++ [joinC o (cols.getD i []) (cols.getD (cols.length - 1 - i) []).reverse]) (flips (cols.getD (cols.length - 1 - i) []).reverse t) := by
  rw [show n - i = (n - (i + 1)) + 1 by omega]; rfl
def foldsS : List Bool → St → St
  | [], s => s
  | o :: os, s => foldsS os (fold1 o s)
def stripL (f : List Bool) : St := foldsS f (newSt f.length)
/-- a strip of 2^k squares behind j folds -/
def Inv (k j : Nat) (s : St) : Prop :=
  s.trn.length = 2 ^ k ∧ s.cre.length + 1 = 2 ^ k ∧ s.cols.length = 2 ^ (k - j) ∧ ∀ c ∈ s.cols, c.length = 2 ^ j ∧ ∀ x ∈ c, x < 2 ^ k
theorem foldL_len1 (o : Bool) (cols : List (List Nat)) (m : Nat) : ∀ i acc t, (foldL o cols m i acc t).1.length = acc.length + m := by
  induction m with
  | zero => intro i acc t; rfl
  | succ m ih => intro i acc t; rw [foldL, ih, List.length_append]; simp only [List.length_singleton]; omega
theorem foldL_len2 (o : Bool) (cols : List (List Nat)) (m : Nat) : ∀ i acc t, (foldL o cols m i acc t).2.length = t.length := by
  induction m with
  | zero => intro i acc t; rfl
  | succ m ih => intro i acc t; rw [foldL, ih, flips_len]
theorem foldL_mem (o : Bool) (cols : List (List Nat)) (half : Nat) (P : List Nat → Prop) (h : ∀ i, i < half → P (joinC o (cols.getD i []) (cols.getD (cols.length - 1 - i) []).reverse)) (m : Nat) :
    ∀ i acc t, i + m ≤ half → (∀ c ∈ acc, P c) → ∀ c ∈ (foldL o cols m i acc t).1, P c := by
  induction m with
  | zero => intro i acc t _ ha c hc; exact ha c hc
  | succ m ih =>
    intro i acc t hi ha
    rw [foldL]
    refine ih (i + 1) _ _ (by omega) (fun c hc => ?_)
    rcases List.mem_append.1 hc with hc | hc
    · exact ha c hc
    · rw [List.mem_singleton.1 hc]; exact h i (by omega)
theorem mem_set {α : Type} {l : List α} {i : Nat} {v x : α} (h : x ∈ l.set i v) : x ∈ l ∨ x = v := by
  induction l generalizing i with
  | nil => simp at h
  | cons a l ih =>
    rcases i with _ | i
    · simp at h; rcases h with h | h
      · exact .inr h
      · exact .inl (List.mem_cons_of_mem _ h)
    · simp at h; rcases h with h | h
      · exact .inl (by rw [h]; exact List.mem_cons_self ..)
      · rcases ih h with h | h
        · exact .inl (List.mem_cons_of_mem _ h)
        · exact .inr h
theorem markCol_mem (i : Nat) (c : List Nat) : ∀ (a : List Nat) x, x ∈ markCol i c a → x ∈ a ∨ x = i := by
  induction c with
  | nil => intro a x h; exact .inl h
  | cons s c ih =>
    intro a x h
    rcases ih _ x h with h | h
    · exact mem_set h
    · exact .inr h
theorem marks_mem (cs : List (List Nat)) : ∀ i (a : List Nat) x, x ∈ marks cs i a → x ∈ a ∨ x < i + cs.length := by
  induction cs with
  | nil => intro i a x h; exact .inl h
  | cons c cs ih =>
    intro i a x h
    rcases ih _ _ x h with h | h
    · rcases markCol_mem i c a x h with h | h
      · exact .inl h
      · exact .inr (by simp; omega)
    · exact .inr (by simp; omega)
theorem getD_mem {cols : List (List Nat)} {i : Nat} (h : i < cols.length) : cols.getD i [] ∈ cols := by
  rw [List.getD_eq_getElem?_getD, List.getElem?_eq_getElem h]; exact List.getElem_mem _
theorem inv_new (k : Nat) : Inv k 0 (newSt k) := by
  have h1 : 1 ≤ 2 ^ k := Nat.one_le_two_pow
  refine ⟨by simp [newSt], by simp [newSt]; omega, by simp [newSt], fun c hc => ?_⟩
  obtain ⟨i, hi, rfl⟩ := List.mem_map.1 hc
  exact ⟨rfl, fun x hx => by rw [List.mem_singleton.1 hx]; exact List.mem_range.1 hi⟩
theorem inv_fold {k j : Nat} {s : St} (o : Bool) (h : Inv k j s) (hj : j < k) : Inv k (j + 1) (fold1 o s) := by
  obtain ⟨h1, h2, h3, h4⟩ := h
  have e : s.cols.length = 2 ^ (k - (j + 1)) * 2 := by rw [h3, ← Nat.pow_succ]; congr 1; omega
  refine ⟨?_, ?_, ?_, ?_⟩
  · show (foldL _ _ _ _ _ _).2.length = _
    rw [foldL_len2, h1]
  · show (creL _ _ _ _ _ _ _).length + 1 = _
    rw [creL_len, h2]
  · show (foldL _ _ _ _ _ _).1.length = _
    rw [foldL_len1, e]; simp
  · show ∀ c ∈ (foldL _ _ _ _ _ _).1, _
    refine foldL_mem o s.cols (s.cols.length / 2) _ (fun i hi => ?_) _ 0 [] s.trn (by omega) (by simp)
    obtain ⟨a1, a2⟩ := h4 _ (getD_mem (show i < s.cols.length by omega))
    obtain ⟨b1, b2⟩ := h4 _ (getD_mem (show s.cols.length - 1 - i < s.cols.length by omega))
    have hl : (joinC o (s.cols.getD i []) (s.cols.getD (s.cols.length - 1 - i) []).reverse).length = 2 ^ (j + 1) := by
      rw [Nat.pow_succ]; unfold joinC; split <;> (rw [List.length_append, List.length_reverse]; omega)
    refine ⟨hl, fun x hx => ?_⟩
    unfold joinC at hx
    split at hx <;> (rcases List.mem_append.1 hx with hx | hx)
    · exact b2 x (by simpa using hx)
    · exact a2 x hx
    · exact a2 x hx
    · exact b2 x (by simpa using hx)
theorem inv_bounds {k j : Nat} {s : St} (h : Inv k j s) (hk : k ≤ 6) (hj : j ≤ k) : s.trn.length ≤ 64 ∧ (s.cre.length + 1 = s.trn.length) ∧ (0 < s.cols.length ∧ s.cols.length ≤ 64) ∧
    (∀ c ∈ s.cols, 0 < c.length ∧ c.length ≤ 64 ∧ ∀ x ∈ c, x < s.trn.length) ∧ ∀ x ∈ marks s.cols 0 (List.replicate s.trn.length 0), x ≤ 1000 := by
  obtain ⟨h1, h2, h3, h4⟩ := h
  have p : ∀ m, m ≤ 6 → 1 ≤ 2 ^ m ∧ 2 ^ m ≤ 64 := fun m hm => ⟨Nat.one_le_two_pow, Nat.le_trans (Nat.pow_le_pow_right (by omega) hm) (by decide)⟩
  have pk := p k hk
  have pj := p (k - j) (by omega)
  have pl := p j (by omega)
  refine ⟨by omega, by omega, ⟨by omega, by omega⟩, fun c hc => ?_, fun x hx => ?_⟩
  · obtain ⟨c1, c2⟩ := h4 c hc
    exact ⟨by omega, by omega, fun x hx => by rw [h1]; exact c2 x hx⟩
  · rcases marks_mem _ _ _ x hx with h | h
    · rw [(List.mem_replicate.1 h).2]; omega
    · omega
end Go.Proofs.Quire
