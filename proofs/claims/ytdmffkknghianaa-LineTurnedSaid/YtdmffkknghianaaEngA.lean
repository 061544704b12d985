/-
  What Go's values say as plain data: slices, structs, pointers into memory that nobody writes, and references to what a call owns.
-/
import Derived.Below
import Derived.WalkKit
import Derived.Laws.AppendOwn
set_option linter.unusedSimpArgs false
set_option linter.unusedVariables false
namespace Go.Proofs.Eng
open Go Go.RowKit

/-- plain data -/
inductive AV where
  | any
  | v (x : Value)
  | sl (s : Nat) (full : Bool) (xs : List AV)
  | ag (cs : List AV)
  | ifc (t : Nat) (x : AV)
  | ptr (x : AV)
  | tup (xs : List AV)
  | o (k g ver i j : Nat)
  | os (k g ver s lo n : Nat)
  | fn (f : Nat) (caps : List AV)
  | bm (f : Nat) (fs : List AV)
  | mp (k g : Nat)
  | it (k g : Nat)
  deriving Inhabited

mutual
def noRef : AV → Bool
  | .any => true
  | .v _ => true
  | .sl _ _ xs => noRefs xs
  | .ag cs => noRefs cs
  | .ifc _ x => noRef x
  | .ptr x => noRef x
  | .tup xs => noRefs xs
  | .o .. => false
  | .os .. => false
  | .mp .. => false
  | .it .. => false
  | .fn _ caps => noRefs caps
  | .bm _ fs => noRefs fs
def noRefs : List AV → Bool
  | [] => true
  | x :: l => noRef x && noRefs l
end
/-- what the package-level variables hold that nobody writes: by their numbers -/
def tabAt (_ : Nat) : Option AV := none
theorem tab_noRef {g : Nat} {x : AV} (h : tabAt g = some x) : noRef x = true := by cases h
def isTab (p : Value × AV) : Prop := ∃ g x, tabAt g = some x ∧ p = (.pointer (some ⟨g, 0, none⟩), x)

def cellsOf : AV → List AV
  | .ag cs => cs
  | x => [x]
def width (x : AV) : Nat := (cellsOf x).length
def flat (xs : List AV) : List AV := xs.flatMap cellsOf

/-- what is known of an owned row: how many elements, its slice, cells an element -/
structure OI where
  ver : Nat
  val : Value
  s : Nat
def Gam := Nat → Nat × Option OI
def Gam.live (Γ : Gam) (k g ver : Nat) (oi : OI) : Prop := Γ k = (g, some oi) ∧ oi.ver = ver
def Gam.dead (Γ : Gam) (k g ver : Nat) : Prop := g < (Γ k).1 ∨ ((Γ k).1 = g ∧ ∀ oi, (Γ k).2 = some oi → ver < oi.ver)
/-- what is live stays so, or dies; what is dead stays dead -/
def Gam.le (Γ Γ' : Gam) : Prop := (∀ k g ver oi, Γ.live k g ver oi → Γ'.live k g ver oi ∨ Γ'.dead k g ver) ∧ ∀ k g ver, Γ.dead k g ver → Γ'.dead k g ver
theorem Gam.le.refl (Γ : Gam) : Γ.le Γ := ⟨fun _ _ _ _ h => .inl h, fun _ _ _ h => h⟩

/-- the cells of a list lie from here on -/
def At (w : World) (g o : Nat) (us : List Value) : Prop := ∀ j u, us[j]? = some u → w.cell? ⟨g, o + j, none⟩ = some u

inductive AVok (S : Nat → Prop) (Γ : Gam) (w : World) : Value → AV → Prop
  | any (u : Value) : AVok S Γ w u .any
  | v (x : Value) : AVok S Γ w x (.v x)
  | sl (A : Option Addr) (c s : Nat) (full : Bool) (xs : List AV) (us : List Value) (hc : xs.length ≤ c) (hf : full = true → c = xs.length) (hw : ∀ x, x ∈ xs → width x = s)
      (hl : us.length = (flat xs).length) (hcap : xs.length ≤ maxLen) (hu : ∀ (j : Nat) (u : Value) (x : AV), us[j]? = some u → (flat xs)[j]? = some x → AVok S Γ w u x) (h1 : ∀ u, u ∈ us → u.oneCell' = true)
      (hA : xs ≠ [] → ∃ g o, A = some ⟨g, o, none⟩ ∧ S g ∧ At w g o us) (hN : A ≠ none) : AVok S Γ w (.slice A xs.length c) (.sl s full xs)
  | ag (vs : List Value) (cs : List AV) (hl : vs.length = cs.length) (h1 : ∀ u, u ∈ vs → u.oneCell' = true) (hu : ∀ (j : Nat) (u : Value) (x : AV), vs[j]? = some u → cs[j]? = some x → AVok S Γ w u x) : AVok S Γ w (.agg vs.toArray) (.ag cs)
  | ifc (t : Nat) (u : Value) (x : AV) (h : AVok S Γ w u x) : AVok S Γ w (.iface t u) (.ifc t x)
  | ptr (g o : Nat) (x : AV) (us : List Value) (hl : us.length = width x) (h1 : ∀ u, u ∈ us → u.oneCell' = true) (hu : ∀ (j : Nat) (u : Value) (y : AV), us[j]? = some u → (cellsOf x)[j]? = some y → AVok S Γ w u y) (hS : S g) (hA : At w g o us) :
      AVok S Γ w (.pointer (some ⟨g, o, none⟩)) (.ptr x)
  | tup (vs : List Value) (xs : List AV) (hl : vs.length = xs.length) (hu : ∀ (j : Nat) (u : Value) (x : AV), vs[j]? = some u → xs[j]? = some x → AVok S Γ w u x) : AVok S Γ w (.tuple vs.toArray) (.tup xs)
  | oLive (k g ver i j b : Nat) (oi : OI) (hl : Γ.live k g ver oi) (hb : oi.val.ownBlock = some b) : AVok S Γ w (.pointer (some ⟨b, i * oi.s + j, none⟩)) (.o k g ver i j)
  | oDead (b f : Nat) (k g ver i j : Nat) (hd : Γ.dead k g ver) : AVok S Γ w (.pointer (some ⟨b, f, none⟩)) (.o k g ver i j)
  | osLive (k g ver s lo n c : Nat) (A : Option Addr) (oi : OI) (hl : Γ.live k g ver oi) (hs : oi.s = s) (hn : lo + n ≤ ver) (hc : n ≤ c) (hcm : c ≤ maxLen) (hwh : lo = 0 → oi.val = .slice A ver c)
      (hA : 0 < n → ∃ b, oi.val.ownBlock = some b ∧ A = some ⟨b, lo * s, none⟩) (hN : A ≠ none) : AVok S Γ w (.slice A n c) (.os k g ver s lo n)
  | osDead (k g ver s lo n c : Nat) (A : Option Addr) (hd : Γ.dead k g ver) (hc : n ≤ c) (hcm : c ≤ maxLen) (hA : 0 < n → ∃ b f, A = some ⟨b, f, none⟩) (hN : A ≠ none) : AVok S Γ w (.slice A n c) (.os k g ver s lo n)
  | mpLive (k g b : Nat) (oi : OI) (hl : Γ.live k g 0 oi) (hb : oi.val.ownBlock = some b) : AVok S Γ w (.map (some b)) (.mp k g)
  | mpDead (b k g : Nat) (hd : Γ.dead k g 0) : AVok S Γ w (.map (some b)) (.mp k g)
  | itLive (k g b : Nat) (oi : OI) (hl : Γ.live k g 0 oi) (hb : oi.val.ownBlock = some b) : AVok S Γ w (.pointer (some ⟨b, 0, none⟩)) (.it k g)
  | itDead (b k g : Nat) (hd : Γ.dead k g 0) : AVok S Γ w (.pointer (some ⟨b, 0, none⟩)) (.it k g)
  | fn (f : Nat) (vs : List Value) (caps : List AV) (hl : vs.length = caps.length) (hu : ∀ (j : Nat) (u : Value) (x : AV), vs[j]? = some u → caps[j]? = some x → AVok S Γ w u x) : AVok S Γ w (.func (.func f) #[] vs.toArray) (.fn f caps)
  | bm (f : Nat) (vs : List Value) (fs : List AV) (hl : vs.length = fs.length) (hu : ∀ (j : Nat) (u : Value) (x : AV), vs[j]? = some u → fs[j]? = some x → AVok S Γ w u x) : AVok S Γ w (.func (.func f) vs.toArray #[]) (.bm f fs)

theorem At.mono {w w' : World} {g o : Nat} {us : List Value} (h : At w g o us) (hb : w'.heap[g]? = w.heap[g]?) : At w' g o us := fun j u hj => by
  rw [World.cell?_of_block (w := w) (w' := w') (a := ⟨g, o + j, none⟩) hb]; exact h j u hj

theorem AVok.mono {S S' : Nat → Prop} {Γ Γ' : Gam} {w w' : World} (hS : ∀ b, S b → S' b ∧ w'.heap[b]? = w.heap[b]?) (hΓ : Γ.le Γ') {u : Value} {x : AV} (h : AVok S Γ w u x) : AVok S' Γ' w' u x := by
  induction h with
  | any u => exact .any u
  | v x => exact .v x
  | sl A c s full xs us hc hf hw hl hcap hu h1 hA hN ih =>
    refine .sl A c s full xs us hc hf hw hl hcap ih h1 (fun hne => ?_) hN
    obtain ⟨g, o, e, hs, ha⟩ := hA hne
    exact ⟨g, o, e, (hS g hs).1, ha.mono (hS g hs).2⟩
  | ag vs cs hl h1 hu ih => exact .ag vs cs hl h1 ih
  | ifc t u x h ih => exact .ifc t u x ih
  | ptr g o x us hl h1 hu hs hA ih => exact .ptr g o x us hl h1 ih (hS g hs).1 (hA.mono (hS g hs).2)
  | tup vs xs hl hu ih => exact .tup vs xs hl ih
  | oLive k g ver i j b oi hl hb =>
    rcases hΓ.1 _ _ _ _ hl with h | h
    · exact .oLive k g ver i j b oi h hb
    · exact .oDead _ _ k g ver i j h
  | oDead b f k g ver i j hd => exact .oDead b f k g ver i j (hΓ.2 _ _ _ hd)
  | osLive k g ver s lo n c A oi hl hs hn hc hcm hwh hA hN =>
    rcases hΓ.1 _ _ _ _ hl with h | h
    · exact .osLive k g ver s lo n c A oi h hs hn hc hcm hwh hA hN
    · exact .osDead k g ver s lo n c A h hc hcm (fun h0 => by obtain ⟨b, _, e⟩ := hA h0; exact ⟨_, _, e⟩) hN
  | osDead k g ver s lo n c A hd hc hcm hA hN => exact .osDead k g ver s lo n c A (hΓ.2 _ _ _ hd) hc hcm hA hN
  | mpLive k g b oi hl hb =>
    rcases hΓ.1 _ _ _ _ hl with h | h
    · exact .mpLive k g b oi h hb
    · exact .mpDead b k g h
  | mpDead b k g hd => exact .mpDead b k g (hΓ.2 _ _ _ hd)
  | itLive k g b oi hl hb =>
    rcases hΓ.1 _ _ _ _ hl with h | h
    · exact .itLive k g b oi h hb
    · exact .itDead b k g h
  | itDead b k g hd => exact .itDead b k g (hΓ.2 _ _ _ hd)
  | fn f vs caps hl hu ih => exact .fn f vs caps hl ih
  | bm f vs fs hl hu ih => exact .bm f vs fs hl ih

/-- an owned row: the type of its elements, cells an element, the elements -/
structure Ob where
  e : Nat
  s : Nat
  xs : List AV
  deriving Inhabited
structure Cfg where
  σ : List AV
  η : List (Nat × (Nat × Option Ob))
def look : List (Nat × (Nat × Option Ob)) → Nat → Nat × Option Ob
  | [], _ => (0, none)
  | (k', r) :: l, k => if k' = k then r else look l k
/-- keys in their order: so what is put at different keys may be put in any order -/
def putAt : List (Nat × (Nat × Option Ob)) → Nat → Nat × Option Ob → List (Nat × (Nat × Option Ob))
  | [], k, r => [(k, r)]
  | (k', r') :: l, k, r => if k' = k then (k', r) :: l else if k < k' then (k, r) :: (k', r') :: l else (k', r') :: putAt l k r
theorem look_putAt (l : List (Nat × (Nat × Option Ob))) (k : Nat) (r : Nat × Option Ob) (k' : Nat) : look (putAt l k r) k' = if k = k' then r else look l k' := by
  induction l with
  | nil => simp [putAt, look]
  | cons p l ih =>
    obtain ⟨a, b⟩ := p
    unfold putAt
    by_cases h : a = k
    · subst h; simp only [if_true]; unfold look; split <;> simp_all
    · rw [if_neg h]
      split
      · simp only [look]
      · simp only [look]; rw [ih]
        by_cases h2 : a = k'
        · subst h2; rw [if_pos rfl, if_pos rfl, if_neg (fun e => h e.symm)]
        · rw [if_neg h2, if_neg h2]
theorem putAt_comm (l : List (Nat × (Nat × Option Ob))) {k j : Nat} (r q : Nat × Option Ob) (h : k ≠ j) : putAt (putAt l k r) j q = putAt (putAt l j q) k r := by
  induction l with
  | nil =>
    simp only [putAt]
    by_cases h1 : j < k
    · rw [if_neg h, if_pos h1, if_neg (Ne.symm h), if_neg (by omega)]
    · rw [if_neg h, if_neg h1, if_neg (Ne.symm h), if_pos (by omega)]
  | cons p l ih =>
    obtain ⟨a, b⟩ := p
    by_cases e1 : a = k
    · subst e1
      by_cases e2 : j < a
      · simp [putAt, h, e2, Ne.symm h, show ¬ a < j by omega]
      · simp [putAt, h, e2]
    · by_cases e2 : a = j
      · subst e2
        by_cases e3 : k < a
        · simp [putAt, e1, e3, h, show ¬ a < k by omega]
        · simp [putAt, e1, e3]
      · by_cases e3 : k < a
        · by_cases e4 : j < a
          · by_cases e5 : j < k
            · simp [putAt, e1, e2, e3, e4, e5, h, Ne.symm h, show ¬ k < j by omega]
            · simp [putAt, e1, e2, e3, e4, e5, h, Ne.symm h, show k < j by omega]
          · simp [putAt, e1, e2, e3, e4, h, Ne.symm h, show ¬ j < k by omega]
        · by_cases e4 : j < a
          · simp [putAt, e1, e2, e3, e4, h, Ne.symm h, show ¬ k < j by omega]
          · simp [putAt, e1, e2, e3, e4, ih]

/-- the blocks that nobody writes -/
def Free (S0 : Nat → Prop) (B : Nat) (Γ : Gam) (w : World) (b : Nat) : Prop := b < w.heap.size ∧ (S0 b ∨ B ≤ b) ∧ ∀ k oi, (Γ k).2 = some oi → oi.val.ownBlock ≠ some b

/-- the elements of an owned row, as they lie -/
structure RowOk (S0 : Nat → Prop) (B : Nat) (Γ : Gam) (w : World) (oi : OI) (ob : Ob) : Prop where
  ver : oi.ver = ob.xs.length
  s : oi.s = ob.s
  s0 : 0 < ob.s
  wid : ∀ x, x ∈ ob.xs → width x = ob.s
  cells : ∃ us : List Value, us.length = (flat ob.xs).length ∧ (∀ (j : Nat) (u : Value) (x : AV), us[j]? = some u → (flat ob.xs)[j]? = some x → AVok (Free S0 B Γ w) Γ w u x) ∧ (∀ u, u ∈ us → u.oneCell' = true) ∧
    w.ownsRow B ob.e ob.s oi.val ob.xs.length us

/-- an owned map (e = 0): its entries, key and value, behind a first element that says nothing; or what goes through a string (e = 1) -/
structure MapOk (S0 : Nat → Prop) (B : Nat) (Γ : Gam) (w : World) (oi : OI) (ob : Ob) : Prop where
  s : ob.s = 0
  ver : oi.ver = 0
  ents : ∃ (b : Nat) (l : List AV) (o : Obj), oi.val.ownBlock = some b ∧ B ≤ b ∧ w.heap[b]? = some o ∧ ob.xs = .any :: l ∧
    ((ob.e = 0 ∧ ∃ (es : Array MapEntry) (clock : Nat), o = .map es clock ∧ l.length = es.size ∧
      ∀ (j : Nat) (e : MapEntry) (x : AV), es[j]? = some e → l[j]? = some x → ∃ kx vx, x = .tup [kx, vx] ∧ AVok (Free S0 B Γ w) Γ w e.key kx ∧ AVok (Free S0 B Γ w) Γ w e.val vx) ∨
    (ob.e = 1 ∧ ∃ (s : ByteArray) (pos : Nat), o = .stringIter s pos ∧ l = [.v (.string s), .v (.int .i64 pos)]))
def RowM (S0 : Nat → Prop) (B : Nat) (Γ : Gam) (w : World) (oi : OI) (ob : Ob) : Prop := RowOk S0 B Γ w oi ob ∨ MapOk S0 B Γ w oi ob

structure Holds (G : List (Value × AV)) (B : Nat) (S0 : Nat → Prop) (w0 : World) (Γ : Gam) (c : Cfg) (tmps : Array Value) (w : World) : Prop where
  below : Below B w0 w
  base : B ≤ w0.heap.size
  size : c.σ.length = tmps.size
  tmp : ∀ (t : Nat) (u : Value) (x : AV), tmps[t]? = some u → c.σ[t]? = some x → AVok (Free S0 B Γ w) Γ w u x
  ghost : ∀ p, p ∈ G ∨ isTab p → AVok (Free S0 B Γ w) Γ w p.1 p.2
  gen : ∀ k, (Γ k).1 = (look c.η k).1
  non : ∀ k, (look c.η k).2 = none → (Γ k).2 = none
  row : ∀ k ob, (look c.η k).2 = some ob → ∃ oi, (Γ k).2 = some oi ∧ RowM S0 B Γ w oi ob
  apart : ∀ k k' oi oi' b, k ≠ k' → (Γ k).2 = some oi → (Γ k').2 = some oi' → oi.val.ownBlock = some b → oi'.val.ownBlock ≠ some b

theorem flat_len {xs : List AV} {s : Nat} (h : ∀ x, x ∈ xs → width x = s) : (flat xs).length = xs.length * s := by
  induction xs with
  | nil => simp [flat]
  | cons x l ih =>
    have h1 : (flat (x :: l)).length = width x + (flat l).length := by simp [flat, width]
    rw [h1, h x List.mem_cons_self, ih (fun y hy => h y (List.mem_cons_of_mem _ hy)), List.length_cons, Nat.add_mul, Nat.one_mul, Nat.add_comm]
/-- element i lies in the cells from i * s on -/
theorem flat_at {xs : List AV} {s : Nat} (h : ∀ x, x ∈ xs → width x = s) {i : Nat} {x : AV} (hi : xs[i]? = some x) {j : Nat} (hj : j < s) : (flat xs)[i * s + j]? = (cellsOf x)[j]? := by
  induction xs generalizing i with
  | nil => simp at hi
  | cons y l ih =>
    have hy : (cellsOf y).length = s := h y List.mem_cons_self
    have e : flat (y :: l) = cellsOf y ++ flat l := rfl
    cases i with
    | zero =>
      have : y = x := by simpa using hi
      subst this
      rw [e, Nat.zero_mul, Nat.zero_add, List.getElem?_append_left (by omega)]
    | succ i =>
      have h2 := ih (fun z hz => h z (List.mem_cons_of_mem _ hz)) (i := i) (by simpa using hi)
      rw [e, List.getElem?_append_right (by rw [hy, Nat.add_mul]; omega), hy, ← h2]
      congr 1
      rw [Nat.add_mul, Nat.one_mul]; omega
theorem flat_append (a b : List AV) : flat (a ++ b) = flat a ++ flat b := by simp [flat]
end Go.Proofs.Eng
