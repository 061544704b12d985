/-
  The short form, carried out: what it computes is a run.
-/
import Derived.Test.YtdmffkknghianaaEngP
set_option linter.unusedSimpArgs false
set_option linter.unusedVariables false
namespace Go.Proofs.Eng
open Go Go.RowKit

/-! lists by the recursor of numbers: so that the kernel has little to do -/
def getF (l : List AV) (n : Nat) : AV := Nat.rec (motive := fun _ => List AV → AV) (fun l => match l with | a :: _ => a | [] => .any) (fun _ ih l => match l with | _ :: t => ih t | [] => .any) n l
def setF (l : List AV) (n : Nat) (x : AV) : List AV := Nat.rec (motive := fun _ => List AV → List AV) (fun l => match l with | _ :: t => x :: t | [] => []) (fun _ ih l => match l with | a :: t => a :: ih t | [] => []) n l
def lookF (l : List (Nat × (Nat × Option Ob))) (k : Nat) : Nat × Option Ob :=
  Nat.rec (motive := fun _ => List (Nat × (Nat × Option Ob)) → Nat × Option Ob) (fun l => look l k) (fun _ ih l => match l with | p :: t => (match Nat.beq p.1 k with | true => p.2 | false => ih t) | [] => (0, none)) 1000 l
def putF (l : List (Nat × (Nat × Option Ob))) (k : Nat) (r : Nat × Option Ob) : List (Nat × (Nat × Option Ob)) :=
  Nat.rec (motive := fun _ => List (Nat × (Nat × Option Ob)) → List (Nat × (Nat × Option Ob))) (fun l => putAt l k r) (fun _ ih l => match l with
    | p :: t => (match Nat.beq p.1 k with | true => (p.1, r) :: t | false => match Nat.blt k p.1 with | true => (k, r) :: p :: t | false => p :: ih t)
    | [] => [(k, r)]) 1000 l
theorem getF_eq (l : List AV) (n : Nat) : getF l n = l.getD n .any := by
  induction n generalizing l with
  | zero => cases l <;> rfl
  | succ n ih => cases l with
    | nil => rfl
    | cons a l => exact ih l
theorem setF_eq (l : List AV) (n : Nat) (x : AV) : setF l n x = l.set n x := by
  induction n generalizing l with
  | zero => cases l <;> rfl
  | succ n ih => cases l with
    | nil => rfl
    | cons a l => exact congrArg (a :: ·) (ih l)
theorem look_cons (a : Nat) (b : Nat × Option Ob) (l : List (Nat × (Nat × Option Ob))) (k : Nat) : look ((a, b) :: l) k = if a = k then b else look l k := rfl
theorem putAt_cons (a : Nat) (b : Nat × Option Ob) (l : List (Nat × (Nat × Option Ob))) (k : Nat) (r : Nat × Option Ob) : putAt ((a, b) :: l) k r = if a = k then (a, r) :: l else if k < a then (k, r) :: (a, b) :: l else (a, b) :: putAt l k r := rfl
theorem lookF_eq (l : List (Nat × (Nat × Option Ob))) (k : Nat) : lookF l k = look l k := by
  unfold lookF
  generalize 1000 = n
  induction n generalizing l with
  | zero => rfl
  | succ n ih => cases l with
    | nil => rfl
    | cons p l =>
      obtain ⟨a, b⟩ := p
      rw [look_cons]
      simp only
      split
      · rename_i h; rw [if_pos (Nat.eq_of_beq_eq_true h)]
      · rename_i h; rw [if_neg (fun e => by subst e; rw [Nat.beq_refl] at h; cases h)]; exact ih l
theorem putF_eq (l : List (Nat × (Nat × Option Ob))) (k : Nat) (r : Nat × Option Ob) : putF l k r = putAt l k r := by
  unfold putF
  generalize 1000 = n
  induction n generalizing l with
  | zero => rfl
  | succ n ih => cases l with
    | nil => rfl
    | cons p l =>
      obtain ⟨a, b⟩ := p
      rw [putAt_cons]
      simp only
      split
      · rename_i h; rw [if_pos (Nat.eq_of_beq_eq_true h)]
      · rename_i h; rw [if_neg (fun e => by subst e; rw [Nat.beq_refl] at h; cases h)]
        split
        · rename_i h2; rw [if_pos (by simp [Nat.blt] at h2; omega)]
        · rename_i h2; rw [if_neg (by intro h3; have : Nat.blt k a = true := by simp [Nat.blt]; omega
                                      rw [this] at h2; cases h2)]
          exact congrArg ((a, b) :: ·) (ih l)
def mapF {α β : Type} (f : α → β) (l : List α) : List β := Nat.rec (motive := fun _ => List α → List β) (fun l => l.map f) (fun _ ih l => match l with | a :: t => f a :: ih t | [] => []) 1000 l
theorem mapF_eq {α β : Type} (f : α → β) (l : List α) : mapF f l = l.map f := by
  unfold mapF
  generalize 1000 = n
  induction n generalizing l with
  | zero => rfl
  | succ n ih => cases l with
    | nil => rfl
    | cons a l => exact congrArg (f a :: ·) (ih l)
def allF {α : Type} (p : α → Bool) (l : List α) : Bool := Nat.rec (motive := fun _ => List α → Bool) (fun _ => false) (fun _ ih l => match l with | a :: t => (match p a with | true => ih t | false => false) | [] => true) 100000 l
theorem allF_ok {α : Type} {p : α → Bool} {l : List α} (h : allF p l = true) : ∀ x, x ∈ l → p x = true := by
  unfold allF at h
  generalize 100000 = n at h
  induction n generalizing l with
  | zero => cases h
  | succ n ih => cases l with
    | nil => intro x hx; cases hx
    | cons a l =>
      simp only at h
      split at h <;> try (cases h; done)
      rename_i h1
      intro x hx
      rcases List.mem_cons.1 hx with rfl | hx
      · exact h1
      · exact ih h x hx
def noRefF (n : Nat) (x : AV) : Bool := Nat.rec (motive := fun _ => AV → Bool) (fun _ => false) (fun _ ih x => match x with
  | .v _ => true
  | .sl _ _ xs => allF ih xs
  | .ag cs => allF ih cs
  | .tup xs => allF ih xs
  | .any => true
  | .ifc _ x => ih x
  | .ptr x => ih x
  | .o .. => false
  | .os .. => false
  | .mp .. => false
  | .it .. => false
  | .fn _ caps => allF ih caps
  | .bm _ fs => allF ih fs) n x
theorem noRefF_ok : ∀ (n : Nat) (x : AV), noRefF n x = true → noRef x = true := by
  intro n
  induction n with
  | zero => intro x h; cases h
  | succ n ih =>
    intro x h
    cases x with
    | any => rfl
    | v _ => rfl
    | sl s f xs => exact noRefs_of fun y hy => ih y (allF_ok (show allF (noRefF n) xs = true from h) y hy)
    | ag xs => exact noRefs_of fun y hy => ih y (allF_ok (show allF (noRefF n) xs = true from h) y hy)
    | tup xs => exact noRefs_of fun y hy => ih y (allF_ok (show allF (noRefF n) xs = true from h) y hy)
    | ifc t y => exact ih y h
    | ptr y => exact ih y h
    | o k g v i j => cases h
    | os k g v s l m => cases h
    | mp k g => cases h
    | it k g => cases h
    | fn f xs => exact noRefs_of fun y hy => ih y (allF_ok (show allF (noRefF n) xs = true from h) y hy)
    | bm f xs => exact noRefs_of fun y hy => ih y (allF_ok (show allF (noRefF n) xs = true from h) y hy)
theorem noRefsF_ok {l : List AV} (h : allF (noRefF 30) l = true) : noRefs l = true := noRefs_of fun y hy => noRefF_ok 30 y (allF_ok h y hy)
def evalF (σ : List AV) : XArg → AV
  | .t n => getF σ n
  | .c x => x
theorem evalF_eq (σ : List AV) : evalF σ = evalA σ := by
  funext x
  cases x with
  | t n => exact getF_eq σ n
  | c x => rfl
def setAF (σ : List AV) : Option Nat → AV → List AV
  | none, _ => σ
  | some d, x => setF σ d x
theorem setAF_eq (σ : List AV) (d : Option Nat) (x : AV) : setAF σ d x = setA σ d x := by
  cases d with
  | none => rfl
  | some d => exact setF_eq σ d x
/-! the same operations, each by itself: so that the kernel has little to copy -/
def stF_mv (P : Program) (dst : Nat) (c : Cfg) (x : XArg) : Option Res := some (.val (evalF c.σ x))
def stF_pick (P : Program) (dst : Nat) (c : Cfg) (k : XArg) (a : XArg) (b : XArg) : Option Res := match evalF c.σ k with
    | .v (.bool true) => some (.val (evalF c.σ a))
    | .v (.bool false) => some (.val (evalF c.σ b))
    | _ => none
def stF_bin (P : Program) (dst : Nat) (c : Cfg) (op : BinOp) (x : XArg) (y : XArg) : Option Res := match evalF c.σ x, evalF c.σ y with
    | .v a, .v b => match binV op a b with | some u => some (.val (.v u)) | none => none
    | _, _ => none
def stF_un (P : Program) (dst : Nat) (c : Cfg) (op : UnOp) (x : XArg) : Option Res := match evalF c.σ x with
    | .v a => match unV op a with | some u => some (.val (.v u)) | none => none
    | _ => none
def stF_raw (P : Program) (dst : Nat) (c : Cfg) (o : Op) (ty : Nat) : Option Res :=
    if isSel o = false ∧ o.operands.toList.all (fun x => ((argT x).bind fun xa => toVal (evalF c.σ xa)).isSome) = true then
      match pureRun P (execOp (fun x => (((argT x).bind fun xa => toVal (evalF c.σ xa))).getD (.bool false)) { dst := none, op := o, type := ty, pos := "", after := #[], guard := none }) with
      | some (.value u) => some (.val (ofVal u))
      | _ => none
    else none
def stF_load (P : Program) (dst : Nat) (c : Cfg) (s : Nat) (agg : Bool) (p : XArg) : Option Res := match evalF c.σ p with
    | .ptr x => match part agg s (cellsOf x) 0 with | some y => some (.val y) | none => none
    | .o k g ver i j => match lookF c.η k with
      | (g', some ob) => if g' = g ∧ ob.xs.length = ver then match ob.xs[i]? with
        | some y => match part agg s (cellsOf y) j with | some z => some (.val z) | none => none
        | none => none else none
      | _ => none
    | _ => none
def stF_store (P : Program) (dst : Nat) (c : Cfg) (s : Nat) (p : XArg) (x : XArg) : Option Res := match evalF c.σ p with
    | .o k g ver i j => match lookF c.η k with
      | (g', some ob) => if g' = g ∧ ob.xs.length = ver ∧ width (evalF c.σ x) = s ∧ solid (evalF c.σ x) = true then match ob.xs[i]? with
        | some (.ag cs) => if j + s ≤ cs.length then some (.upd .any k (g, some { ob with xs := ob.xs.set i (.ag (splice cs j (cellsOf (evalF c.σ x)))) })) else none
        | some _ => if j = 0 ∧ s = 1 then some (.upd .any k (g, some { ob with xs := ob.xs.set i (evalF c.σ x) })) else none
        | none => none else none
      | _ => none
    | _ => none
def stF_fadr (P : Program) (dst : Nat) (c : Cfg) (off : Nat) (s : Nat) (agg : Bool) (p : XArg) : Option Res := match evalF c.σ p with
    | .ptr x => match part agg s (cellsOf x) off with | some y => some (.val (.ptr y)) | none => none
    | .o k g ver i j => some (.val (.o k g ver i (j + off)))
    | _ => none
def stF_fld (P : Program) (dst : Nat) (c : Cfg) (off : Nat) (s : Nat) (agg : Bool) (x : XArg) : Option Res := match evalF c.σ x with
    | .ag cs => match part agg s cs off with | some y => some (.val y) | none => none
    | _ => none
def stF_iadr (P : Program) (dst : Nat) (c : Cfg) (s : Nat) (x : XArg) (i : XArg) : Option Res := match asInt (evalF c.σ i), evalF c.σ x with
    | some z, .sl s' _ xs => if s' = s ∧ 0 ≤ z then match xs[z.toNat]? with | some y => some (.val (.ptr y)) | none => none else none
    | some z, .os k g ver s' lo n => if s' = s ∧ 0 ≤ z ∧ z < n then some (.val (.o k g ver (lo + z.toNat) 0)) else none
    | _, _ => none
def stF_aadr (P : Program) (dst : Nat) (c : Cfg) (n : Nat) (s : Nat) (agg : Bool) (p : XArg) (i : XArg) : Option Res := match asInt (evalF c.σ i), evalF c.σ p with
    | some z, .ptr x => if 0 ≤ z ∧ z < n then match part agg s (cellsOf x) (z.toNat * s) with | some y => some (.val (.ptr y)) | none => none else none
    | some z, .o k g ver a j => if 0 ≤ z ∧ z < n then some (.val (.o k g ver a (j + z.toNat * s))) else none
    | _, _ => none
def stF_idx (P : Program) (dst : Nat) (c : Cfg) (n : Nat) (s : Nat) (agg : Bool) (x : XArg) (i : XArg) : Option Res := match asInt (evalF c.σ i), evalF c.σ x with
    | some z, .ag cs => if 0 ≤ z ∧ z < n then match part agg s cs (z.toNat * s) with | some y => some (.val y) | none => none else none
    | _, _ => none
def stF_slc (P : Program) (dst : Nat) (c : Cfg) (s : Nat) (x : XArg) (lo : Option XArg) (hi : Option XArg) (mx : Option XArg) : Option Res := match evalF c.σ x with
    | .sl s' f xs => match asBound c.σ lo 0, asBound c.σ hi xs.length, asBound c.σ mx xs.length with
      | some l, some h, some m => if s' = s ∧ l ≤ h ∧ h ≤ m ∧ m ≤ xs.length ∧ (mx.isSome = true → hi.isSome = true) then
          some (.val (.sl s (fullOf mx f m h xs.length) ((xs.take h).drop l))) else none
      | _, _, _ => none
    | .os k g ver s' a n => match asBound c.σ lo 0, asBound c.σ hi n, mx with
      | some l, some h, none => if s' = s ∧ l ≤ h ∧ h ≤ n then some (.val (.os k g ver s (a + l) (h - l))) else none
      | _, _, _ => none
    | .v (.slice none 0 0) => match asBound c.σ lo 0, asBound c.σ hi 0, asBound c.σ mx 0 with
      | some 0, some 0, some 0 => if mx.isSome = true → hi.isSome = true then some (.val (.v (.slice none 0 0))) else none
      | _, _, _ => none
    | _ => none
def stF_box (P : Program) (dst : Nat) (c : Cfg) (e : Nat) (s : Nat) (own : Bool) (x : XArg) : Option Res := if width (evalF c.σ x) = s ∧ solid (evalF c.σ x) = true then
      match own with
      | true => some (.upd (.o dst ((lookF c.η dst).1 + 1) 1 0 0) dst ((lookF c.η dst).1 + 1, some ⟨e, s, [evalF c.σ x]⟩))
      | false => some (.val (.ptr (evalF c.σ x)))
    else none
def stF_bld (P : Program) (dst : Nat) (c : Cfg) (zero : List Value) (parts : List (Nat × Nat × XArg)) : Option Res := match fillA c.σ (zero.map .v) parts with | some cs => some (.val (.ag cs)) | none => none
def stF_bldS (P : Program) (dst : Nat) (c : Cfg) (e : Nat) (s : Nat) (own : Bool) (parts : List XArg) : Option Res := if parts.all (fun x => width (evalF c.σ x) == s && solid (evalF c.σ x)) then
      match own with
      | true => some (.upd (.os dst ((lookF c.η dst).1 + 1) parts.length s 0 parts.length) dst ((lookF c.η dst).1 + 1, some ⟨e, s, mapF (evalF c.σ) parts⟩))
      | false => some (.val (.sl s true (mapF (evalF c.σ) parts)))
    else none
def stF_mki (P : Program) (dst : Nat) (c : Cfg) (t : Nat) (x : XArg) : Option Res := if solid (evalF c.σ x) = true then some (.val (.ifc t (evalF c.σ x))) else none
def stF_tas (P : Program) (dst : Nat) (c : Cfg) (t : Nat) (ok : Bool) (zero : AV) (x : XArg) : Option Res := match evalF c.σ x with
    | .ifc t' y => if t' = t then some (.val (if ok then .tup [y, .v (.bool true)] else y)) else if ok then some (.val (.tup [zero, .v (.bool false)])) else none
    | .v .nilIface => if ok then some (.val (.tup [zero, .v (.bool false)])) else none
    | _ => none
def stF_ext (P : Program) (dst : Nat) (c : Cfg) (x : XArg) (i : Nat) : Option Res := match evalF c.σ x with
    | .tup xs => match xs[i]? with | some y => some (.val y) | none => none
    | _ => none
def stF_mks (P : Program) (dst : Nat) (c : Cfg) (e : Nat) (s : Nat) (own : Bool) (bytes : Nat) (zero : Value) (n : XArg) (cp : XArg) : Option Res := match asInt (evalF c.σ n), asInt (evalF c.σ cp) with
    | some a, some b => if 0 ≤ a ∧ a ≤ b ∧ b * bytes ≤ 1000000000000 ∧ b ≤ 1000000000000 then
        match own with
        | true => some (.upd (.os dst ((lookF c.η dst).1 + 1) a.toNat s 0 a.toNat) dst ((lookF c.η dst).1 + 1, some ⟨e, s, List.replicate a.toNat (ofVal zero)⟩))
        | false => some (.val (.sl s (decide (a = b)) (List.replicate a.toNat (ofVal zero))))
      else none
    | _, _ => none
def stF_app (P : Program) (dst : Nat) (c : Cfg) (e : Nat) (s : Nat) (bytes : Nat) (x : XArg) (y : XArg) : Option Res := match elems c.η s (evalF c.σ y) with
    | some ys => match evalF c.σ x with
      | .os k g ver s' 0 n => match lookF c.η k with
        | (g', some ob) => if g' = g ∧ ob.xs.length = ver ∧ n = ver ∧ s' = s ∧ ob.s = s ∧ ob.e = e ∧ (n + ys.length) * bytes ≤ 100000000000000 ∧ n + ys.length ≤ 100000000000000 then
            some (.upd (.os k g (n + ys.length) s 0 (n + ys.length)) k (g, some { ob with xs := ob.xs ++ ys }))
          else if g' = g ∧ ob.xs.length = ver ∧ n + ys.length ≤ ver ∧ s' = s ∧ ob.s = s ∧ ob.e = e then
            some (.upd (.os k g ver s 0 (n + ys.length)) k (g, some { ob with xs := ob.xs.take n ++ ys ++ ob.xs.drop (n + ys.length) })) else none
        | _ => none
      | .sl s' true xs => if s' = s ∧ ys ≠ [] ∧ (xs.length + ys.length) * bytes ≤ 100000000000000 ∧ xs.length + ys.length ≤ 100000000000000 then
          some (.upd (.os dst ((lookF c.η dst).1 + 1) (xs.length + ys.length) s 0 (xs.length + ys.length)) dst ((lookF c.η dst).1 + 1, some ⟨e, s, xs ++ ys⟩)) else if s' = s ∧ ys = [] then some (.val (.sl s' true xs)) else none
      | .v (.slice none 0 0) => if ys = [] then some (.val (.v (.slice none 0 0))) else if ys.length * bytes ≤ 100000000000000 ∧ ys.length ≤ 100000000000000 then
          some (.upd (.os dst ((lookF c.η dst).1 + 1) ys.length s 0 ys.length) dst ((lookF c.η dst).1 + 1, some ⟨e, s, ys⟩)) else none
      | _ => none
    | none => none
def stF_len (P : Program) (dst : Nat) (c : Cfg) (x : XArg) : Option Res := match evalF c.σ x with
    | .sl _ _ xs => some (.val (.v (.int .i64 xs.length)))
    | .os _ _ _ _ _ n => some (.val (.v (.int .i64 n)))
    | .v (.slice none 0 0) => some (.val (.v (.int .i64 0)))
    | _ => none
def stF_isnil (P : Program) (dst : Nat) (c : Cfg) (neg : Bool) (x : XArg) : Option Res := match evalF c.σ x with
    | .sl _ _ _ => some (.val (.v (.bool neg)))
    | .os _ _ _ _ _ _ => some (.val (.v (.bool neg)))
    | .v (.slice none 0 0) => some (.val (.v (.bool !neg)))
    | _ => none
def stF_appz (P : Program) (dst : Nat) (c : Cfg) (e : Nat) (s : Nat) (bytes : Nat) (zero : Value) (x : XArg) (n : XArg) : Option Res := match evalF c.σ x, asInt (evalF c.σ n) with
    | .v (.slice none 0 0), some z => if 0 < z ∧ z * bytes ≤ 1000000000000 ∧ z ≤ 1000000000000 then
        some (.upd (.os dst ((lookF c.η dst).1 + 1) z.toNat s 0 z.toNat) dst ((lookF c.η dst).1 + 1, some ⟨e, s, List.replicate z.toNat (ofVal zero)⟩)) else none
    | _, _ => none
def stF_capS (P : Program) (dst : Nat) (c : Cfg) (x : XArg) : Option Res := match evalF c.σ x with
    | .sl _ true xs => some (.val (.v (.int .i64 xs.length)))
    | .v (.slice none 0 0) => some (.val (.v (.int .i64 0)))
    | _ => none
def stF_slcA (P : Program) (dst : Nat) (c : Cfg) (n : Nat) (s : Nat) (agg : Bool) (p : XArg) (lo : Option XArg) (hi : Option XArg) : Option Res := match asBound c.σ lo 0, asBound c.σ hi n, evalF c.σ p with
    | some l, some h, .ptr x => if l ≤ h ∧ h ≤ n ∧ (cellsOf x).length = n * s ∧ n ≤ 1000000 then match chunkA agg s (cellsOf x) n with
        | some xs => some (.val (.sl s (h == n) ((xs.take h).drop l)))
        | none => none else none
    | some l, some h, .o k g ver 0 0 => match lookF c.η k with
      | (g', some ob) => match ob.xs with
        | [y] => if g' = g ∧ ver = 1 ∧ l ≤ h ∧ h ≤ n ∧ (cellsOf y).length = n * s ∧ n ≤ 1000000 then match chunkA agg s (cellsOf y) n with
          | some xs => some (.upd (.sl s (h == n) ((xs.take h).drop l)) k (g, none))
          | none => none else none
        | _ => none
      | _ => none
    | _, _, _ => none
def stF_lenS (P : Program) (dst : Nat) (c : Cfg) (x : XArg) : Option Res := match evalF c.σ x with
    | .v (.string s) => some (.val (.v (.int .i64 s.size)))
    | _ => none
def stF_call (P : Program) (dst : Nat) (c : Cfg) (_u0 : Bool) (f : Nat) (args : List XArg) : Option Res := some (.call f (mapF (evalF c.σ) args))
def stF_nilc (P : Program) (dst : Nat) (c : Cfg) (x : XArg) : Option Res := match evalF c.σ x with
    | .ptr y => some (.val (.ptr y))
    | .o k g ver i j => some (.val (.o k g ver i j))
    | .fn f cs => some (.val (.fn f cs))
    | .bm f cs => some (.val (.bm f cs))
    | _ => none
def stF_callv (P : Program) (dst : Nat) (c : Cfg) (x : XArg) (args : List XArg) : Option Res := match evalF c.σ x with
    | .fn f caps => if callable P f = true then some (.call f (mapF (evalF c.σ) args ++ caps)) else none
    | .bm f fs => if callable P f = true then some (.call f (fs ++ mapF (evalF c.σ) args)) else none
    | _ => none
def stF_inv (P : Program) (dst : Nat) (c : Cfg) (x : XArg) (name : String) (args : List XArg) : Option Res := match evalF c.σ x with
    | .ifc t y => match methA P t y name with
      | some (f, z) => if callable P f = true then some (.call f (z :: mapF (evalF c.σ) args)) else none
      | none => none
    | _ => none
def stF_mkf (P : Program) (dst : Nat) (c : Cfg) (f : Nat) (caps : List XArg) : Option Res := some (.val (.fn f (mapF (evalF c.σ) caps)))
def stF_mkb (P : Program) (dst : Nat) (c : Cfg) (f : Nat) (fs : List XArg) : Option Res := some (.val (.bm f (mapF (evalF c.σ) fs)))
def stF_mkm (P : Program) (dst : Nat) (c : Cfg)  : Option Res := some (.upd (.mp dst ((lookF c.η dst).1 + 1)) dst ((lookF c.η dst).1 + 1, some ⟨0, 0, [.any]⟩))
def stF_lkp (P : Program) (dst : Nat) (c : Cfg) (kt : Nat) (ok : Bool) (zero : AV) (m : XArg) (k : XArg) : Option Res := match evalF c.σ m, toVal (evalF c.σ k) with
    | .mp kk g, some kv => match lookF c.η kk with
      | (g', some ob) => if g' = g ∧ ob.s = 0 ∧ ob.e = 0 then match findA P kt kv ob.xs.tail with
        | some (some i) => match ob.xs.tail[i]? with
          | some x => some (.val (if ok then .tup [entVal x, .v (.bool true)] else entVal x))
          | none => none
        | some none => some (.val (if ok then .tup [zero, .v (.bool false)] else zero))
        | none => none else none
      | _ => none
    | .v (.map none), some kv => match pureRun P (Instr.checkKey true 10000 kt kv), pureRun P (Instr.findKey kt kv []) with
      | some _, some none => some (.val (if ok then .tup [zero, .v (.bool false)] else zero))
      | _, _ => none
    | _, _ => none
def stF_mup (P : Program) (dst : Nat) (c : Cfg) (kt : Nat) (m : XArg) (k : XArg) (v : XArg) : Option Res := match evalF c.σ m, toVal (evalF c.σ k) with
    | .mp kk g, some kv => match lookF c.η kk with
      | (g', some ob) => if g' = g ∧ ob.s = 0 ∧ ob.e = 0 then match pureRun P (Instr.checkKey false 10000 kt kv), findA P kt kv ob.xs.tail with
        | some _, some (some i) => match (ob.xs.tail[i]?).bind entKey with
          | some old => if Instr.sameBits 10000 old kv = true then some (.upd .any kk (g, some { ob with xs := .any :: ob.xs.tail.set i (.tup [evalF c.σ k, evalF c.σ v]) })) else none
          | none => none
        | some _, some none => some (.upd .any kk (g, some { ob with xs := .any :: (ob.xs.tail ++ [.tup [evalF c.σ k, evalF c.σ v]]) }))
        | _, _ => none else none
      | _ => none
    | _, _ => none
def stF_del (P : Program) (dst : Nat) (c : Cfg) (kt : Nat) (m : XArg) (k : XArg) : Option Res := match evalF c.σ m, toVal (evalF c.σ k) with
    | .mp kk g, some kv => match lookF c.η kk with
      | (g', some ob) => if g' = g ∧ ob.s = 0 ∧ ob.e = 0 then match findA P kt kv ob.xs.tail with
        | some (some i) => some (.upd (.tup []) kk (g, some { ob with xs := .any :: ob.xs.tail.eraseIdx i }))
        | some none => some (.upd (.tup []) kk (g, some { ob with xs := .any :: ob.xs.tail }))
        | none => none else none
      | _ => none
    | _, _ => none
def stF_lenM (P : Program) (dst : Nat) (c : Cfg) (m : XArg) : Option Res := match evalF c.σ m with
    | .mp kk g => match lookF c.η kk with
      | (g', some ob) => if g' = g ∧ ob.s = 0 ∧ ob.e = 0 then some (.val (.v (.int .i64 ob.xs.tail.length))) else none
      | _ => none
    | .v (.map none) => some (.val (.v (.int .i64 0)))
    | _ => none
def stF_rgs (P : Program) (dst : Nat) (c : Cfg) (x : XArg) : Option Res := match evalF c.σ x with
    | .v (.string s) => some (.upd (.it dst ((lookF c.η dst).1 + 1)) dst ((lookF c.η dst).1 + 1, some ⟨1, 0, [.any, .v (.string s), .v (.int .i64 0)]⟩))
    | _ => none
def stF_nxs (P : Program) (dst : Nat) (c : Cfg) (i : XArg) : Option Res := match evalF c.σ i with
    | .it kk g => match lookF c.η kk with
      | (g', some ob) => if g' = g ∧ ob.s = 0 ∧ ob.e = 1 then match ob.xs with
        | [_, .v (.string s), .v (.int _ p)] => if p < s.size then
            some (.upd (.tup [.v (.bool true), .v (.int .i64 p), .v (.int .i32 (Utf8.decode s p.toNat).1)]) kk (g, some { ob with xs := [.any, .v (.string s), .v (.int .i64 (p.toNat + (Utf8.decode s p.toNat).2 : Nat))] }))
          else some (.val (.tup [.v (.bool false)]))
        | _ => none else none
      | _ => none
    | _ => none
def stF_cpy (P : Program) (dst : Nat) (c : Cfg) (x : XArg) (y : XArg) : Option Res := match elems c.η 1 (evalF c.σ y) with
    | some ys => match evalF c.σ x with
      | .os k g ver s lo n => match lookF c.η k with
        | (g', some ob) => if g' = g ∧ ob.xs.length = ver ∧ s = 1 ∧ ob.s = 1 ∧ lo + n ≤ ver ∧ 0 < n ∧ ys ≠ [] ∧ ys.all one = true then
            some (.upd (.v (.int .i64 (min ys.length n : Nat))) k (g, some { ob with xs := splice ob.xs lo (ys.take (min ys.length n)) })) else none
        | _ => none
      | _ => none
    | none => none
def stF_b2s (P : Program) (dst : Nat) (c : Cfg) (x : XArg) : Option Res := match elems c.η 1 (evalF c.σ x) with
    | some ys => match ys.mapM byteOf with
      | some zs => if ys = [] then none else some (.val (.v (.string (strOfNums zs))))
      | none => none
    | none => none
def stF_xt (P : Program) (dst : Nat) (c : Cfg) (n : Nat) (xs : List XArg) : Option Res := match extV n (mapF (evalF c.σ) xs) with
    | some u => some (.val (.v u))
    | none => none
def stF_bad (P : Program) (dst : Nat) (c : Cfg)  : Option Res := none
def stepF (P : Program) (d : Nat) (c : Cfg) : XOp → Option Res
  | .mv a0 => stF_mv P d c a0
  | .pick a0 a1 a2 => stF_pick P d c a0 a1 a2
  | .bin a0 a1 a2 => stF_bin P d c a0 a1 a2
  | .un a0 a1 => stF_un P d c a0 a1
  | .raw a0 a1 => stF_raw P d c a0 a1
  | .load a0 a1 a2 => stF_load P d c a0 a1 a2
  | .store a0 a1 a2 => stF_store P d c a0 a1 a2
  | .fadr a0 a1 a2 a3 => stF_fadr P d c a0 a1 a2 a3
  | .fld a0 a1 a2 a3 => stF_fld P d c a0 a1 a2 a3
  | .iadr a0 a1 a2 => stF_iadr P d c a0 a1 a2
  | .aadr a0 a1 a2 a3 a4 => stF_aadr P d c a0 a1 a2 a3 a4
  | .idx a0 a1 a2 a3 a4 => stF_idx P d c a0 a1 a2 a3 a4
  | .slc a0 a1 a2 a3 a4 => stF_slc P d c a0 a1 a2 a3 a4
  | .box a0 a1 a2 a3 => stF_box P d c a0 a1 a2 a3
  | .bld a0 a1 => stF_bld P d c a0 a1
  | .bldS a0 a1 a2 a3 => stF_bldS P d c a0 a1 a2 a3
  | .mki a0 a1 => stF_mki P d c a0 a1
  | .tas a0 a1 a2 a3 => stF_tas P d c a0 a1 a2 a3
  | .ext a0 a1 => stF_ext P d c a0 a1
  | .mks a0 a1 a2 a3 a4 a5 a6 => stF_mks P d c a0 a1 a2 a3 a4 a5 a6
  | .app a0 a1 a2 a3 a4 => stF_app P d c a0 a1 a2 a3 a4
  | .len a0 => stF_len P d c a0
  | .isnil a0 a1 => stF_isnil P d c a0 a1
  | .appz a0 a1 a2 a3 a4 a5 => stF_appz P d c a0 a1 a2 a3 a4 a5
  | .capS a0 => stF_capS P d c a0
  | .slcA a0 a1 a2 a3 a4 a5 => stF_slcA P d c a0 a1 a2 a3 a4 a5
  | .lenS a0 => stF_lenS P d c a0
  | .call a0 a1 a2 => stF_call P d c a0 a1 a2
  | .nilc a0 => stF_nilc P d c a0
  | .callv a0 a1 => stF_callv P d c a0 a1
  | .inv a0 a1 a2 => stF_inv P d c a0 a1 a2
  | .mkf a0 a1 => stF_mkf P d c a0 a1
  | .mkb a0 a1 => stF_mkb P d c a0 a1
  | .mkm  => stF_mkm P d c 
  | .lkp a0 a1 a2 a3 a4 => stF_lkp P d c a0 a1 a2 a3 a4
  | .mup a0 a1 a2 a3 => stF_mup P d c a0 a1 a2 a3
  | .del a0 a1 a2 => stF_del P d c a0 a1 a2
  | .lenM a0 => stF_lenM P d c a0
  | .rgs a0 => stF_rgs P d c a0
  | .nxs a0 => stF_nxs P d c a0
  | .cpy a0 a1 => stF_cpy P d c a0 a1
  | .b2s a0 => stF_b2s P d c a0
  | .xt a0 a1 => stF_xt P d c a0 a1
  | .bad  => stF_bad P d c 
theorem stepF_eq (P : Program) (d : Nat) (c : Cfg) (o : XOp) : stepF P d c o = step P d c o := by
  cases o <;> simp only [stepF, stF_mv, stF_pick, stF_bin, stF_un, stF_raw, stF_load, stF_store, stF_fadr, stF_fld, stF_iadr, stF_aadr, stF_idx, stF_slc, stF_box, stF_bld, stF_bldS, stF_mki, stF_tas, stF_ext, stF_mks, stF_app, stF_len, stF_isnil, stF_appz, stF_capS, stF_slcA, stF_lenS, stF_call, stF_nilc, stF_callv, stF_inv, stF_mkf, stF_mkb, stF_mkm, stF_lkp, stF_mup, stF_del, stF_lenM, stF_rgs, stF_nxs, stF_cpy, stF_b2s, stF_xt, stF_bad, evalF_eq, lookF_eq, mapF_eq] <;> rfl
abbrev CallP := Nat → List AV → Option AV
abbrev CallQ := Nat → Nat → List AV → Heap → Option (AV × Heap)
/-- calls on plain data; calls whose results are new; calls with references; which functions are tried as the second kind -/
structure Cs where
  p : CallP
  n : CallP
  q : CallQ
  fr : Nat → Bool

def wantsRef : XOp → Bool
  | .call own _ _ => own
  | _ => false
/-- rows that lie in a literal are given up -/
def giveAll : List XArg → Cfg → Cfg
  | [], c => c
  | .t n :: l, c => match giveT c n with
    | some c1 => giveAll l c1
    | none => giveAll l c
  | .c _ :: l, c => giveAll l c
/-- the row at key k is given up, if a slot still holds it -/
def giveKey (k : Nat) : Nat → Cfg → Cfg
  | 0, c => c
  | t + 1, c => match c.σ.getD t .any with
    | .os k' _ _ _ _ _ => match Nat.beq k' k with
      | true => match giveT c t with
        | some c1 => c1
        | none => giveKey k t c
      | false => giveKey k t c
    | _ => giveKey k t c
/-- what lies at this key is given up, if anything does -/
def gvK (k : Nat) (c : Cfg) : Cfg := match (lookF c.η k).2 with
  | none => c
  | some _ => giveKey k c.σ.length c
def giveOp (kb : Nat) (o : XOper) (c : Cfg) : Cfg := match o.op with
  | .bldS _ _ false parts => giveAll parts c
  | .bldS _ _ true _ => gvK (kb + o.dst.getD 0) c
  | .mks _ _ true b _ _ _ => match Nat.beq (b / 1048576) 0 with
    | true => gvK (kb + o.dst.getD 0) c
    | false => c
  | .app _ _ b x _ => match Nat.beq (b / 1048576) 0 with
    | true => match evalF c.σ x with
      | .os .. => c
      | _ => gvK (kb + o.dst.getD 0) c
    | false => c
  | _ => c
/-- a call on what the references say, if what it returns is new -/
def execFr (C : Cs) (o : XOper) (c : Cfg) (f : Nat) (args : List AV) : Option AV := match C.fr f && !wantsRef o.op with
  | true => match args.mapM (reify c.η 20) with
    | some args' => match C.n f args' with
      | some r => match noRefF 30 r with | true => some r | false => none
      | none => none
    | none => none
  | false => none
/-- a first key beyond all rows that are there -/
def kbF (η : Heap) : Nat := η.foldl (fun m p => match p.2.2 with
  | some _ => match Nat.ble p.1 m with | true => m | false => p.1
  | none => m) 0
def kbOf (kb : Nat) (η : Heap) : Nat := match Nat.ble ((kbF η / 1000 + 1) * 1000) (kb + 1000) with | true => kb + 1000 | false => (kbF η / 1000 + 1) * 1000
/-- a key that is not taken -/
def freeK (η : Heap) (n : Nat) : Nat → Nat := Nat.rec (motive := fun _ => Nat → Nat) (fun d => d) (fun _ ih d => match (lookF η d).2 with
  | some _ => ih (d + 100000)
  | none => d) n
/-- the key of what is made new: as a rule that of the slot; a row that is appended to at a place of many rows has a key that is not taken -/
def dK (kb : Nat) (o : XOper) (η : Heap) : Nat := match o.op with
  | .app _ _ b _ _ => match Nat.beq (b / 1048576) 0 with
    | true => kb + o.dst.getD 0
    | false => freeK η 64 (kb + o.dst.getD 0)
  | .mks _ _ _ b _ _ _ => match Nat.beq (b / 1048576) 0 with
    | true => kb + o.dst.getD 0
    | false => freeK η 64 (kb + o.dst.getD 0)
  | _ => kb + o.dst.getD 0
def exec1 (P : Program) (C : Cs) (kb : Nat) (o : XOper) (c : Cfg) : Option (Cfg × Lv) :=
  match wantedA c.σ o.guard with
  | some false => some (⟨setAF c.σ o.dst (.v undef), c.η⟩, .none)
  | some true => match stepF P (kb + o.dst.getD 0) ⟨c.σ, []⟩ o.op with
    | some (.val x) => some (⟨setAF c.σ o.dst x, c.η⟩, .none)
    | some (.call f args) => match allF (noRefF 30) args && !wantsRef o.op with
      | true => match C.p f args with
        | some r => match noRefF 30 r with | true => some (⟨setAF c.σ o.dst r, c.η⟩, .none) | false => none
        | none => none
      | false => match execFr C o c f args with
        | some r => some (⟨setAF c.σ o.dst r, c.η⟩, .read)
        | none => match C.q (kbOf kb c.η) f args c.η with
          | some (r, η') => some (⟨setAF c.σ o.dst r, η'⟩, .any)
          | none => none
    | _ => match stepF P (dK kb o c.η) c o.op with
      | some (.val x) => some (⟨setAF c.σ o.dst x, c.η⟩, .read)
      | some (.upd x k r) => some (⟨setAF c.σ o.dst x, putF c.η k r⟩, .ww k)
      | _ => none
  | none => none
/-- the one row that an operation looks at -/
def keyA (d : Nat) (σ : List AV) : XOp → Option Nat
  | .load _ _ p => match evalF σ p with | .o k .. => some k | _ => none
  | .store _ p _ => match evalF σ p with | .o k .. => some k | _ => none
  | .box .. | .bldS .. | .mks .. | .appz .. => some d
  | .app _ _ _ x _ => match evalF σ x with | .os k .. => some k | _ => some d
  | .mkm | .rgs .. => some d
  | .lkp _ _ _ m _ => match evalF σ m with | .mp k _ => some k | _ => none
  | .mup _ m _ _ => match evalF σ m with | .mp k _ => some k | _ => none
  | .del _ m _ => match evalF σ m with | .mp k _ => some k | _ => none
  | .nxs i => match evalF σ i with | .it k _ => some k | _ => none
  | .cpy x _ => match evalF σ x with | .os k .. => some k | _ => none
  | _ => none
/-- the same, where the order is open: which row it looks at -/
def exec1K (P : Program) (C : Cs) (kb : Nat) (o : XOper) (c : Cfg) : Option (Cfg × Lv) :=
  match wantedA c.σ o.guard with
  | some true => match keyA (dK kb o c.η) c.σ o.op with
    | some k => match stepF P (dK kb o c.η) ⟨c.σ, []⟩ o.op with
      | some (.val x) => some (⟨setAF c.σ o.dst x, c.η⟩, .none)
      | _ => match stepF P (dK kb o c.η) ⟨c.σ, [(k, lookF c.η k)]⟩ o.op with
        | some (.val x) => some (⟨setAF c.σ o.dst x, c.η⟩, .rk k)
        | some (.upd x k' r) => match Nat.beq k' k with
          | true => some (⟨setAF c.σ o.dst x, putF c.η k' r⟩, .wk k')
          | false => exec1 P C kb o c
        | _ => exec1 P C kb o c
    | none => exec1 P C kb o c
  | _ => exec1 P C kb o c
def execOps (P : Program) (C : Cs) (kb : Nat) : List XOper → Cfg → Option (Cfg × List Lv)
  | [], c => some (c, [])
  | o :: l, c => match exec1K P C kb o c with
    | some (c1, lv) => match execOps P C kb l c1 with
      | some (c2, lvs) => some (c2, lv :: lvs)
      | none => none
    | none => none
def execG (P : Program) (C : Cs) (kb : Nat) : List XOper → Cfg → Option Cfg
  | [], c => some c
  | o :: l, c => match exec1 P C kb o (giveOp kb o c) with
    | some (c1, _) => execG P C kb l c1
    | none => none
def execGF (P : Program) (C : Cs) (kb : Nat) (l : List XOper) (c : Cfg) : Option Cfg :=
  Nat.rec (motive := fun _ => List XOper → Cfg → Option Cfg) (fun l c => execG P C kb l c) (fun _ ih l c => match l with
    | o :: t => (match exec1 P C kb o (giveOp kb o c) with | some r => ih t r.1 | none => none)
    | [] => some c) 1000 l c
theorem execGF_eq (P : Program) (C : Cs) (kb : Nat) (l : List XOper) (c : Cfg) : execGF P C kb l c = execG P C kb l c := by
  unfold execGF
  generalize 1000 = n
  induction n generalizing l c with
  | zero => rfl
  | succ n ih => cases l with
    | nil => rfl
    | cons o l =>
      simp only [execG]
      cases exec1 P C kb o (giveOp kb o c) with
      | none => rfl
      | some r => exact ih l r.1
def execOpsF (P : Program) (C : Cs) (kb : Nat) (l : List XOper) (c : Cfg) : Option (Cfg × List Lv) :=
  Nat.rec (motive := fun _ => List XOper → Cfg → Option (Cfg × List Lv)) (fun l c => execOps P C kb l c) (fun _ ih l c => match l with
    | o :: t => (match exec1K P C kb o c with | some r => (match ih t r.1 with | some q => some (q.1, r.2 :: q.2) | none => none) | none => none)
    | [] => some (c, [])) 1000 l c
theorem execOpsF_eq (P : Program) (C : Cs) (kb : Nat) (l : List XOper) (c : Cfg) : execOpsF P C kb l c = execOps P C kb l c := by
  unfold execOpsF
  generalize 1000 = n
  induction n generalizing l c with
  | zero => rfl
  | succ n ih => cases l with
    | nil => rfl
    | cons o l =>
      simp only [execOps]
      cases exec1K P C kb o c with
      | none => rfl
      | some r => simp only [ih l r.1]; cases execOps P C kb l r.1 <;> rfl
def execB (P : Program) (C : Cs) (kb : Nat) (ih : XCode → Cfg → Option (Out × Cfg)) (x : XCode) (c : Cfg) : Option (Out × Cfg) := match x with
    | .skip => some (.normal, c)
    | .region xs none => match execGF P C kb xs c with
      | some c1 => some (.normal, c1)
      | none => none
    | .region xs (some prs) => match execOpsF P C kb xs c with
      | some (c1, lvs) => match regF xs prs lvs with | true => some (.normal, c1) | false => none
      | none => none
    | .seq a b => match ih a c with
      | some (.normal, c1) => ih b c1
      | some (.exit id, c1) => some (.exit id, c1)
      | some (.ret, c1) => some (.ret, c1)
      | some (.goto l, c1) => some (.goto l, c1)
      | none => none
    | .cond q t e => match evalF c.σ q with
      | .v (.bool true) => ih t c
      | .v (.bool false) => ih e c
      | _ => none
    | .block id b => match ih b c with
      | some (o, c1) => some (if o = .exit id then .normal else o, c1)
      | none => none
    | .loop b => match ih b c with
      | some (.normal, c1) => ih (.loop b) c1
      | some (.exit id, c1) => some (.exit id, c1)
      | some (.ret, c1) => some (.ret, c1)
      | some (.goto l, c1) => some (.goto l, c1)
      | none => none
    | .exit id => some (.exit id, c)
    | .scope b => ih (.scopeAt b b) c
    | .scopeAt b x => match ih x c with
      | some (.goto l, c1) => match findX b l with
        | some r => ih (.scopeAt b r) c1
        | none => none
      | some (.normal, c1) => some (.normal, c1)
      | some (.exit id, c1) => some (.exit id, c1)
      | some (.ret, c1) => some (.ret, c1)
      | none => none
    | .label _ => some (.normal, c)
    | .goto l => some (.goto l, c)
    | .ret => some (.ret, c)
def execC (P : Program) (C : Cs) (kb : Nat) (fuel : Nat) : XCode → Cfg → Option (Out × Cfg) :=
  Nat.rec (motive := fun _ => XCode → Cfg → Option (Out × Cfg)) (fun _ _ => none) (fun _ ih => execB P C kb ih) fuel
def retB : Out → Bool
  | .exit _ => false
  | .goto _ => false
  | _ => true
def execP1 (P : Program) (xf : Nat → Option XFunc) (fuel : Nat) (ih : Cs) : CallP := fun f args => match xf f with
  | some fn => match execC P ih 0 fuel fn.body (start fn args []) with
    | some (o, c) => match retB o, fn.results.mapM (resOf P c) with
      | true, some rs => reify c.η 20 (retOf rs)
      | _, _ => none
    | none => none
  | none => none
def execN1 (P : Program) (xf : Nat → Option XFunc) (fuel : Nat) (ih : Cs) : CallP := fun f args => match xf f with
  | some fn => match execC P ih 0 fuel fn.body (start fn args []) with
    | some (o, c) => match retB o, fn.results.mapM (resOf P c) with
      | true, some rs => reifyN c.η (retOf rs)
      | _, _ => none
    | none => none
  | none => none
def execQ1 (P : Program) (xf : Nat → Option XFunc) (fuel : Nat) (ih : Cs) : CallQ := fun kb f args η => match xf f with
  | some fn => match execC P ih kb fuel fn.body (start fn args η) with
    | some (o, c) => match retB o, fn.results.mapM (resOf P c) with
      | true, some rs => some (retOf rs, c.η)
      | _, _ => none
    | none => none
  | none => none
def execF (P : Program) (xf : Nat → Option XFunc) (fr : Nat → Bool) (fuel : Nat) (n : Nat) : Cs :=
  Nat.rec (motive := fun _ => Cs) ⟨fun _ _ => none, fun _ _ => none, fun _ _ _ _ => none, fr⟩ (fun _ ih => ⟨execP1 P xf fuel ih, execN1 P xf fuel ih, execQ1 P xf fuel ih, fr⟩) n

section
variable {P : Program} {R : Rel} {C : Cs} {kb : Nat} {xf : Nat → Option XFunc} {fr : Nat → Bool} {fuel : Nat}
structure CallOK (C : Cs) (R : Rel) : Prop where
  p : ∀ f args r, C.p f args = some r → R.p f args r
  q : ∀ kb f args η r η', C.q kb f args η = some (r, η') → R.q kb f args η r η'
  n : ∀ f args r, C.n f args = some r → R.n f args r
theorem exec1_ok (h : CallOK C R) {o : XOper} {c c' : Cfg} {lv : Lv} (he : exec1 P C kb o c = some (c', lv)) : Op1 P R kb o c c' lv := by
  unfold exec1 at he
  simp only [stepF_eq, setAF_eq, putF_eq, lookF_eq] at he
  split at he
  · rename_i hw
    injection he with he; injection he with e1 e2; subst e1; subst e2
    exact .skip c hw
  · rename_i hw
    split at he
    · rename_i x hs
      injection he with he; injection he with e1 e2; subst e1; subst e2
      exact .free c x hw hs
    · rename_i f args hs
      split at he
      · rename_i hn
        have hn : noRefs args = true := by simp only [Bool.and_eq_true] at hn; exact noRefsF_ok hn.1
        split at he <;> try (cases he; done)
        rename_i r hr
        split at he <;> try (cases he; done)
        rename_i hn2
        injection he with he; injection he with e1 e2; subst e1; subst e2
        exact .call c f args r hw hs hn (h.p _ _ _ hr) (noRefF_ok 30 _ hn2)
      · split at he
        · rename_i r hr
          injection he with he; injection he with e1 e2; subst e1; subst e2
          unfold execFr at hr
          split at hr <;> try (cases hr; done)
          split at hr <;> try (cases hr; done)
          rename_i args' ha
          split at hr <;> try (cases hr; done)
          rename_i r' hr'
          split at hr <;> try (cases hr; done)
          rename_i hn2
          injection hr with hr; subst hr
          exact .fresh c f 20 args args' _ hw hs ha (h.n _ _ _ hr') (noRefF_ok 30 _ hn2)
        · split at he <;> try (cases he; done)
          rename_i r η' hr
          injection he with he; injection he with e1 e2; subst e1; subst e2
          exact .callR c (kbOf kb c.η) f args r η' hw hs (h.q _ _ _ _ _ _ hr)
    · split at he <;> try (cases he; done)
      · rename_i x hs
        injection he with he; injection he with e1 e2; subst e1; subst e2
        exact .val c x hw hs
      · rename_i x k r hs
        injection he with he; injection he with e1 e2; subst e1; subst e2
        exact .upd c x k r hw hs
  · cases he
theorem exec1K_ok (h : CallOK C R) {o : XOper} {c c' : Cfg} {lv : Lv} (he : exec1K P C kb o c = some (c', lv)) : Op1 P R kb o c c' lv := by
  unfold exec1K at he
  simp only [stepF_eq, setAF_eq, putF_eq, lookF_eq] at he
  split at he
  · rename_i hw
    split at he
    · rename_i k hk
      split at he
      · rename_i x hs
        injection he with he; injection he with e1 e2; subst e1; subst e2
        exact .free c x hw hs
      · split at he
        · rename_i x hs
          injection he with he; injection he with e1 e2; subst e1; subst e2
          exact .valK c x k hw hs
        · rename_i x k' r hs
          split at he
          · rename_i hkk
            have := Nat.eq_of_beq_eq_true hkk
            subst this
            injection he with he; injection he with e1 e2; subst e1; subst e2
            exact .updK c x _ r hw hs
          · exact exec1_ok h he
        · exact exec1_ok h he
    · exact exec1_ok h he
  · exact exec1_ok h he
theorem execOps_ok (h : CallOK C R) : ∀ {l : List XOper} {c c' : Cfg} {lvs : List Lv}, execOps P C kb l c = some (c', lvs) → OpsRun P R kb l c c' lvs
  | [], c, c', lvs, he => by
    simp only [execOps, Option.some.injEq, Prod.mk.injEq] at he
    obtain ⟨rfl, rfl⟩ := he
    exact .nil c
  | o :: l, c, c', lvs, he => by
    simp only [execOps] at he
    split at he <;> try (cases he; done)
    rename_i c1 lv h1
    split at he <;> try (cases he; done)
    rename_i c2 lvs' h2
    injection he with he; injection he with e1 e2; subst e1; subst e2
    exact .cons o l c c1 c2 lv lvs' (exec1K_ok h h1) (execOps_ok h h2)
theorem giveAll_ok {l : List XOper} {c2 : Cfg} : ∀ (ps : List XArg) (c : Cfg), OpsG P R kb l (giveAll ps c) c2 → OpsG P R kb l c c2
  | [], c, h => h
  | .t n :: ps, c, h => by
    simp only [giveAll] at h
    split at h
    · rename_i c1 h1; exact .give l c c1 c2 n h1 (giveAll_ok ps c1 h)
    · exact giveAll_ok ps c h
  | .c _ :: ps, c, h => giveAll_ok ps c h
theorem giveKey_ok {l : List XOper} {c2 : Cfg} {k : Nat} : ∀ (t : Nat) (c : Cfg), OpsG P R kb l (giveKey k t c) c2 → OpsG P R kb l c c2
  | 0, c, h => h
  | t + 1, c, h => by
    unfold giveKey at h
    split at h
    · split at h
      · split at h
        · rename_i c1 h1; exact .give l c c1 c2 t h1 h
        · exact giveKey_ok t c h
      · exact giveKey_ok t c h
    · exact giveKey_ok t c h
theorem gvK_ok {l : List XOper} {c c2 : Cfg} {k : Nat} (h : OpsG P R kb l (gvK k c) c2) : OpsG P R kb l c c2 := by
  unfold gvK at h
  split at h
  · exact h
  · exact giveKey_ok _ _ h
theorem execG_ok (h : CallOK C R) : ∀ {l : List XOper} {c c' : Cfg}, execG P C kb l c = some c' → OpsG P R kb l c c'
  | [], c, c', he => by
    simp only [execG, Option.some.injEq] at he
    subst he; exact .nil c
  | o :: l, c, c', he => by
    simp only [execG] at he
    split at he <;> try (cases he; done)
    rename_i c1 lv h1
    have h2 : OpsG P R kb (o :: l) (giveOp kb o c) c' := .cons o l _ c1 c' lv (exec1_ok h h1) (execG_ok h he)
    unfold giveOp at h2
    split at h2
    · exact giveAll_ok _ _ h2
    · exact gvK_ok h2
    · split at h2
      · exact gvK_ok h2
      · exact h2
    · split at h2
      · split at h2
        · exact h2
        · exact gvK_ok h2
      · exact h2
    · exact h2
theorem execC_ok (h : CallOK C R) : ∀ (n : Nat) (x : XCode) (c c' : Cfg) (o : Out), execC P C kb n x c = some (o, c') → Ex P R kb x c o c' := by
  intro n
  induction n with
  | zero => intro x c c' o he; cases he
  | succ n ih =>
    intro x c c' o he
    have he' : execB P C kb (execC P C kb n) x c = some (o, c') := he
    clear he
    unfold execB at he'
    cases x with
    | skip => injection he' with e; injection e with e1 e2; subst e1; subst e2; exact .skip c
    | region xs F =>
      cases F with
      | none =>
        simp only at he'
        split at he' <;> try (cases he'; done)
        rename_i c1 h1
        injection he' with e; injection e with e1 e2; subst e1; subst e2
        rw [execGF_eq] at h1
        exact .regionG xs c c1 (execG_ok h h1)
      | some F =>
        simp only at he'
        split at he' <;> try (cases he'; done)
        rename_i c1 lvs h1
        split at he' <;> try (cases he'; done)
        rename_i h2
        injection he' with e; injection e with e1 e2; subst e1; subst e2
        rw [execOpsF_eq] at h1
        exact .region xs (some F) c c1 lvs lvs (execOps_ok h h1) (lvLe_refl lvs) h2
    | seq a b =>
      simp only at he'
      split at he' <;> try (cases he'; done)
      · rename_i c1 h1
        exact .seqN a b c c1 c' o (ih _ _ _ _ h1) (ih _ _ _ _ he')
      · rename_i id c1 h1
        injection he' with e; injection e with e1 e2; subst e1; subst e2
        exact .seqX a b c c1 _ (ih _ _ _ _ h1) (by simp)
      · rename_i c1 h1
        injection he' with e; injection e with e1 e2; subst e1; subst e2
        exact .seqX a b c c1 _ (ih _ _ _ _ h1) (by simp)
      · rename_i l c1 h1
        injection he' with e; injection e with e1 e2; subst e1; subst e2
        exact .seqX a b c c1 _ (ih _ _ _ _ h1) (by simp)
    | cond q t e =>
      simp only at he'
      split at he' <;> try (cases he'; done)
      · rename_i h1; rw [evalF_eq] at h1; exact .condT q t e c c' o h1 (ih _ _ _ _ he')
      · rename_i h1; rw [evalF_eq] at h1; exact .condF q t e c c' o h1 (ih _ _ _ _ he')
    | block id b =>
      simp only at he'
      split at he' <;> try (cases he'; done)
      rename_i o1 c1 h1
      injection he' with e; injection e with e1 e2; subst e1; subst e2
      exact .block id b c c1 o1 (ih _ _ _ _ h1)
    | loop b =>
      simp only at he'
      split at he' <;> try (cases he'; done)
      · rename_i c1 h1
        exact .loopN b c c1 c' o (ih _ _ _ _ h1) (ih _ _ _ _ he')
      · rename_i id c1 h1
        injection he' with e; injection e with e1 e2; subst e1; subst e2
        exact .loopX b c c1 _ (ih _ _ _ _ h1) (by simp)
      · rename_i c1 h1
        injection he' with e; injection e with e1 e2; subst e1; subst e2
        exact .loopX b c c1 _ (ih _ _ _ _ h1) (by simp)
      · rename_i l c1 h1
        injection he' with e; injection e with e1 e2; subst e1; subst e2
        exact .loopX b c c1 _ (ih _ _ _ _ h1) (by simp)
    | exit id => injection he' with e; injection e with e1 e2; subst e1; subst e2; exact .exit id c
    | scope b => exact .scope b c c' o (ih _ _ _ _ he')
    | ret => injection he' with e; injection e with e1 e2; subst e1; subst e2; exact .ret c
    | scopeAt b x =>
      simp only at he'
      split at he' <;> try (cases he'; done)
      · rename_i l c1 h1
        split at he' <;> try (cases he'; done)
        rename_i r hr
        exact .scopeJ b x r c c1 c' o l (ih _ _ _ _ h1) hr (ih _ _ _ _ he')
      · rename_i c1 h1
        injection he' with e; injection e with e1 e2; subst e1; subst e2
        exact .scopeN b x c c1 _ (ih _ _ _ _ h1) rfl
      · rename_i id c1 h1
        injection he' with e; injection e with e1 e2; subst e1; subst e2
        exact .scopeN b x c c1 _ (ih _ _ _ _ h1) rfl
      · rename_i c1 h1
        injection he' with e; injection e with e1 e2; subst e1; subst e2
        exact .scopeN b x c c1 _ (ih _ _ _ _ h1) rfl
    | label l => injection he' with e; injection e with e1 e2; subst e1; subst e2; exact .label l c
    | goto l => injection he' with e; injection e with e1 e2; subst e1; subst e2; exact .goto l c
theorem retB_ok {o : Out} (h : retB o = true) : o = .ret ∨ o = .normal := by cases o <;> simp_all [retB]
theorem execF_ok : ∀ n, CallOK (execF P xf fr fuel n) (RelN P xf n) := by
  intro n
  induction n with
  | zero => exact ⟨(fun f args r h => by cases h), (fun kb f args η r η' h => by cases h), (fun f args r h => by cases h)⟩
  | succ n ih =>
    refine ⟨fun f args r h => ?_, fun kb f args η r η' h => ?_, fun f args r h => ?_⟩
    · have h' : execP1 P xf fuel (execF P xf fr fuel n) f args = some r := h
      unfold execP1 at h'
      split at h' <;> try (cases h'; done)
      rename_i fn hfn
      split at h' <;> try (cases h'; done)
      rename_i o c hoc
      split at h' <;> try (cases h'; done)
      rename_i rs ho hrs
      exact .inr ⟨fn, o, c, rs, 20, hfn, execC_ok ih _ _ _ _ _ hoc, retB_ok ho, hrs, h'⟩
    · have h' : execQ1 P xf fuel (execF P xf fr fuel n) kb f args η = some (r, η') := h
      unfold execQ1 at h'
      split at h' <;> try (cases h'; done)
      rename_i fn hfn
      split at h' <;> try (cases h'; done)
      rename_i o c hoc
      split at h' <;> try (cases h'; done)
      rename_i rs ho hrs
      injection h' with h'; injection h' with e1 e2; subst e1; subst e2
      exact .inr ⟨fn, o, c, rs, hfn, execC_ok ih _ _ _ _ _ hoc, retB_ok ho, hrs, rfl, rfl⟩
    · have h' : execN1 P xf fuel (execF P xf fr fuel n) f args = some r := h
      unfold execN1 at h'
      split at h' <;> try (cases h'; done)
      rename_i fn hfn
      split at h' <;> try (cases h'; done)
      rename_i o c hoc
      split at h' <;> try (cases h'; done)
      rename_i rs ho hrs
      exact .inr ⟨fn, o, c, rs, hfn, execC_ok ih _ _ _ _ _ hoc, retB_ok ho, hrs, h'⟩
/-- **what is computed is a run** -/
theorem Runs.exec {f : Nat} {args : List AV} {r : AV} (n : Nat) (h : (execF P xf fr fuel n).p f args = some r) : Runs P xf f args r := ⟨n, (execF_ok n).p f args r h⟩
end
end Go.Proofs.Eng
