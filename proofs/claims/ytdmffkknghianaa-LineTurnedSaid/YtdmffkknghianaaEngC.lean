/-
  Operations in short, and what they do to plain data.
-/
import Derived.Test.YtdmffkknghianaaEngB
import Derived.Orders
import Derived.Laws.BytesArg
import Derived.Laws.CopyRow
import Derived.Laws.Externs
set_option linter.unusedSimpArgs false
set_option linter.unusedVariables false
namespace Go.Proofs.Eng
open Go Go.RowKit

inductive XArg where
  | t (n : Nat)
  | c (x : AV)
  deriving Inhabited
def evalA (σ : List AV) : XArg → AV
  | .t n => σ.getD n .any
  | .c x => x

inductive XOp where
  | mv (x : XArg)
  | pick (c a b : XArg)
  | bin (op : BinOp) (x y : XArg)
  | un (op : UnOp) (x : XArg)
  | raw (o : Op) (ty : Nat)
  | load (s : Nat) (agg : Bool) (p : XArg)
  | store (s : Nat) (p x : XArg)
  | fadr (off s : Nat) (agg : Bool) (p : XArg)
  | fld (off s : Nat) (agg : Bool) (x : XArg)
  | iadr (s : Nat) (x i : XArg)
  | aadr (n s : Nat) (agg : Bool) (p i : XArg)
  | idx (n s : Nat) (agg : Bool) (x i : XArg)
  | slc (s : Nat) (x : XArg) (lo hi mx : Option XArg)
  | box (e s : Nat) (own : Bool) (x : XArg)
  | bld (zero : List Value) (parts : List (Nat × Nat × XArg))
  | bldS (e s : Nat) (own : Bool) (parts : List XArg)
  | mki (t : Nat) (x : XArg)
  | tas (t : Nat) (ok : Bool) (zero : AV) (x : XArg)
  | ext (x : XArg) (i : Nat)
  | mks (e s : Nat) (own : Bool) (bytes : Nat) (zero : Value) (n c : XArg)
  | app (e s bytes : Nat) (x y : XArg)
  | len (x : XArg)
  | lenS (x : XArg)
  | capS (x : XArg)
  | isnil (neg : Bool) (x : XArg)
  | appz (e s bytes : Nat) (zero : Value) (x n : XArg)
  | slcA (n s : Nat) (agg : Bool) (p : XArg) (lo hi : Option XArg)
  | call (own : Bool) (f : Nat) (args : List XArg)
  | nilc (x : XArg)
  | callv (x : XArg) (args : List XArg)
  | inv (x : XArg) (name : String) (args : List XArg)
  | mkf (f : Nat) (caps : List XArg)
  | mkb (f : Nat) (fs : List XArg)
  | mkm
  | lkp (kt : Nat) (ok : Bool) (zero : AV) (m k : XArg)
  | mup (kt : Nat) (m k v : XArg)
  | del (kt : Nat) (m k : XArg)
  | lenM (m : XArg)
  | rgs (x : XArg)
  | nxs (i : XArg)
  | cpy (x y : XArg)
  | b2s (x : XArg)
  | xt (n : Nat) (xs : List XArg)
  | bad
  deriving Inhabited

inductive Res where
  | val (x : AV)
  | upd (x : AV) (k : Nat) (r : Nat × Option Ob)
  | call (f : Nat) (args : List AV)

/-- the value of a computation that only computes -/
def pureRun (P : Program) {α : Type} : Sem α → Option α
  | .pure a => some a
  | .program k => pureRun P (k P)
  | _ => none
theorem pureRun_sound (P : Program) {α : Type} (w : World) : ∀ (s : Sem α) (a : α), pureRun P s = some a → s.run P w = .ok a w
  | .pure a, b, h => by simp only [pureRun, Option.some.injEq] at h; subst h; rfl
  | .program k, b, h => by simp only [pureRun] at h; exact pureRun_sound P w (k P) b h
  | .load .., _, h => by simp [pureRun] at h
  | .store .., _, h => by simp [pureRun] at h
  | .new .., _, h => by simp [pureRun] at h
  | .shape .., _, h => by simp [pureRun] at h
  | .freeze .., _, h => by simp [pureRun] at h
  | .frozen .., _, h => by simp [pureRun] at h
  | .getObj .., _, h => by simp [pureRun] at h
  | .setObj .., _, h => by simp [pureRun] at h
  | .choose .., _, h => by simp [pureRun] at h
  | .sys .., _, h => by simp [pureRun] at h
  | .mark .., _, h => by simp [pureRun] at h
  | .halt .., _, h => by simp [pureRun] at h

def toCell : AV → Option Value
  | .v x => some x
  | _ => none
def toVal : AV → Option Value
  | .v x => some x
  | .ag cs => (cs.mapM toCell).map fun l => .agg l.toArray
  | _ => none
def ofVal : Value → AV
  | .agg cs => if cs.toList.all (·.oneCell') then .ag (cs.toList.map .v) else .any
  | x => .v x
/-- its value is just as many cells as it says -/
def solid : AV → Bool
  | .any | .tup _ => false
  | .v x => x.oneCell'
  | _ => true

def argT : Operand → Option XArg
  | .tmp t => some (.t t)
  | .const v => some (.c (ofVal v))
  | .func f => some (.c (.fn f []))
  | .global g => match tabAt g with | some x => some (.c x) | none => none
def isAggD : TypeDesc → Bool
  | .struct _ | .array _ _ => true
  | _ => false
/-- cells an element, and whether it is a struct or an array -/
def sizeO (P : Program) (t : TypeId) : Option (Nat × Bool) :=
  match P.info? t, P.underlying t with
  | some i, some d => if 0 < i.size ∧ (isAggD d = true ∨ i.size = 1) then some (i.size, isAggD d) else none
  | _, _ => none
def binI (op : BinOp) (k : IntKind) (a b : Int) : Option Value :=
  match op with
  | .add => some (.int k (k.wrap (a + b)))
  | .sub => some (.int k (k.wrap (a - b)))
  | .mul => some (.int k (k.wrap (a * b)))
  | .quo => if b = 0 then none else some (.int k (k.wrap (a.tdiv b)))
  | .rem => if b = 0 then none else some (.int k (a.tmod b))
  | .and => some (.int k (k.wrap (BitVec.ofInt k.bits a &&& BitVec.ofInt k.bits b).toNat))
  | .or => some (.int k (k.wrap (BitVec.ofInt k.bits a ||| BitVec.ofInt k.bits b).toNat))
  | .xor => some (.int k (k.wrap (BitVec.ofInt k.bits a ^^^ BitVec.ofInt k.bits b).toNat))
  | .andNot => some (.int k (k.wrap (BitVec.ofInt k.bits a &&& ~~~(BitVec.ofInt k.bits b)).toNat))
  | .eql => some (.bool (a == b))
  | .neq => some (.bool (a != b))
  | .lss => some (.bool (a < b))
  | .leq => some (.bool (a ≤ b))
  | .gtr => some (.bool (a > b))
  | .geq => some (.bool (a ≥ b))
  | _ => none
def binS (op : BinOp) (a b : ByteArray) : Option Value :=
  match op with
  | .add => if ((a.size + b.size : Nat) : Int) > IntKind.i64.max then none else some (.string (a ++ b))
  | .eql => some (.bool (a.toList == b.toList))
  | .neq => some (.bool !(a.toList == b.toList))
  | .lss => some (.bool (Op.bytesLess a.toList b.toList))
  | .leq => some (.bool (Op.bytesLess a.toList b.toList || a.toList == b.toList))
  | .gtr => some (.bool !(Op.bytesLess a.toList b.toList || a.toList == b.toList))
  | .geq => some (.bool !(Op.bytesLess a.toList b.toList))
  | _ => none
def binV (op : BinOp) (x y : Value) : Option Value :=
  match x, y with
  | .int k a, .int k' b =>
    match op with
    | .shl => if b < 0 then none else some (.int k (k.wrap (a * 2 ^ min b.toNat k.bits)))
    | .shr => if b < 0 then none else some (.int k (a.fdiv (2 ^ min b.toNat k.bits)))
    | op => if k = k' then binI op k a b else none
  | .string a, .string b => binS op a b
  | _, _ => none
def unV (op : UnOp) (x : Value) : Option Value :=
  match op, x with
  | .neg, .int k n => some (.int k (k.wrap (0 - n)))
  | .not, .bool b => some (.bool !b)
  | _, _ => none

/-- a part of some cells -/
def part (agg : Bool) (s : Nat) (cs : List AV) (off : Nat) : Option AV :=
  match agg with
  | true => if off + s ≤ cs.length then some (.ag ((cs.drop off).take s)) else none
  | false => cs[off]?
def splice (cs : List AV) (off : Nat) (ys : List AV) : List AV := cs.take off ++ ys ++ cs.drop (off + ys.length)
def fillA (σ : List AV) : List AV → List (Nat × Nat × XArg) → Option (List AV)
  | cs, [] => some cs
  | cs, (off, s, x) :: rest => if width (evalA σ x) = s ∧ off + s ≤ cs.length ∧ solid (evalA σ x) = true then fillA σ (splice cs off (cellsOf (evalA σ x))) rest else none
def asInt : AV → Option Int
  | .v (.int _ z) => some z
  | _ => none
def asBound (σ : List AV) (x : Option XArg) (d : Nat) : Option Nat :=
  match x with
  | none => some d
  | some x => match asInt (evalA σ x) with | some z => if 0 ≤ z then some z.toNat else none | none => none
/-- the elements of a slice whose elements are known -/
def elems (η : List (Nat × (Nat × Option Ob))) (s : Nat) : AV → Option (List AV)
  | .v (.slice none 0 0) => some []
  | .sl s' _ xs => if s' = s then some xs else none
  | .os k g ver s' lo n => match look η k with
    | (g', some ob) => if g' = g ∧ ob.xs.length = ver ∧ s' = s ∧ ob.s = s ∧ lo + n ≤ ver then some ((ob.xs.drop lo).take n) else none
    | _ => none
  | _ => none

/-- cells, in parts -/
def chunkA (agg : Bool) (s : Nat) (cs : List AV) (n : Nat) : Option (List AV) := (List.range n).mapM fun i => part agg s cs (i * s)
/-- nothing lies behind the slice that is cut -/
def fullOf (mx : Option XArg) (f : Bool) (m h n : Nat) : Bool := match mx with | some _ => m == h | none => f && h == n

/-- the function that a value of this type has under this name, and its receiver -/
def followA (P : Program) : List FieldStep → Nat → AV → Option (Nat × AV)
  | [], t, x => some (t, x)
  | s :: rest, _, x => match s.deref, P.underlying s.struct, x with
    | false, some (.struct fields), .ag cs => match fields[s.index]? with
      | some f => match sizeO P f.type with
        | some (sz, agg) => match part agg sz cs f.offset with | some y => followA P rest f.type y | none => none
        | none => none
      | none => none
    | _, _, _ => none
def isPtr : TypeDesc → Bool
  | .pointer _ => true
  | _ => false
def methA (P : Program) (t : Nat) (x : AV) (name : String) : Option (Nat × AV) :=
  match P.info? t with
  | some i => match i.methods.find? (·.name == name) with
    | some m => match followA P m.path.toList t x, m.func with
      | some (xt, y), some (f, pr) => match P.underlying xt with
        | some d => if isPtr d = pr then some (f, y) else none
        | none => none
      | _, _ => none
    | none => none
  | none => none
def callable (P : Program) (f : Nat) : Bool :=
  match P.funcs[f]? with
  | some fn => !(fn.name == "runtime.NumGoroutine") && !fn.body.isNone
  | none => false
/-- functions without a body that are known -/
def extOf (fn : Func) : Option Nat :=
  if fn.origin == "" ∧ fn.body.isNone = true ∧ (fn.name == "runtime.NumGoroutine") = false then
    if fn.name == "internal/bytealg.IndexByteString" then some 0
    else if fn.name == "internal/bytealg.abigen_runtime_cmpstring" then some 1 else none
  else none
def ext0 : List AV → Option Value
  | [.v (.string s), .v (.int .u8 z)] => some (.int .i64 (firstIdx s z.toNat.toUInt8))
  | _ => none
def ext1 : List AV → Option Value
  | [.v (.string a), .v (.string b)] => some (goInt (Extern.BytealgCompare.cmp a b))
  | _ => none
def extV (n : Nat) (ys : List AV) : Option Value :=
  match n with
  | 0 => ext0 ys
  | 1 => ext1 ys
  | _ => none
/-- one cell that is known, and no struct -/
def one : AV → Bool
  | .ag _ => false
  | _ => true
def byteOf : AV → Option Int
  | .v (.int .u8 z) => some z
  | _ => none
/-- an entry's key and value -/
def entKey : AV → Option Value
  | .tup [kx, _] => toVal kx
  | _ => none
def entVal : AV → AV
  | .tup [_, vx] => vx
  | _ => .any
def bareEnt (k : Value) : MapEntry := ⟨k, .bool false, 0⟩
/-- the place of a key among the entries, or none -/
def findA (P : Program) (kt : Nat) (kv : Value) (l : List AV) : Option (Option Nat) :=
  match l.mapM entKey with
  | some ks => match pureRun P (Instr.checkKey l.isEmpty 10000 kt kv), pureRun P (Instr.findKey kt kv (ks.map bareEnt)) with
    | some _, some r => some (r.map (·.1))
    | _, _ => none
  | none => none
def isSel : Op → Bool
  | .select .. => true
  | _ => false
def step (P : Program) (dst : Nat) (c : Cfg) : XOp → Option Res
  | .mv x => some (.val (evalA c.σ x))
  | .pick k a b => match evalA c.σ k with
    | .v (.bool true) => some (.val (evalA c.σ a))
    | .v (.bool false) => some (.val (evalA c.σ b))
    | _ => none
  | .bin op x y => match evalA c.σ x, evalA c.σ y with
    | .v a, .v b => match binV op a b with | some u => some (.val (.v u)) | none => none
    | _, _ => none
  | .un op x => match evalA c.σ x with
    | .v a => match unV op a with | some u => some (.val (.v u)) | none => none
    | _ => none
  | .raw o ty =>
    if isSel o = false ∧ o.operands.toList.all (fun x => ((argT x).bind fun xa => toVal (evalA c.σ xa)).isSome) = true then
      match pureRun P (execOp (fun x => (((argT x).bind fun xa => toVal (evalA c.σ xa))).getD (.bool false)) { dst := none, op := o, type := ty, pos := "", after := #[], guard := none }) with
      | some (.value u) => some (.val (ofVal u))
      | _ => none
    else none
  | .load s agg p => match evalA c.σ p with
    | .ptr x => match part agg s (cellsOf x) 0 with | some y => some (.val y) | none => none
    | .o k g ver i j => match look c.η k with
      | (g', some ob) => if g' = g ∧ ob.xs.length = ver then match ob.xs[i]? with
        | some y => match part agg s (cellsOf y) j with | some z => some (.val z) | none => none
        | none => none else none
      | _ => none
    | _ => none
  | .store s p x => match evalA c.σ p with
    | .o k g ver i j => match look c.η k with
      | (g', some ob) => if g' = g ∧ ob.xs.length = ver ∧ width (evalA c.σ x) = s ∧ solid (evalA c.σ x) = true then match ob.xs[i]? with
        | some (.ag cs) => if j + s ≤ cs.length then some (.upd .any k (g, some { ob with xs := ob.xs.set i (.ag (splice cs j (cellsOf (evalA c.σ x)))) })) else none
        | some _ => if j = 0 ∧ s = 1 then some (.upd .any k (g, some { ob with xs := ob.xs.set i (evalA c.σ x) })) else none
        | none => none else none
      | _ => none
    | _ => none
  | .fadr off s agg p => match evalA c.σ p with
    | .ptr x => match part agg s (cellsOf x) off with | some y => some (.val (.ptr y)) | none => none
    | .o k g ver i j => some (.val (.o k g ver i (j + off)))
    | _ => none
  | .fld off s agg x => match evalA c.σ x with
    | .ag cs => match part agg s cs off with | some y => some (.val y) | none => none
    | _ => none
  | .iadr s x i => match asInt (evalA c.σ i), evalA c.σ x with
    | some z, .sl s' _ xs => if s' = s ∧ 0 ≤ z then match xs[z.toNat]? with | some y => some (.val (.ptr y)) | none => none else none
    | some z, .os k g ver s' lo n => if s' = s ∧ 0 ≤ z ∧ z < n then some (.val (.o k g ver (lo + z.toNat) 0)) else none
    | _, _ => none
  | .aadr n s agg p i => match asInt (evalA c.σ i), evalA c.σ p with
    | some z, .ptr x => if 0 ≤ z ∧ z < n then match part agg s (cellsOf x) (z.toNat * s) with | some y => some (.val (.ptr y)) | none => none else none
    | some z, .o k g ver a j => if 0 ≤ z ∧ z < n then some (.val (.o k g ver a (j + z.toNat * s))) else none
    | _, _ => none
  | .idx n s agg x i => match asInt (evalA c.σ i), evalA c.σ x with
    | some z, .ag cs => if 0 ≤ z ∧ z < n then match part agg s cs (z.toNat * s) with | some y => some (.val y) | none => none else none
    | _, _ => none
  | .slc s x lo hi mx => match evalA c.σ x with
    | .sl s' f xs => match asBound c.σ lo 0, asBound c.σ hi xs.length, asBound c.σ mx xs.length with
      | some l, some h, some m => if s' = s ∧ l ≤ h ∧ h ≤ m ∧ m ≤ xs.length ∧ (mx.isSome = true → hi.isSome = true) then
          some (.val (.sl s (fullOf mx f m h xs.length) ((xs.take h).drop l))) else none
      | _, _, _ => none
    | .os k g ver s' a n => match asBound c.σ lo 0, asBound c.σ hi n, mx with
      | some l, some h, none => if s' = s ∧ l ≤ h ∧ h ≤ n then some (.val (.os k g ver s (a + l) (h - l))) else none
      | _, _, _ => none
    | .v (.slice none 0 0) => match asBound c.σ lo 0, asBound c.σ hi 0, asBound c.σ mx 0 with
      | some 0, some 0, some 0 => if mx.isSome = true → hi.isSome = true then some (.val (.v (.slice none 0 0))) else none
      | _, _, _ => none
    | _ => none
  | .box e s own x => if width (evalA c.σ x) = s ∧ solid (evalA c.σ x) = true then
      match own with
      | true => some (.upd (.o dst ((look c.η dst).1 + 1) 1 0 0) dst ((look c.η dst).1 + 1, some ⟨e, s, [evalA c.σ x]⟩))
      | false => some (.val (.ptr (evalA c.σ x)))
    else none
  | .bld zero parts => match fillA c.σ (zero.map .v) parts with | some cs => some (.val (.ag cs)) | none => none
  | .bldS e s own parts => if parts.all (fun x => width (evalA c.σ x) == s && solid (evalA c.σ x)) then
      match own with
      | true => some (.upd (.os dst ((look c.η dst).1 + 1) parts.length s 0 parts.length) dst ((look c.η dst).1 + 1, some ⟨e, s, parts.map (evalA c.σ)⟩))
      | false => some (.val (.sl s true (parts.map (evalA c.σ))))
    else none
  | .mki t x => if solid (evalA c.σ x) = true then some (.val (.ifc t (evalA c.σ x))) else none
  | .tas t ok zero x => match evalA c.σ x with
    | .ifc t' y => if t' = t then some (.val (if ok then .tup [y, .v (.bool true)] else y)) else if ok then some (.val (.tup [zero, .v (.bool false)])) else none
    | .v .nilIface => if ok then some (.val (.tup [zero, .v (.bool false)])) else none
    | _ => none
  | .ext x i => match evalA c.σ x with
    | .tup xs => match xs[i]? with | some y => some (.val y) | none => none
    | _ => none
  | .mks e s own bytes zero n cp => match asInt (evalA c.σ n), asInt (evalA c.σ cp) with
    | some a, some b => if 0 ≤ a ∧ a ≤ b ∧ b * bytes ≤ 1000000000000 ∧ b ≤ 1000000000000 then
        match own with
        | true => some (.upd (.os dst ((look c.η dst).1 + 1) a.toNat s 0 a.toNat) dst ((look c.η dst).1 + 1, some ⟨e, s, List.replicate a.toNat (ofVal zero)⟩))
        | false => some (.val (.sl s (decide (a = b)) (List.replicate a.toNat (ofVal zero))))
      else none
    | _, _ => none
  | .app e s bytes x y => match elems c.η s (evalA c.σ y) with
    | some ys => match evalA c.σ x with
      | .os k g ver s' 0 n => match look c.η k with
        | (g', some ob) => if g' = g ∧ ob.xs.length = ver ∧ n = ver ∧ s' = s ∧ ob.s = s ∧ ob.e = e ∧ (n + ys.length) * bytes ≤ 100000000000000 ∧ n + ys.length ≤ 100000000000000 then
            some (.upd (.os k g (n + ys.length) s 0 (n + ys.length)) k (g, some { ob with xs := ob.xs ++ ys }))
          else if g' = g ∧ ob.xs.length = ver ∧ n + ys.length ≤ ver ∧ s' = s ∧ ob.s = s ∧ ob.e = e then
            some (.upd (.os k g ver s 0 (n + ys.length)) k (g, some { ob with xs := ob.xs.take n ++ ys ++ ob.xs.drop (n + ys.length) })) else none
        | _ => none
      | .sl s' true xs => if s' = s ∧ ys ≠ [] ∧ (xs.length + ys.length) * bytes ≤ 100000000000000 ∧ xs.length + ys.length ≤ 100000000000000 then
          some (.upd (.os dst ((look c.η dst).1 + 1) (xs.length + ys.length) s 0 (xs.length + ys.length)) dst ((look c.η dst).1 + 1, some ⟨e, s, xs ++ ys⟩)) else if s' = s ∧ ys = [] then some (.val (.sl s' true xs)) else none
      | .v (.slice none 0 0) => if ys = [] then some (.val (.v (.slice none 0 0))) else if ys.length * bytes ≤ 100000000000000 ∧ ys.length ≤ 100000000000000 then
          some (.upd (.os dst ((look c.η dst).1 + 1) ys.length s 0 ys.length) dst ((look c.η dst).1 + 1, some ⟨e, s, ys⟩)) else none
      | _ => none
    | none => none
  | .len x => match evalA c.σ x with
    | .sl _ _ xs => some (.val (.v (.int .i64 xs.length)))
    | .os _ _ _ _ _ n => some (.val (.v (.int .i64 n)))
    | .v (.slice none 0 0) => some (.val (.v (.int .i64 0)))
    | _ => none
  | .isnil neg x => match evalA c.σ x with
    | .sl _ _ _ => some (.val (.v (.bool neg)))
    | .os _ _ _ _ _ _ => some (.val (.v (.bool neg)))
    | .v (.slice none 0 0) => some (.val (.v (.bool !neg)))
    | _ => none
  | .appz e s bytes zero x n => match evalA c.σ x, asInt (evalA c.σ n) with
    | .v (.slice none 0 0), some z => if 0 < z ∧ z * bytes ≤ 1000000000000 ∧ z ≤ 1000000000000 then
        some (.upd (.os dst ((look c.η dst).1 + 1) z.toNat s 0 z.toNat) dst ((look c.η dst).1 + 1, some ⟨e, s, List.replicate z.toNat (ofVal zero)⟩)) else none
    | _, _ => none
  | .capS x => match evalA c.σ x with
    | .sl _ true xs => some (.val (.v (.int .i64 xs.length)))
    | .v (.slice none 0 0) => some (.val (.v (.int .i64 0)))
    | _ => none
  | .slcA n s agg p lo hi => match asBound c.σ lo 0, asBound c.σ hi n, evalA c.σ p with
    | some l, some h, .ptr x => if l ≤ h ∧ h ≤ n ∧ (cellsOf x).length = n * s ∧ n ≤ 1000000 then match chunkA agg s (cellsOf x) n with
        | some xs => some (.val (.sl s (h == n) ((xs.take h).drop l)))
        | none => none else none
    | some l, some h, .o k g ver 0 0 => match look c.η k with
      | (g', some ob) => match ob.xs with
        | [y] => if g' = g ∧ ver = 1 ∧ l ≤ h ∧ h ≤ n ∧ (cellsOf y).length = n * s ∧ n ≤ 1000000 then match chunkA agg s (cellsOf y) n with
          | some xs => some (.upd (.sl s (h == n) ((xs.take h).drop l)) k (g, none))
          | none => none else none
        | _ => none
      | _ => none
    | _, _, _ => none
  | .lenS x => match evalA c.σ x with
    | .v (.string s) => some (.val (.v (.int .i64 s.size)))
    | _ => none
  | .call _ f args => some (.call f (args.map (evalA c.σ)))
  | .nilc x => match evalA c.σ x with
    | .ptr y => some (.val (.ptr y))
    | .o k g ver i j => some (.val (.o k g ver i j))
    | .fn f cs => some (.val (.fn f cs))
    | .bm f cs => some (.val (.bm f cs))
    | _ => none
  | .callv x args => match evalA c.σ x with
    | .fn f caps => if callable P f = true then some (.call f (args.map (evalA c.σ) ++ caps)) else none
    | .bm f fs => if callable P f = true then some (.call f (fs ++ args.map (evalA c.σ))) else none
    | _ => none
  | .inv x name args => match evalA c.σ x with
    | .ifc t y => match methA P t y name with
      | some (f, z) => if callable P f = true then some (.call f (z :: args.map (evalA c.σ))) else none
      | none => none
    | _ => none
  | .mkf f caps => some (.val (.fn f (caps.map (evalA c.σ))))
  | .mkb f fs => some (.val (.bm f (fs.map (evalA c.σ))))
  | .mkm => some (.upd (.mp dst ((look c.η dst).1 + 1)) dst ((look c.η dst).1 + 1, some ⟨0, 0, [.any]⟩))
  | .lkp kt ok zero m k => match evalA c.σ m, toVal (evalA c.σ k) with
    | .mp kk g, some kv => match look c.η kk with
      | (g', some ob) => if g' = g ∧ ob.s = 0 ∧ ob.e = 0 then match findA P kt kv ob.xs.tail with
        | some (some i) => match ob.xs.tail[i]? with
          | some x => some (.val (if ok then .tup [entVal x, .v (.bool true)] else entVal x))
          | none => none
        | some none => some (.val (if ok then .tup [zero, .v (.bool false)] else zero))
        | none => none else none
      | _ => none
    | .v (.map none), some kv => match pureRun P (Instr.checkKey true 10000 kt kv), pureRun P (Instr.findKey kt kv []) with
      | some _, some none => some (.val (if ok then .tup [zero, .v (.bool false)] else zero))
      | _, _ => none
    | _, _ => none
  | .mup kt m k v => match evalA c.σ m, toVal (evalA c.σ k) with
    | .mp kk g, some kv => match look c.η kk with
      | (g', some ob) => if g' = g ∧ ob.s = 0 ∧ ob.e = 0 then match pureRun P (Instr.checkKey false 10000 kt kv), findA P kt kv ob.xs.tail with
        | some _, some (some i) => match (ob.xs.tail[i]?).bind entKey with
          | some old => if Instr.sameBits 10000 old kv = true then some (.upd .any kk (g, some { ob with xs := .any :: ob.xs.tail.set i (.tup [evalA c.σ k, evalA c.σ v]) })) else none
          | none => none
        | some _, some none => some (.upd .any kk (g, some { ob with xs := .any :: (ob.xs.tail ++ [.tup [evalA c.σ k, evalA c.σ v]]) }))
        | _, _ => none else none
      | _ => none
    | _, _ => none
  | .del kt m k => match evalA c.σ m, toVal (evalA c.σ k) with
    | .mp kk g, some kv => match look c.η kk with
      | (g', some ob) => if g' = g ∧ ob.s = 0 ∧ ob.e = 0 then match findA P kt kv ob.xs.tail with
        | some (some i) => some (.upd (.tup []) kk (g, some { ob with xs := .any :: ob.xs.tail.eraseIdx i }))
        | some none => some (.upd (.tup []) kk (g, some { ob with xs := .any :: ob.xs.tail }))
        | none => none else none
      | _ => none
    | _, _ => none
  | .lenM m => match evalA c.σ m with
    | .mp kk g => match look c.η kk with
      | (g', some ob) => if g' = g ∧ ob.s = 0 ∧ ob.e = 0 then some (.val (.v (.int .i64 ob.xs.tail.length))) else none
      | _ => none
    | .v (.map none) => some (.val (.v (.int .i64 0)))
    | _ => none
  | .rgs x => match evalA c.σ x with
    | .v (.string s) => some (.upd (.it dst ((look c.η dst).1 + 1)) dst ((look c.η dst).1 + 1, some ⟨1, 0, [.any, .v (.string s), .v (.int .i64 0)]⟩))
    | _ => none
  | .nxs i => match evalA c.σ i with
    | .it kk g => match look c.η kk with
      | (g', some ob) => if g' = g ∧ ob.s = 0 ∧ ob.e = 1 then match ob.xs with
        | [_, .v (.string s), .v (.int _ p)] => if p < s.size then
            some (.upd (.tup [.v (.bool true), .v (.int .i64 p), .v (.int .i32 (Utf8.decode s p.toNat).1)]) kk (g, some { ob with xs := [.any, .v (.string s), .v (.int .i64 (p.toNat + (Utf8.decode s p.toNat).2 : Nat))] }))
          else some (.val (.tup [.v (.bool false)]))
        | _ => none else none
      | _ => none
    | _ => none
  | .cpy x y => match elems c.η 1 (evalA c.σ y) with
    | some ys => match evalA c.σ x with
      | .os k g ver s lo n => match look c.η k with
        | (g', some ob) => if g' = g ∧ ob.xs.length = ver ∧ s = 1 ∧ ob.s = 1 ∧ lo + n ≤ ver ∧ 0 < n ∧ ys ≠ [] ∧ ys.all one = true then
            some (.upd (.v (.int .i64 (min ys.length n : Nat))) k (g, some { ob with xs := splice ob.xs lo (ys.take (min ys.length n)) })) else none
        | _ => none
      | _ => none
    | none => none
  | .b2s x => match elems c.η 1 (evalA c.σ x) with
    | some ys => match ys.mapM byteOf with
      | some zs => if ys = [] then none else some (.val (.v (.string (strOfNums zs))))
      | none => none
    | none => none
  | .xt n xs => match extV n (xs.map (evalA c.σ)) with
    | some u => some (.val (.v u))
    | none => none
  | .bad => none
end Go.Proofs.Eng
