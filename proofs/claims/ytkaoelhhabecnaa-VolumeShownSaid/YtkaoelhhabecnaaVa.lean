/-
  The greater and the lesser of two numbers; lists of numbers and of pairs.
-/
import Derived.Test.YtkaoelhhabecnaaXV
import Derived.Test.YtkaoelhhabecnaaEngT
import Derived.WalkKit
set_option linter.unusedSimpArgs false
set_option linter.unusedVariables false
namespace Go.Proofs.Ytkaoelhhabecnaa
open Go Go.Proofs.Eng
set_option maxRecDepth 100000
set_option maxHeartbeats 1000000
theorem d00 : decide ((0 : Int) < 0) = false := rfl
theorem tmod_b {a n : Int} (h : 0 ≤ a) (hn : 0 < n) : 0 ≤ a.tmod n ∧ a.tmod n < n := by
  rw [Int.tmod_eq_emod_of_nonneg h]
  exact ⟨Int.emod_nonneg _ (by omega), Int.emod_lt_of_pos _ hn⟩
def nilA : AV := .v (.slice none 0 0)
def isL (x : AV) (l : List Int) : Prop := (∃ f, x = al f l) ∨ (x = nilA ∧ l = [])
theorem noRef_al (full : Bool) (l : List Int) : noRef (al full l) = true := noRefs_of fun x hx => by obtain ⟨z, _, rfl⟩ := List.mem_map.1 hx; rfl
theorem isL.ref {x : AV} {l : List Int} (h : isL x l) : noRef x = true := by
  rcases h with ⟨f, rfl⟩ | ⟨rfl, _⟩
  · exact noRef_al f l
  · rfl
theorem pureRun_bind (P : Program) {α β : Type} (s : Sem α) (f : α → Sem β) : pureRun P (s >>= f) = (pureRun P s).bind fun a => pureRun P (f a) := by
  show pureRun P (Sem.bind s f) = _
  induction s with
  | pure a => rfl
  | program k ih => exact ih P
  | _ => rfl
theorem pureRun_pure (P : Program) {α : Type} (a : α) : pureRun P (pure a : Sem α) = some a := rfl
theorem pureRun_program (P : Program) : pureRun P program = some P := rfl
theorem und1 : pureRun Try.prog (underlying 3) = some (.int .i64) := by kernel_rfl
def opA (σ : List AV) (x : Operand) : AV := (argT x).elim .any (evalA σ)
theorem toVal_op {σ : List AV} {x : Operand} {k : IntKind} {a : Int} (hi : opA σ x = .v (.int k a)) : ((argT x).bind fun xa => toVal (evalF σ xa)) = some (.int k a) := by
  unfold opA at hi
  cases h : argT x with
  | none => rw [h] at hi; cases hi
  | some xa =>
    rw [h] at hi
    simp only [Option.elim] at hi
    rw [Option.bind_some, evalF_eq, hi]; rfl
/-- two numbers are looked at; if there are none, whatever else -/
def rawK (x y : AV) (op : Int → Int → Int) (fb : Option Res) : Option Res :=
  match x, y with
  | .v (.int .i64 a), .v (.int .i64 b) => some (.val (.v (.int .i64 (op a b))))
  | _, _ => fb
def rawX (P : Program) (dst : Nat) (c : Cfg) (o : Op) (ty : Nat) : Option Res := stF_raw P dst c o ty
def mx2 (a b : Int) : Int := if b > a then b else a
def mn2 (a b : Int) : Int := if b < a then b else a
theorem raw_max (dst : Nat) (c : Cfg) (x y : Operand) (ts : Array TypeId) (ty : TypeId) :
    stF_raw Try.prog dst c (.call ⟨.builtin .max, #[x, y], ts⟩) ty = rawK (opA c.σ x) (opA c.σ y) mx2 (rawX Try.prog dst c (.call ⟨.builtin .max, #[x, y], ts⟩) ty) := by
  unfold rawK
  split
  · rename_i a b hi hj
    have e1 := toVal_op hi
    have e2 := toVal_op hj
    unfold stF_raw
    rw [if_pos ⟨rfl, by simp [Op.operands, Call.operands, e1, e2]⟩]
    have h3 : pureRun Try.prog (execOp (fun x => ((argT x).bind fun xa => toVal (evalF c.σ xa)).getD (.bool false)) { dst := none, op := .call ⟨.builtin .max, #[x, y], ts⟩, type := ty, pos := "", after := #[], guard := none }) = some (.value (.int .i64 (mx2 a b))) := by
      simp only [execOp, resolve, invoke, pureRun_bind, pureRun_pure, Option.bind_some, List.map_toArray, List.map_cons, List.map_nil, e1, e2, Option.getD_some]
      show pureRun Try.prog (do pure (.value (← Builtin.max_ ts ty #[.int .i64 a, .int .i64 b])) : Sem Next) = _
      rw [pureRun_bind]
      have h4 : pureRun Try.prog (Builtin.max_ ts ty #[.int .i64 a, .int .i64 b]) = some (.int .i64 (mx2 a b)) := by
        simp [Builtin.max_, Builtin.max2, pureRun_bind, pureRun_pure, mx2]
      rw [h4]; rfl
    rw [h3]; rfl
  · rfl
theorem raw_min (dst : Nat) (c : Cfg) (x y : Operand) (ts : Array TypeId) (ty : TypeId) :
    stF_raw Try.prog dst c (.call ⟨.builtin .min, #[x, y], ts⟩) ty = rawK (opA c.σ x) (opA c.σ y) mn2 (rawX Try.prog dst c (.call ⟨.builtin .min, #[x, y], ts⟩) ty) := by
  unfold rawK
  split
  · rename_i a b hi hj
    have e1 := toVal_op hi
    have e2 := toVal_op hj
    unfold stF_raw
    rw [if_pos ⟨rfl, by simp [Op.operands, Call.operands, e1, e2]⟩]
    have h3 : pureRun Try.prog (execOp (fun x => ((argT x).bind fun xa => toVal (evalF c.σ xa)).getD (.bool false)) { dst := none, op := .call ⟨.builtin .min, #[x, y], ts⟩, type := ty, pos := "", after := #[], guard := none }) = some (.value (.int .i64 (mn2 a b))) := by
      simp only [execOp, resolve, invoke, pureRun_bind, pureRun_pure, Option.bind_some, List.map_toArray, List.map_cons, List.map_nil, e1, e2, Option.getD_some]
      show pureRun Try.prog (do pure (.value (← Builtin.min_ ts ty #[.int .i64 a, .int .i64 b])) : Sem Next) = _
      rw [pureRun_bind]
      have h4 : pureRun Try.prog (Builtin.min_ ts ty #[.int .i64 a, .int .i64 b]) = some (.int .i64 (mn2 a b)) := by
        simp [Builtin.min_, Builtin.min2, pureRun_bind, pureRun_pure, mn2]
      rw [h4]; rfl
    rw [h3]; rfl
  · rfl
theorem reify_os {α : Type} {η : List (Nat × (Nat × Option Ob))} {n k g e s : Nat} {f : α → AV} {l : List α} (hf : ∀ a, elemR (reify η n) (f a) = some (f a)) (hk : Go.Proofs.Eng.look η k = (g, some ⟨e, s, l.map f⟩)) :
    reify η (n + 1) (.os k g l.length s 0 l.length) = some (.sl s false (l.map f)) := by
  have hm : ∀ l : List α, (l.map f).mapM (elemR (reify η n)) = some (l.map f) := fun l => by
    induction l with
    | nil => rfl
    | cons a l ih => rw [List.map_cons, List.mapM_cons, hf, ih]; rfl
  simp only [reify, hk]
  rw [if_pos (by simp), List.drop_zero, List.take_of_length_le (by simp), hm]
  rfl
theorem elem_ai (η : List (Nat × (Nat × Option Ob))) (n : Nat) (z : Int) : elemR (reify η (n + 1)) (ai z) = some (ai z) := rfl
theorem reify_ints {η : List (Nat × (Nat × Option Ob))} {k g e : Nat} {l : List Int} (hk : Go.Proofs.Eng.look η k = (g, some ⟨e, 1, l.map ai⟩)) : reify η 20 (.os k g l.length 1 0 l.length) = some (al false l) := reify_os (elem_ai η 18) hk
/-- a pair of numbers: an article -/
def shA (p : Int × Int) : AV := .ag [ai p.1, ai p.2]
def aS (f : Bool) (l : List (Int × Int)) : AV := .sl 2 f (l.map shA)
theorem elem_sh (η : List (Nat × (Nat × Option Ob))) (n : Nat) (p : Int × Int) : elemR (reify η (n + 1)) (shA p) = some (shA p) := rfl
theorem noRef_aS (f : Bool) (l : List (Int × Int)) : noRef (aS f l) = true := noRefs_of fun x hx => by obtain ⟨z, _, rfl⟩ := List.mem_map.1 hx; rfl
theorem get_sh {l : List (Int × Int)} {i : Nat} (h : i < l.length) : (l.map shA)[i]? = some (shA (l.getD i (0, 0))) := by
  rw [List.getElem?_map, List.getElem?_eq_getElem h, List.getD_eq_getElem?_getD, List.getElem?_eq_getElem h]; rfl
theorem reify_shs {η : List (Nat × (Nat × Option Ob))} {k g e : Nat} {l : List (Int × Int)} (hk : Go.Proofs.Eng.look η k = (g, some ⟨e, 2, l.map shA⟩)) : reify η 20 (.os k g l.length 2 0 l.length) = some (aS false l) := reify_os (elem_sh η 18) hk
theorem take_snoc {α : Type} {l : List α} {i : Nat} {d : α} (h : i < l.length) : l.take (i + 1) = l.take i ++ [l.getD i d] := by
  have e : l.getD i d = l[i] := by rw [List.getD_eq_getElem?_getD, List.getElem?_eq_getElem h]; rfl
  rw [e, ← List.take_append_getElem h]
def sumI (l : List Int) : Int := l.foldl (· + ·) 0
theorem sumI_snoc (l : List Int) (x : Int) : sumI (l ++ [x]) = sumI l + x := by simp [sumI, List.foldl_append]
theorem sumI_b {l : List Int} {b : Int} (hb : 0 ≤ b) : (∀ x, x ∈ l → 0 ≤ x ∧ x ≤ b) → 0 ≤ sumI l ∧ sumI l ≤ b * l.length := by
  intro h
  have key : ∀ (l : List Int) (a : Int), (∀ x, x ∈ l → 0 ≤ x ∧ x ≤ b) → a ≤ l.foldl (· + ·) a ∧ l.foldl (· + ·) a ≤ a + b * l.length := by
    intro l
    induction l with
    | nil => intro a _; simp
    | cons x t ih =>
      intro a hx
      obtain ⟨i1, i2⟩ := ih (a + x) fun y hy => hx y (List.mem_cons_of_mem _ hy)
      have := hx x List.mem_cons_self
      simp only [List.foldl_cons, List.length_cons]
      have e : b * ((t.length + 1 : Nat) : Int) = b * t.length + b := by rw [Int.natCast_add, Int.mul_add]; simp
      rw [e]
      omega
  have := key l 0 h
  unfold sumI; omega
theorem W_callvP {P : Program} {R : Rel} {kb : Nat} {k : List Fr} {c : Cfg} {Q : Out → Cfg → Prop} {l : Option Lv} {f d : Nat} {x : XArg} {caps : List AV} {xs : List XArg} {args : List AV} {r : AV} (hx : evalA c.σ x = .fn f caps) (hc : callable P f = true) (ha : xs.map (evalA c.σ) ++ caps = args)
    (hn : noRefs args = true) (hr : R.p f args r) (hn2 : noRef r = true) (h : W P R kb k ⟨c.σ.set d r, c.η⟩ Q) : W P R kb (.op l ⟨some d, .callv x xs, none⟩ :: k) c Q := by
  subst ha
  exact W_op (.call c (d := 0) f _ r rfl (by simp only [Go.Proofs.Eng.step, hx, hc, if_true]) hn hr hn2) (limOK_none l) h
theorem W_callvB {P : Program} {R : Rel} {kb : Nat} {k : List Fr} {c : Cfg} {Q : Out → Cfg → Prop} {l : Option Lv} {f d : Nat} {x : XArg} {fs : List AV} {xs : List XArg} {args : List AV} {r : AV} (hx : evalA c.σ x = .bm f fs) (hc : callable P f = true) (ha : fs ++ xs.map (evalA c.σ) = args)
    (hn : noRefs args = true) (hr : R.p f args r) (hn2 : noRef r = true) (h : W P R kb k ⟨c.σ.set d r, c.η⟩ Q) : W P R kb (.op l ⟨some d, .callv x xs, none⟩ :: k) c Q := by
  subst ha
  exact W_op (.call c (d := 0) f _ r rfl (by simp only [Go.Proofs.Eng.step, hx, hc, if_true]) hn hr hn2) (limOK_none l) h
theorem W_callvR {P : Program} {R : Rel} {kb : Nat} {k : List Fr} {c : Cfg} {Q : Out → Cfg → Prop} {l : Option Lv} {f kb' : Nat} {d : Option Nat} {x : XArg} {caps : List AV} {xs : List XArg} {args : List AV} {r : AV} {η' : Heap} (hx : evalA c.σ x = .fn f caps) (hc : callable P f = true) (ha : xs.map (evalA c.σ) ++ caps = args)
    (hr : R.q kb' f args c.η r η') (hl : limOK l .any = true) (h : W P R kb k ⟨setA c.σ d r, η'⟩ Q) : W P R kb (.op l ⟨d, .callv x xs, none⟩ :: k) c Q := by
  subst ha
  exact W_op (.callR c (d := 0) kb' f _ r η' rfl (by simp only [Go.Proofs.Eng.step, hx, hc, if_true]) hr) hl h
theorem noRef_shA (p : Int × Int) : noRef (shA p) = true := rfl
end Go.Proofs.Ytkaoelhhabecnaa

