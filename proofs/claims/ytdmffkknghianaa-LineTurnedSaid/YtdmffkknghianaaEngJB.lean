/-
  The operations one by one: function values, methods of interfaces, make, zero variables.
-/
import Derived.Test.YtdmffkknghianaaEngJ
import Derived.IntWalk
import Derived.Laws.Cover3
set_option linter.unusedSimpArgs false
set_option linter.unusedVariables false
namespace Go.Proofs.Eng
open Go Go.RowKit

section
variable {G : List (Value × AV)} {B : Nat} {S0 : Nat → Prop} {w0 w : World} {Γ : Gam} {c : Cfg} {a : Act} {P : Program} {d : Nat} {oi : OI} {ob : Ob}

theorem mapM_some' {α β : Type} {f : α → Option β} : ∀ {l : List α} {ys : List β}, l.mapM f = some ys → ys.length = l.length ∧ ∀ (j : Nat) (x : α) (y : β), l[j]? = some x → ys[j]? = some y → f x = some y
  | [], xs, h => by simp at h; subst h; exact ⟨rfl, fun j x y h => by simp at h⟩
  | x :: l, xs, h => by
    simp only [List.mapM_cons, Option.bind_eq_bind, Option.bind_eq_some_iff, Option.pure_def, Option.some.injEq] at h
    obtain ⟨y, hy, zs, hzs, rfl⟩ := h
    obtain ⟨h1, h2⟩ := mapM_some' hzs
    refine ⟨by simp [h1], fun j x' y' hj hk => ?_⟩
    cases j with
    | zero => simp at hj hk; rw [← hj, ← hk]; exact hy
    | succ j => exact h2 j x' y' (by simpa using hj) (by simpa using hk)
theorem args_ok (h : Holds G B S0 w0 Γ c a.tmps w) {args : List Operand} {xa : List XArg} (hx : args.mapM argT = some xa) : (args.map a.eval).length = (xa.map (evalA c.σ)).length ∧ ∀ (j : Nat) (u : Value) (x : AV), (args.map a.eval)[j]? = some u → (xa.map (evalA c.σ))[j]? = some x → AVok (Free S0 B Γ w) Γ w u x := by
  obtain ⟨h1, h2⟩ := mapM_ok hx
  refine ⟨by simp [h1], fun j u x hu hx2 => ?_⟩
  rw [List.getElem?_map] at hu hx2
  obtain ⟨y, hy, rfl⟩ := Option.map_eq_some_iff.1 hu
  obtain ⟨ya, hya, rfl⟩ := Option.map_eq_some_iff.1 hx2
  exact h.arg (h2 j y ya hy hya)
theorem append_ok {S : Nat → Prop} {us vs : List Value} {xs ys : List AV} (h1 : us.length = xs.length) (h2 : ∀ (j : Nat) (u : Value) (x : AV), us[j]? = some u → xs[j]? = some x → AVok S Γ w u x) (h4 : ∀ (j : Nat) (u : Value) (x : AV), vs[j]? = some u → ys[j]? = some x → AVok S Γ w u x) :
    ∀ (j : Nat) (u : Value) (x : AV), (us ++ vs)[j]? = some u → (xs ++ ys)[j]? = some x → AVok S Γ w u x := fun j u x hu hx => by
  rcases Nat.lt_or_ge j us.length with hj | hj
  · rw [List.getElem?_append_left hj] at hu
    rw [List.getElem?_append_left (by rw [← h1]; exact hj)] at hx
    exact h2 j u x hu hx
  · rw [List.getElem?_append_right hj] at hu
    rw [List.getElem?_append_right (by rw [← h1]; exact hj), ← h1] at hx
    exact h4 _ u x hu hx
theorem run_callFunc {f : FuncId} (hc : callable P f = true) (vs : Array Value) : (callFunc f vs).run P w = .ok (.enter f vs) w := by
  unfold callable at hc
  split at hc <;> try (cases hc; done)
  rename_i fn hf
  simp only [Bool.and_eq_true, Bool.not_eq_true'] at hc
  have hn' : ¬ fn.name = "runtime.NumGoroutine" := by simpa using hc.1
  have hb' : ¬ fn.body = none := fun e => by have := hc.2; rw [e] at this; cases this
  simp [callFunc, hf, hn', hb', run_program]

theorem do_callv (h : Holds G B S0 w0 Γ c a.tmps w) {o : Oper} {x : Operand} {args : Array Operand} {ts : Array TypeId} {xf : XArg} {xa : List XArg} (ho : o.op = .call { callee := .value x, args := args, argTypes := ts }) (hf : argT x = some xf) (hx : args.toList.mapM argT = some xa)
    {r : Res} (hs : step P d c (.callv xf xa) = some r) : Does G B S0 w0 Γ c P o a w r := by
  have h1 := h.arg hf
  simp only [step] at hs
  split at hs <;> try (cases hs; done)
  · rename_i f caps e
    rw [e] at h1
    split at hs <;> try (cases hs; done)
    rename_i hcl
    injection hs with hs; subst hs
    generalize hv : a.eval x = pv at h1
    cases h1 with | fn _ vs _ hl hu =>
    obtain ⟨h2, h3⟩ := args_ok h hx
    refine ⟨args.toList.map a.eval ++ vs, ?_, by rw [List.length_append, List.length_append, h2, hl], append_ok h2 h3 hu⟩
    have hm : ((args.toList.map a.eval) ++ vs).toArray = args.map a.eval ++ vs.toArray := by
      apply Array.ext'; simp
    simp only [execOp, ho, resolve, hv, Deferred.ofValue, Sem.run_bind, Sem.run_pure, Result.andThen_ok, invoke]
    rw [run_callFunc hcl, hm]
    simp
  · rename_i f fs e
    rw [e] at h1
    split at hs <;> try (cases hs; done)
    rename_i hcl
    injection hs with hs; subst hs
    generalize hv : a.eval x = pv at h1
    cases h1 with | bm _ vs _ hl hu =>
    obtain ⟨h2, h3⟩ := args_ok h hx
    refine ⟨vs ++ args.toList.map a.eval, ?_, by rw [List.length_append, List.length_append, h2, hl], append_ok hl hu h3⟩
    have hm : (vs ++ (args.toList.map a.eval)).toArray = vs.toArray ++ args.map a.eval := by
      apply Array.ext'; simp
    simp only [execOp, ho, resolve, hv, Deferred.ofValue, Sem.run_bind, Sem.run_pure, Result.andThen_ok, invoke]
    rw [hm, Array.append_empty, run_callFunc hcl]

theorem do_mkf (h : Holds G B S0 w0 Γ c a.tmps w) {o : Oper} {f : FuncId} {caps : Array Operand} {xa : List XArg} (ho : o.op = .makeFunc (.func f) #[] caps) (hx : caps.toList.mapM argT = some xa) {r : Res} (hs : step P d c (.mkf f xa) = some r) : Does G B S0 w0 Γ c P o a w r := by
  simp only [step, Option.some.injEq] at hs
  subst hs
  obtain ⟨h2, h3⟩ := args_ok h hx
  refine .pure (u := .func (.func f) #[] (caps.toList.map a.eval).toArray) ?_ (.fn f _ _ h2 h3)
  have hm : (caps.toList.map a.eval).toArray = caps.map a.eval := by rw [← Array.toList_map]
  rw [hm]
  simp [execOp, ho, Instr.makeFunc]

theorem do_mkb (h : Holds G B S0 w0 Γ c a.tmps w) {o : Oper} {f : FuncId} {fs : Array Operand} {xa : List XArg} (ho : o.op = .makeFunc (.func f) fs #[]) (hx : fs.toList.mapM argT = some xa) {r : Res} (hs : step P d c (.mkb f xa) = some r) : Does G B S0 w0 Γ c P o a w r := by
  simp only [step, Option.some.injEq] at hs
  subst hs
  obtain ⟨h2, h3⟩ := args_ok h hx
  refine .pure (u := .func (.func f) (fs.toList.map a.eval).toArray #[]) ?_ (.bm f _ _ h2 h3)
  have hm : (fs.toList.map a.eval).toArray = fs.map a.eval := by rw [← Array.toList_map]
  rw [hm]
  simp [execOp, ho, Instr.makeFunc]
theorem followA_ok {S : Nat → Prop} : ∀ (path : List FieldStep) (t : TypeId) (u : Value) (x : AV) (xt : TypeId) (y : AV), AVok S Γ w u x → followA P path t x = some (xt, y) → ∃ v, (follow path t (.val u)).run P w = .ok (xt, .val v) w ∧ AVok S Γ w v y
  | [], t, u, x, xt, y, hx, hf => by
    simp only [followA, Option.some.injEq, Prod.mk.injEq] at hf
    obtain ⟨rfl, rfl⟩ := hf
    exact ⟨u, rfl, hx⟩
  | s :: rest, t, u, x, xt, y, hx, hf => by
    simp only [followA] at hf
    split at hf <;> try (cases hf; done)
    rename_i fields cs hder hst
    split at hf <;> try (cases hf; done)
    rename_i fd hfd
    split at hf <;> try (cases hf; done)
    rename_i sz agg hsz
    split at hf <;> try (cases hf; done)
    rename_i z hz
    obtain ⟨i, dd, hi, hd, hsz2, hag, hs0, hs1⟩ := sizeO_ok hsz
    cases hx with | ag vs _ hl h1 hu =>
    obtain ⟨us, hul, hus, _, _, ha, hb⟩ := part_ok ⟨hl, h1, hu⟩ hz hs1
    have key : ∃ v, (Go.part fd.type vs.toArray fd.offset).run P w = .ok v w ∧ AVok S Γ w v z := by
      cases agg with
      | true =>
        refine ⟨_, ?_, ha rfl⟩
        simp only [Go.part, isAgg, Sem.run_bind, run_underlying hd, Result.andThen_ok]
        cases dd <;> simp [isAggD] at hag <;> simp [sizeOf, typeInfo, hi, hsz2, hus, List.take_drop]
      | false =>
        obtain ⟨v, h2, _, h4⟩ := hb rfl
        refine ⟨v, ?_, h4⟩
        simp only [Go.part, isAgg, Sem.run_bind, run_underlying hd, Result.andThen_ok]
        cases dd <;> simp [isAggD] at hag <;> simp [h2]
    obtain ⟨v, hr, hok⟩ := key
    obtain ⟨v2, hr2, hok2⟩ := followA_ok rest fd.type v z xt y hok hf
    refine ⟨v2, ?_, hok2⟩
    simp only [follow, Sem.run_bind, run_underlying hst, Result.andThen_ok, hfd, hder, Bool.false_eq_true, if_false, hr, hr2]

theorem methA_ok {S : Nat → Prop} {t : TypeId} {u : Value} {x z : AV} {name : String} {f : FuncId} (hx : AVok S Γ w u x) (hm : methA P t x name = some (f, z)) (n : Nat) : ∃ v, (method (n + 1) t u name).run P w = .ok (f, v) w ∧ AVok S Γ w v z := by
  unfold methA at hm
  split at hm <;> try (cases hm; done)
  rename_i i hi
  split at hm <;> try (cases hm; done)
  rename_i m hmf
  split at hm <;> try (cases hm; done)
  rename_i xt y f' pr hfo hfn
  split at hm <;> try (cases hm; done)
  rename_i dd hd
  split at hm <;> try (cases hm; done)
  rename_i hpr
  simp only [Option.some.injEq, Prod.mk.injEq] at hm
  obtain ⟨rfl, rfl⟩ := hm
  obtain ⟨v, hr, hok⟩ := followA_ok m.path.toList t u x xt y hx hfo
  refine ⟨v, ?_, hok⟩
  simp only [method, typeInfo, Sem.run_bind, run_program, Result.andThen_ok, hi, Sem.run_pure, hmf, hr, hfn]
  subst hpr
  have : ∀ wr, (receiverAt xt (.val v) (isPtr dd) wr).run P w = .ok v w := fun wr => by
    cases dd <;> simp [receiverAt, run_underlying hd, isPtr, Place.get]
  rw [this]
  rfl

theorem extract_one (x : Value) (A : Array Value) : (#[x] ++ A).extract 1 (#[x] ++ A).size = A := by
  apply Array.ext'
  rw [Array.toList_extract, List.extract_eq_take_drop]
  simp
  exact List.take_of_length_le (by simp)
theorem do_inv (h : Holds G B S0 w0 Γ c a.tmps w) {o : Oper} {x : Operand} {name : String} {args : Array Operand} {ts : Array TypeId} {xf : XArg} {xa : List XArg} (ho : o.op = .call { callee := .invoke x name, args := args, argTypes := ts }) (hf : argT x = some xf) (hx : args.toList.mapM argT = some xa)
    {r : Res} (hs : step P d c (.inv xf name xa) = some r) : Does G B S0 w0 Γ c P o a w r := by
  have h1 := h.arg hf
  simp only [step] at hs
  split at hs <;> try (cases hs; done)
  rename_i t y e
  rw [e] at h1
  split at hs <;> try (cases hs; done)
  rename_i f z hmz
  split at hs <;> try (cases hs; done)
  rename_i hcl
  injection hs with hs; subst hs
  generalize hv : a.eval x = pv at h1
  cases h1 with | ifc _ u _ h1 =>
  obtain ⟨n, hn⟩ : ∃ n, P.types.size + Made.depth = n + 1 := ⟨P.types.size + Made.depth - 1, by have : 0 < Made.depth := (by decide); omega⟩
  obtain ⟨v, hr, hok⟩ := methA_ok h1 hmz n
  obtain ⟨h2, h3⟩ := args_ok h hx
  refine ⟨v :: args.toList.map a.eval, ?_, by simp [h2], fun j u x hu hx2 => ?_⟩
  · simp only [execOp, ho, resolve, hv, Sem.run_bind, Sem.run_pure, Result.andThen_ok, invoke, callMethod, run_program, hn]
    have e1 : (#[Value.iface t u] ++ args.map a.eval)[0]? = some (Value.iface t u) := by rw [Array.getElem?_append]; rfl
    simp only [e1]
    simp only [Sem.run_bind, run_program, Result.andThen_ok, hn, hr]
    have e2 : (#[v] ++ (#[Value.iface t u] ++ args.map a.eval).extract 1 (#[Value.iface t u] ++ args.map a.eval).size) = (v :: args.toList.map a.eval).toArray := by
      rw [extract_one]
      apply Array.ext'
      simp
    rw [run_callFunc hcl, e2]
  · cases j with
    | zero => simp at hu hx2; rw [← hu, ← hx2]; exact hok
    | succ j => exact h3 j u x (by simpa using hu) (by simpa using hx2)

theorem Does.same {o o' : Oper} (h : (execOp a.eval o).run P w = (execOp a.eval o').run P w) {r : Res} (k : Does G B S0 w0 Γ c P o' a w r) : Does G B S0 w0 Γ c P o a w r := by
  cases r with
  | val x => obtain ⟨u, w', h1, h2, h3⟩ := k; exact ⟨u, w', h.trans h1, h2, h3⟩
  | upd x k' r => obtain ⟨n, u, w', Γ', h1, h2, h3, h4⟩ := k; exact ⟨n, u, w', Γ', h.trans h1, h2, h3, h4⟩
  | call f args => obtain ⟨vals, h1, h2, h3⟩ := k; exact ⟨vals, h.trans h1, h2, h3⟩
theorem do_alloc (h : Holds G B S0 w0 Γ c a.tmps w) {o : Oper} {e : TypeId} {i : TypeInfo} {z : Value} {own : Bool} (ho : o.op = .alloc e) (hi : P.info? e = some i) (hz : i.zero = some z) (h0 : 0 < i.size) {r : Res} (hs : step P d c (.box e i.size own (.c (ofVal z))) = some r) : Does G B S0 w0 Γ c P o a w r := by
  have hsame : (execOp a.eval o).run P w = (execOp a.eval { dst := none, op := .box e (.const z), type := 0, pos := "", after := #[], guard := none }).run P w := by
    simp [execOp, ho, Instr.alloc, zeroValue, typeInfo, hi, hz, Instr.box, Act.eval]
  refine Does.same hsame ?_
  cases own with
  | true => exact do_boxO h rfl (x := .const z) rfl h0 hs
  | false => exact do_box h rfl (x := .const z) rfl hs

theorem do_mks (h : Holds G B S0 w0 Γ c a.tmps w) {o : Oper} {t e : TypeId} {n cp : Operand} {na ca : XArg} {s bytes : Nat} {agg own : Bool} {i : TypeInfo} {z : Value} (ho : o.op = .makeSlice t n cp) (hn : argT n = some na) (hcp : argT cp = some ca) (hst : P.underlying t = some (.slice e)) (ht : sizeO P e = some (s, agg)) (hi : P.info? e = some i) (hz : i.zero = some z)
    (hzs : z.cells.size = s) (hz1 : z.cells.toList.all (·.oneCell') = true) (hzc : solid (ofVal z) = true ∧ width (ofVal z) = s) (hby : i.bytes ≤ bytes) {r : Res} (hs : step P d c (.mks e s own bytes z na ca) = some r) : Does G B S0 w0 Γ c P o a w r := by
  obtain ⟨ii, dd, hii, hd, hsz, hag, hs0, hs1⟩ := sizeO_ok ht
  rw [hi] at hii; injection hii with hii; subst hii
  have h1 := h.arg hn
  have h2 := h.arg hcp
  simp only [step] at hs
  split at hs <;> try (cases hs; done)
  rename_i x y hx hy
  split at hs <;> try (cases hs; done)
  rename_i hc
  obtain ⟨hx0, hxy, hb1, hb2⟩ := hc
  obtain ⟨k1, e1⟩ := asInt_inv h1 hx
  obtain ⟨k2, e2⟩ := asInt_inv h2 hy
  have hml : maxLen = 9223372036854775807 := rfl
  obtain ⟨N, hN⟩ : ∃ N : Nat, x = N := ⟨x.toNat, by omega⟩
  obtain ⟨C, hC⟩ : ∃ C : Nat, y = C := ⟨y.toNat, by omega⟩
  subst hN; subst hC
  -- the cells
  have hcs : ∀ m : Nat, Cells (Free S0 B Γ w) Γ w ((List.range (m * s)).map fun j => z.cells.toList.getD (j % s) undef) (flat (List.replicate m (ofVal z))) := fun m => by
    obtain ⟨us, hu1, hu2⟩ := cells_ok (ofVal_ok (S := Free S0 B Γ w) (Γ := Γ) (w := w) z) hzc.1
    have hzl : z.cells.toList = us := by rw [hu1]
    have hul : us.length = s := by rw [← hzl]; simpa using hzs
    induction m with
    | zero => simp; exact .nil
    | succ m ih =>
      have e : ((List.range ((m + 1) * s)).map fun j => z.cells.toList.getD (j % s) undef) = ((List.range (m * s)).map fun j => z.cells.toList.getD (j % s) undef) ++ us := by
        rw [Nat.add_mul, Nat.one_mul, List.range_add, List.map_append, List.map_map]
        congr 1
        apply List.ext_getElem?
        intro j
        rw [List.getElem?_map]
        rcases Nat.lt_or_ge j s with hj | hj
        · rw [List.getElem?_range hj, hzl]
          simp only [Option.map_some, Function.comp, Nat.mul_add_mod', Nat.mod_eq_of_lt hj]
          rw [List.getD_eq_getElem?_getD, List.getElem?_eq_getElem (by omega)]; rfl
        · rw [List.getElem?_eq_none (by simpa using hj), List.getElem?_eq_none (by omega)]; rfl
      rw [e, List.replicate_succ', flat_append]
      refine ih.append ?_
      simpa [flat] using hu2
  have hrep : ∀ m : Nat, ∀ x, x ∈ List.replicate m (ofVal z) → width x = s := fun m x hx => by rw [(List.mem_replicate.1 hx).2]; exact hzc.2
  have hrun : (execOp a.eval o).run P w = .ok (.value (.slice (some ⟨w.heap.size, 0, none⟩) N C)) (w.alloc (.cells ((List.range (C * s)).map fun j => z.cells.toList.getD (j % s) undef).toArray e)) := by
    have w1 : IntKind.i64.wrap (N : Int) = N := by
      exact IntWalk.i64_in _ ⟨by omega, by omega⟩
    have w2 : IntKind.i64.wrap (C : Int) = C := by
      exact IntWalk.i64_in _ ⟨by omega, by omega⟩
    have hbd : ¬ (((i.bytes : Int) * (C : Int)) > 2 ^ 48) := by
      have : ((i.bytes : Int) * (C : Int)) ≤ ((C : Int) * (bytes : Int)) := by rw [Int.mul_comm]; exact_mod_cast Nat.mul_le_mul_left C hby
      omega
    have hzr : (zeroValue e).run P w = .ok z w := by simp [zeroValue, typeInfo, hi, hz]
    have hz0 : (z.cells.size = 0) = False := by rw [hzs]; exact eq_false (by omega)
    have harr : ((Array.range (C * s)).map fun j => z.cells[j % z.cells.size]!) = ((List.range (C * s)).map fun j => z.cells.toList.getD (j % s) undef).toArray := by
      apply Array.ext'
      simp only [Array.toList_map, Array.toList_range, hzs]
      apply List.map_congr_left
      intro j _
      have : j % s < z.cells.size := by rw [hzs]; exact Nat.mod_lt _ hs0
      rw [getElem!_pos z.cells _ this, List.getD_eq_getElem?_getD, List.getElem?_eq_getElem (by simpa using this)]
      simp
    simp only [execOp, ho, e1, e2, Instr.makeSlice, Sem.run_bind, run_underlying hst, Result.andThen_ok, Go.asInt, asIntOf, Sem.run_pure, typeInfo, run_program, hi, w1, w2]
    have hcond : ¬ (decide ((C : Int) < 0) || decide ((i.bytes : Int) * (C : Int) > 2 ^ 48) || decide ((N : Int) < 0) || decide ((N : Int) > (C : Int))) = true := by
      simp only [Bool.or_eq_true, decide_eq_true_eq]
      omega
    rw [if_neg hcond]
    simp only [Sem.run_bind, run_askRoom, Result.andThen_ok, sizeOf, typeInfo, run_program, hi, Sem.run_pure, Int.toNat_natCast, hsz, Sem.run_ite]
    by_cases hCs : C * s = 0
    · rw [if_pos hCs]
      have hC0 : C = 0 := (Nat.mul_eq_zero.1 hCs).resolve_right (by omega)
      subst hC0
      simp [run_newRow]
      congr 2
      apply Array.ext'
      simp
    · rw [if_neg hCs]
      simp only [hzr, Result.andThen_ok, harr, run_newRow]
  have htake : ∀ m : Nat, m ≤ C → (((List.range (C * s)).map fun j => z.cells.toList.getD (j % s) undef).toArray.toList.take (m * s)) = (List.range (m * s)).map fun j => z.cells.toList.getD (j % s) undef := fun m hm => by
    have : m * s ≤ C * s := Nat.mul_le_mul_right s hm
    simp only [List.toList_toArray]
    rw [← List.map_take, List.take_range, Nat.min_eq_left this]
  have hNC : N ≤ C := by omega
  simp only [Int.toNat_natCast] at hs
  cases own with
  | false =>
    injection hs with hs; subst hs
    obtain ⟨hb, hf, hm⟩ := h.fresh (.cells ((List.range (C * s)).map fun j => z.cells.toList.getD (j % s) undef).toArray e)
    refine ⟨_, _, hrun, hb, ?_⟩
    have hc := hcs N
    have hat : At (w.alloc (.cells ((List.range (C * s)).map fun j => z.cells.toList.getD (j % s) undef).toArray e)) w.heap.size 0 ((List.range (N * s)).map fun j => z.cells.toList.getD (j % s) undef) := by
      have h3 := (At.alloc (w := w) (us := (List.range (C * s)).map fun j => z.cells.toList.getD (j % s) undef) (e := e) (fr := (0, 0))).take (N * s)
      have h4 := htake N hNC
      simp only [List.toList_toArray] at h4
      rw [h4] at h3
      exact h3
    have := AVok.sl (S := Free S0 B Γ _) (Γ := Γ) (w := w.alloc (.cells ((List.range (C * s)).map fun j => z.cells.toList.getD (j % s) undef).toArray e)) (some ⟨w.heap.size, 0, none⟩) C s (decide ((N : Int) = (C : Int))) (List.replicate N (ofVal z)) _ (by simp; omega) (fun q => by
      have := of_decide_eq_true q
      simp; omega) (hrep N) hc.len (by simp; omega) (fun j u x q1 q2 => hm u x (hc.ok j u x q1 q2)) hc.one (fun _ => ⟨_, _, rfl, hf, hat⟩) (by simp)
    rw [List.length_replicate] at this
    exact this
  | true =>
    injection hs with hs; subst hs
    obtain ⟨Γ', hH, hl⟩ := h.new d e s (List.replicate N (ofVal z)) _ C ((List.range (C * s)).map fun j => z.cells.toList.getD (j % s) undef).toArray (by simp) (by simp; omega) (by omega) rfl (by rw [List.length_replicate, htake N hNC]; exact hcs N) (hrep N) hs0
    rw [List.length_replicate] at hl
    exact ⟨_, _, _, Γ', hrun, .inl rfl, hH, live_os hl hNC (by omega)⟩

theorem chunk_ok {S : Nat → Prop} {us : List Value} {cs : List AV} (hc : Cells S Γ w us cs) {agg : Bool} {s n : Nat} {xs : List AV} (hl : cs.length = n * s) (hs0 : 0 < s) (hs1 : agg = false → s = 1) (h : chunkA agg s cs n = some xs) : xs.length = n ∧ (∀ x, x ∈ xs → width x = s) ∧ Cells S Γ w us (flat xs) := by
  obtain ⟨e1, e2⟩ := mapM_some' h
  rw [List.length_range] at e1
  have hp : ∀ i y, xs[i]? = some y → part agg s cs (i * s) = some y := fun i y hy => by
    have hi : i < n := by rw [← e1]; exact (List.getElem?_eq_some_iff.1 hy).1
    exact e2 i i y (List.getElem?_range hi) hy
  have hw : ∀ x, x ∈ xs → width x = s := fun x hx => by
    obtain ⟨i, hi, he⟩ := List.mem_iff_getElem.1 hx
    obtain ⟨_, _, _, _, h4, _⟩ := part_ok hc (hp i x (by rw [List.getElem?_eq_getElem hi, he])) hs1
    exact h4
  refine ⟨e1, hw, ⟨by rw [flat_len hw, e1, hc.len, hl], hc.one, fun j u x hu hx => ?_⟩⟩
  have hj : j < xs.length * s := by rw [← flat_len hw]; exact (List.getElem?_eq_some_iff.1 hx).1
  have hi : j / s < xs.length := Nat.div_lt_of_lt_mul (by rw [Nat.mul_comm]; exact hj)
  have hr : j % s < s := Nat.mod_lt _ hs0
  have hd : j / s * s + j % s = j := by rw [Nat.mul_comm]; exact Nat.div_add_mod j s
  have hy : xs[j / s]? = some (xs[j / s]'hi) := List.getElem?_eq_getElem _
  have h5 := flat_at hw hy hr
  rw [hd, hx] at h5
  obtain ⟨vs, _, h6, h7, _⟩ := part_ok hc (hp _ _ hy) hs1
  refine h7.ok (j % s) u x ?_ h5.symm
  rw [h6, List.getElem?_take, if_pos hr, List.getElem?_drop, hd]; exact hu
theorem run_sliceA {t e : TypeId} {i : TypeInfo} {n : Nat} (hst : P.underlying t = some (.array n e)) (hi : P.info? e = some i) (g o l hh : Nat) {lo hi' : Option Value}
    (hlo : (lo = none ∧ l = 0) ∨ ∃ k z, lo = some (.int k z) ∧ 0 ≤ z ∧ l = z.toNat) (hhi : (hi' = none ∧ hh = n) ∨ ∃ k z, hi' = some (.int k z) ∧ 0 ≤ z ∧ hh = z.toNat) (h1 : l ≤ hh) (h2 : hh ≤ n) :
    (Instr.sliceAt t (.pointer (some ⟨g, o, none⟩)) lo hi' none).run P w = .ok (.slice (some ⟨g, o + if n = l then 0 else l * i.size, none⟩) (hh - l) (n - l)) w := by
  simp only [Instr.sliceAt, Sem.run_bind, run_underlying hst, Result.andThen_ok, Instr.sureAddr, Instr.sliceBounds, Sem.run_pure]
  have e0 : ∀ m, (if n = m then (⟨g, o, none⟩ : Addr) else (⟨g, o, none⟩ : Addr).add (m * i.size)) = ⟨g, o + if n = m then 0 else m * i.size, none⟩ := fun m => by
    by_cases h : n = m
    · simp [h]
    · simp [h, Addr.add_lit]
  rcases hhi with ⟨rfl, rfl⟩ | ⟨k2, z2, rfl, hz2, rfl⟩
  · rcases hlo with ⟨rfl, rfl⟩ | ⟨k1, z1, rfl, hz1, rfl⟩
    · simp [sizeOf, typeInfo, hi, e0, Addr.add]
    · simp [run_sliceBound (P := P) (w := w) (v := .int k1 z1) rfl hz1 h1, sizeOf, typeInfo, hi, e0]
  · rcases hlo with ⟨rfl, rfl⟩ | ⟨k1, z1, rfl, hz1, rfl⟩
    · simp [run_sliceBound (P := P) (w := w) (v := .int k2 z2) rfl hz2 h2, sizeOf, typeInfo, hi, e0, Addr.add]
    · simp [run_sliceBound (P := P) (w := w) (v := .int k2 z2) rfl hz2 h2, run_sliceBound (P := P) (w := w) (v := .int k1 z1) rfl hz1 h1, sizeOf, typeInfo, hi, e0]
/-- a slice of cells that nobody writes -/
theorem slice_cells {S : Nat → Prop} {us : List Value} {xs : List AV} {g o s n l h : Nat} (hc : Cells S Γ w us (flat xs)) (hw : ∀ x, x ∈ xs → width x = s) (hn : xs.length = n) (hS : S g) (hA : At w g o us) (h1 : l ≤ h) (h2 : h ≤ n) (hm : n ≤ maxLen) :
    AVok S Γ w (.slice (some ⟨g, o + if n = l then 0 else l * s, none⟩) (h - l) (n - l)) (.sl s (h == n) ((xs.take h).drop l)) := by
  have hlen : ((xs.take h).drop l).length = h - l := by rw [List.length_drop, List.length_take, Nat.min_eq_left (by omega)]
  have hw2 : ∀ x, x ∈ (xs.take h).drop l → width x = s := fun x hx => hw x (List.mem_of_mem_take (List.mem_of_mem_drop hx))
  have hc2 : Cells S Γ w ((us.take (h * s)).drop (l * s)) (flat ((xs.take h).drop l)) := by
    rw [flat_drop (fun x hx => hw x (List.mem_of_mem_take hx)), flat_take hw]
    exact (hc.take _).drop _
  have := AVok.sl (S := S) (Γ := Γ) (w := w) (some ⟨g, o + if n = l then 0 else l * s, none⟩) (n - l) s (h == n) ((xs.take h).drop l) _ (by omega) (fun q => by rw [hlen]; have q : h = n := (by simpa using q); rw [q]) hw2 hc2.len (by omega) hc2.ok hc2.one (fun hne => by
    have hlt : l < h := by
      rcases Nat.lt_or_ge l h with q | q
      · exact q
      · exact absurd (List.eq_nil_of_length_eq_zero (by omega)) hne
    rw [if_neg (by omega)]
    exact ⟨g, _, rfl, hS, (hA.take _).drop _⟩) (by simp)
  rw [hlen] at this
  exact this

theorem do_slcA (h : Holds G B S0 w0 Γ c a.tmps w) {o : Oper} {t e : TypeId} {n : Nat} {x : Operand} {lo hi : Option Operand} {xa : XArg} {la ha : Option XArg} {s : Nat} {agg : Bool} (ho : o.op = .slice t x lo hi none) (hx : argT x = some xa) (hl : argO lo = some la) (hh : argO hi = some ha)
    (hst : P.underlying t = some (.array n e)) (ht : sizeO P e = some (s, agg)) {r : Res} (hs : step P d c (.slcA n s agg xa la ha) = some r) : Does G B S0 w0 Γ c P o a w r := by
  have h1 := h.arg hx
  obtain ⟨ii, dd, hii, hd, hsz, hag, hs0, hs1⟩ := sizeO_ok ht
  have hml : maxLen = 9223372036854775807 := rfl
  have fin : ∀ {x : Option Operand} {xa : Option XArg} {dflt l : Nat}, argO x = some xa → asBound c.σ xa dflt = some l → (x.map a.eval = none ∧ l = dflt) ∨ ∃ k z, x.map a.eval = some (.int k z) ∧ 0 ≤ z ∧ l = z.toNat := fun hx hb => by
    rcases bound_ok h hx hb with ⟨rfl, h2, h3⟩ | ⟨v, k, z, h2, _, rfl, h4, h5⟩
    · exact .inl ⟨rfl, h3⟩
    · exact .inr ⟨k, z, h2, h4, h5⟩
  simp only [step] at hs
  split at hs <;> try (cases hs; done)
  · rename_i l h' y e2 e3 e1
    rw [e1] at h1
    split at hs <;> try (cases hs; done)
    rename_i hc
    split at hs <;> try (cases hs; done)
    rename_i xs hxs
    injection hs with hs; subst hs
    generalize hv : a.eval x = pv at h1
    cases h1 with | ptr g of _ us hul h2 hu hS hA =>
    obtain ⟨q1, q2, q3⟩ := chunk_ok ⟨hul, h2, hu⟩ hc.2.2.1 hs0 hs1 hxs
    have hr := run_sliceA (P := P) (w := w) hst hii g of l h' (lo := lo.map a.eval) (hi' := hi.map a.eval) (fin hl e2) (fin hh e3) hc.1 hc.2.1
    refine .pure (u := _) (by simp only [execOp, ho, hv]; rw [Sem.run_bind]; simp only [Option.map_none]; rw [hr]; rfl) ?_
    rw [hsz]
    exact slice_cells q3 q2 q1 hS hA hc.1 hc.2.1 (by omega)
  · rename_i l h' k g ver e2 e3 e1
    rw [e1] at h1
    split at hs <;> try (cases hs; done)
    rename_i g' ob hlk
    split at hs <;> try (cases hs; done)
    rename_i y hy
    split at hs <;> try (cases hs; done)
    rename_i hc
    obtain ⟨rfl, rfl, hc1, hc2, hc3, hc4⟩ := hc
    split at hs <;> try (cases hs; done)
    rename_i xs hxs
    injection hs with hs; subst hs
    have hver : (1 : Nat) = ob.xs.length := by rw [hy]; rfl
    obtain ⟨oi, hΓ, hro, hlive, hnd⟩ := h.ref hlk hver h1.ldO
    generalize hv : a.eval x = pv at h1
    cases h1 with
    | oDead _ _ _ _ _ _ _ hd => exact (hnd 1 hver hd).elim
    | oLive _ _ _ _ _ b oi2 hlv hb =>
      have := hlive 1 oi2 hver hlv
      subst this
      obtain ⟨us, hA, hcs, _⟩ := hro.at hb
      have hfl : flat ob.xs = cellsOf y := by rw [hy]; simp [flat]
      rw [hfl] at hcs
      obtain ⟨q1, q2, q3⟩ := chunk_ok hcs hc3 hs0 hs1 hxs
      have hr := run_sliceA (P := P) (w := w) hst hii b (0 * oi2.s + 0) l h' (lo := lo.map a.eval) (hi' := hi.map a.eval) (fin hl e2) (fin hh e3) hc1 hc2
      obtain ⟨hH, hm, hfree⟩ := h.drop k
      have hg1 : (Γ k).1 = g' := by rw [h.gen k, hlk]
      have hg2 : (look c.η k).1 = g' := by rw [hlk]
      rw [hg2] at hH
      rw [hsz] at hr
      refine ⟨_, _, w, _, (by simp only [execOp, ho, hv]; rw [Sem.run_bind]; simp only [Option.map_none]; rw [hr]; rfl), .inl rfl, hH, ?_⟩
      have hA0 : At w b (0 * oi2.s + 0) us := by simpa using hA
      exact slice_cells ⟨q3.len, q3.one, fun j u x hu hx => hm u x (q3.ok j u x hu hx)⟩ q2 q1 (hfree oi2 b (by rw [hΓ]) hb) hA0 hc1 hc2 (by omega)
theorem do_capS (h : Holds G B S0 w0 Γ c a.tmps w) {o : Oper} {t e : TypeId} {x : Operand} {xa : XArg} (ho : o.op = .call { callee := .builtin .cap, args := #[x], argTypes := #[t] }) (hx : argT x = some xa) (hd : P.underlying t = some (.slice e))
    {r : Res} (hs : step P d c (.capS xa) = some r) : Does G B S0 w0 Γ c P o a w r := by
  have h1 := h.arg hx
  have key : ∀ (n : Nat) A cp, a.eval x = .slice A n cp → (execOp a.eval o).run P w = .ok (.value (.int .i64 cp)) w := fun n A cp hv => by
    simp [execOp, ho, resolve, invoke, builtin, Builtin.cap_, run_underlying hd, hv, goInt]
  simp only [step] at hs
  split at hs
  · rename_i s' xs e1
    rw [e1] at h1
    injection hs with hs; subst hs
    generalize hv : a.eval x = pv at h1
    cases h1 with | sl A cp _ _ _ us hcp hf hw hul hcap hu h1 hA hN =>
    have := hf rfl
    subst this
    exact .pure (key _ A _ hv) (.v _)
  · rename_i e1
    rw [e1] at h1
    have hv := v_inv h1
    injection hs with hs; subst hs
    exact .pure (key 0 none 0 hv) (.v _)
  · cases hs

theorem do_isnil (h : Holds G B S0 w0 Γ c a.tmps w) {o : Oper} {t t' e : TypeId} {neg : Bool} {x : Operand} {xa : XArg} (ho : o.op = .binOp (if neg then .eql else .neq) t x (.const (.slice none 0 0)) t') (hx : argT x = some xa) (hd : P.underlying t = some (.slice e))
    {r : Res} (hs : step P d c (.isnil (!neg) xa) = some r) : Does G B S0 w0 Γ c P o a w r := by
  have h1 := h.arg hx
  have key : ∀ A n cp, a.eval x = .slice A n cp → (execOp a.eval o).run P w = .ok (.value (.bool (if neg then A.isNone else !A.isNone))) w := fun A n cp hv => by
    have e1 : a.eval (.const (.slice none 0 0)) = .slice none 0 0 := rfl
    cases neg with
    | true =>
      have hg : (eqGuard .eql t x (.const (.slice none 0 0)) (.slice A n cp) (.slice none 0 0)).run P w = .ok () w := rfl
      have hr : (binOp .eql t (.slice A n cp) (.slice none 0 0)).run P w = .ok (.bool A.isNone) w := by
        simp only [binOp, Sem.run_bind, run_equal_slice_nil w t e A n cp hd, Result.andThen_ok, Sem.run_pure]
      simp only [if_true] at ho
      simp only [execOp, ho, hv, e1, Sem.run_bind, hg, hr, Result.andThen_ok, Sem.run_pure, if_true]
    | false =>
      have hg : (eqGuard .neq t x (.const (.slice none 0 0)) (.slice A n cp) (.slice none 0 0)).run P w = .ok () w := rfl
      have hr := run_neq_slice_nil (P := P) w t e A n cp hd
      simp only [Bool.false_eq_true, if_false] at ho
      simp only [execOp, ho, hv, e1, Sem.run_bind, hg, hr, Result.andThen_ok, Sem.run_pure, Bool.false_eq_true, if_false]
  simp only [step] at hs
  split at hs
  · rename_i s' f y e1
    rw [e1] at h1
    injection hs with hs; subst hs
    generalize hv : a.eval x = pv at h1
    cases h1 with | sl A cp _ _ _ us hcp hf hw hul hcap hu h1 hA hN =>
    obtain ⟨ad, rfl⟩ := Option.ne_none_iff_exists'.1 hN
    exact .pure (by have := key _ _ _ hv; cases neg <;> exact this) (.v _)
  · rename_i k g ver s' lo n e1
    rw [e1] at h1
    injection hs with hs; subst hs
    generalize hv : a.eval x = pv at h1
    cases h1 with
    | osLive _ _ _ _ _ _ cp A oi hlv hsi hn hcp hcm hwh hA hN =>
      obtain ⟨ad, rfl⟩ := Option.ne_none_iff_exists'.1 hN
      exact .pure (by have := key _ _ _ hv; cases neg <;> exact this) (.v _)
    | osDead _ _ _ _ _ _ cp A hd2 hcp hcm hA hN =>
      obtain ⟨ad, rfl⟩ := Option.ne_none_iff_exists'.1 hN
      exact .pure (by have := key _ _ _ hv; cases neg <;> exact this) (.v _)
  · rename_i e1
    rw [e1] at h1
    have hv := v_inv h1
    injection hs with hs; subst hs
    exact .pure (by have := key _ _ _ hv; cases neg <;> exact this) (.v _)
  · cases hs
theorem rep_cells {S : Nat → Prop} {s : Nat} {z : Value} (hzs : z.cells.size = s) (hzc : solid (ofVal z) = true ∧ width (ofVal z) = s) (m : Nat) : Cells S Γ w ((List.range (m * s)).map fun j => z.cells.toList.getD (j % s) undef) (flat (List.replicate m (ofVal z))) := by
  obtain ⟨us, hu1, hu2⟩ := cells_ok (ofVal_ok (S := S) (Γ := Γ) (w := w) z) hzc.1
  have hzl : z.cells.toList = us := by rw [hu1]
  have hul : us.length = s := by rw [← hzl]; simpa using hzs
  induction m with
  | zero => simp; exact .nil
  | succ m ih =>
    have e : ((List.range ((m + 1) * s)).map fun j => z.cells.toList.getD (j % s) undef) = ((List.range (m * s)).map fun j => z.cells.toList.getD (j % s) undef) ++ us := by
      rw [Nat.add_mul, Nat.one_mul, List.range_add, List.map_append, List.map_map]
      congr 1
      apply List.ext_getElem?
      intro j
      rw [List.getElem?_map]
      rcases Nat.lt_or_ge j s with hj | hj
      · rw [List.getElem?_range hj, hzl]
        simp only [Option.map_some, Function.comp, Nat.mul_add_mod', Nat.mod_eq_of_lt hj]
        rw [List.getD_eq_getElem?_getD, List.getElem?_eq_getElem (by omega)]; rfl
      · rw [List.getElem?_eq_none (by simpa using hj), List.getElem?_eq_none (by omega)]; rfl
    rw [e, List.replicate_succ', flat_append]
    refine ih.append ?_
    simpa [flat] using hu2
theorem zeroCells_list {z : Value} {s : Nat} (hzs : z.cells.size = s) (hs0 : 0 < s) (m : Nat) : (Builtin.zeroCells z.cells m).toList = (List.range (m * s)).map fun j => z.cells.toList.getD (j % s) undef := by
  unfold Builtin.zeroCells
  simp only [Array.toList_map, Array.toList_range, hzs]
  apply List.map_congr_left
  intro j _
  have : j % s < z.cells.size := by rw [hzs]; exact Nat.mod_lt _ hs0
  rw [getElem!_pos z.cells _ this, List.getD_eq_getElem?_getD, List.getElem?_eq_getElem (by simpa using this)]
  simp
theorem do_appz (h : Holds G B S0 w0 Γ c a.tmps w) {o : Oper} {t t' e : TypeId} {k' : IntKind} {x n : Operand} {xa na : XArg} {s bytes : Nat} {agg : Bool} {i : TypeInfo} {z : Value} (ho : o.op = .call { callee := .builtin .append, args := #[x, n], argTypes := #[t, t'] }) (hx : argT x = some xa) (hn : argT n = some na)
    (ht : P.underlying t = some (.slice e)) (ht' : P.underlying t' = some (.int k')) (hse : sizeO P e = some (s, agg)) (hi : P.info? e = some i) (hz : i.zero = some z) (hzs : z.cells.size = s) (hzc : solid (ofVal z) = true ∧ width (ofVal z) = s) (hby : i.bytes = bytes) {r : Res} (hs : step P d c (.appz e s bytes z xa na) = some r) : Does G B S0 w0 Γ c P o a w r := by
  have h1 := h.arg hx
  have h2 := h.arg hn
  obtain ⟨ii, dd, hii, hd, hsz, hag, hs0, hs1⟩ := sizeO_ok hse
  rw [hi] at hii; injection hii with hii; subst hii
  have hml : maxLen = 9223372036854775807 := rfl
  simp only [step] at hs
  split at hs <;> try (cases hs; done)
  rename_i y e1 hy
  rw [e1] at h1
  have hxv := v_inv h1
  split at hs <;> try (cases hs; done)
  rename_i hc
  injection hs with hs; subst hs
  obtain ⟨k, hnv⟩ := asInt_inv h2 hy
  obtain ⟨N, rfl⟩ : ∃ N : Nat, y = N := ⟨y.toNat, by omega⟩
  have w1 : IntKind.i64.wrap (N : Int) = N := IntWalk.i64_in _ ⟨by omega, by omega⟩
  have hdr : Holds G B S0 w0 Γ c a.tmps w.drew := h.grow ((Below.refl _ w).drew)
  have hge := grownCap_ge w N 0 e
  have hcm := grownCap_le_maxLen w N 0 e (by omega)
  have hrun : (execOp a.eval o).run P w = .ok (.value (.slice (some ⟨w.heap.size, 0, none⟩) N (grownCap w N 0 e))) (w.drew.alloc (.cells (Builtin.zeroCells z.cells N ++ Builtin.zeroCells z.cells (grownCap w N 0 e - N)) e)) := by
    have hne : ¬ ((N : Int) < 0) := by omega
    have hbd : ¬ (((N : Int) * (i.bytes : Int)) > 2 ^ 48) := by rw [hby]; omega
    have hN0 : ¬ (N ≤ 0) := by omega
    have hN0' : ¬ (N = 0) := by omega
    have h63 : ¬ ((N : Int) > IntKind.i64.max) := by
      have : IntKind.i64.max = 9223372036854775807 := rfl
      omega
    have hgf := growslice_fits (need := N) (old := 0) (bytes := i.bytes) (by omega) (by rw [hby]; omega)
    have hgf' : ¬ (Builtin.nextslicecap N 0 * i.bytes > 2 ^ 48) := by omega
    have hNs : ¬ (N * s = 0) := fun q => by rcases Nat.mul_eq_zero.1 q with q | q <;> omega
    have hgc : grownCap w N 0 e = (Question.appendCap N 0 e).cut (w.tape w.drawn (.appendCap N 0 e)) := rfl
    simp only [execOp, ho, resolve, invoke, builtin, Sem.run_bind, Sem.run_pure, Result.andThen_ok, List.map_toArray, List.map_cons, List.map_nil, hxv, hnv]
    have hr : (Builtin.append_ #[t, t'] o.type #[.slice none 0 0, .int k N]).run P w = .ok (.slice (some ⟨w.heap.size, 0, none⟩) N (grownCap w N 0 e)) (w.drew.alloc (.cells (Builtin.zeroCells z.cells N ++ Builtin.zeroCells z.cells (grownCap w N 0 e - N)) e)) := by
      have h48 : ¬ (281474976710656 < (N : Int) * (i.bytes : Int)) := by rw [hby]; omega
      have h48' : ¬ (281474976710656 < Builtin.nextslicecap N 0 * i.bytes) := by omega
      have h63' : ¬ (9223372036854775807 < (N : Int)) := by omega
      have hNs' : ¬ (N = 0 ∨ s = 0) := by omega
      have hmax : IntKind.i64.max = 9223372036854775807 := rfl
      simp [Builtin.append_, run_underlying ht, run_underlying ht', sizeOf, typeInfo, zeroValue, hi, hz, Go.asInt, asIntOf, w1, hne, h48, hN0', h63', h48', Question.forced, newRow, grownCap, Builtin.firstCells, hsz, hNs', hmax]
      exact fun q => absurd q hNs
    rw [hr]; rfl
  have hcs := rep_cells (S := Free S0 B Γ w.drew) (Γ := Γ) (w := w.drew) hzs hzc N
  simp only [Int.toNat_natCast]
  obtain ⟨Γ', hH, hl⟩ := hdr.new d e s (List.replicate N (ofVal z)) _ (grownCap w N 0 e) (Builtin.zeroCells z.cells N ++ Builtin.zeroCells z.cells (grownCap w N 0 e - N))
    (by simp only [Array.size_append, size_zeroCells, hzs, ← Nat.add_mul]; congr 1; omega) (by simpa using hge) hcm (by
      rw [Array.toList_append, zeroCells_list hzs hs0, List.length_replicate]
      have hll : ((List.range (N * s)).map fun j => z.cells.toList.getD (j % s) undef).length = N * s := by simp
      exact List.take_left' hll) hcs (fun x hx => by rw [(List.mem_replicate.1 hx).2]; exact hzc.2) hs0
  rw [List.length_replicate] at hl
  exact ⟨_, _, _, Γ', hrun, .inl rfl, hH, live_os hl hge hcm⟩
end
end Go.Proofs.Eng
