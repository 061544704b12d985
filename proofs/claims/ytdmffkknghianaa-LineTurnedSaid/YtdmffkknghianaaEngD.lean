/-
  Every operation does to the values what it does to plain data: those that leave what is owned as it is.
-/
import Derived.Test.YtdmffkknghianaaEngC
import Derived.Laws.Rows
import Derived.Laws.CopyRow
set_option linter.unusedSimpArgs false
set_option linter.unusedVariables false
namespace Go.Proofs.Eng
open Go Go.RowKit

section
variable {S : Nat → Prop} {Γ : Gam} {w : World} {P : Program}

/-- cells that read so -/
structure Cells (S : Nat → Prop) (Γ : Gam) (w : World) (us : List Value) (cs : List AV) : Prop where
  len : us.length = cs.length
  one : ∀ u, u ∈ us → u.oneCell' = true
  ok : ∀ (j : Nat) (u : Value) (x : AV), us[j]? = some u → cs[j]? = some x → AVok S Γ w u x
theorem Cells.nil : Cells S Γ w [] [] := ⟨rfl, (fun _ h => by cases h), fun j u x h => by simp at h⟩
theorem Cells.append {us vs : List Value} {cs ds : List AV} (h : Cells S Γ w us cs) (k : Cells S Γ w vs ds) : Cells S Γ w (us ++ vs) (cs ++ ds) where
  len := by simp [h.len, k.len]
  one := fun u hu => (List.mem_append.1 hu).elim (h.one u) (k.one u)
  ok := fun j u x hu hx => by
    rcases Nat.lt_or_ge j us.length with hj | hj
    · rw [List.getElem?_append_left hj] at hu
      rw [List.getElem?_append_left (by rw [← h.len]; exact hj)] at hx
      exact h.ok j u x hu hx
    · rw [List.getElem?_append_right hj] at hu
      rw [List.getElem?_append_right (by rw [← h.len]; exact hj), ← h.len] at hx
      exact k.ok _ u x hu hx
theorem Cells.drop {us : List Value} {cs : List AV} (h : Cells S Γ w us cs) (n : Nat) : Cells S Γ w (us.drop n) (cs.drop n) where
  len := by simp [h.len]
  one := fun u hu => h.one u (List.mem_of_mem_drop hu)
  ok := fun j u x hu hx => by rw [List.getElem?_drop] at hu hx; exact h.ok _ u x hu hx
theorem Cells.take {us : List Value} {cs : List AV} (h : Cells S Γ w us cs) (n : Nat) : Cells S Γ w (us.take n) (cs.take n) where
  len := by simp [h.len]
  one := fun u hu => h.one u (List.mem_of_mem_take hu)
  ok := fun j u x hu hx => by
    rw [List.getElem?_take] at hu hx
    split at hu
    · rw [if_pos (by assumption)] at hx; exact h.ok _ u x hu hx
    · cases hu
theorem not_ag {u : Value} {cs : List AV} (h1 : u.oneCell' = true) (h : AVok S Γ w u (.ag cs)) : False := by
  cases h with
  | ag vs _ _ _ _ => simp [Value.oneCell'] at h1
theorem cellsOf_one {u : Value} {x : AV} (h1 : u.oneCell' = true) (h : AVok S Γ w u x) : cellsOf x = [x] := by
  unfold cellsOf
  split
  · exact (not_ag h1 h).elim
  · rfl
theorem Cells.single {u : Value} {x : AV} (h1 : u.oneCell' = true) (h : AVok S Γ w u x) : Cells S Γ w [u] [x] :=
  ⟨rfl, fun v hv => by rw [List.mem_singleton.1 hv]; exact h1, fun j v y hv hy => by
    cases j with
    | zero => simp at hv hy; rw [← hv, ← hy]; exact h
    | succ j => simp at hv⟩
theorem Cells.mono {S' : Nat → Prop} {Γ' : Gam} {w' : World} (hS : ∀ b, S b → S' b ∧ w'.heap[b]? = w.heap[b]?) (hΓ : Γ.le Γ') {us : List Value} {cs : List AV} (h : Cells S Γ w us cs) : Cells S' Γ' w' us cs :=
  ⟨h.len, h.one, fun j u x hu hx => (h.ok j u x hu hx).mono hS hΓ⟩
theorem At.drop {g o : Nat} {us : List Value} (h : At w g o us) (n : Nat) : At w g (o + n) (us.drop n) := fun j u hj => by
  rw [List.getElem?_drop] at hj
  rw [Nat.add_assoc]; exact h _ u hj
theorem At.take {g o : Nat} {us : List Value} (h : At w g o us) (n : Nat) : At w g o (us.take n) := fun j u hj => by
  rw [List.getElem?_take] at hj
  split at hj
  · exact h j u hj
  · cases hj

/-- the value of a part, and its cells -/
theorem part_ok {us : List Value} {cs : List AV} (h : Cells S Γ w us cs) {agg : Bool} {s off : Nat} {y : AV} (hp : part agg s cs off = some y) (hs : agg = false → s = 1) :
    ∃ vs, vs.length = s ∧ vs = (us.drop off).take s ∧ Cells S Γ w vs (cellsOf y) ∧ width y = s ∧
      (agg = true → AVok S Γ w (.agg vs.toArray) y) ∧ (agg = false → ∃ u, us[off]? = some u ∧ vs = [u] ∧ AVok S Γ w u y) := by
  cases agg with
  | true =>
    unfold part at hp
    simp only at hp
    split at hp
    · rename_i hle
      injection hp with hp; subst hp
      have hc := (h.drop off).take s
      have hl : ((us.drop off).take s).length = s := by rw [List.length_take, List.length_drop, h.len]; omega
      refine ⟨_, hl, rfl, hc, ?_, (fun _ => .ag _ _ hc.len hc.one hc.ok), fun e => by cases e⟩
      show ((cs.drop off).take s).length = s
      rw [← hc.len]; exact hl
    · cases hp
  | false =>
    have hs := hs rfl
    subst hs
    unfold part at hp
    simp only at hp
    obtain ⟨hlt, hy⟩ := List.getElem?_eq_some_iff.1 hp
    have hlt2 : off < us.length := by rw [h.len]; exact hlt
    have hu : us[off]? = some us[off] := List.getElem?_eq_getElem hlt2
    have hok := h.ok off _ y hu hp
    have h1 := h.one us[off] (List.getElem_mem _)
    have e : (us.drop off).take 1 = [us[off]] := by rw [List.drop_eq_getElem_cons hlt2]; rfl
    refine ⟨[us[off]], rfl, e.symm, ?_, ?_, (fun e => by cases e), fun _ => ⟨_, hu, rfl, hok⟩⟩
    · rw [cellsOf_one h1 hok]; exact .single h1 hok
    · unfold width; rw [cellsOf_one h1 hok]; rfl

theorem cells_ok {u : Value} {x : AV} (h : AVok S Γ w u x) (hs : solid x = true) : ∃ us, u.cells = us.toArray ∧ Cells S Γ w us (cellsOf x) := by
  cases h with
  | any => simp [solid] at hs
  | tup => simp [solid] at hs
  | ag vs cs hl h1 hu => exact ⟨vs, rfl, hl, h1, hu⟩
  | v x =>
    have h1 : u.oneCell' = true := by simpa [solid] using hs
    refine ⟨[u], ?_, .single h1 (.v u)⟩
    cases u <;> first | rfl | (simp [Value.oneCell'] at h1)
  | sl A c s full xs us hc hf hw hl hcap hu h1 hA hN => exact ⟨[_], rfl, .single rfl (.sl A c s full xs us hc hf hw hl hcap hu h1 hA hN)⟩
  | ifc t u x h => exact ⟨[_], rfl, .single rfl (.ifc t u x h)⟩
  | ptr g o x us hl h1 hu hS hA => exact ⟨[_], rfl, .single rfl (.ptr g o x us hl h1 hu hS hA)⟩
  | oLive k g ver i j b oi hl hb => exact ⟨[_], rfl, .single rfl (.oLive k g ver i j b oi hl hb)⟩
  | oDead b f k g ver i j hd => exact ⟨[_], rfl, .single rfl (.oDead b f k g ver i j hd)⟩
  | osLive k g ver s lo n c A oi hl hs2 hn hc hcm hwh hA hN => exact ⟨[_], rfl, .single rfl (.osLive k g ver s lo n c A oi hl hs2 hn hc hcm hwh hA hN)⟩
  | osDead k g ver s lo n c A hd hc hcm hA hN => exact ⟨[_], rfl, .single rfl (.osDead k g ver s lo n c A hd hc hcm hA hN)⟩
  | mpLive k g b oi hl hb => exact ⟨[_], rfl, .single rfl (.mpLive k g b oi hl hb)⟩
  | mpDead b k g hd => exact ⟨[_], rfl, .single rfl (.mpDead b k g hd)⟩
  | itLive k g b oi hl hb => exact ⟨[_], rfl, .single rfl (.itLive k g b oi hl hb)⟩
  | itDead b k g hd => exact ⟨[_], rfl, .single rfl (.itDead b k g hd)⟩
  | fn f vs caps hl hu => exact ⟨[_], rfl, .single rfl (.fn f vs caps hl hu)⟩
  | bm f vs fs hl hu => exact ⟨[_], rfl, .single rfl (.bm f vs fs hl hu)⟩

theorem run_loadVar_at {t : TypeId} {i : TypeInfo} {d : TypeDesc} (hi : P.info? t = some i) (hd : P.underlying t = some d) {g o : Nat} {us : List Value} (hA : At w g o us) (hl : us.length = i.size) :
    (loadVar t ⟨g, o, none⟩).run P w = match d with
      | .struct _ | .array _ _ => .ok (.agg us.toArray) w
      | _ => (load ⟨g, o, none⟩).run P w := by
  have hA' : ∀ j v, us[j]? = some v → w.cell? ((⟨g, o, none⟩ : Addr).add j) = some v := fun j v hj => by rw [Addr.add_lit]; exact hA j v hj
  have hr := run_loadCells_list (P := P) w ⟨g, o, none⟩ us hA'
  rw [hl] at hr
  unfold loadVar isAgg
  simp only [Sem.run_bind, run_underlying hd, Result.andThen_ok, sizeOf, typeInfo, run_program, hi, Sem.run_pure]
  cases d <;> simp only [Sem.run_pure, Result.andThen_ok, Sem.run_ite, if_true, Bool.false_eq_true, if_false, hr, Sem.run_bind, run_program, hi]

theorem sizeO_ok {t : TypeId} {s : Nat} {agg : Bool} (h : sizeO P t = some (s, agg)) : ∃ i d, P.info? t = some i ∧ P.underlying t = some d ∧ i.size = s ∧ isAggD d = agg ∧ 0 < s ∧ (agg = false → s = 1) := by
  unfold sizeO at h
  split at h
  · rename_i i d hi hd
    split at h
    · rename_i hc
      simp only [Option.some.injEq, Prod.mk.injEq] at h
      obtain ⟨rfl, rfl⟩ := h
      exact ⟨i, d, hi, hd, rfl, rfl, hc.1, fun e => hc.2.resolve_left (by rw [e]; simp)⟩
    · cases h
  · cases h
/-- a load reads what lies there -/
theorem run_load_ok {t : TypeId} {s : Nat} {agg : Bool} (ht : sizeO P t = some (s, agg)) {g o off : Nat} {us : List Value} {cs : List AV} (hA : At w g o us) (hc : Cells S Γ w us cs) {y : AV} (hp : part agg s cs off = some y) :
    ∃ u, (loadVar t ⟨g, o + off, none⟩).run P w = .ok u w ∧ AVok S Γ w u y := by
  obtain ⟨i, d, hi, hd, hsz, hag, h0, h1⟩ := sizeO_ok ht
  obtain ⟨vs, hl, hvs, _, _, ha, hb⟩ := part_ok hc hp h1
  have hA2 : At w g (o + off) vs := by rw [hvs]; exact (hA.drop off).take s
  have hr := run_loadVar_at hi hd hA2 (hl.trans hsz.symm)
  cases agg with
  | true =>
    refine ⟨.agg vs.toArray, ?_, ha rfl⟩
    rw [hr]
    cases d <;> first | rfl | (simp [isAggD] at hag)
  | false =>
    obtain ⟨u, h2, h3, h4⟩ := hb rfl
    refine ⟨u, ?_, h4⟩
    rw [hr]
    have hcell := hA off u h2
    cases d <;> first | (simp [isAggD] at hag; done) | simp [hcell]

theorem ofVal_ok (v : Value) : AVok S Γ w v (ofVal v) := by
  unfold ofVal
  split
  · rename_i cs
    split
    · rename_i h
      have := List.all_eq_true.1 h
      exact .ag cs.toList (cs.toList.map .v) (by simp) this fun j u x hu hx => by
        rw [List.getElem?_map, hu] at hx
        simp only [Option.map_some, Option.some.injEq] at hx
        subst hx; exact .v u
    · exact .any _
  · exact .v v
theorem arg_ok {σ : List AV} {a : Act} (hsz : σ.length = a.tmps.size) (ht : ∀ (t : Nat) (u : Value) (x : AV), a.tmps[t]? = some u → σ[t]? = some x → AVok S Γ w u x) (hg : ∀ g x, tabAt g = some x → AVok S Γ w (.pointer (some ⟨g, 0, none⟩)) x) {x : Operand} {xa : XArg} (h : argT x = some xa) : AVok S Γ w (a.eval x) (evalA σ xa) := by
  unfold argT at h
  split at h <;> try (injection h with h; subst h)
  · rename_i t
    unfold evalA Act.eval
    rcases Nat.lt_or_ge t σ.length with hlt | hge
    · have h1 : a.tmps[t]? = some a.tmps[t] := Array.getElem?_eq_getElem (by omega)
      have h2 : σ[t]? = some σ[t] := List.getElem?_eq_getElem hlt
      have := ht t _ _ h1 h2
      simp only [Array.getD_eq_getD_getElem?, h1, List.getD_eq_getElem?_getD, h2, Option.getD_some]
      exact this
    · simp only [List.getD_eq_getElem?_getD, List.getElem?_eq_none hge, Option.getD_none]
      exact .any _
  · exact ofVal_ok _
  · exact .fn _ [] [] rfl fun j u x hu => by simp at hu
  · split at h <;> cases h
    exact hg _ _ (by assumption)
end
end Go.Proofs.Eng
