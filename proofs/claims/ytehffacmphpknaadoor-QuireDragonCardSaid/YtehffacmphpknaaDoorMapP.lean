/-
  A map whose keys are points, asked for and given points that it does not have; strings.Trim at letters that are all cut.
-/
import Derived.Test.YtehffacmphpknaaDoorLane
import Derived.Test.YtehffacmphpknaaDoorShelfT
import Derived.Test.YtehffacmphpknaaDoorWk
import Derived.MapKept
set_option linter.unusedSimpArgs false
set_option linter.unusedVariables false
namespace Go.Proofs.YtehffacmphpknaaDoor
open Go.RowKit Go.Lib Go.Proofs.Quire

/-- a point as a value -/
def ptV (p : Int × Int) : Value := .agg #[.int .i64 p.1, .int .i64 p.2]
/-- block b is a map that has these points -/
def MapP (w : World) (b : Nat) (ks : List (Int × Int)) : Prop := ∃ es clock, w.heap[b]? = some (.map es clock) ∧ es.toList.map (fun e => e.key) = ks.map ptV
theorem checkKey_pt (em : Bool) (x y : Int) (W : World) : (Instr.checkKey em 10000 47 (.agg #[.int .i64 x, .int .i64 y])).run Tryd.prog W = .ok () W := by
  have hu := Tryd.underlying3
  have hsz := Tryd.sizeOf3
  have hag := Tryd.isAgg3
  have h1 : ∀ (v : Int), (Instr.checkKey em 9999 3 (.int .i64 v)).run Tryd.prog W = .ok () W := fun v => by
    rw [show (9999 : Nat) = 9998 + 1 from rfl, Instr.checkKey]
    simp only [Sem.run_bind, run_underlying hu, Result.andThen_ok]
    rfl
  rw [show (10000 : Nat) = 9999 + 1 from rfl, Instr.checkKey]
  simp only [Sem.run_bind, run_underlying Tryd.underlying47, Result.andThen_ok]
  simp only [Std.Legacy.Range.forIn_eq_forIn_range', Std.Legacy.Range.size, Nat.sub_zero, Nat.add_sub_cancel, Nat.div_one, List.range'_succ, List.range'_zero, List.forIn_cons, List.forIn_nil]
  first
    | (go_simp; done)
    | (go_simp; simp [h1])
theorem findNow_arr (P : Program) (x : Value) (n : Nat) (e : TypeId) : ∀ (es : List MapEntry) (i : Nat), Instr.findNow (.array n e) x es i = none ∨ (es = [] ∧ Instr.findNow (.array n e) x es i = some none)
  | [], _ => .inr ⟨rfl, rfl⟩
  | a :: es, i => by left; unfold Instr.findNow Instr.sameNow; rfl
theorem findAsking_pt (x y : Int) (W : World) : ∀ (es : List MapEntry) (ks : List (Int × Int)) (i : Nat), es.map (fun e => e.key) = ks.map ptV → (x, y) ∉ ks → (Instr.findAsking 47 (.agg #[.int .i64 x, .int .i64 y]) es i).run Tryd.prog W = .ok none W
  | [], _, _, _, _ => rfl
  | a :: es, ks, i, h, hn => by
    rcases ks with _ | ⟨⟨u, v⟩, ks⟩
    · simp at h
    · simp only [List.map_cons, List.cons.injEq] at h
      obtain ⟨h1, h2⟩ := h
      have hne : (x == u && y == v) = false := by
        rw [Bool.eq_false_iff]; intro e
        rw [Bool.and_eq_true, beq_iff_eq, beq_iff_eq] at e
        exact hn (by rw [e.1, e.2]; exact List.mem_cons_self ..)
      rw [Instr.findAsking]
      simp only [Sem.run_bind]
      rw [h1]
      have he : (Op.equal 47 (.agg #[.int .i64 x, .int .i64 y]) (ptV (u, v))).run Tryd.prog W = .ok false W := by
        have := eq_pair x y u v W; rw [hne] at this; exact this
      rw [he]
      simp only [Result.andThen_ok, Bool.false_eq_true, if_false]
      exact findAsking_pt x y W es ks (i + 1) h2 (fun e => hn (List.mem_cons_of_mem _ e))
theorem findKey_pt (x y : Int) (W : World) (es : List MapEntry) (ks : List (Int × Int)) (h : es.map (fun e => e.key) = ks.map ptV) (hn : (x, y) ∉ ks) : (Instr.findKey 47 (.agg #[.int .i64 x, .int .i64 y]) es).run Tryd.prog W = .ok none W := by
  unfold Instr.findKey
  simp only [Sem.run_bind, run_underlying Tryd.underlying47, Result.andThen_ok]
  rcases findNow_arr Tryd.prog (.agg #[.int .i64 x, .int .i64 y]) 2 3 es 0 with h1 | ⟨rfl, h1⟩
  · rw [h1]; exact findAsking_pt x y W es ks 0 h hn
  · rw [h1]; rfl
theorem lookup_pt (b : Nat) (x y : Int) (W : World) (ks : List (Int × Int)) (h : MapP W b ks) (hn : (x, y) ∉ ks) :
    (Instr.lookup 48 (.map (some b)) (.agg #[.int .i64 x, .int .i64 y]) false).run Tryd.prog W = .ok (.bool false) W := by
  obtain ⟨es, clock, hb, hk⟩ := h
  have hz : (zeroValue 4).run Tryd.prog W = .ok (.bool false) W := by kernel_rfl
  simp [Instr.lookup, run_underlying Tryd.underlying48, MapKept.run_getObj_map hb, checkKey_pt, findKey_pt x y W _ ks hk hn, hz, Result.andThen]
theorem update_pt (b : Nat) (x y : Int) (v : Value) (W : World) (ks : List (Int × Int)) (h : MapP W b ks) (hn : (x, y) ∉ ks) :
    ∃ W', (Instr.mapUpdate 48 (.map (some b)) (.agg #[.int .i64 x, .int .i64 y]) v).run Tryd.prog W = .ok () W' ∧ MapP W' b (ks ++ [(x, y)]) ∧ Keep [b] W W' := by
  obtain ⟨es, clock, hb, hk⟩ := h
  have hlt : b < W.heap.size := (Array.getElem?_eq_some_iff.1 hb).1
  refine ⟨{ W with heap := W.heap.setIfInBounds b (.map (es.push { key := .agg #[.int .i64 x, .int .i64 y], val := v, born := clock }) (clock + 1)) }, ?_, ⟨es.push { key := .agg #[.int .i64 x, .int .i64 y], val := v, born := clock }, clock + 1, ?_, ?_⟩, rfl, rfl, rfl, by simp, fun k hk hx => ?_⟩
  · simp [Instr.mapUpdate, run_underlying Tryd.underlying48, MapKept.run_getObj_map hb, checkKey_pt, findKey_pt x y W _ ks hk hn, MapKept.run_setObj_map _ hb, Result.andThen]
  · simp [hlt]
  · simp [hk]; rfl
  · have hne : b ≠ k := fun e => hx (by simp [e])
    simp [Array.getElem?_setIfInBounds, hne]
theorem dropWhile_all {α : Type} (p : α → Bool) : ∀ l : List α, (∀ x ∈ l, p x = true) → l.dropWhile p = []
  | [], _ => rfl
  | x :: l, h => by rw [List.dropWhile_cons, if_pos (h x (List.mem_cons_self ..))]; exact dropWhile_all p l (fun y hy => h y (List.mem_cons_of_mem _ hy))
theorem trim_any (l : List UInt8) (w : World) (hl : l.length ≤ 1000) (hc : ∀ c ∈ l, c = 118 ∨ c = 104) :
    Calls Tryd.prog 43 #[.string ⟨l.toArray⟩, .string ⟨#[118, 104]⟩] w (ValC (.string ⟨#[]⟩) w) := by
  have h := Any.strings_Trim_laid Tryd.laysTrim (by kernel_rfl) ⟨l.toArray⟩ ⟨#[118, 104]⟩ w (by rw [size_l]; omega) (by decide) (ascii_of_all (by decide))
  have e : Lib.trimS (⟨l.toArray⟩ : ByteArray).data.toList (⟨#[118, 104]⟩ : ByteArray).data.toList = [] := by
    simp only [List.toList_toArray]
    unfold Lib.trimS Lib.trimRightS Lib.trimLeftS
    rw [dropWhile_all _ l.reverse (fun x hx => by rcases hc x (by simpa using hx) with rfl | rfl <;> rfl)]; rfl
  rw [e] at h; exact h
end Go.Proofs.YtehffacmphpknaaDoor
