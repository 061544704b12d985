/-
  Package quire's stack and turn.
-/
import Derived.Test.YtbkmicimpgabgaaDoorOwn
import Derived.Test.YtbkmicimpgabgaaDoorMath
import Derived.Deep.OwnRows
import Derived.Laws.CopyOwn
set_option linter.unusedSimpArgs false
set_option linter.unusedVariables false
namespace Go.Proofs.YtbkmicimpgabgaaDoor
open Go.RowKit Go.Lib Go.Proofs.Quire Go.Deep

theorem Tryd.infoInt : (Tryd.prog.info? 3).map (fun i => (i.zero, i.size, i.bytes)) = some (some (.int .i64 0), 1, 8) := by kernel_rfl
theorem made_ints (n : Nat) : madeCells #[Value.int .i64 0] n = (ints (List.replicate n 0)).toArray := by
  apply Array.ext'; rw [toList_madeCells_one]; simp [ints]
theorem run_make_ints (n : Nat) (hn : n ≤ 1000) (w : World) : (Instr.makeSlice 23 (.int .i64 (n : Int)) (.int .i64 (n : Int))).run Tryd.prog w = .ok (.slice (some ⟨w.heap.size, 0, none⟩) n n) (w.alloc (.cells (ints (List.replicate n 0)).toArray 3)) := by
  rw [← made_ints]; exact run_make_row' 23 3 (.int .i64 0) 8 Tryd.underlying23 Tryd.infoInt rfl .i64 .i64 n (by omega) (by omega) w
theorem Arr.of_heap {w : World} {g : Nat} {xs : List Value} {e : TypeId} (h : w.heap[g]? = some (.cells xs.toArray e (0, 0))) : Arr w g xs := by
  refine ⟨(Array.getElem?_eq_some_iff.1 h).1, fun j hj => ⟨?_, ?_⟩⟩
  · simp only [World.cell?, h]
    simp [List.getD_eq_getElem?_getD, List.getElem?_eq_getElem hj]
  · simp [World.frozen?, h]
theorem one_ints (l : List Nat) : ∀ v ∈ ints l, v.oneCell' = true := fun v hv => by
  obtain ⟨n, _, rfl⟩ := List.mem_map.1 hv
  rfl

theorem ints_splice (cur cs : List Nat) (off : Nat) : splice (ints cur) off (ints cs) = ints (cur.take off ++ cs ++ cur.drop (off + cs.length)) := by
  simp [splice, ints, List.map_take, List.map_drop]
/-- numbers copied into a row of the call's own -/
theorem copy_ints {w : World} {ops : Array Oper} {rest : List Oper} {o : Oper} {a : Act} {Q : Exit → Act → World → Prop} (hgd : o.guard = none) (d s : Operand)
    (ho : o.op = .call { callee := .builtin .copy, args := #[d, s], argTypes := #[23, 23] })
    (g off dLen dCap gs os sCap : Nat) (cur cs : List Nat) (hd : a.eval d = .slice (some ⟨g, off, none⟩) dLen dCap) (hs : a.eval s = .slice (some ⟨gs, os, none⟩) cs.length sCap)
    (hg : w.heap[g]? = some (.cells (ints cur).toArray 3 (0, 0))) (hle : cs.length ≤ dLen) (hfit : off + cs.length ≤ cur.length)
    (hcs : ∀ j, j < cs.length → w.cell? ⟨gs, os + j, none⟩ = some ((ints cs).getD j (.bool false))) (B : Nat) (w0 : World) (hb : Below B w0 w) (hBg : B ≤ g)
    (h : ∀ w', Hid (w'.heap[g]? = some (.cells (ints (cur.take off ++ cs ++ cur.drop (off + cs.length))).toArray 3 (0, 0))) → Below B w0 w' → wpList Tryd.prog ops Q rest (a.put o.dst (.int .i64 cs.length)) w') :
    wpList Tryd.prog ops Q (o :: rest) a w := by
  have hsz : (Tryd.prog.info? 3).map (·.size) = some 1 := by
    obtain ⟨i, hi, _, h1, _⟩ := info_parts Tryd.infoInt
    rw [hi]; exact congrArg some h1
  refine wpList_copy_splice hgd d s 23 23 ho 3 Tryd.underlying23 hsz (some ⟨g, off, none⟩) (some ⟨gs, os, none⟩) dLen dCap cs.length sCap hd hs g off (ints cur) 3 hg (ints cs) (by rw [ints_length]; exact (Nat.min_eq_left hle).symm) ?_ (by simpa using hfit) (one_ints cs) B w0 hb hBg ?_
  · intro _
    refine ⟨rfl, ⟨gs, os, none⟩, rfl, fun j v hj => ?_⟩
    have hjl : j < cs.length := by simpa using (List.getElem?_eq_some_iff.1 hj).1
    have := hcs j hjl
    rw [getD_lt _ _ _ (by simpa using hjl), (List.getElem?_eq_some_iff.1 hj).2] at this
    rw [Addr.add]; split
    · rename_i h0; subst h0; simpa using this
    · simpa using this
  · intro w' h1 h2
    rw [ints_length] at *
    exact h w' (by show _ = _; rw [← ints_splice]; exact h1.out) h2

def StackPost (w : World) (l : List Nat) (e : Ending) (w' : World) : Prop :=
  ∃ g, e = .returned (.slice (some ⟨g, 0, none⟩) l.length l.length) ∧ w.heap.size ≤ g ∧ Arr w' g (ints l) ∧ Below w.heap.size w w'
set_option maxRecDepth 100000 in
set_option maxHeartbeats 1000000 in
theorem stack_any (A B : Option Addr) (c d : Nat) (a b : List Nat) (w : World) (ha : Rd w A a.length (ints a)) (hb : Rd w B b.length (ints b)) (h0 : 0 < a.length) (h1 : 0 < b.length) (hn : a.length + b.length ≤ 1000) :
    Calls Tryd.prog 67 #[.slice A a.length c, .slice B b.length d] w (StackPost w (a ++ b)) := by
  obtain ⟨ga, oa, rfl, hga, _, hca⟩ := ha.2 h0
  obtain ⟨gb, ob, rfl, hgb, _, hcb⟩ := hb.2 h1
  have hmk := run_make_ints (a.length + b.length) hn
  have e1 : ((a.length + b.length : Nat) : Int) = (a.length : Int) + b.length := by omega
  rw [e1] at hmk
  clear e1
  have hb0 : Below w.heap.size w (w.alloc (.cells (ints (List.replicate (a.length + b.length) 0)).toArray 3)) := (Below.refl _ w).alloc (Nat.le_refl _) _
  have hg0 : (w.alloc (.cells (ints (List.replicate (a.length + b.length) 0)).toArray 3)).heap[w.heap.size]? = some (.cells (ints (List.replicate (a.length + b.length) 0)).toArray 3 (0, 0)) := heap_alloc_new w _
  have hca1 : ∀ j, j < a.length → (w.alloc (.cells (ints (List.replicate (a.length + b.length) 0)).toArray 3)).cell? ⟨ga, oa + j, none⟩ = some ((ints a).getD j (.bool false)) := fun j hj => (hb0.cell (p := ⟨ga, oa + j, none⟩) hga).trans (hca j hj)
  have HB0 := Lib.hid hb0; have HG0 := Lib.hid hg0; have HCA := Lib.hid hca1
  clear hb0 hg0 hca1
  have hbe : ¬ b = [] := fun e => by rw [e] at h1; simp at h1
  have hle1 : a.length ≤ a.length + b.length := by omega
  have hfit1 : 0 + a.length ≤ (List.replicate (a.length + b.length) 0).length := by simp
  go_enter Tryd.func67, Tryd.ntmps67
  go_wp2_with (refine copy_ints rfl _ _ rfl w.heap.size 0 (a.length + b.length) (a.length + b.length) ga oa c _ a rfl rfl HG0.out hle1 hfit1 HCA.out w.heap.size w HB0.out (Nat.le_refl _) ?_)
  intro w1 HG1 hb1
  have hcb1 : ∀ j, j < b.length → w1.cell? ⟨gb, ob + j, none⟩ = some ((ints b).getD j (.bool false)) := fun j hj => (hb1.cell (p := ⟨gb, ob + j, none⟩) hgb).trans (hcb j hj)
  have HCB := Lib.hid hcb1
  clear hcb1
  have hle2 : b.length ≤ b.length := Nat.le_refl _
  have hfit2 : a.length + b.length ≤ (a ++ List.replicate b.length 0).length := by simp
  go_wp2_with (refine copy_ints rfl _ _ rfl w.heap.size a.length b.length b.length gb ob d _ b rfl rfl HG1.out hle2 hfit2 HCB.out w.heap.size w hb1 (Nat.le_refl _) ?_)
  intro w2 HG2 hb2
  go_wp2
  go_ret
  have e : (a ++ List.replicate b.length 0).take a.length ++ b ++ (a ++ List.replicate b.length 0).drop (a.length + b.length) = a ++ b := by simp
  have h2 := HG2.out
  refine ⟨w.heap.size, by simp, Nat.le_refl _, Arr.of_heap (e := 3) (by first | (rw [← e]; exact h2) | simpa using h2), hb2⟩
end Go.Proofs.YtbkmicimpgabgaaDoor
