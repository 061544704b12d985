/-
  Package press's Turn: the sheets turned, the last one first.
-/
import Derived.Test.YtlgmabgpfaajhaaBk
import Derived.Maps.AppendAt
import Derived.RangeFuncNested
namespace Go.Proofs.Ytlgmabgpfaajhaa
open Go Go.RowKit Go.Shelf
attribute [local go_sem] Oper.semAt_some
theorem info163 : (Try.prog.info? 37).map (fun i => (i.zero, i.size, i.bytes)) = some (some (.agg #[.int .i64 0, .int .i64 0]), 2, 16) := by kernel_rfl
theorem cell_two0 (W : World) (a b : Value) (t : TypeId) : (W.alloc (.cells #[a, b] t)).cell? ⟨W.heap.size, 0, none⟩ = some a := by
  unfold World.cell?
  rw [show (W.alloc (.cells #[a, b] t)).heap[(Addr.mk W.heap.size 0 none).block]? = _ from World.alloc_heap_new W _]
  rfl
theorem cell_two1 (W : World) (a b : Value) (t : TypeId) : (W.alloc (.cells #[a, b] t)).cell? ⟨W.heap.size, 1, none⟩ = some b := by
  unfold World.cell?
  rw [show (W.alloc (.cells #[a, b] t)).heap[(Addr.mk W.heap.size 1 none).block]? = _ from World.alloc_heap_new W _]
  rfl
theorem cell_two_new (W : World) (a b : Value) (t : TypeId) : ∀ j u, [a, b][j]? = some u → (W.alloc (.cells #[a, b] t)).cell? (Addr.add ⟨W.heap.size, 0, none⟩ j) = some u := by
  intro j u h
  match j with
  | 0 => cases h; exact cell_two0 W _ _ t
  | 1 => cases h; exact cell_two1 W _ _ t
  | j + 2 => simp at h
/-- the cells of what has come, turned -/
def flS (pre : List (Nat × (Int × Int))) : List Value := pre.flatMap fun x => [.int .i64 x.2.2, .int .i64 x.2.1]
theorem bk_map (zs : List (Int × Int)) : (bkTo zs zs.length).map (·.2) = zs.reverse := by
  apply List.ext_getElem
  · simp [bkTo]
  · intro i h1 h2
    have hi : i < zs.length := by simpa using h2
    simp only [bkTo, List.map_map, List.getElem_map, List.getElem_range, Function.comp, List.getElem_reverse]
    rw [List.getD_eq_getElem?_getD, List.getElem?_eq_getElem (by omega)]
    rfl
theorem flS_bk (zs : List (Int × Int)) : flS (bkTo zs zs.length) = zs.reverse.flatMap fun p => [.int .i64 p.2, .int .i64 p.1] := by
  rw [← bk_map, List.flatMap_map]; rfl
set_option maxRecDepth 100000 in
set_option maxHeartbeats 2000000 in
theorem turn_in (F : Fence) (n : Nat) (h3 : F.fn 31) (h9 : F.fn 35) (h4 : F.fn 46) (h5 : F.fn 52) (hro : F.round = none) (hn : 3 ≤ n) (b off cap : Nat) (zs : List (Int × Int)) (hlen : zs.length ≤ 1000) (w : World) (hb : b < w.heap.size)
    (hc0 : ∀ j, j < zs.length → w.cell? ⟨b, off + j * 2, none⟩ = some (.int .i64 (zs.getD j (0, 0)).1)) (hc1 : ∀ j, j < zs.length → w.cell? ⟨b, off + j * 2 + 1, none⟩ = some (.int .i64 (zs.getD j (0, 0)).2))
    (hck : CallsIn F (n - 1) Try.prog 35 #[.slice (some ⟨b, off, none⟩) zs.length cap] w fun e w' => e = .returned (.int .i64 0) ∧ Below w.heap.size w w') :
    CallsIn F n Try.prog 31 #[.slice (some ⟨b, off, none⟩) zs.length cap] w fun e W' => ∃ v, e = .returned (.tuple #[v, .int .i64 0]) ∧ W'.ownsRow w.heap.size 37 2 v zs.length (zs.reverse.flatMap fun p => [.int .i64 p.2, .int .i64 p.1]) ∧ Below w.heap.size w W' := by
  have h1 : 1 ≤ n := by omega
  obtain ⟨i0, hi, hz0, hz1, hz2⟩ := info_parts info163
  refine callsIn_of_wp_marks Try.func31 rfl h3 ?_ hro
  simp only [Try.ntmps31, List.size_toArray, List.length_cons, List.length_nil, Nat.reduceAdd, Nat.reduceSub, Array.replicate_succ, Array.replicate_zero, List.push_toArray, List.append_toArray, List.nil_append, List.cons_append]
  gi_wp2_with (first | (gi_at_call 35; refine hck.mono ?_; rintro e w1 ⟨rfl, hB1⟩) | (gi_at_call 46; refine (back_in F (n - 1) h4 hro _ _ _ _).mono ?_; rintro e w' ⟨rfl, rfl⟩))
  have bT := Boxed.new (w1.alloc (.cells #[] 37)) 27 (.slice (some ⟨w1.heap.size, 0, none⟩) 0 0)
  obtain ⟨wa, hwa⟩ : ∃ wa, (w1.alloc (.cells #[] 37)).alloc (.cells #[.slice (some ⟨w1.heap.size, 0, none⟩) 0 0] 27) = wa := ⟨_, rfl⟩
  rw [hwa] at bT
  have hsz : wa.heap.size = w1.heap.size + 1 + 1 := by rw [← hwa]; simp
  rw [hwa]
  have bN := Boxed.new wa 27 (.slice (some ⟨b, off, none⟩) zs.length cap)
  rw [hsz] at bN
  have hs1 := hB1.size
  have hB0 : Below w.heap.size w (wa.alloc (.cells #[.slice (some ⟨b, off, none⟩) zs.length cap] 27)) := by
    rw [← hwa]
    exact ((hB1.alloc (by omega) _).alloc (by simp; omega) _).alloc (by simp; omega) _
  have hr0 : wa.ownsRow w.heap.size 37 2 (.slice (some ⟨w1.heap.size, 0, none⟩) 0 0) 0 [] := by
    refine ⟨rfl, .inr ⟨w1.heap.size, 0, #[], rfl, by omega, ?_, Nat.le_refl _, by decide, rfl, rfl⟩⟩
    rw [← hwa]
    exact (Below.heap_alloc _ _ _ (by simp)).trans (World.alloc_heap_new _ _)
  generalize hbv : Value.slice (some ⟨b, off, none⟩) zs.length cap = bv at *
  have hOwn : Own (fun (pre : List (Nat × (Int × Int))) (W : World) => (∃ v, Boxed W (w1.heap.size + 1) 27 v ∧ W.ownsRow w.heap.size 37 2 v pre.length (flS pre) ∧ True) ∧ Boxed W (w1.heap.size + 1 + 1) 27 bv) := fun s A B row hs hg hr =>
    ⟨holdsRow_own w.heap.size (w1.heap.size + 1) 27 37 2 (fun pre => pre.length) flS (fun _ _ => True) s A B row hs.1 hg hr, hs.2.kept hg (fun e => by
      obtain ⟨o, ho, hc⟩ := hr _ e.symm
      rw [show A.heap[w1.heap.size + 1 + 1]? = _ from hs.2] at ho; cases ho; cases hc)⟩
  have hOF := OwnFrom.and (Own.from hOwn (wa.alloc (.cells #[bv] 27)).heap.size) (ownFrom_below (w₀ := w) (Nat.le_refl _) (by simp; omega))
  refine wpIn_rangeFunc_ownH hro h1 (gf := 52) (lb := #[.pointer (some ⟨w1.heap.size + 1 + 1, 0, none⟩)]) rfl h5 (enters_of Try.func52 (by kernel_rfl) rfl)
    (back_stops F (n - 1) h5 hro (by omega) (w1.heap.size + 1 + 1) w.heap.size b off cap zs (by omega) _ (by simp; omega) (by simp; omega) hb (by rw [hbv]; exact bN.cell) (fun j hj => (hB0.cell (p := ⟨b, off + j * 2, none⟩) hb).trans (hc0 j hj)) (fun j hj => (hB0.cell (p := ⟨b, off + j * 2 + 1, none⟩) hb).trans (hc1 j hj)))
    KB.trans (KB.put (by simp; omega)) (Below.refl _ _) (fun _ => rfl)
    (fun pre W => ((∃ v, Boxed W (w1.heap.size + 1) 27 v ∧ W.ownsRow w.heap.size 37 2 v pre.length (flS pre) ∧ True) ∧ Boxed W (w1.heap.size + 1 + 1) 27 bv) ∧ Below w.heap.size w W)
    (fun _ _ _ => False) hOF (fun _ _ _ _ _ hs _ _ => hs)
    ⟨⟨⟨_, (by have := bT.alloc (.cells #[bv] 27); simpa using this), hr0.alloc _, trivial⟩, by simpa using bN⟩, hB0⟩
    (fun x a' W => ∃ S7, W.cell? ⟨S7, 0, none⟩ = some (.int .i64 x.2.1) ∧ W.cell? ⟨S7, 1, none⟩ = some (.int .i64 x.2.2) ∧ a' = { tmps := #[bv, undef, .slice none 0 0, .int .i64 0, .int .i64 0, .pointer (some ⟨w1.heap.size + 1, 0, none⟩), undef, .pointer (some ⟨S7, 0, none⟩), bv, .int .i64 0, .int .i64 0, .bool false, undef, .slice (some ⟨w1.heap.size, 0, none⟩) 0 0, bv, .func (.func 52) #[] #[.pointer (some ⟨w1.heap.size + 1 + 1, 0, none⟩)], .int .i64 (x.1 : Int), shV x.2, undef, undef, undef, undef, undef, undef, undef, undef, undef], defers := [] })
    (fun x a' => Own.from (fun s A B row hs hg hr => by obtain ⟨S7, e1, e2, e3⟩ := hs; exact ⟨S7, cell_kept e1 hg hr, cell_kept e2 hg hr, e3⟩) _) ?assign ?body ?done ?stop
  case assign =>
    intro l pre x W K hI hK
    simp only [shV]
    gi_wp2
    have hWs := hI.2.size
    exact hK _ _ (KeepsFrom.of_grownBy (World.grownBy_alloc W _ none) (fun j e => by cases e)) ⟨(Below.refl _ _).alloc hWs _, fun v e => cell_kept e (World.grownBy_alloc W _ none) (fun r e => by cases e)⟩ (hOF.alloc _ hI) ⟨W.heap.size, cell_two0 _ _ _ _, cell_two1 _ _ _ _, rfl⟩
  case body =>
    rintro l pre x a' W _ _ ⟨⟨⟨v, hv, hrow, _⟩, hbs⟩, hB⟩ ⟨S7, s0, s1, rfl⟩ hlt
    have hc := hv.cell
    have hml : 100000 ≤ maxLen := by decide
    have hWs := hB.size
    gi_wp2_with (gi_at_builtin; refine wpListIn_append_own _ rfl _ _ 27 rfl w.heap.size 37 i0 (.agg #[.int .i64 0, .int .i64 0]) 2 16 Try.underlying27 hi hz0 hz1 hz2 rfl (by decide) _ _ _ rfl (hrow.alloc _) ⟨W.heap.size, 0, none⟩ 1 1 [.int .i64 x.2.2, .int .i64 x.2.1] rfl rfl (cell_two_new _ _ _ _) (by simp [Value.oneCell']) (by omega) (by omega) (by simp; omega) ?_; intro v' w2 hown' hgrow _; obtain ⟨g', cap', rfl⟩ := ownsRow_succ hown'; obtain ⟨hv1, hv2, hr2, hk2, hb2⟩ := hv.appended (by decide) hrow hWs (by omega) hown' hgrow; have hbs2 := ((hbs.alloc _).kept hgrow (hbs.not_row (by decide) hrow)).kept (grownBy_setCell' _ (w1.heap.size + 1) (Value.slice (some ⟨g', 0, none⟩) (pre.length + 1) cap')) (by simp); have hc1 := hv1.cell; have hf1 := hv1.frozen)
    exact ⟨hk2.from _, ⟨hb2, fun u e => by rw [hbs.cell] at e; cases e; exact hbs2.cell⟩, ⟨⟨_, hv2, by simpa [flS] using hr2, trivial⟩, hbs2⟩, hB.trans hb2⟩
  case done =>
    rintro D ys W hD rfl ⟨⟨⟨v, hv, hrow, _⟩, hbs⟩, hB⟩ hK
    have hc := hv.cell
    gi_wp2
    refine ⟨by simp, .inl ⟨_, _, rfl, run_takeDeferred hK, ?_⟩⟩
    rw [bkTo_length, flS_bk] at hrow
    refine ⟨.tuple #[v, .int .i64 0], ?_, v, rfl, ownsRow_putObj hrow _ hK rfl, hB.trans (belowK_b (w := wa.alloc (.cells #[bv] 27)) (by simp; omega) W D _ _ hD hK rfl rfl)⟩
    simp [results, Try.f31, go_sem]
  case stop =>
    rintro D c pre W _ _ h _
    exact h.elim
end Go.Proofs.Ytlgmabgpfaajhaa

