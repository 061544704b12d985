/-
  Package quire's newStrip and foldAll.
-/
import Derived.Test.YtbkmicimpgabgaaDoorFold
set_option linter.unusedSimpArgs false
set_option linter.unusedVariables false
namespace Go.Proofs.YtbkmicimpgabgaaDoor
open Go.RowKit Go.Lib Go.Proofs.Quire Go.Deep

theorem Tryd.infoB : (Tryd.prog.info? 4).map (fun i => (i.zero, i.size, i.bytes)) = some (some (.bool false), 1, 1) := by kernel_rfl
theorem Tryd.infoU : (Tryd.prog.info? 5).map (fun i => (i.zero, i.size, i.bytes)) = some (some (.int .u8 0), 1, 1) := by kernel_rfl
theorem run_make_bools (n : Nat) (hn : n ≤ 1000) (w : World) : (Instr.makeSlice 57 (.int .i64 (n : Int)) (.int .i64 (n : Int))).run Tryd.prog w = .ok (.slice (some ⟨w.heap.size, 0, none⟩) n n) (w.alloc (.cells (bools (List.replicate n false)).toArray 4)) := by
  have e : madeCells #[Value.bool false] n = (bools (List.replicate n false)).toArray := by
    apply Array.ext'; rw [toList_madeCells_one]; simp [bools]
  rw [← e]; exact run_make_row' 57 4 (.bool false) 1 Tryd.underlying57 Tryd.infoB rfl .i64 .i64 n (by omega) (by omega) w
theorem run_make_u8s (n : Nat) (hn : n ≤ 1000) (w : World) : (Instr.makeSlice 58 (.int .i64 (n : Int)) (.int .i64 (n : Int))).run Tryd.prog w = .ok (.slice (some ⟨w.heap.size, 0, none⟩) n n) (w.alloc (.cells (u8s (List.replicate n 0)).toArray 5)) := by
  have e : madeCells #[Value.int .u8 0] n = (u8s (List.replicate n 0)).toArray := by
    apply Array.ext'; rw [toList_madeCells_one]; simp [u8s]
  rw [← e]; exact run_make_row' 58 5 (.int .u8 0) 1 Tryd.underlying58 Tryd.infoU rfl .i64 .i64 n (by omega) (by omega) w

def NewPost (k : Nat) (w : World) (e : Ending) (w' : World) : Prop :=
  ∃ p gt gc, e = .returned (.pointer (some ⟨p, 0, none⟩)) ∧ (w.heap.size ≤ p ∧ w.heap.size ≤ gt ∧ w.heap.size ≤ gc) ∧ StripAt w' p gt gc (newSt k) ∧ Below w.heap.size w w'
set_option maxRecDepth 100000 in
set_option maxHeartbeats 4000000 in
theorem new_any (k : Nat) (w : World) (hk : k ≤ 6) :
    Calls Tryd.prog 56 #[.int .i64 k] w (NewPost k w) := by
  obtain ⟨N, hN⟩ : ∃ N, Hid ((2 : Nat) ^ k = N) := ⟨_, rfl⟩
  have hN64 : 1 ≤ N ∧ N ≤ 64 := by
    rw [← hN.out]
    exact ⟨Nat.one_le_two_pow, Nat.le_trans (Nat.pow_le_pow_right (by omega) hk) (by decide)⟩
  obtain ⟨hN1, hN2⟩ := hN64
  have hwr : wrap64 ((2 : Int) ^ k) = (N : Int) := by
    rw [← hN.out, show ((2 : Int) ^ k) = (((2 : Nat) ^ k : Nat) : Int) by push_cast; rfl, hN.out]
    simp only [wrap64]; omega
  obtain ⟨M, hM⟩ : ∃ M, N = M + 1 := ⟨N - 1, by omega⟩
  have hsub : (N : Int) - 1 = (M : Int) := by omega
  have hmb := run_make_bools N (by omega)
  have hmu := run_make_u8s M (by omega)
  have HM := Lib.hid hM
  clear hM
  go_enter Tryd.func56, Tryd.ntmps56
  go_wp2_with (fail)
  go_region
  · have hb0 : Below w.heap.size w (((w.alloc (.cells (bools (List.replicate N false)).toArray 4)).alloc (.cells (u8s (List.replicate M 0)).toArray 5)).alloc (.cells #[.slice none 0 0, .slice (some ⟨w.heap.size, 0, none⟩) N N, .slice (some ⟨w.heap.size + 1, 0, none⟩) M M] 60)).drew := ((((Below.refl _ w).alloc (Nat.le_refl _) _).alloc (by simp) _).alloc (by simp; omega) _).drew
    have h1 := ((Arr.new w (bools (List.replicate N false)) 4).alloc (.cells (u8s (List.replicate M 0)).toArray 5)).alloc (.cells #[.slice none 0 0, .slice (some ⟨w.heap.size, 0, none⟩) N N, .slice (some ⟨w.heap.size + 1, 0, none⟩) M M] 60)
    have h2 := (Arr.new (w.alloc (.cells (bools (List.replicate N false)).toArray 4)) (u8s (List.replicate M 0)) 5).alloc (.cells #[.slice none 0 0, .slice (some ⟨w.heap.size, 0, none⟩) N N, .slice (some ⟨w.heap.size + 1, 0, none⟩) M M] 60)
    have h3 := Arr.new ((w.alloc (.cells (bools (List.replicate N false)).toArray 4)).alloc (.cells (u8s (List.replicate M 0)).toArray 5)) [.slice none 0 0, .slice (some ⟨w.heap.size, 0, none⟩) N N, .slice (some ⟨w.heap.size + 1, 0, none⟩) M M] 60
    simp only [World.size_alloc] at h2 h3
    have hz0 : (((w.alloc (.cells (bools (List.replicate N false)).toArray 4)).alloc (.cells (u8s (List.replicate M 0)).toArray 5)).alloc (.cells #[.slice none 0 0, .slice (some ⟨w.heap.size, 0, none⟩) N N, .slice (some ⟨w.heap.size + 1, 0, none⟩) M M] 60)).drew.heap.size = w.heap.size + 3 := by simp
    have ht0 : Arr (((w.alloc (.cells (bools (List.replicate N false)).toArray 4)).alloc (.cells (u8s (List.replicate M 0)).toArray 5)).alloc (.cells #[.slice none 0 0, .slice (some ⟨w.heap.size, 0, none⟩) N N, .slice (some ⟨w.heap.size + 1, 0, none⟩) M M] 60)).drew w.heap.size (bools (List.replicate N false)) := h1.drewN 1
    have hc0 : Arr (((w.alloc (.cells (bools (List.replicate N false)).toArray 4)).alloc (.cells (u8s (List.replicate M 0)).toArray 5)).alloc (.cells #[.slice none 0 0, .slice (some ⟨w.heap.size, 0, none⟩) N N, .slice (some ⟨w.heap.size + 1, 0, none⟩) M M] 60)).drew (w.heap.size + 1) (u8s (List.replicate M 0)) := h2.drewN 1
    have hp0 : Arr (((w.alloc (.cells (bools (List.replicate N false)).toArray 4)).alloc (.cells (u8s (List.replicate M 0)).toArray 5)).alloc (.cells #[.slice none 0 0, .slice (some ⟨w.heap.size, 0, none⟩) N N, .slice (some ⟨w.heap.size + 1, 0, none⟩) M M] 60)).drew (w.heap.size + 1 + 1) [.slice none 0 0, .slice (some ⟨w.heap.size, 0, none⟩) N N, .slice (some ⟨w.heap.size + 1, 0, none⟩) M M] := h3.drewN 1
    clear h1 h2 h3
    generalize (((w.alloc (.cells (bools (List.replicate N false)).toArray 4)).alloc (.cells (u8s (List.replicate M 0)).toArray 5)).alloc (.cells #[.slice none 0 0, .slice (some ⟨w.heap.size, 0, none⟩) N N, .slice (some ⟨w.heap.size + 1, 0, none⟩) M M] 60)).drew = w1 at hb0 hz0 ht0 hc0 hp0 ⊢
    obtain ⟨gt, hgt⟩ : ∃ gt, gt = w.heap.size := ⟨_, rfl⟩
    obtain ⟨gc, hgc⟩ : ∃ gc, gc = (w.heap.size + 1) := ⟨_, rfl⟩
    have ht1 : Arr w1 gt (bools (List.replicate N false)) := by rw [hgt]; exact ht0
    have hc1 : Arr w1 gc (u8s (List.replicate M 0)) := by rw [hgc]; exact hc0
    have hp1 : Arr w1 (w.heap.size + 1 + 1) [.slice none 0 0, .slice (some ⟨gt, 0, none⟩) N N, .slice (some ⟨gc, 0, none⟩) M M] := by rw [hgt, hgc]; exact hp0
    have hne : gt ≠ w.heap.size + 1 + 1 ∧ gc ≠ w.heap.size + 1 + 1 ∧ gt ≠ gc ∧ w.heap.size ≤ gt ∧ w.heap.size ≤ gc ∧ gt < w.heap.size + 3 ∧ gc < w.heap.size + 3 := by omega
    clear hgt hgc ht0 hc0 hp0
    obtain ⟨n1, n2, n3, n4, n5, n6, n7⟩ := hne
    have hst : Hid ((List.range N).map (fun i => [i]) = (newSt k).cols) := by show _ = _; unfold newSt; rw [hN.out]
    obtain ⟨RG, hRG⟩ : ∃ RG : List Nat, Hid (List.range (w.heap.size + 1 + 1) = RG) := ⟨_, rfl⟩
    have hXB : ∀ j, j ∈ ((w.heap.size + 1 + 1) :: gt :: gc :: RG) → j < w.heap.size + 3 := fun j hj => by
      simp at hj; rcases hj with rfl | rfl | rfl | hj
      · omega
      · omega
      · omega
      · rw [← hRG.out, List.mem_range] at hj; omega
    simp only [hwr]
    have HWR := Lib.hid hwr
    clear hwr
    go_wp2_with (fail)
    go_loopw [5, 16] (fun _ v wr => ∃ (i : Nat) (A : Option Addr) (c : Nat) (xs : List Value), i ≤ N ∧ v = .int .i64 i ∧ wr.ownsRow (w.heap.size + 3) 23 1 (.slice A i c) i xs ∧ EachN wr (ownL (.slice A i c) ++ ((w.heap.size + 1 + 1) :: gt :: gc :: RG)) xs ((List.range i).map (fun i => [i])) ∧
        Arr wr (w.heap.size + 1 + 1) [.slice A i c, .slice (some ⟨gt, 0, none⟩) N N, .slice (some ⟨gc, 0, none⟩) M M] ∧ Arr wr gt (bools (List.replicate N false)) ∧ Arr wr gc (u8s (List.replicate M 0)) ∧ Below w.heap.size w wr ∧ w.heap.size + 3 ≤ wr.heap.size) (fun _ v _ => N - (RowKit.intOf v).toNat)
    case atStart => exact ⟨0, none, 0, [], Nat.zero_le _, rfl, World.ownsRow_nil _ _ _ _, EachN.nil _ _, hp1, ht1, hc1, hb0, by omega⟩
    case round =>
      clear hp1 ht1 hc1 hb0 hz0
      obtain ⟨i, A, c, xs, hi, rfl, hown, heach, hpw, htw, hcw, hbr, hzr⟩ := hrel
      by_cases hlt : i < N
      · obtain ⟨c0, f0⟩ := hpw.2 0 (by simp)
        have hoL : ∀ j, j ∈ ownL (.slice A i c) → w.heap.size + 3 ≤ j ∧ j < wr.heap.size := fun j hj => hown.lt j (mem_ownL hj)
        have hown1 := hown.alloc (.cells #[.int .i64 (i : Int)] 3)
        have heach1 := heach.keep (Y := []) ((Keep.refl _ _).alloc (.cells #[.int .i64 (i : Int)] 3)) (by simp)
        have hl1 : RdW (wr.alloc (.cells #[.int .i64 (i : Int)] 3)) (ownL (.slice A i c) ++ ((w.heap.size + 1 + 1) :: gt :: gc :: RG)) (some ⟨wr.heap.size, 0, none⟩) [i].length (ints [i]) :=
          ⟨(Arr.new wr [.int .i64 (i : Int)] 3).rdI (l := [i]) (fun hk => by
            rcases List.mem_append.1 hk with hk | hk
            · have := (hoL _ hk).2; omega
            · have := hXB _ hk; omega), fun _ => ⟨_, rfl, Arr.new wr [.int .i64 (i : Int)] 3⟩⟩
        have hp2 := hpw.alloc (.cells #[.int .i64 (i : Int)] 3)
        have ht2 := htw.alloc (.cells #[.int .i64 (i : Int)] 3)
        have hc2 := hcw.alloc (.cells #[.int .i64 (i : Int)] 3)
        have hb2 := hbr.alloc hbr.size (.cells #[.int .i64 (i : Int)] 3)
        have hz2 : (wr.alloc (.cells #[.int .i64 (i : Int)] 3)).heap.size = wr.heap.size + 1 := by simp
        have hi1000 : i ≤ 1000 := by omega
        have hB2 : w.heap.size + 3 ≤ (wr.alloc (.cells #[.int .i64 (i : Int)] 3)).heap.size := by omega
        clear hown heach hpw htw hcw hbr
        go_wp2_with (at_builtin; refine append_col (wr.alloc (.cells #[.int .i64 (i : Int)] 3)) rfl _ _ rfl (w.heap.size + 3) i (.slice A i c) ((w.heap.size + 1 + 1) :: gt :: gc :: RG) xs ((List.range i).map (fun i => [i])) [i] (some ⟨wr.heap.size, 0, none⟩) 1 rfl hown1 heach1 hl1 (Nat.le_refl _) (wr.heap.size + 1) hz2 rfl hi1000 hB2 hXB ?_)
        intro A7 c7 xs7 w7 hown7 heach7 hK7
        have hp7 := hp2.keep hK7 (fun hk => by have := (hoL _ hk).1; omega)
        have ht7 := ht2.keep hK7 (fun hk => by have := (hoL _ hk).1; omega)
        have hc7 := hc2.keep hK7 (fun hk => by have := (hoL _ hk).1; omega)
        have hb7 : Below w.heap.size w w7 := hb2.trans (hK7.below (by omega) (fun j hj => by have := (hoL j hj).1; omega))
        have hz7 := hK7.size
        obtain ⟨c7', f7'⟩ := hp7.2 0 (by simp)
        have hp8 := hp7.set 0 (by simp) (.slice A7 (i + 1) c7)
        have HP8 := Lib.hid hp8
        have er : Hid ((List.range i).map (fun i => [i]) ++ [[i]] = (List.range (i + 1)).map (fun i => [i])) := by show _ = _; rw [List.range_succ, List.map_append]; rfl
        have hown8 := ownsRow_setCell_below hown7 (a := ⟨w.heap.size + 1 + 1, 0, none⟩) (by show w.heap.size + 1 + 1 < _; omega) (.slice A7 (i + 1) c7)
        have heach8 : EachN (w7.setCell ⟨w.heap.size + 1 + 1, 0, none⟩ (.slice A7 (i + 1) c7)) (ownL (.slice A7 (i + 1) c7) ++ ((w.heap.size + 1 + 1) :: gt :: gc :: RG)) xs7 ((List.range (i + 1)).map (fun i => [i])) := by
          rw [← er.out]; exact heach7.keep (Y := [w.heap.size + 1 + 1]) (show Keep [w.heap.size + 1 + 1] w7 (w7.setCell ⟨w.heap.size + 1 + 1, 0, none⟩ (.slice A7 (i + 1) c7)) from (Keep.refl _ _).setCell (.inl (by simp)) _) (fun j hj => by rw [List.mem_singleton.1 hj]; exact List.mem_append_right _ (List.mem_cons_self ..))
        have ht8 := ht7.other (p := ⟨w.heap.size + 1 + 1, 0, none⟩) (fun e => n1 e.symm) (.slice A7 (i + 1) c7)
        have hc8 := hc7.other (p := ⟨w.heap.size + 1 + 1, 0, none⟩) (fun e => n2 e.symm) (.slice A7 (i + 1) c7)
        have hb8 := hb7.setCell (p := ⟨w.heap.size + 1 + 1, 0, none⟩) (by show w.heap.size ≤ w.heap.size + 1 + 1; omega) (.slice A7 (i + 1) c7)
        have HO8 := Lib.hid hown8; have HE8 := Lib.hid heach8; have HT8 := Lib.hid ht8; have HC8 := Lib.hid hc8; have HB8 := Lib.hid hb8
        have hz8 : w.heap.size + 3 ≤ (w7.setCell ⟨w.heap.size + 1 + 1, 0, none⟩ (.slice A7 (i + 1) c7)).heap.size := by rw [World.size_setCell]; omega
        clear hown1 heach1 hl1 hp2 ht2 hc2 hb2 hp8 hown8 heach8 ht8 hc8 hb8 hown7 heach7 hp7 ht7 hc7 hb7
        go_wp2_with (fail)
        exact ⟨⟨i + 1, A7, c7, xs7, by omega, by go_num, HO8.out, HE8.out, HP8.out, HT8.out, HC8.out, HB8.out, hz8⟩, by simp [RowKit.intOf]; omega⟩
      · obtain rfl : i = N := by omega
        have hcapF : i ≤ c := by
          rcases hown.2 with ⟨hv, _⟩ | ⟨_, cap, _, hv, _, _, hcap, _⟩
          · injection hv with _ h _; omega
          · injection hv with _ _ h; omega
        have hlen : ((List.range i).map (fun i => [i])).length = i := by simp
        have hcols : Cols wr ((w.heap.size + 1 + 1) :: gt :: gc :: RG) A ((List.range i).map (fun i => [i])) := heach.cols (c := c) (B := w.heap.size + 3) (by rw [hlen]; exact hown) (fun j hj => List.mem_append_right _ hj) hXB
        go_wp2_with (fail)
        go_ret
        refine ⟨w.heap.size + 1 + 1, gt, gc, rfl, ⟨by omega, n4, n5⟩, ⟨n1, n2, n3, A, c, i, M, ?_, ?_, ?_, ?_, ?_⟩, hbr⟩
        · show (newSt k).cols.length ≤ c
          rw [← hst.out, hlen]; exact hcapF
        · have e1 : (newSt k).cols.length = i := by rw [← hst.out, hlen]
          have e2 : (newSt k).trn.length = i := by unfold newSt; simp only [List.length_replicate]; exact hN.out
          have e3 : (newSt k).cre.length = M := by unfold newSt; simp only [List.length_replicate]; have := hN.out; have := HM.out; omega
          rw [e1, e2, e3]; exact hpw
        · have e2 : (newSt k).trn = List.replicate i false := by unfold newSt; rw [hN.out]
          rw [e2]; exact htw
        · have e3 : (newSt k).cre = List.replicate M 0 := by
            unfold newSt; rw [hN.out, show i - 1 = M by have := HM.out; omega]
          rw [e3]; exact hcw
        · rw [← hst.out]; show Cols _ ((w.heap.size + 1 + 1) :: gt :: gc :: List.range (w.heap.size + 1 + 1)) _ _; rw [hRG.out]; exact hcols
  · have hb0 : Below w.heap.size w (((w.alloc (.cells (u8s (List.replicate M 0)).toArray 5)).alloc (.cells (bools (List.replicate N false)).toArray 4)).alloc (.cells #[.slice none 0 0, .slice (some ⟨w.heap.size + 1, 0, none⟩) N N, .slice (some ⟨w.heap.size, 0, none⟩) M M] 60)).drew := ((((Below.refl _ w).alloc (Nat.le_refl _) _).alloc (by simp) _).alloc (by simp; omega) _).drew
    have h1 := ((Arr.new w (u8s (List.replicate M 0)) 5).alloc (.cells (bools (List.replicate N false)).toArray 4)).alloc (.cells #[.slice none 0 0, .slice (some ⟨w.heap.size + 1, 0, none⟩) N N, .slice (some ⟨w.heap.size, 0, none⟩) M M] 60)
    have h2 := (Arr.new (w.alloc (.cells (u8s (List.replicate M 0)).toArray 5)) (bools (List.replicate N false)) 4).alloc (.cells #[.slice none 0 0, .slice (some ⟨w.heap.size + 1, 0, none⟩) N N, .slice (some ⟨w.heap.size, 0, none⟩) M M] 60)
    have h3 := Arr.new ((w.alloc (.cells (u8s (List.replicate M 0)).toArray 5)).alloc (.cells (bools (List.replicate N false)).toArray 4)) [.slice none 0 0, .slice (some ⟨w.heap.size + 1, 0, none⟩) N N, .slice (some ⟨w.heap.size, 0, none⟩) M M] 60
    simp only [World.size_alloc] at h2 h3
    have hz0 : (((w.alloc (.cells (u8s (List.replicate M 0)).toArray 5)).alloc (.cells (bools (List.replicate N false)).toArray 4)).alloc (.cells #[.slice none 0 0, .slice (some ⟨w.heap.size + 1, 0, none⟩) N N, .slice (some ⟨w.heap.size, 0, none⟩) M M] 60)).drew.heap.size = w.heap.size + 3 := by simp
    have ht0 : Arr (((w.alloc (.cells (u8s (List.replicate M 0)).toArray 5)).alloc (.cells (bools (List.replicate N false)).toArray 4)).alloc (.cells #[.slice none 0 0, .slice (some ⟨w.heap.size + 1, 0, none⟩) N N, .slice (some ⟨w.heap.size, 0, none⟩) M M] 60)).drew (w.heap.size + 1) (bools (List.replicate N false)) := h2.drewN 1
    have hc0 : Arr (((w.alloc (.cells (u8s (List.replicate M 0)).toArray 5)).alloc (.cells (bools (List.replicate N false)).toArray 4)).alloc (.cells #[.slice none 0 0, .slice (some ⟨w.heap.size + 1, 0, none⟩) N N, .slice (some ⟨w.heap.size, 0, none⟩) M M] 60)).drew w.heap.size (u8s (List.replicate M 0)) := h1.drewN 1
    have hp0 : Arr (((w.alloc (.cells (u8s (List.replicate M 0)).toArray 5)).alloc (.cells (bools (List.replicate N false)).toArray 4)).alloc (.cells #[.slice none 0 0, .slice (some ⟨w.heap.size + 1, 0, none⟩) N N, .slice (some ⟨w.heap.size, 0, none⟩) M M] 60)).drew (w.heap.size + 1 + 1) [.slice none 0 0, .slice (some ⟨w.heap.size + 1, 0, none⟩) N N, .slice (some ⟨w.heap.size, 0, none⟩) M M] := h3.drewN 1
    clear h1 h2 h3
    generalize (((w.alloc (.cells (u8s (List.replicate M 0)).toArray 5)).alloc (.cells (bools (List.replicate N false)).toArray 4)).alloc (.cells #[.slice none 0 0, .slice (some ⟨w.heap.size + 1, 0, none⟩) N N, .slice (some ⟨w.heap.size, 0, none⟩) M M] 60)).drew = w1 at hb0 hz0 ht0 hc0 hp0 ⊢
    obtain ⟨gt, hgt⟩ : ∃ gt, gt = (w.heap.size + 1) := ⟨_, rfl⟩
    obtain ⟨gc, hgc⟩ : ∃ gc, gc = w.heap.size := ⟨_, rfl⟩
    have ht1 : Arr w1 gt (bools (List.replicate N false)) := by rw [hgt]; exact ht0
    have hc1 : Arr w1 gc (u8s (List.replicate M 0)) := by rw [hgc]; exact hc0
    have hp1 : Arr w1 (w.heap.size + 1 + 1) [.slice none 0 0, .slice (some ⟨gt, 0, none⟩) N N, .slice (some ⟨gc, 0, none⟩) M M] := by rw [hgt, hgc]; exact hp0
    have hne : gt ≠ w.heap.size + 1 + 1 ∧ gc ≠ w.heap.size + 1 + 1 ∧ gt ≠ gc ∧ w.heap.size ≤ gt ∧ w.heap.size ≤ gc ∧ gt < w.heap.size + 3 ∧ gc < w.heap.size + 3 := by omega
    clear hgt hgc ht0 hc0 hp0
    obtain ⟨n1, n2, n3, n4, n5, n6, n7⟩ := hne
    have hst : Hid ((List.range N).map (fun i => [i]) = (newSt k).cols) := by show _ = _; unfold newSt; rw [hN.out]
    obtain ⟨RG, hRG⟩ : ∃ RG : List Nat, Hid (List.range (w.heap.size + 1 + 1) = RG) := ⟨_, rfl⟩
    have hXB : ∀ j, j ∈ ((w.heap.size + 1 + 1) :: gt :: gc :: RG) → j < w.heap.size + 3 := fun j hj => by
      simp at hj; rcases hj with rfl | rfl | rfl | hj
      · omega
      · omega
      · omega
      · rw [← hRG.out, List.mem_range] at hj; omega
    simp only [hwr]
    have HWR := Lib.hid hwr
    clear hwr
    go_wp2_with (fail)
    go_loopw [5, 16] (fun _ v wr => ∃ (i : Nat) (A : Option Addr) (c : Nat) (xs : List Value), i ≤ N ∧ v = .int .i64 i ∧ wr.ownsRow (w.heap.size + 3) 23 1 (.slice A i c) i xs ∧ EachN wr (ownL (.slice A i c) ++ ((w.heap.size + 1 + 1) :: gt :: gc :: RG)) xs ((List.range i).map (fun i => [i])) ∧
        Arr wr (w.heap.size + 1 + 1) [.slice A i c, .slice (some ⟨gt, 0, none⟩) N N, .slice (some ⟨gc, 0, none⟩) M M] ∧ Arr wr gt (bools (List.replicate N false)) ∧ Arr wr gc (u8s (List.replicate M 0)) ∧ Below w.heap.size w wr ∧ w.heap.size + 3 ≤ wr.heap.size) (fun _ v _ => N - (RowKit.intOf v).toNat)
    case atStart => exact ⟨0, none, 0, [], Nat.zero_le _, rfl, World.ownsRow_nil _ _ _ _, EachN.nil _ _, hp1, ht1, hc1, hb0, by omega⟩
    case round =>
      clear hp1 ht1 hc1 hb0 hz0
      obtain ⟨i, A, c, xs, hi, rfl, hown, heach, hpw, htw, hcw, hbr, hzr⟩ := hrel
      by_cases hlt : i < N
      · obtain ⟨c0, f0⟩ := hpw.2 0 (by simp)
        have hoL : ∀ j, j ∈ ownL (.slice A i c) → w.heap.size + 3 ≤ j ∧ j < wr.heap.size := fun j hj => hown.lt j (mem_ownL hj)
        have hown1 := hown.alloc (.cells #[.int .i64 (i : Int)] 3)
        have heach1 := heach.keep (Y := []) ((Keep.refl _ _).alloc (.cells #[.int .i64 (i : Int)] 3)) (by simp)
        have hl1 : RdW (wr.alloc (.cells #[.int .i64 (i : Int)] 3)) (ownL (.slice A i c) ++ ((w.heap.size + 1 + 1) :: gt :: gc :: RG)) (some ⟨wr.heap.size, 0, none⟩) [i].length (ints [i]) :=
          ⟨(Arr.new wr [.int .i64 (i : Int)] 3).rdI (l := [i]) (fun hk => by
            rcases List.mem_append.1 hk with hk | hk
            · have := (hoL _ hk).2; omega
            · have := hXB _ hk; omega), fun _ => ⟨_, rfl, Arr.new wr [.int .i64 (i : Int)] 3⟩⟩
        have hp2 := hpw.alloc (.cells #[.int .i64 (i : Int)] 3)
        have ht2 := htw.alloc (.cells #[.int .i64 (i : Int)] 3)
        have hc2 := hcw.alloc (.cells #[.int .i64 (i : Int)] 3)
        have hb2 := hbr.alloc hbr.size (.cells #[.int .i64 (i : Int)] 3)
        have hz2 : (wr.alloc (.cells #[.int .i64 (i : Int)] 3)).heap.size = wr.heap.size + 1 := by simp
        have hi1000 : i ≤ 1000 := by omega
        have hB2 : w.heap.size + 3 ≤ (wr.alloc (.cells #[.int .i64 (i : Int)] 3)).heap.size := by omega
        clear hown heach hpw htw hcw hbr
        go_wp2_with (at_builtin; refine append_col (wr.alloc (.cells #[.int .i64 (i : Int)] 3)) rfl _ _ rfl (w.heap.size + 3) i (.slice A i c) ((w.heap.size + 1 + 1) :: gt :: gc :: RG) xs ((List.range i).map (fun i => [i])) [i] (some ⟨wr.heap.size, 0, none⟩) 1 rfl hown1 heach1 hl1 (Nat.le_refl _) (wr.heap.size + 1) hz2 rfl hi1000 hB2 hXB ?_)
        intro A7 c7 xs7 w7 hown7 heach7 hK7
        have hp7 := hp2.keep hK7 (fun hk => by have := (hoL _ hk).1; omega)
        have ht7 := ht2.keep hK7 (fun hk => by have := (hoL _ hk).1; omega)
        have hc7 := hc2.keep hK7 (fun hk => by have := (hoL _ hk).1; omega)
        have hb7 : Below w.heap.size w w7 := hb2.trans (hK7.below (by omega) (fun j hj => by have := (hoL j hj).1; omega))
        have hz7 := hK7.size
        obtain ⟨c7', f7'⟩ := hp7.2 0 (by simp)
        have hp8 := hp7.set 0 (by simp) (.slice A7 (i + 1) c7)
        have HP8 := Lib.hid hp8
        have er : Hid ((List.range i).map (fun i => [i]) ++ [[i]] = (List.range (i + 1)).map (fun i => [i])) := by show _ = _; rw [List.range_succ, List.map_append]; rfl
        have hown8 := ownsRow_setCell_below hown7 (a := ⟨w.heap.size + 1 + 1, 0, none⟩) (by show w.heap.size + 1 + 1 < _; omega) (.slice A7 (i + 1) c7)
        have heach8 : EachN (w7.setCell ⟨w.heap.size + 1 + 1, 0, none⟩ (.slice A7 (i + 1) c7)) (ownL (.slice A7 (i + 1) c7) ++ ((w.heap.size + 1 + 1) :: gt :: gc :: RG)) xs7 ((List.range (i + 1)).map (fun i => [i])) := by
          rw [← er.out]; exact heach7.keep (Y := [w.heap.size + 1 + 1]) (show Keep [w.heap.size + 1 + 1] w7 (w7.setCell ⟨w.heap.size + 1 + 1, 0, none⟩ (.slice A7 (i + 1) c7)) from (Keep.refl _ _).setCell (.inl (by simp)) _) (fun j hj => by rw [List.mem_singleton.1 hj]; exact List.mem_append_right _ (List.mem_cons_self ..))
        have ht8 := ht7.other (p := ⟨w.heap.size + 1 + 1, 0, none⟩) (fun e => n1 e.symm) (.slice A7 (i + 1) c7)
        have hc8 := hc7.other (p := ⟨w.heap.size + 1 + 1, 0, none⟩) (fun e => n2 e.symm) (.slice A7 (i + 1) c7)
        have hb8 := hb7.setCell (p := ⟨w.heap.size + 1 + 1, 0, none⟩) (by show w.heap.size ≤ w.heap.size + 1 + 1; omega) (.slice A7 (i + 1) c7)
        have HO8 := Lib.hid hown8; have HE8 := Lib.hid heach8; have HT8 := Lib.hid ht8; have HC8 := Lib.hid hc8; have HB8 := Lib.hid hb8
        have hz8 : w.heap.size + 3 ≤ (w7.setCell ⟨w.heap.size + 1 + 1, 0, none⟩ (.slice A7 (i + 1) c7)).heap.size := by rw [World.size_setCell]; omega
        clear hown1 heach1 hl1 hp2 ht2 hc2 hb2 hp8 hown8 heach8 ht8 hc8 hb8 hown7 heach7 hp7 ht7 hc7 hb7
        go_wp2_with (fail)
        exact ⟨⟨i + 1, A7, c7, xs7, by omega, by go_num, HO8.out, HE8.out, HP8.out, HT8.out, HC8.out, HB8.out, hz8⟩, by simp [RowKit.intOf]; omega⟩
      · obtain rfl : i = N := by omega
        have hcapF : i ≤ c := by
          rcases hown.2 with ⟨hv, _⟩ | ⟨_, cap, _, hv, _, _, hcap, _⟩
          · injection hv with _ h _; omega
          · injection hv with _ _ h; omega
        have hlen : ((List.range i).map (fun i => [i])).length = i := by simp
        have hcols : Cols wr ((w.heap.size + 1 + 1) :: gt :: gc :: RG) A ((List.range i).map (fun i => [i])) := heach.cols (c := c) (B := w.heap.size + 3) (by rw [hlen]; exact hown) (fun j hj => List.mem_append_right _ hj) hXB
        go_wp2_with (fail)
        go_ret
        refine ⟨w.heap.size + 1 + 1, gt, gc, rfl, ⟨by omega, n4, n5⟩, ⟨n1, n2, n3, A, c, i, M, ?_, ?_, ?_, ?_, ?_⟩, hbr⟩
        · show (newSt k).cols.length ≤ c
          rw [← hst.out, hlen]; exact hcapF
        · have e1 : (newSt k).cols.length = i := by rw [← hst.out, hlen]
          have e2 : (newSt k).trn.length = i := by unfold newSt; simp only [List.length_replicate]; exact hN.out
          have e3 : (newSt k).cre.length = M := by unfold newSt; simp only [List.length_replicate]; have := hN.out; have := HM.out; omega
          rw [e1, e2, e3]; exact hpw
        · have e2 : (newSt k).trn = List.replicate i false := by unfold newSt; rw [hN.out]
          rw [e2]; exact htw
        · have e3 : (newSt k).cre = List.replicate M 0 := by
            unfold newSt; rw [hN.out, show i - 1 = M by have := HM.out; omega]
          rw [e3]; exact hcw
        · rw [← hst.out]; show Cols _ ((w.heap.size + 1 + 1) :: gt :: gc :: List.range (w.heap.size + 1 + 1)) _ _; rw [hRG.out]; exact hcols
end Go.Proofs.YtbkmicimpgabgaaDoor
