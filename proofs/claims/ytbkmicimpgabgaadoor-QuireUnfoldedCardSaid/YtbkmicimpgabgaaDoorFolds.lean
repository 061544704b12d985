/-
  Package quire's foldOf and Folds.
-/
import Derived.Test.YtbkmicimpgabgaaDoorPile
set_option linter.unusedSimpArgs false
set_option linter.unusedVariables false
namespace Go.Proofs.Quire
def wayOf (b : Bool) : UInt8 := if b then 111 else 117
/-- the folds that can lead to creases -/
def waysL (cs : List UInt8) : Nat → Nat → List UInt8
  | 0, _ => []
  | f + 1, n => if 1 < n then wayOf (cs.getD (n / 2 - 1) 0 == 118) :: waysL cs f (n / 2) else []
def foldsP (cs : List UInt8) : List UInt8 × Int :=
  if stripE cs = 0 then (if creS (foldsB (waysL cs 7 (cs.length + 1))) = cs then (waysL cs 7 (cs.length + 1), 0) else ([], 12)) else ([], stripE cs)
theorem waysL_len (cs : List UInt8) : ∀ f n k, n < 2 ^ (k + 1) → (waysL cs f n).length ≤ k
  | 0, n, k, h => by simp [waysL]
  | f + 1, n, k, h => by
    unfold waysL
    split
    · rename_i h1
      rcases k with _ | k
      · simp at h; omega
      · have := waysL_len cs f (n / 2) k (by rw [Nat.pow_succ] at h; omega)
        simp; omega
    · simp
theorem waysL_end (cs : List UInt8) (f n : Nat) (h : ¬ 1 < n) : waysL cs f n = [] := by
  cases f with
  | zero => rfl
  | succ f => unfold waysL; rw [if_neg h]
theorem wayOf_lt (b : Bool) : (wayOf b).toNat < 128 := by cases b <;> decide
end Go.Proofs.Quire
namespace Go.Proofs.YtbkmicimpgabgaaDoor
open Go.RowKit Go.Lib Go.Proofs.Quire

/-- letters as values -/
def u8b (l : List UInt8) : List Value := l.map fun b : UInt8 => Value.int .u8 (b.toNat : Int)
theorem foldOf_any (b : Bool) (w : World) : Calls Tryd.prog 44 #[.bool b] w fun e w' => e = .returned (.int .u8 ((wayOf b).toNat : Int)) ∧ w' = w := by
  cases b
  all_goals
    go_enter Tryd.func44, Tryd.ntmps44
    go_wp2
    go_ret
    exact ⟨rfl, rfl⟩
/-- a row of letters, and one more behind it -/
theorem append_u8 {ops : Array Oper} {rest : List Oper} {o : Oper} {a : Act} {Q : Exit → Act → World → Prop} (w0 : World) (hgd : o.guard = none) (s x : Operand)
    (ho : o.op = .call { callee := .builtin .append, args := #[s, x], argTypes := #[58, 58] })
    (B n : Nat) (v : Value) (l : List UInt8) (b : UInt8) (hs : a.eval s = v) (hown : w0.ownsRow B 5 1 v n (u8b l)) (g : Nat) (hgz : w0.heap.size = g) (hx : a.eval x = .slice (some ⟨g, 0, none⟩) 1 1) (hn : n ≤ 1000) (hB : B ≤ w0.heap.size)
    (h : ∀ g' c w', w'.ownsRow B 5 1 (.slice (some ⟨g', 0, none⟩) (n + 1) c) (n + 1) (u8b (l ++ [b])) → w0.grownBy w' v.ownBlock → wpList Tryd.prog ops Q rest (a.put o.dst (.slice (some ⟨g', 0, none⟩) (n + 1) c)) w') :
    wpList Tryd.prog ops Q (o :: rest) a (w0.alloc (.cells #[.int .u8 (b.toNat : Int)] 5)) := by
  subst hgz
  have hi0 : (Tryd.prog.info? 5).map (fun i => (i.zero, i.size, i.bytes)) = some (some (.int .u8 0), 1, 1) := by kernel_rfl
  obtain ⟨i0, hi, hz0, hz1, hz2⟩ := info_parts hi0
  refine wpList_append_own _ hgd s x 58 ho B 5 i0 (.int .u8 0) 1 1 Tryd.underlying58 hi hz0 hz1 hz2 rfl (by decide) v n _ hs (hown.alloc _) ⟨w0.heap.size, 0, none⟩ 1 1 [.int .u8 (b.toNat : Int)] hx rfl (cell_one_new _ _ _) (fun u hu => by rw [List.mem_singleton.1 hu]; rfl) (by unfold maxLen; omega) (by omega) (by simp; omega) ?_
  intro v' w' h1 h2 _
  have hg0 : w0.grownBy w' v.ownBlock := ⟨h2.os, h2.tape, h2.output, Nat.le_trans (by simp) h2.size, fun k hk hne => (h2.block k (by simp; omega) hne).trans (Below.heap_alloc _ _ k hk)⟩
  have h1' : w'.ownsRow B 5 1 v' (n + 1) (u8b (l ++ [b])) := by
    have e : u8b (l ++ [b]) = u8b l ++ [.int .u8 (b.toNat : Int)] := by simp [u8b]
    rw [e]; exact h1
  rcases h1'.2 with ⟨_, hn0⟩ | ⟨g', cap, cur, rfl, hr⟩
  · omega
  · exact h g' cap w' h1' hg0
theorem own_bytes {w : World} {B g n c : Nat} {l : List UInt8} (h : w.ownsRow B 5 1 (.slice (some ⟨g, 0, none⟩) n c) n (u8b l)) : l.length = n ∧ ∀ j (hj : j < l.length), w.cell? ((⟨g, 0, none⟩ : Addr).add j) = some (.int .u8 (l[j].toNat : Int)) := by
  have hrd := own_rd h (X := []) (by simp)
  have hl : l.length = n := by have := hrd.1; simpa [u8b] using this
  refine ⟨hl, fun j hj => ?_⟩
  obtain ⟨g', o', hA, _, _, hc⟩ := hrd.2 (by omega)
  injection hA with hA; injection hA with e1 e2 _
  subst e1; subst e2
  have := hc j (by omega)
  rw [getD_lt _ _ _ (by simpa [u8b] using hj)] at this
  have ea : (⟨g, 0, none⟩ : Addr).add j = ⟨g, j, none⟩ := by unfold Addr.add; split <;> simp_all
  rw [ea]
  simpa [u8b] using this
/-- the creases of a strip in memory as a string -/
theorem strip_string {w : World} {p gt gc : Nat} {f : List Bool} (h : StripAt w p gt gc (stripL f)) : ∃ ce, w.cell? ⟨p, 2, none⟩ = some (.slice (some ⟨gc, 0, none⟩) (stripL f).cre.length ce) ∧
    ∀ w', Below w.heap.size w w' → (convert 58 9 (.slice (some ⟨gc, 0, none⟩) (stripL f).cre.length ce)).run Tryd.prog w' = .ok (.string ⟨(creS f).toArray⟩) w' := by
  obtain ⟨n1, n2, n3, Ac, cc, ct, ce, _, hp, ht, hc, _⟩ := h
  refine ⟨ce, (hp.2 2 (by simp)).1, fun w' hb => ?_⟩
  have hc' := hc.below hb
  have hm := strip_cre f
  have hll : (creS f).length = (stripL f).cre.length := by unfold creS; rw [List.length_map]
  rw [← hll]
  refine run_convert_bytes_back w' 58 9 5 ⟨gc, 0, none⟩ ce (creS f) Tryd.underlying58 Tryd.underlying5 Tryd.underlying9 (fun j hj => ?_)
  have hj' : j < (stripL f).cre.length := by omega
  have h := (hc'.2 j (by rw [u8s_length]; exact hj')).1
  rw [u8s_getD _ _ hj', getD_lt _ _ _ hj'] at h
  have ea : (⟨gc, 0, none⟩ : Addr).add j = ⟨gc, j, none⟩ := by unfold Addr.add; split <;> simp_all
  have el : (creS f)[j].toNat = (stripL f).cre[j] := by
    have : (creS f)[j] = UInt8.ofNat (stripL f).cre[j] := List.getElem_map UInt8.ofNat
    rw [this, UInt8.toNat_ofNat']
    rcases hm _ (List.getElem_mem hj') with e | e | e <;> rw [e]
  rw [ea, h, el]

set_option maxRecDepth 100000 in
set_option maxHeartbeats 4000000 in
theorem folds_any (cs : List UInt8) (w : World) (hs : cs.length ≤ maxLen) :
    Calls Tryd.prog 19 #[.string ⟨cs.toArray⟩] w (StrEPost (foldsP cs).1 (foldsP cs).2 w) := by
  have h1 := fun W => checkStrip_any cs W hs
  obtain ⟨r, hr⟩ : ∃ r, Hid (foldsP cs = r) := ⟨_, rfl⟩
  rw [hr.out]
  by_cases hz : stripE cs = 0
  · have hle := (chkL_zero (stripE_zero hz).1).1
    obtain ⟨q, hq⟩ : ∃ q, Hid (waysL cs 7 (cs.length + 1) = q) := ⟨_, rfl⟩
    have hql : q.length ≤ 6 := by rw [← hq.out]; exact waysL_len cs 7 (cs.length + 1) 6 (by omega)
    have hr1 : Hid (r = if creS (foldsB q) = cs then (q, 0) else ([], 12)) := by show _ = _; rw [← hr.out, ← hq.out]; unfold foldsP; rw [if_pos hz]
    rw [hz] at h1
    obtain ⟨s, hsb⟩ : ∃ s : ByteArray, s = ⟨cs.toArray⟩ := ⟨_, rfl⟩
    have hsz : s.size = cs.length := by rw [hsb]; exact size_lb cs
    have hget : Hid (∀ j (hj : j < s.size), s[j] = cs.getD j 0) := by
      subst hsb; intro j hj; show cs.toArray[j] = _; rw [getD_lt _ _ _ (by rw [← hsz]; exact hj)]; first | done | simp
    have hsl : Hid (s.toList = cs) := by show _ = _; rw [hsb, toList_data]
    have hfa := fun W => foldAll_any q W hql
    rw [← hsb] at h1 ⊢
    have HSZ := Lib.hid hsz
    have h64 : s.size ≤ 63 := by omega
    clear hz hr hsb hsz
    go_enter Tryd.func19, Tryd.ntmps19
    go_wp2_with (fail)
    refine (h1 _).mono ?_; rintro e w1 ⟨rfl, hb1⟩
    clear h1
    go_wp2_with (fail)
    have hb2 := hb1.alloc hb1.size (.cells #[] 5)
    have hown2 := World.ownsRow_made (base := w.heap.size) (e := 5) (size := 1) w1 #[] 0 hb1.size (Nat.zero_le _) rfl
    have hst : Hid ([] ++ waysL cs 7 (s.size + 1) = q) := by rw [HSZ.out]; exact hq.out
    generalize w1.alloc (.cells #[] 5) = w2 at hb2 hown2 ⊢
    clear hb1
    go_loopw [5, 6] (fun v5 v6 wr => ∃ (m n k g c : Nat) (l : List UInt8), n < 2 ^ m ∧ n ≤ s.size + 1 ∧ v5 = .slice (some ⟨g, 0, none⟩) k c ∧ v6 = .int .i64 n ∧ k + m ≤ 7 ∧ wr.ownsRow w.heap.size 5 1 (.slice (some ⟨g, 0, none⟩) k c) k (u8b l) ∧ Below w.heap.size w wr ∧ Hid (l ++ waysL cs m n = q)) (fun _ v _ => (RowKit.intOf v).toNat)
    case atStart => exact ⟨7, s.size + 1, 0, _, _, [], by show s.size + 1 < 128; omega, by omega, rfl, by go_num, by omega, hown2, hb2, hst⟩
    case round =>
      clear hb2 hown2 hst
      obtain ⟨m, n, k, g, c, l, hnm, hns, rfl, rfl, hkm, hown, hbr, hf⟩ := hrel
      by_cases hlt : 1 < n
      · obtain ⟨m, rfl⟩ : ∃ m', m = m' + 1 := ⟨m - 1, by rcases m with _ | m; simp at hnm; omega; rfl⟩
        obtain ⟨j, hj⟩ : ∃ j, n / 2 = j + 1 := ⟨n / 2 - 1, by omega⟩
        have hst : Hid (l ++ [wayOf (cs.getD j 0 == 118)] ++ waysL cs m (j + 1) = q) := by
          show _ = _; rw [← hf.out, waysL, if_pos hlt, hj, List.append_assoc]; rfl
        have q1 : (n : Int) / 2 = (j : Int) + 1 := by omega
        have hjs : j < s.size := by omega
        have hj2 : j + 1 < 2 ^ m := by rw [Nat.pow_succ] at hnm; omega
        have hjn : j + 1 < n := by omega
        have hbe : ((s[j].toNat : Int) == 118) = (cs.getD j 0 == 118) := by rw [hget.out j hjs]; exact byte_eq _ 118 (by omega)
        generalize (cs.getD j 0 == 118) = bb at hbe hst
        have hsz2 := hbr.size
        have hk1000 : k ≤ 1000 := by omega
        have HJ := Lib.hid hj
        clear hj
        go_wp2_with (fail)
        refine (foldOf_any bb wr).mono ?_; rintro e w3 ⟨rfl, rfl⟩
        go_wp2_with (at_builtin; refine append_u8 w3 rfl _ _ rfl w.heap.size k (.slice (some ⟨g, 0, none⟩) k c) l (wayOf bb) rfl hown w3.heap.size rfl rfl hk1000 hsz2 ?_)
        intro g4 c4 w4 hown4 hg4
        have hb4 := below_own hown hbr (Nat.le_refl _) hsz2 hg4
        clear hown hg4
        go_wp2_with (fail)
        exact ⟨⟨m, j + 1, k + 1, g4, c4, _, by omega, by omega, rfl, by go_num, by omega, hown4, hb4, hst⟩, by simp [RowKit.intOf]; omega⟩
      · have hR : Hid (l = q) := by show _ = _; rw [← hf.out, waysL_end _ _ _ hlt, List.append_nil]
        rw [hR.out] at hown
        obtain ⟨hql2, hcell⟩ := own_bytes hown
        have hcb1 := run_convert_bytes_back (P := Tryd.prog) wr 58 9 5 ⟨g, 0, none⟩ c q Tryd.underlying58 Tryd.underlying5 Tryd.underlying9 hcell
        rw [hql2] at hcb1
        clear hcell hown
        go_wp2_with (fail)
        refine (hfa _).mono ?_; rintro e w5 ⟨p, gt, gc, rfl, _, hsp, hb5⟩
        obtain ⟨ce, hp2, hconv⟩ := strip_string hsp
        have hconv1 := hconv w5 (Below.refl _ _)
        have hbF := hbr.trans (hb5.mono hbr.size)
        generalize (stripL (foldsB q)).cre.length = cl at hp2 hconv1
        generalize hcq : creS (foldsB q) = cq at hconv1 hr1
        clear hconv hsp hb5
        by_cases hcc : cq = cs
        · have hbq : ((⟨cq.toArray⟩ : ByteArray).toList == s.toList) = true := by rw [toList_data, hsl.out, hcc]; simp
          have hR2 : Hid (r = (q, 0)) := by show _ = _; rw [hr1.out, if_pos hcc]
          generalize (⟨cq.toArray⟩ : ByteArray) = z at hconv1 hbq
          clear hcc hcq hr1
          go_wp2_with (fail)
          go_ret2
          exact ⟨by rw [hR2.out]; rfl, hbF⟩
        · have hbq : ((⟨cq.toArray⟩ : ByteArray).toList == s.toList) = false := by rw [toList_data, hsl.out]; simpa using hcc
          have hR2 : Hid (r = ([], 12)) := by show _ = _; rw [hr1.out, if_neg hcc]
          generalize (⟨cq.toArray⟩ : ByteArray) = z at hconv1 hbq
          clear hcc hcq hr1
          go_wp2_with (fail)
          go_ret2
          exact ⟨by rw [hR2.out]; rfl, hbF⟩
  · have hR : Hid (r = ([], stripE cs)) := by show _ = _; rw [← hr.out]; unfold foldsP; rw [if_neg hz]
    have hz2 : (stripE cs != 0) = true := by simpa using hz
    rw [hR.out]
    generalize stripE cs = z at h1 hz2 ⊢
    clear hz hr hR
    go_enter Tryd.func19, Tryd.ntmps19
    go_wp2_with (fail)
    refine (h1 _).mono ?_; rintro e w1 ⟨rfl, hb1⟩
    go_wp2_with (fail)
    go_ret2
    exact ⟨rfl, hb1⟩
end Go.Proofs.YtbkmicimpgabgaaDoor
