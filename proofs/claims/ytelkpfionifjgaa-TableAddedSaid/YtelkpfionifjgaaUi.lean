/-
  TableAdded: the law.
-/
import Derived.Test.YtelkpfionifjgaaUh1
import Derived.Test.YtelkpfionifjgaaUh2
import Derived.Test.YtelkpfionifjgaaUh3
import Derived.Test.YtelkpfionifjgaaUh4
set_option linter.unusedSimpArgs false
set_option linter.unusedVariables false
namespace Go.Proofs.Ytelkpfionifjgaa
open Go Go.Proofs.Eng
set_option maxRecDepth 100000
set_option maxHeartbeats 8000000
theorem named_2 (L : Heap) (h15 : Go.Proofs.Eng.look L 15 = (0, none)) (h61 : Go.Proofs.Eng.look L 61 = (0, none)) (j : Nat) : Go.Proofs.Eng.look L j = Go.Proofs.Eng.look ((15, (0, none)) :: (61, (0, none)) :: L) j := by
  simp only [Go.Proofs.Eng.look]
  by_cases h : 15 = j
  · subst h; rw [if_pos rfl]; exact h15
  · rw [if_neg h]
    by_cases h2 : 61 = j
    · subst h2; rw [if_pos rfl]; exact h61
    · rw [if_neg h2]
theorem add_1 {a b e bd : Int} {D H E : List Int} (hn : sz a = 1) (ha : 0 ≤ a ∧ a ≤ 255) (hb : 0 ≤ b ∧ b ≤ 255) (hD : D.length = 16) (hH : H.length = 8) (bH : ∀ x, x ∈ H → 0 ≤ x ∧ x ≤ 255) (hE : E.length = 8) (bE : ∀ x, x ∈ E → 0 ≤ x ∧ x ≤ 255) (bb : 0 ≤ bd ∧ bd ≤ 255) (hW : Runs Try.prog xf 28 [] (.v (.bool true))) :
    Runs Try.prog xf 6 [ldg a b e D H, .ag (E.map u8), u8 bd] (.v (.bool true)) := by
  have hl27 : (D.map u8 ++ H.map u8).length = 24 := by simp [hD, hH]
  have ht27 : List.take 24 (D.map u8 ++ H.map u8) = D.map u8 ++ H.map u8 := List.take_of_length_le (by rw [hl27]; omega)
  have hnr := noRef_ldg a b e D H
  have hsz : Runs Try.prog xf 37 [ldg a b e D H] (ai 1) := by
    have := size_run ha b e hD hH
    rw [hn] at this; exact this
  have z9 : ((9 : Int) = 0) = False := eq_false (by decide)
  have wb : IntKind.i64.wrap b = b := wrap_id (by omega) (by omega)
  obtain ⟨c1, c2⟩ := tmod_b (a := b) (n := 9) hb.1 (by omega)
  obtain ⟨cnt, hcnt⟩ : ∃ cnt : Nat, b.tmod 9 = (cnt : Int) := ⟨(b.tmod 9).toNat, by omega⟩
  have hc8 : cnt ≤ 8 := by omega
  have hdr : List.drop 16 (D.map u8 ++ H.map u8) = H.map u8 := List.drop_left' (by simp [hD])
  have ht8 : List.take 8 (H.map u8) = H.map u8 := List.take_of_length_le (by simp [hH])
  have hch : Go.Proofs.Eng.chunkA false 1 (H.map u8) 8 = some (H.map u8) := by
    match H, hH with
    | [e0, e1, e2, e3, e4, e5, e6, e7], _ => rfl
  have hHl : (H.map u8).length = 8 := by rw [List.length_map]; exact hH
  have hEl : (E.map u8).length = 8 := by rw [List.length_map]; exact hE
  have htk : List.take cnt (H.map u8) = (H.take cnt).map u8 := List.map_take.symm
  have hH2 : (H.take cnt).length = cnt := by rw [List.length_take]; omega
  have bH2 : ∀ x, x ∈ H.take cnt → 0 ≤ x ∧ x ≤ 255 := fun x hx => bH x (List.mem_of_mem_take hx)
  have hai := ai_zer (n := 1) (by decide)
  have hout := out_1 (plL 1) rfl E (H.take cnt) hE bE (by omega) bH2
  have hplT := noRef_T (plL 1)
  have hplr := pl_1
  generalize hPs : plL 1 = Ps at *
  refine Runs.ofW (fn := xf6) 20 (by kernel_rfl) (W_run 160 ?_)
  simp (maxSteps := 2000000) only [SA, Nat.reduceDiv, Nat.reduceSub, Nat.reduceAdd, Int.reduceLT, Int.reduceLE, Int.reduceToNat, Nat.reduceMul, Nat.reduceEqDiff, reduceCtorEq, Nat.reduceBEq, Nat.reduceLeDiff, Nat.reduceLT, xf6, ai, nilA, ldg, hl27, ht27, hEl, hE, List.length_append, hD, hH]
  refine W_call (args := [ldg a b e D H]) rfl (noRefs_1 hnr) hsz rfl (W_run 160 ?_)
  simp (maxSteps := 2000000) only [SA, Nat.reduceDiv, Nat.reduceSub, Nat.reduceAdd, Int.reduceLT, Int.reduceLE, Int.reduceToNat, Nat.reduceMul, Nat.reduceEqDiff, reduceCtorEq, Nat.reduceBEq, Nat.reduceLeDiff, Nat.reduceLT, ai, nilA]
  refine W_call (args := [ai 1]) rfl rfl hplr hplT (W_run 160 ?_)
  simp (maxSteps := 2000000) only [SA, Nat.reduceDiv, Nat.reduceSub, Nat.reduceAdd, Int.reduceLT, Int.reduceLE, Int.reduceToNat, Nat.reduceMul, Nat.reduceEqDiff, reduceCtorEq, Nat.reduceBEq, Nat.reduceLeDiff, Nat.reduceLT, ai, nilA]
  refine W_callR (kb' := 1000) (args := [ai 1]) rfl emp_1 rfl (W_run 160 ?_)
  simp (maxSteps := 2000000) only [SA, Nat.reduceDiv, Nat.reduceSub, Nat.reduceAdd, Int.reduceLT, Int.reduceLE, Int.reduceToNat, Nat.reduceMul, Nat.reduceEqDiff, reduceCtorEq, Nat.reduceBEq, Nat.reduceLeDiff, Nat.reduceLT, ai, nilA, u8, wb, z9, hcnt, hc8, hl27, hdr, ht8, hch, hHl, htk, hH2, raw_conv, rawC, opA, argT, Option.elim, List.length_append, hD, hH]
  generalize hHs : H.take cnt = Hs at *
  obtain rfl := hH2
  refine W_alone (W_named (named_2 _ rfl rfl) (hout _ _ _ _ (fun S M sm m hSl hA q15 j0 j1 j3 j5 j6 j13 j14 j15 j16 j17 j18 j19 j20 j21 j22 j23 j24 j25 j26 j27 j28 j29 j30 j31 j32 j33 j34 j38 j39 j40 j41 j42 j43 j44 j45 j46 j47 j48 j49 j50 j51 j52 j53 j54 j55 j56 j57 j58 j59 j60 j61 j62 j63 j64 j65 j66 j67 j68 j69 j70 j71 j72 j73 j74 j75 j76 j77 j78 j79 j80 j81 j82 j83 j84 j85 j86 j87 j88 j89 j90 j91 j92 j93 j94 j95 j96 j97 j98 j99 j100 j101 j102 j103 j104 j105 j106 j107 j108 j109 j110 j111 j112 j113 j114 j115 j116 j117 j118 j119 j120 j121 j122 j123 j124 j125 j126 j127 j128 j129 j130 j131 j132 j133 j134 j135 j136 j137 j138 j139 j140 j141 j142 j143 j144 j145 j146 j147 j148 j149 j150 j151 j152 j153 j154 j155 j156 j157 j158 j159 j160 j161 j162 j163 j164 j165 j166 j167 j168 j169 j170 j171 j172 j173 j174 j175 j176 j177 j178 j179 j180 j181 j182 j183 j184 j185 j186 j187 j188 j189 j190 j191 j192 j193 j194 j195 j196 j197 j198 j199 j200 j201 j202 j203 j204 => ?_) Hs.length 0 (by omega) [] (zerT 1) 0 0 rfl hai 0 none _ _ _ _ _ _ _ _ _ _ _ _ _ _ _ _ _ _ _ _ _ _ _ _ _ _ _ _ _ _ _ _ _ _ _ _ _ _ _ _ _ _ _ _ _ _ _ _ _ _ _ _ _ _ _ _ _ _ _ _ _ _ _ _ _ _ _ _ _ _ _ _ _ _ _ _ _ _ _ _ _ _ _ _ _ _ _ _ _ _ _ _ _ _ _ _ _ _ _ _ _ _ _ _ _ _ _ _ _ _ _ _ _ _ _ _ _ _ _ _ _ _ _ _ _ _ _ _ _ _ _ _ _ _ _ _ _ _ _ _ _ _ _ _ _ _ _ _ _ _ _ _ _ _ _ _ _ _ _ _ _ _ _ _ _ _ _ _ _ _ _ _ _ _ _ _ _ _ _ _ _ _ _ _ _ _ _ _ _ _ _ _ _ _))
  cases S with
  | nil => exact finN_1 hA hW bd q15 _ _ _ _ _ _ _ _ _ _ _ _ _ _ _ _ _ _ _ _ _ _ _ _ _ _ _ _ _ _ _ _ _ _ _ _ _ _ _ _ _ _ _ _ _ _ _ _ _ _ _ _ _ _ _ _ _ _ _ _ _ _ _ _ _ _ _ _ _ _ _ _ _ _ _ _ _ _ _ _ _ _ _ _ _ _ _ _ _ _ _ _ _ _ _ _ _ _ _ _ _ _ _ _ _ _ _ _ _ _ _ _ _ _ _ _ _ _ _ _ _ _ _ _ _ _ _ _ _ _ _ _ _ _ _ _ _ _ _ _ _ _ _ _ _ _ _ _ _ _ _ _ _ _ _ _ _ _ _ _ _ _ _ _ _ _ _ _ _ _ _ _ _ _ _ _ _ _ _ _ _ _ _ _ _ _ _ _ _ _ _ _ _ _ _ _ _ _ _ _
  | cons s0 st =>
    refine W_giveC (t := 10) (giveT_row (k := 61) (g := 1) (e := 41) (s := 2) (xs := (s0 :: st).map shV) (n := st.length + 1) rfl rfl (by simp)) ?_
    have hto1 : ∀ (g v s : Nat) (xs : List AV) (a b c d e : Nat), toData 61 g v s xs (.os 1011 a b c d e) = .os 1011 a b c d e := fun _ _ _ _ _ _ _ _ _ => toData_other (by decide)
    simp only [List.map_cons, List.map_nil, svS, hto1, toData_os, toData_v, toData_o, toData_sl, toData_ptr, u8, ai, aT]
    exact finC_1 (S := s0 :: st) (by simp) (by rw [hSl]; exact hc8) hA hW bb q15 _ _ _ _ _ _ _ _ _ _ _ _ _ _ _ _ _ _ _ _ _ _ _ _ _ _ _ _ _ _ _ _ _ _ _ _ _ _ _ _ _ _ _ _ _ _ _ _ _ _ _ _ _ _ _ _ _ _ _ _ _ _ _ _ _ _ _ _ _ _ _ _ _ _ _ _ _ _ _ _ _ _ _ _ _ _ _ _ _ _ _ _ _ _ _ _ _ _ _ _ _ _ _ _ _ _ _ _ _ _ _ _ _ _ _ _ _ _ _ _ _ _ _ _ _ _ _ _ _ _ _ _ _ _ _ _ _ _ _ _ _ _ _ _ _ _ _ _ _ _ _ _ _ _ _ _ _ _ _ _ _ _ _ _ _ _ _ _ _ _ _ _ _ _ _ _ _ _ _ _ _ _ _ _ _ _ _ _ _ _ _ _ _ _ _ _ _ _ _ _
theorem add_2 {a b e bd : Int} {D H E : List Int} (hn : sz a = 2) (ha : 0 ≤ a ∧ a ≤ 255) (hb : 0 ≤ b ∧ b ≤ 255) (hD : D.length = 16) (hH : H.length = 8) (bH : ∀ x, x ∈ H → 0 ≤ x ∧ x ≤ 255) (hE : E.length = 8) (bE : ∀ x, x ∈ E → 0 ≤ x ∧ x ≤ 255) (bb : 0 ≤ bd ∧ bd ≤ 255) (hW : Runs Try.prog xf 28 [] (.v (.bool true))) :
    Runs Try.prog xf 6 [ldg a b e D H, .ag (E.map u8), u8 bd] (.v (.bool true)) := by
  have hl27 : (D.map u8 ++ H.map u8).length = 24 := by simp [hD, hH]
  have ht27 : List.take 24 (D.map u8 ++ H.map u8) = D.map u8 ++ H.map u8 := List.take_of_length_le (by rw [hl27]; omega)
  have hnr := noRef_ldg a b e D H
  have hsz : Runs Try.prog xf 37 [ldg a b e D H] (ai 2) := by
    have := size_run ha b e hD hH
    rw [hn] at this; exact this
  have z9 : ((9 : Int) = 0) = False := eq_false (by decide)
  have wb : IntKind.i64.wrap b = b := wrap_id (by omega) (by omega)
  obtain ⟨c1, c2⟩ := tmod_b (a := b) (n := 9) hb.1 (by omega)
  obtain ⟨cnt, hcnt⟩ : ∃ cnt : Nat, b.tmod 9 = (cnt : Int) := ⟨(b.tmod 9).toNat, by omega⟩
  have hc8 : cnt ≤ 8 := by omega
  have hdr : List.drop 16 (D.map u8 ++ H.map u8) = H.map u8 := List.drop_left' (by simp [hD])
  have ht8 : List.take 8 (H.map u8) = H.map u8 := List.take_of_length_le (by simp [hH])
  have hch : Go.Proofs.Eng.chunkA false 1 (H.map u8) 8 = some (H.map u8) := by
    match H, hH with
    | [e0, e1, e2, e3, e4, e5, e6, e7], _ => rfl
  have hHl : (H.map u8).length = 8 := by rw [List.length_map]; exact hH
  have hEl : (E.map u8).length = 8 := by rw [List.length_map]; exact hE
  have htk : List.take cnt (H.map u8) = (H.take cnt).map u8 := List.map_take.symm
  have hH2 : (H.take cnt).length = cnt := by rw [List.length_take]; omega
  have bH2 : ∀ x, x ∈ H.take cnt → 0 ≤ x ∧ x ≤ 255 := fun x hx => bH x (List.mem_of_mem_take hx)
  have hai := ai_zer (n := 2) (by decide)
  have hout := out_2 (plL 2) rfl E (H.take cnt) hE bE (by omega) bH2
  have hplT := noRef_T (plL 2)
  have hplr := pl_2
  generalize hPs : plL 2 = Ps at *
  refine Runs.ofW (fn := xf6) 20 (by kernel_rfl) (W_run 160 ?_)
  simp (maxSteps := 2000000) only [SA, Nat.reduceDiv, Nat.reduceSub, Nat.reduceAdd, Int.reduceLT, Int.reduceLE, Int.reduceToNat, Nat.reduceMul, Nat.reduceEqDiff, reduceCtorEq, Nat.reduceBEq, Nat.reduceLeDiff, Nat.reduceLT, xf6, ai, nilA, ldg, hl27, ht27, hEl, hE, List.length_append, hD, hH]
  refine W_call (args := [ldg a b e D H]) rfl (noRefs_1 hnr) hsz rfl (W_run 160 ?_)
  simp (maxSteps := 2000000) only [SA, Nat.reduceDiv, Nat.reduceSub, Nat.reduceAdd, Int.reduceLT, Int.reduceLE, Int.reduceToNat, Nat.reduceMul, Nat.reduceEqDiff, reduceCtorEq, Nat.reduceBEq, Nat.reduceLeDiff, Nat.reduceLT, ai, nilA]
  refine W_call (args := [ai 2]) rfl rfl hplr hplT (W_run 160 ?_)
  simp (maxSteps := 2000000) only [SA, Nat.reduceDiv, Nat.reduceSub, Nat.reduceAdd, Int.reduceLT, Int.reduceLE, Int.reduceToNat, Nat.reduceMul, Nat.reduceEqDiff, reduceCtorEq, Nat.reduceBEq, Nat.reduceLeDiff, Nat.reduceLT, ai, nilA]
  refine W_callR (kb' := 1000) (args := [ai 2]) rfl emp_2 rfl (W_run 160 ?_)
  simp (maxSteps := 2000000) only [SA, Nat.reduceDiv, Nat.reduceSub, Nat.reduceAdd, Int.reduceLT, Int.reduceLE, Int.reduceToNat, Nat.reduceMul, Nat.reduceEqDiff, reduceCtorEq, Nat.reduceBEq, Nat.reduceLeDiff, Nat.reduceLT, ai, nilA, u8, wb, z9, hcnt, hc8, hl27, hdr, ht8, hch, hHl, htk, hH2, raw_conv, rawC, opA, argT, Option.elim, List.length_append, hD, hH]
  generalize hHs : H.take cnt = Hs at *
  obtain rfl := hH2
  refine W_alone (W_named (named_2 _ rfl rfl) (hout _ _ _ _ (fun S M sm m hSl hA q15 j0 j1 j3 j5 j6 j13 j14 j15 j16 j17 j18 j19 j20 j21 j22 j23 j24 j25 j26 j27 j28 j29 j30 j31 j32 j33 j34 j38 j39 j40 j41 j42 j43 j44 j45 j46 j47 j48 j49 j50 j51 j52 j53 j54 j55 j56 j57 j58 j59 j60 j61 j62 j63 j64 j65 j66 j67 j68 j69 j70 j71 j72 j73 j74 j75 j76 j77 j78 j79 j80 j81 j82 j83 j84 j85 j86 j87 j88 j89 j90 j91 j92 j93 j94 j95 j96 j97 j98 j99 j100 j101 j102 j103 j104 j105 j106 j107 j108 j109 j110 j111 j112 j113 j114 j115 j116 j117 j118 j119 j120 j121 j122 j123 j124 j125 j126 j127 j128 j129 j130 j131 j132 j133 j134 j135 j136 j137 j138 j139 j140 j141 j142 j143 j144 j145 j146 j147 j148 j149 j150 j151 j152 j153 j154 j155 j156 j157 j158 j159 j160 j161 j162 j163 j164 j165 j166 j167 j168 j169 j170 j171 j172 j173 j174 j175 j176 j177 j178 j179 j180 j181 j182 j183 j184 j185 j186 j187 j188 j189 j190 j191 j192 j193 j194 j195 j196 j197 j198 j199 j200 j201 j202 j203 j204 => ?_) Hs.length 0 (by omega) [] (zerT 2) 0 0 rfl hai 0 none _ _ _ _ _ _ _ _ _ _ _ _ _ _ _ _ _ _ _ _ _ _ _ _ _ _ _ _ _ _ _ _ _ _ _ _ _ _ _ _ _ _ _ _ _ _ _ _ _ _ _ _ _ _ _ _ _ _ _ _ _ _ _ _ _ _ _ _ _ _ _ _ _ _ _ _ _ _ _ _ _ _ _ _ _ _ _ _ _ _ _ _ _ _ _ _ _ _ _ _ _ _ _ _ _ _ _ _ _ _ _ _ _ _ _ _ _ _ _ _ _ _ _ _ _ _ _ _ _ _ _ _ _ _ _ _ _ _ _ _ _ _ _ _ _ _ _ _ _ _ _ _ _ _ _ _ _ _ _ _ _ _ _ _ _ _ _ _ _ _ _ _ _ _ _ _ _ _ _ _ _ _ _ _ _ _ _ _ _ _ _ _ _ _))
  cases S with
  | nil => exact finN_2 hA hW bd q15 _ _ _ _ _ _ _ _ _ _ _ _ _ _ _ _ _ _ _ _ _ _ _ _ _ _ _ _ _ _ _ _ _ _ _ _ _ _ _ _ _ _ _ _ _ _ _ _ _ _ _ _ _ _ _ _ _ _ _ _ _ _ _ _ _ _ _ _ _ _ _ _ _ _ _ _ _ _ _ _ _ _ _ _ _ _ _ _ _ _ _ _ _ _ _ _ _ _ _ _ _ _ _ _ _ _ _ _ _ _ _ _ _ _ _ _ _ _ _ _ _ _ _ _ _ _ _ _ _ _ _ _ _ _ _ _ _ _ _ _ _ _ _ _ _ _ _ _ _ _ _ _ _ _ _ _ _ _ _ _ _ _ _ _ _ _ _ _ _ _ _ _ _ _ _ _ _ _ _ _ _ _ _ _ _ _ _ _ _ _ _ _ _ _ _ _ _ _ _ _
  | cons s0 st =>
    refine W_giveC (t := 10) (giveT_row (k := 61) (g := 1) (e := 41) (s := 2) (xs := (s0 :: st).map shV) (n := st.length + 1) rfl rfl (by simp)) ?_
    have hto1 : ∀ (g v s : Nat) (xs : List AV) (a b c d e : Nat), toData 61 g v s xs (.os 1011 a b c d e) = .os 1011 a b c d e := fun _ _ _ _ _ _ _ _ _ => toData_other (by decide)
    simp only [List.map_cons, List.map_nil, svS, hto1, toData_os, toData_v, toData_o, toData_sl, toData_ptr, u8, ai, aT]
    exact finC_2 (S := s0 :: st) (by simp) (by rw [hSl]; exact hc8) hA hW bb q15 _ _ _ _ _ _ _ _ _ _ _ _ _ _ _ _ _ _ _ _ _ _ _ _ _ _ _ _ _ _ _ _ _ _ _ _ _ _ _ _ _ _ _ _ _ _ _ _ _ _ _ _ _ _ _ _ _ _ _ _ _ _ _ _ _ _ _ _ _ _ _ _ _ _ _ _ _ _ _ _ _ _ _ _ _ _ _ _ _ _ _ _ _ _ _ _ _ _ _ _ _ _ _ _ _ _ _ _ _ _ _ _ _ _ _ _ _ _ _ _ _ _ _ _ _ _ _ _ _ _ _ _ _ _ _ _ _ _ _ _ _ _ _ _ _ _ _ _ _ _ _ _ _ _ _ _ _ _ _ _ _ _ _ _ _ _ _ _ _ _ _ _ _ _ _ _ _ _ _ _ _ _ _ _ _ _ _ _ _ _ _ _ _ _ _ _ _ _ _ _
theorem add_3 {a b e bd : Int} {D H E : List Int} (hn : sz a = 3) (ha : 0 ≤ a ∧ a ≤ 255) (hb : 0 ≤ b ∧ b ≤ 255) (hD : D.length = 16) (hH : H.length = 8) (bH : ∀ x, x ∈ H → 0 ≤ x ∧ x ≤ 255) (hE : E.length = 8) (bE : ∀ x, x ∈ E → 0 ≤ x ∧ x ≤ 255) (bb : 0 ≤ bd ∧ bd ≤ 255) (hW : Runs Try.prog xf 28 [] (.v (.bool true))) :
    Runs Try.prog xf 6 [ldg a b e D H, .ag (E.map u8), u8 bd] (.v (.bool true)) := by
  have hl27 : (D.map u8 ++ H.map u8).length = 24 := by simp [hD, hH]
  have ht27 : List.take 24 (D.map u8 ++ H.map u8) = D.map u8 ++ H.map u8 := List.take_of_length_le (by rw [hl27]; omega)
  have hnr := noRef_ldg a b e D H
  have hsz : Runs Try.prog xf 37 [ldg a b e D H] (ai 3) := by
    have := size_run ha b e hD hH
    rw [hn] at this; exact this
  have z9 : ((9 : Int) = 0) = False := eq_false (by decide)
  have wb : IntKind.i64.wrap b = b := wrap_id (by omega) (by omega)
  obtain ⟨c1, c2⟩ := tmod_b (a := b) (n := 9) hb.1 (by omega)
  obtain ⟨cnt, hcnt⟩ : ∃ cnt : Nat, b.tmod 9 = (cnt : Int) := ⟨(b.tmod 9).toNat, by omega⟩
  have hc8 : cnt ≤ 8 := by omega
  have hdr : List.drop 16 (D.map u8 ++ H.map u8) = H.map u8 := List.drop_left' (by simp [hD])
  have ht8 : List.take 8 (H.map u8) = H.map u8 := List.take_of_length_le (by simp [hH])
  have hch : Go.Proofs.Eng.chunkA false 1 (H.map u8) 8 = some (H.map u8) := by
    match H, hH with
    | [e0, e1, e2, e3, e4, e5, e6, e7], _ => rfl
  have hHl : (H.map u8).length = 8 := by rw [List.length_map]; exact hH
  have hEl : (E.map u8).length = 8 := by rw [List.length_map]; exact hE
  have htk : List.take cnt (H.map u8) = (H.take cnt).map u8 := List.map_take.symm
  have hH2 : (H.take cnt).length = cnt := by rw [List.length_take]; omega
  have bH2 : ∀ x, x ∈ H.take cnt → 0 ≤ x ∧ x ≤ 255 := fun x hx => bH x (List.mem_of_mem_take hx)
  have hai := ai_zer (n := 3) (by decide)
  have hout := out_3 (plL 3) rfl E (H.take cnt) hE bE (by omega) bH2
  have hplT := noRef_T (plL 3)
  have hplr := pl_3
  generalize hPs : plL 3 = Ps at *
  refine Runs.ofW (fn := xf6) 20 (by kernel_rfl) (W_run 160 ?_)
  simp (maxSteps := 2000000) only [SA, Nat.reduceDiv, Nat.reduceSub, Nat.reduceAdd, Int.reduceLT, Int.reduceLE, Int.reduceToNat, Nat.reduceMul, Nat.reduceEqDiff, reduceCtorEq, Nat.reduceBEq, Nat.reduceLeDiff, Nat.reduceLT, xf6, ai, nilA, ldg, hl27, ht27, hEl, hE, List.length_append, hD, hH]
  refine W_call (args := [ldg a b e D H]) rfl (noRefs_1 hnr) hsz rfl (W_run 160 ?_)
  simp (maxSteps := 2000000) only [SA, Nat.reduceDiv, Nat.reduceSub, Nat.reduceAdd, Int.reduceLT, Int.reduceLE, Int.reduceToNat, Nat.reduceMul, Nat.reduceEqDiff, reduceCtorEq, Nat.reduceBEq, Nat.reduceLeDiff, Nat.reduceLT, ai, nilA]
  refine W_call (args := [ai 3]) rfl rfl hplr hplT (W_run 160 ?_)
  simp (maxSteps := 2000000) only [SA, Nat.reduceDiv, Nat.reduceSub, Nat.reduceAdd, Int.reduceLT, Int.reduceLE, Int.reduceToNat, Nat.reduceMul, Nat.reduceEqDiff, reduceCtorEq, Nat.reduceBEq, Nat.reduceLeDiff, Nat.reduceLT, ai, nilA]
  refine W_callR (kb' := 1000) (args := [ai 3]) rfl emp_3 rfl (W_run 160 ?_)
  simp (maxSteps := 2000000) only [SA, Nat.reduceDiv, Nat.reduceSub, Nat.reduceAdd, Int.reduceLT, Int.reduceLE, Int.reduceToNat, Nat.reduceMul, Nat.reduceEqDiff, reduceCtorEq, Nat.reduceBEq, Nat.reduceLeDiff, Nat.reduceLT, ai, nilA, u8, wb, z9, hcnt, hc8, hl27, hdr, ht8, hch, hHl, htk, hH2, raw_conv, rawC, opA, argT, Option.elim, List.length_append, hD, hH]
  generalize hHs : H.take cnt = Hs at *
  obtain rfl := hH2
  refine W_alone (W_named (named_2 _ rfl rfl) (hout _ _ _ _ (fun S M sm m hSl hA q15 j0 j1 j3 j5 j6 j13 j14 j15 j16 j17 j18 j19 j20 j21 j22 j23 j24 j25 j26 j27 j28 j29 j30 j31 j32 j33 j34 j38 j39 j40 j41 j42 j43 j44 j45 j46 j47 j48 j49 j50 j51 j52 j53 j54 j55 j56 j57 j58 j59 j60 j61 j62 j63 j64 j65 j66 j67 j68 j69 j70 j71 j72 j73 j74 j75 j76 j77 j78 j79 j80 j81 j82 j83 j84 j85 j86 j87 j88 j89 j90 j91 j92 j93 j94 j95 j96 j97 j98 j99 j100 j101 j102 j103 j104 j105 j106 j107 j108 j109 j110 j111 j112 j113 j114 j115 j116 j117 j118 j119 j120 j121 j122 j123 j124 j125 j126 j127 j128 j129 j130 j131 j132 j133 j134 j135 j136 j137 j138 j139 j140 j141 j142 j143 j144 j145 j146 j147 j148 j149 j150 j151 j152 j153 j154 j155 j156 j157 j158 j159 j160 j161 j162 j163 j164 j165 j166 j167 j168 j169 j170 j171 j172 j173 j174 j175 j176 j177 j178 j179 j180 j181 j182 j183 j184 j185 j186 j187 j188 j189 j190 j191 j192 j193 j194 j195 j196 j197 j198 j199 j200 j201 j202 j203 j204 => ?_) Hs.length 0 (by omega) [] (zerT 3) 0 0 rfl hai 0 none _ _ _ _ _ _ _ _ _ _ _ _ _ _ _ _ _ _ _ _ _ _ _ _ _ _ _ _ _ _ _ _ _ _ _ _ _ _ _ _ _ _ _ _ _ _ _ _ _ _ _ _ _ _ _ _ _ _ _ _ _ _ _ _ _ _ _ _ _ _ _ _ _ _ _ _ _ _ _ _ _ _ _ _ _ _ _ _ _ _ _ _ _ _ _ _ _ _ _ _ _ _ _ _ _ _ _ _ _ _ _ _ _ _ _ _ _ _ _ _ _ _ _ _ _ _ _ _ _ _ _ _ _ _ _ _ _ _ _ _ _ _ _ _ _ _ _ _ _ _ _ _ _ _ _ _ _ _ _ _ _ _ _ _ _ _ _ _ _ _ _ _ _ _ _ _ _ _ _ _ _ _ _ _ _ _ _ _ _ _ _ _ _ _))
  cases S with
  | nil => exact finN_3 hA hW bd q15 _ _ _ _ _ _ _ _ _ _ _ _ _ _ _ _ _ _ _ _ _ _ _ _ _ _ _ _ _ _ _ _ _ _ _ _ _ _ _ _ _ _ _ _ _ _ _ _ _ _ _ _ _ _ _ _ _ _ _ _ _ _ _ _ _ _ _ _ _ _ _ _ _ _ _ _ _ _ _ _ _ _ _ _ _ _ _ _ _ _ _ _ _ _ _ _ _ _ _ _ _ _ _ _ _ _ _ _ _ _ _ _ _ _ _ _ _ _ _ _ _ _ _ _ _ _ _ _ _ _ _ _ _ _ _ _ _ _ _ _ _ _ _ _ _ _ _ _ _ _ _ _ _ _ _ _ _ _ _ _ _ _ _ _ _ _ _ _ _ _ _ _ _ _ _ _ _ _ _ _ _ _ _ _ _ _ _ _ _ _ _ _ _ _ _ _ _ _ _ _
  | cons s0 st =>
    refine W_giveC (t := 10) (giveT_row (k := 61) (g := 1) (e := 41) (s := 2) (xs := (s0 :: st).map shV) (n := st.length + 1) rfl rfl (by simp)) ?_
    have hto1 : ∀ (g v s : Nat) (xs : List AV) (a b c d e : Nat), toData 61 g v s xs (.os 1011 a b c d e) = .os 1011 a b c d e := fun _ _ _ _ _ _ _ _ _ => toData_other (by decide)
    simp only [List.map_cons, List.map_nil, svS, hto1, toData_os, toData_v, toData_o, toData_sl, toData_ptr, u8, ai, aT]
    exact finC_3 (S := s0 :: st) (by simp) (by rw [hSl]; exact hc8) hA hW bb q15 _ _ _ _ _ _ _ _ _ _ _ _ _ _ _ _ _ _ _ _ _ _ _ _ _ _ _ _ _ _ _ _ _ _ _ _ _ _ _ _ _ _ _ _ _ _ _ _ _ _ _ _ _ _ _ _ _ _ _ _ _ _ _ _ _ _ _ _ _ _ _ _ _ _ _ _ _ _ _ _ _ _ _ _ _ _ _ _ _ _ _ _ _ _ _ _ _ _ _ _ _ _ _ _ _ _ _ _ _ _ _ _ _ _ _ _ _ _ _ _ _ _ _ _ _ _ _ _ _ _ _ _ _ _ _ _ _ _ _ _ _ _ _ _ _ _ _ _ _ _ _ _ _ _ _ _ _ _ _ _ _ _ _ _ _ _ _ _ _ _ _ _ _ _ _ _ _ _ _ _ _ _ _ _ _ _ _ _ _ _ _ _ _ _ _ _ _ _ _ _
theorem add_4 {a b e bd : Int} {D H E : List Int} (hn : sz a = 4) (ha : 0 ≤ a ∧ a ≤ 255) (hb : 0 ≤ b ∧ b ≤ 255) (hD : D.length = 16) (hH : H.length = 8) (bH : ∀ x, x ∈ H → 0 ≤ x ∧ x ≤ 255) (hE : E.length = 8) (bE : ∀ x, x ∈ E → 0 ≤ x ∧ x ≤ 255) (bb : 0 ≤ bd ∧ bd ≤ 255) (hW : Runs Try.prog xf 28 [] (.v (.bool true))) :
    Runs Try.prog xf 6 [ldg a b e D H, .ag (E.map u8), u8 bd] (.v (.bool true)) := by
  have hl27 : (D.map u8 ++ H.map u8).length = 24 := by simp [hD, hH]
  have ht27 : List.take 24 (D.map u8 ++ H.map u8) = D.map u8 ++ H.map u8 := List.take_of_length_le (by rw [hl27]; omega)
  have hnr := noRef_ldg a b e D H
  have hsz : Runs Try.prog xf 37 [ldg a b e D H] (ai 4) := by
    have := size_run ha b e hD hH
    rw [hn] at this; exact this
  have z9 : ((9 : Int) = 0) = False := eq_false (by decide)
  have wb : IntKind.i64.wrap b = b := wrap_id (by omega) (by omega)
  obtain ⟨c1, c2⟩ := tmod_b (a := b) (n := 9) hb.1 (by omega)
  obtain ⟨cnt, hcnt⟩ : ∃ cnt : Nat, b.tmod 9 = (cnt : Int) := ⟨(b.tmod 9).toNat, by omega⟩
  have hc8 : cnt ≤ 8 := by omega
  have hdr : List.drop 16 (D.map u8 ++ H.map u8) = H.map u8 := List.drop_left' (by simp [hD])
  have ht8 : List.take 8 (H.map u8) = H.map u8 := List.take_of_length_le (by simp [hH])
  have hch : Go.Proofs.Eng.chunkA false 1 (H.map u8) 8 = some (H.map u8) := by
    match H, hH with
    | [e0, e1, e2, e3, e4, e5, e6, e7], _ => rfl
  have hHl : (H.map u8).length = 8 := by rw [List.length_map]; exact hH
  have hEl : (E.map u8).length = 8 := by rw [List.length_map]; exact hE
  have htk : List.take cnt (H.map u8) = (H.take cnt).map u8 := List.map_take.symm
  have hH2 : (H.take cnt).length = cnt := by rw [List.length_take]; omega
  have bH2 : ∀ x, x ∈ H.take cnt → 0 ≤ x ∧ x ≤ 255 := fun x hx => bH x (List.mem_of_mem_take hx)
  have hai := ai_zer (n := 4) (by decide)
  have hout := out_4 (plL 4) rfl E (H.take cnt) hE bE (by omega) bH2
  have hplT := noRef_T (plL 4)
  have hplr := pl_4
  generalize hPs : plL 4 = Ps at *
  refine Runs.ofW (fn := xf6) 20 (by kernel_rfl) (W_run 160 ?_)
  simp (maxSteps := 2000000) only [SA, Nat.reduceDiv, Nat.reduceSub, Nat.reduceAdd, Int.reduceLT, Int.reduceLE, Int.reduceToNat, Nat.reduceMul, Nat.reduceEqDiff, reduceCtorEq, Nat.reduceBEq, Nat.reduceLeDiff, Nat.reduceLT, xf6, ai, nilA, ldg, hl27, ht27, hEl, hE, List.length_append, hD, hH]
  refine W_call (args := [ldg a b e D H]) rfl (noRefs_1 hnr) hsz rfl (W_run 160 ?_)
  simp (maxSteps := 2000000) only [SA, Nat.reduceDiv, Nat.reduceSub, Nat.reduceAdd, Int.reduceLT, Int.reduceLE, Int.reduceToNat, Nat.reduceMul, Nat.reduceEqDiff, reduceCtorEq, Nat.reduceBEq, Nat.reduceLeDiff, Nat.reduceLT, ai, nilA]
  refine W_call (args := [ai 4]) rfl rfl hplr hplT (W_run 160 ?_)
  simp (maxSteps := 2000000) only [SA, Nat.reduceDiv, Nat.reduceSub, Nat.reduceAdd, Int.reduceLT, Int.reduceLE, Int.reduceToNat, Nat.reduceMul, Nat.reduceEqDiff, reduceCtorEq, Nat.reduceBEq, Nat.reduceLeDiff, Nat.reduceLT, ai, nilA]
  refine W_callR (kb' := 1000) (args := [ai 4]) rfl emp_4 rfl (W_run 160 ?_)
  simp (maxSteps := 2000000) only [SA, Nat.reduceDiv, Nat.reduceSub, Nat.reduceAdd, Int.reduceLT, Int.reduceLE, Int.reduceToNat, Nat.reduceMul, Nat.reduceEqDiff, reduceCtorEq, Nat.reduceBEq, Nat.reduceLeDiff, Nat.reduceLT, ai, nilA, u8, wb, z9, hcnt, hc8, hl27, hdr, ht8, hch, hHl, htk, hH2, raw_conv, rawC, opA, argT, Option.elim, List.length_append, hD, hH]
  generalize hHs : H.take cnt = Hs at *
  obtain rfl := hH2
  refine W_alone (W_named (named_2 _ rfl rfl) (hout _ _ _ _ (fun S M sm m hSl hA q15 j0 j1 j3 j5 j6 j13 j14 j15 j16 j17 j18 j19 j20 j21 j22 j23 j24 j25 j26 j27 j28 j29 j30 j31 j32 j33 j34 j38 j39 j40 j41 j42 j43 j44 j45 j46 j47 j48 j49 j50 j51 j52 j53 j54 j55 j56 j57 j58 j59 j60 j61 j62 j63 j64 j65 j66 j67 j68 j69 j70 j71 j72 j73 j74 j75 j76 j77 j78 j79 j80 j81 j82 j83 j84 j85 j86 j87 j88 j89 j90 j91 j92 j93 j94 j95 j96 j97 j98 j99 j100 j101 j102 j103 j104 j105 j106 j107 j108 j109 j110 j111 j112 j113 j114 j115 j116 j117 j118 j119 j120 j121 j122 j123 j124 j125 j126 j127 j128 j129 j130 j131 j132 j133 j134 j135 j136 j137 j138 j139 j140 j141 j142 j143 j144 j145 j146 j147 j148 j149 j150 j151 j152 j153 j154 j155 j156 j157 j158 j159 j160 j161 j162 j163 j164 j165 j166 j167 j168 j169 j170 j171 j172 j173 j174 j175 j176 j177 j178 j179 j180 j181 j182 j183 j184 j185 j186 j187 j188 j189 j190 j191 j192 j193 j194 j195 j196 j197 j198 j199 j200 j201 j202 j203 j204 => ?_) Hs.length 0 (by omega) [] (zerT 4) 0 0 rfl hai 0 none _ _ _ _ _ _ _ _ _ _ _ _ _ _ _ _ _ _ _ _ _ _ _ _ _ _ _ _ _ _ _ _ _ _ _ _ _ _ _ _ _ _ _ _ _ _ _ _ _ _ _ _ _ _ _ _ _ _ _ _ _ _ _ _ _ _ _ _ _ _ _ _ _ _ _ _ _ _ _ _ _ _ _ _ _ _ _ _ _ _ _ _ _ _ _ _ _ _ _ _ _ _ _ _ _ _ _ _ _ _ _ _ _ _ _ _ _ _ _ _ _ _ _ _ _ _ _ _ _ _ _ _ _ _ _ _ _ _ _ _ _ _ _ _ _ _ _ _ _ _ _ _ _ _ _ _ _ _ _ _ _ _ _ _ _ _ _ _ _ _ _ _ _ _ _ _ _ _ _ _ _ _ _ _ _ _ _ _ _ _ _ _ _ _))
  cases S with
  | nil => exact finN_4 hA hW bd q15 _ _ _ _ _ _ _ _ _ _ _ _ _ _ _ _ _ _ _ _ _ _ _ _ _ _ _ _ _ _ _ _ _ _ _ _ _ _ _ _ _ _ _ _ _ _ _ _ _ _ _ _ _ _ _ _ _ _ _ _ _ _ _ _ _ _ _ _ _ _ _ _ _ _ _ _ _ _ _ _ _ _ _ _ _ _ _ _ _ _ _ _ _ _ _ _ _ _ _ _ _ _ _ _ _ _ _ _ _ _ _ _ _ _ _ _ _ _ _ _ _ _ _ _ _ _ _ _ _ _ _ _ _ _ _ _ _ _ _ _ _ _ _ _ _ _ _ _ _ _ _ _ _ _ _ _ _ _ _ _ _ _ _ _ _ _ _ _ _ _ _ _ _ _ _ _ _ _ _ _ _ _ _ _ _ _ _ _ _ _ _ _ _ _ _ _ _ _ _ _
  | cons s0 st =>
    refine W_giveC (t := 10) (giveT_row (k := 61) (g := 1) (e := 41) (s := 2) (xs := (s0 :: st).map shV) (n := st.length + 1) rfl rfl (by simp)) ?_
    have hto1 : ∀ (g v s : Nat) (xs : List AV) (a b c d e : Nat), toData 61 g v s xs (.os 1011 a b c d e) = .os 1011 a b c d e := fun _ _ _ _ _ _ _ _ _ => toData_other (by decide)
    simp only [List.map_cons, List.map_nil, svS, hto1, toData_os, toData_v, toData_o, toData_sl, toData_ptr, u8, ai, aT]
    exact finC_4 (S := s0 :: st) (by simp) (by rw [hSl]; exact hc8) hA hW bb q15 _ _ _ _ _ _ _ _ _ _ _ _ _ _ _ _ _ _ _ _ _ _ _ _ _ _ _ _ _ _ _ _ _ _ _ _ _ _ _ _ _ _ _ _ _ _ _ _ _ _ _ _ _ _ _ _ _ _ _ _ _ _ _ _ _ _ _ _ _ _ _ _ _ _ _ _ _ _ _ _ _ _ _ _ _ _ _ _ _ _ _ _ _ _ _ _ _ _ _ _ _ _ _ _ _ _ _ _ _ _ _ _ _ _ _ _ _ _ _ _ _ _ _ _ _ _ _ _ _ _ _ _ _ _ _ _ _ _ _ _ _ _ _ _ _ _ _ _ _ _ _ _ _ _ _ _ _ _ _ _ _ _ _ _ _ _ _ _ _ _ _ _ _ _ _ _ _ _ _ _ _ _ _ _ _ _ _ _ _ _ _ _ _ _ _ _ _ _ _ _
theorem added_law {a b e bd : Int} {D H E : List Int} (ha : 0 ≤ a ∧ a ≤ 255) (hb : 0 ≤ b ∧ b ≤ 255) (hD : D.length = 16) (hH : H.length = 8) (bH : ∀ x, x ∈ H → 0 ≤ x ∧ x ≤ 255) (hE : E.length = 8) (bE : ∀ x, x ∈ E → 0 ≤ x ∧ x ≤ 255) (bb : 0 ≤ bd ∧ bd ≤ 255) (hW : Runs Try.prog xf 28 [] (.v (.bool true))) :
    Runs Try.prog xf 6 [ldg a b e D H, .ag (E.map u8), u8 bd] (.v (.bool true)) := by
  have hs := sz_b ha
  rcases (by omega : sz a = 1 ∨ sz a = 2 ∨ sz a = 3 ∨ sz a = 4) with h | h | h | h
  · exact add_1 h ha hb hD hH bH hE bE bb hW
  · exact add_2 h ha hb hD hH bH hE bE bb hW
  · exact add_3 h ha hb hD hH bH hE bE bb hW
  · exact add_4 h ha hb hD hH bH hE bE bb hW
end Go.Proofs.Ytelkpfionifjgaa

