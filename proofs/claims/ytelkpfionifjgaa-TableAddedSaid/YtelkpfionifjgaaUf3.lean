/-
  TableAdded: 3 rows.
-/
import Derived.Test.YtelkpfionifjgaaMF
set_option linter.unusedSimpArgs false
set_option linter.unusedVariables false
namespace Go.Proofs.Ytelkpfionifjgaa
open Go Go.Proofs.Eng
set_option maxRecDepth 100000
set_option maxHeartbeats 4000000
theorem inn_3 {M : List (List Int)} {b : Int} (hs : shT 3 b M) (hb : b ≤ 1000) {p : List Int} (hp : okP 3 p) {t : Int} (ht : 0 ≤ t ∧ t ≤ 1000) (g : Nat) (m : Int) (q61 : Nat × Option Ob) (x2 x4 x8 x10 x11 x35 x36 x37 : AV) (K : List Fr) (Q : Out → Cfg → Prop)
    (hK : ∀ j0 j1 j3 j5 j6 j13 j14 j16 j17 j18 j19 j20 j21 j22 j23 j24 j25 j26 j27 j28 j29 j30 j31 j32 j33 j34 j38 j39 j40 j41 j42 j43 j44 j45 j46 j47 j48 j49 j50 j51 j52 j53 j54 j55 j56 j57 j58 j59 j60 j61 j62 j63 j64 j65 j66 j70 j71 j72 j73 j74 j75 j76 j77 j78 j79 j80 j81 j82 j83 j84 j85 j86 j87 j88 j89 j90 j91 j92 j93 j94 j95 j96 j97 j98 j99 j100 j101 j102 j103 j104 j105 j106 j107 j108 j109 j110 j111 j112 j113 j114 j115 j116 j117 j118 j119 j120 j121 j122 j123 j124 j125 j126 j127 j128 j129 j130 j131 j132 j133 j134 j135 j136 j137 j138 j139 j140 j141 j142 j143 j144 j145 j146 j147 j148 j149 j150 j151 j152 j153 j154 j155 j156 j157 j158 j159 j160 j161 j162 j163 j164 j165 j166 j167 j168 j169 j170 j171 j172 j173 j174 j175 j176 j177 j178 j179 j180 j181 j182 j183 j184 j185 j186 j187 j188 j189 j190 j191 j192 j193 j194 j195 j196 j197 j198 j199 j200 j201 j202 j203 j204 : AV, W Try.prog (RelU Try.prog xf) 0 K ⟨(j0 :: j1 :: x2 :: j3 :: x4 :: j5 :: j6 :: (ai 3) :: x8 :: (.os 1011 1 3 1 0 3) :: x10 :: x11 :: (ai (mst m (addT M p t) p 3)) :: j13 :: j14 :: (.o 15 g 1 0 0) :: j16 :: j17 :: j18 :: j19 :: j20 :: j21 :: j22 :: j23 :: j24 :: j25 :: j26 :: j27 :: j28 :: j29 :: j30 :: j31 :: j32 :: j33 :: j34 :: x35 :: x36 :: x37 :: j38 :: j39 :: j40 :: j41 :: j42 :: j43 :: j44 :: j45 :: j46 :: j47 :: j48 :: j49 :: j50 :: j51 :: j52 :: j53 :: j54 :: j55 :: j56 :: j57 :: j58 :: j59 :: j60 :: j61 :: j62 :: j63 :: j64 :: j65 :: j66 :: (al false p) :: (ai 3) :: (ai 3) :: j70 :: j71 :: j72 :: j73 :: j74 :: j75 :: j76 :: j77 :: j78 :: j79 :: j80 :: j81 :: j82 :: j83 :: j84 :: j85 :: j86 :: j87 :: j88 :: j89 :: j90 :: j91 :: j92 :: j93 :: j94 :: j95 :: j96 :: j97 :: j98 :: j99 :: j100 :: j101 :: j102 :: j103 :: j104 :: j105 :: j106 :: j107 :: j108 :: j109 :: j110 :: j111 :: j112 :: j113 :: j114 :: j115 :: j116 :: j117 :: j118 :: j119 :: j120 :: j121 :: j122 :: j123 :: j124 :: j125 :: j126 :: j127 :: j128 :: j129 :: j130 :: j131 :: j132 :: j133 :: j134 :: j135 :: j136 :: j137 :: j138 :: j139 :: j140 :: j141 :: j142 :: j143 :: j144 :: j145 :: j146 :: j147 :: j148 :: j149 :: j150 :: j151 :: j152 :: j153 :: j154 :: j155 :: j156 :: j157 :: j158 :: j159 :: j160 :: j161 :: j162 :: j163 :: j164 :: j165 :: j166 :: j167 :: j168 :: j169 :: j170 :: j171 :: j172 :: j173 :: j174 :: j175 :: j176 :: j177 :: j178 :: j179 :: j180 :: j181 :: j182 :: j183 :: j184 :: j185 :: j186 :: j187 :: j188 :: j189 :: j190 :: j191 :: j192 :: j193 :: j194 :: j195 :: j196 :: j197 :: j198 :: j199 :: j200 :: j201 :: j202 :: j203 :: j204 :: []), [(15, (g, some ⟨41, 2, [.ag [al false p, ai t]]⟩)), (61, q61), (1009, (1, some ⟨3, 1, (addR M p t 0).map ai⟩)), (1011, (1, some ⟨37, 1, [.os 1009 1 3 1 0 3, .os 101009 1 3 1 0 3, .os 201009 1 3 1 0 3]⟩)), (101009, (1, some ⟨3, 1, (addR M p t 1).map ai⟩)), (201009, (1, some ⟨3, 1, (addR M p t 2).map ai⟩))]⟩ Q) :
    ∀ j0 j1 j3 j5 j6 j13 j14 j16 j17 j18 j19 j20 j21 j22 j23 j24 j25 j26 j27 j28 j29 j30 j31 j32 j33 j34 j38 j39 j40 j41 j42 j43 j44 j45 j46 j47 j48 j49 j50 j51 j52 j53 j54 j55 j56 j57 j58 j59 j60 j61 j62 j63 j64 j65 j66 j70 j71 j72 j73 j74 j75 j76 j77 j78 j79 j80 j81 j82 j83 j84 j85 j86 j87 j88 j89 j90 j91 j92 j93 j94 j95 j96 j97 j98 j99 j100 j101 j102 j103 j104 j105 j106 j107 j108 j109 j110 j111 j112 j113 j114 j115 j116 j117 j118 j119 j120 j121 j122 j123 j124 j125 j126 j127 j128 j129 j130 j131 j132 j133 j134 j135 j136 j137 j138 j139 j140 j141 j142 j143 j144 j145 j146 j147 j148 j149 j150 j151 j152 j153 j154 j155 j156 j157 j158 j159 j160 j161 j162 j163 j164 j165 j166 j167 j168 j169 j170 j171 j172 j173 j174 j175 j176 j177 j178 j179 j180 j181 j182 j183 j184 j185 j186 j187 j188 j189 j190 j191 j192 j193 j194 j195 j196 j197 j198 j199 j200 j201 j202 j203 j204 : AV, W Try.prog (RelU Try.prog xf) 0 (.code (.loop xf6_L0) :: .blk 2 :: .stop :: K) ⟨(j0 :: j1 :: x2 :: j3 :: x4 :: j5 :: j6 :: (ai 3) :: x8 :: (.os 1011 1 3 1 0 3) :: x10 :: x11 :: (ai m) :: j13 :: j14 :: (.o 15 g 1 0 0) :: j16 :: j17 :: j18 :: j19 :: j20 :: j21 :: j22 :: j23 :: j24 :: j25 :: j26 :: j27 :: j28 :: j29 :: j30 :: j31 :: j32 :: j33 :: j34 :: x35 :: x36 :: x37 :: j38 :: j39 :: j40 :: j41 :: j42 :: j43 :: j44 :: j45 :: j46 :: j47 :: j48 :: j49 :: j50 :: j51 :: j52 :: j53 :: j54 :: j55 :: j56 :: j57 :: j58 :: j59 :: j60 :: j61 :: j62 :: j63 :: j64 :: j65 :: j66 :: (al false p) :: (ai 3) :: (ai 0) :: j70 :: j71 :: j72 :: j73 :: j74 :: j75 :: j76 :: j77 :: j78 :: j79 :: j80 :: j81 :: j82 :: j83 :: j84 :: j85 :: j86 :: j87 :: j88 :: j89 :: j90 :: j91 :: j92 :: j93 :: j94 :: j95 :: j96 :: j97 :: j98 :: j99 :: j100 :: j101 :: j102 :: j103 :: j104 :: j105 :: j106 :: j107 :: j108 :: j109 :: j110 :: j111 :: j112 :: j113 :: j114 :: j115 :: j116 :: j117 :: j118 :: j119 :: j120 :: j121 :: j122 :: j123 :: j124 :: j125 :: j126 :: j127 :: j128 :: j129 :: j130 :: j131 :: j132 :: j133 :: j134 :: j135 :: j136 :: j137 :: j138 :: j139 :: j140 :: j141 :: j142 :: j143 :: j144 :: j145 :: j146 :: j147 :: j148 :: j149 :: j150 :: j151 :: j152 :: j153 :: j154 :: j155 :: j156 :: j157 :: j158 :: j159 :: j160 :: j161 :: j162 :: j163 :: j164 :: j165 :: j166 :: j167 :: j168 :: j169 :: j170 :: j171 :: j172 :: j173 :: j174 :: j175 :: j176 :: j177 :: j178 :: j179 :: j180 :: j181 :: j182 :: j183 :: j184 :: j185 :: j186 :: j187 :: j188 :: j189 :: j190 :: j191 :: j192 :: j193 :: j194 :: j195 :: j196 :: j197 :: j198 :: j199 :: j200 :: j201 :: j202 :: j203 :: j204 :: []), [(15, (g, some ⟨41, 2, [.ag [al false p, ai t]]⟩)), (61, q61), (1009, (1, some ⟨3, 1, (M.getD 0 []).map ai⟩)), (1011, (1, some ⟨37, 1, [.os 1009 1 3 1 0 3, .os 101009 1 3 1 0 3, .os 201009 1 3 1 0 3]⟩)), (101009, (1, some ⟨3, 1, (M.getD 1 []).map ai⟩)), (201009, (1, some ⟨3, 1, (M.getD 2 []).map ai⟩))]⟩ Q := by
  intro j0 j1 j3 j5 j6 j13 j14 j16 j17 j18 j19 j20 j21 j22 j23 j24 j25 j26 j27 j28 j29 j30 j31 j32 j33 j34 j38 j39 j40 j41 j42 j43 j44 j45 j46 j47 j48 j49 j50 j51 j52 j53 j54 j55 j56 j57 j58 j59 j60 j61 j62 j63 j64 j65 j66 j70 j71 j72 j73 j74 j75 j76 j77 j78 j79 j80 j81 j82 j83 j84 j85 j86 j87 j88 j89 j90 j91 j92 j93 j94 j95 j96 j97 j98 j99 j100 j101 j102 j103 j104 j105 j106 j107 j108 j109 j110 j111 j112 j113 j114 j115 j116 j117 j118 j119 j120 j121 j122 j123 j124 j125 j126 j127 j128 j129 j130 j131 j132 j133 j134 j135 j136 j137 j138 j139 j140 j141 j142 j143 j144 j145 j146 j147 j148 j149 j150 j151 j152 j153 j154 j155 j156 j157 j158 j159 j160 j161 j162 j163 j164 j165 j166 j167 j168 j169 j170 j171 j172 j173 j174 j175 j176 j177 j178 j179 j180 j181 j182 j183 j184 j185 j186 j187 j188 j189 j190 j191 j192 j193 j194 j195 j196 j197 j198 j199 j200 j201 j202 j203 j204
  have hpl := hp.1
  have hc0 := hp.2.1 _ (getD_mem (d := 0) (l := p) (i := 0) (by omega))
  have l0 : (M.getD 0 []).length = 3 := hs.rowlen (by omega)
  have la0 : (addR M p t 0).length = 3 := by unfold addR; rw [List.length_set]; exact l0
  have gp0 := get_al (l := p) (i := 0) (by omega)
  have gw0 : ((M.getD 0 []).map ai)[(p.getD 0 0).toNat]? = some (ai (cel M 0 (p.getD 0 0).toNat)) := get_al (by omega)
  have hcb0 := hs.b (r := 0) (c := (p.getD 0 0).toNat) (by omega) (by omega)
  have ws0 : IntKind.i64.wrap (cel M 0 (p.getD 0 0).toNat + t) = cel M 0 (p.getD 0 0).toNat + t := wrap_id (by omega) (by omega)
  have st0 : ((M.getD 0 []).map ai).set (p.getD 0 0).toNat (.v (.int .i64 (cel M 0 (p.getD 0 0).toNat + t))) = (addR M p t 0).map ai := by unfold addR; rw [List.map_set]; rfl
  have ga0 : ((addR M p t 0).map ai)[(p.getD 0 0).toNat]? = some (ai (cel (addT M p t) 0 (p.getD 0 0).toNat)) := by
    have e : cel (addT M p t) 0 (p.getD 0 0).toNat = (addR M p t 0).getD (p.getD 0 0).toNat 0 := by
      show ((addT M p t).getD 0 []).getD _ 0 = _
      rw [add_get (by omega)]
    rw [e]; exact get_al (by omega)
  have w0 : IntKind.i64.wrap (0 + 1) = 1 := rfl
  have hc1 := hp.2.1 _ (getD_mem (d := 0) (l := p) (i := 1) (by omega))
  have l1 : (M.getD 1 []).length = 3 := hs.rowlen (by omega)
  have la1 : (addR M p t 1).length = 3 := by unfold addR; rw [List.length_set]; exact l1
  have gp1 := get_al (l := p) (i := 1) (by omega)
  have gw1 : ((M.getD 1 []).map ai)[(p.getD 1 0).toNat]? = some (ai (cel M 1 (p.getD 1 0).toNat)) := get_al (by omega)
  have hcb1 := hs.b (r := 1) (c := (p.getD 1 0).toNat) (by omega) (by omega)
  have ws1 : IntKind.i64.wrap (cel M 1 (p.getD 1 0).toNat + t) = cel M 1 (p.getD 1 0).toNat + t := wrap_id (by omega) (by omega)
  have st1 : ((M.getD 1 []).map ai).set (p.getD 1 0).toNat (.v (.int .i64 (cel M 1 (p.getD 1 0).toNat + t))) = (addR M p t 1).map ai := by unfold addR; rw [List.map_set]; rfl
  have ga1 : ((addR M p t 1).map ai)[(p.getD 1 0).toNat]? = some (ai (cel (addT M p t) 1 (p.getD 1 0).toNat)) := by
    have e : cel (addT M p t) 1 (p.getD 1 0).toNat = (addR M p t 1).getD (p.getD 1 0).toNat 0 := by
      show ((addT M p t).getD 1 []).getD _ 0 = _
      rw [add_get (by omega)]
    rw [e]; exact get_al (by omega)
  have w1 : IntKind.i64.wrap (1 + 1) = 2 := rfl
  have hc2 := hp.2.1 _ (getD_mem (d := 0) (l := p) (i := 2) (by omega))
  have l2 : (M.getD 2 []).length = 3 := hs.rowlen (by omega)
  have la2 : (addR M p t 2).length = 3 := by unfold addR; rw [List.length_set]; exact l2
  have gp2 := get_al (l := p) (i := 2) (by omega)
  have gw2 : ((M.getD 2 []).map ai)[(p.getD 2 0).toNat]? = some (ai (cel M 2 (p.getD 2 0).toNat)) := get_al (by omega)
  have hcb2 := hs.b (r := 2) (c := (p.getD 2 0).toNat) (by omega) (by omega)
  have ws2 : IntKind.i64.wrap (cel M 2 (p.getD 2 0).toNat + t) = cel M 2 (p.getD 2 0).toNat + t := wrap_id (by omega) (by omega)
  have st2 : ((M.getD 2 []).map ai).set (p.getD 2 0).toNat (.v (.int .i64 (cel M 2 (p.getD 2 0).toNat + t))) = (addR M p t 2).map ai := by unfold addR; rw [List.map_set]; rfl
  have ga2 : ((addR M p t 2).map ai)[(p.getD 2 0).toNat]? = some (ai (cel (addT M p t) 2 (p.getD 2 0).toNat)) := by
    have e : cel (addT M p t) 2 (p.getD 2 0).toNat = (addR M p t 2).getD (p.getD 2 0).toNat 0 := by
      show ((addT M p t).getD 2 []).getD _ 0 = _
      rw [add_get (by omega)]
    rw [e]; exact get_al (by omega)
  have w2 : IntKind.i64.wrap (2 + 1) = 3 := rfl
  have hm : mst m (addT M p t) p 3 = (mx2 (mx2 (mx2 m (cel (addT M p t) 0 (p.getD 0 0).toNat)) (cel (addT M p t) 1 (p.getD 1 0).toNat)) (cel (addT M p t) 2 (p.getD 2 0).toNat)) := rfl
  rw [hm] at hK
  generalize cel (addT M p t) 0 (p.getD 0 0).toNat = v0 at *
  generalize cel (addT M p t) 1 (p.getD 1 0).toNat = v1 at *
  generalize cel (addT M p t) 2 (p.getD 2 0).toNat = v2 at *
  generalize addR M p t 0 = A0 at *
  generalize cel M 0 (p.getD 0 0).toNat = y0 at *
  generalize p.getD 0 0 = d0 at *
  have z0 := hc0.1
  have u0 : d0 < 3 := by have := hc0.2; omega
  generalize addR M p t 1 = A1 at *
  generalize cel M 1 (p.getD 1 0).toNat = y1 at *
  generalize p.getD 1 0 = d1 at *
  have z1 := hc1.1
  have u1 : d1 < 3 := by have := hc1.2; omega
  generalize addR M p t 2 = A2 at *
  generalize cel M 2 (p.getD 2 0).toNat = y2 at *
  generalize p.getD 2 0 = d2 at *
  have z2 := hc2.1
  have u2 : d2 < 3 := by have := hc2.2; omega
  generalize M.getD 0 [] = W0 at *
  generalize M.getD 1 [] = W1 at *
  generalize M.getD 2 [] = W2 at *
  refine W_loop (W_run 200 ?_)
  simp (maxSteps := 2000000) only [SA, Nat.reduceDiv, Nat.reduceSub, Nat.reduceAdd, Int.reduceLT, Int.reduceLE, Int.reduceToNat, Nat.reduceMul, Nat.reduceEqDiff, reduceCtorEq, Nat.reduceBEq, Nat.reduceLeDiff, Nat.reduceLT, xf6_L0, ai, al, hpl, gp0, gw0, z0, u0, l0, la0, ws0, st0, ga0, w0, raw_max, rawK, opA, argT, Option.elim]
  refine W_loop (W_run 200 ?_)
  simp (maxSteps := 2000000) only [SA, Nat.reduceDiv, Nat.reduceSub, Nat.reduceAdd, Int.reduceLT, Int.reduceLE, Int.reduceToNat, Nat.reduceMul, Nat.reduceEqDiff, reduceCtorEq, Nat.reduceBEq, Nat.reduceLeDiff, Nat.reduceLT, xf6_L0, ai, al, hpl, gp1, gw1, z1, u1, l1, la1, ws1, st1, ga1, w1, raw_max, rawK, opA, argT, Option.elim]
  refine W_loop (W_run 200 ?_)
  simp (maxSteps := 2000000) only [SA, Nat.reduceDiv, Nat.reduceSub, Nat.reduceAdd, Int.reduceLT, Int.reduceLE, Int.reduceToNat, Nat.reduceMul, Nat.reduceEqDiff, reduceCtorEq, Nat.reduceBEq, Nat.reduceLeDiff, Nat.reduceLT, xf6_L0, ai, al, hpl, gp2, gw2, z2, u2, l2, la2, ws2, st2, ga2, w2, raw_max, rawK, opA, argT, Option.elim]
  refine W_loop (W_run 200 ?_)
  simp (maxSteps := 2000000) only [SA, Nat.reduceDiv, Nat.reduceSub, Nat.reduceAdd, Int.reduceLT, Int.reduceLE, Int.reduceToNat, Nat.reduceMul, Nat.reduceEqDiff, reduceCtorEq, Nat.reduceBEq, Nat.reduceLeDiff, Nat.reduceLT, xf6_L0, ai, al]
  exact W_stop (hK _ _ _ _ _ _ _ _ _ _ _ _ _ _ _ _ _ _ _ _ _ _ _ _ _ _ _ _ _ _ _ _ _ _ _ _ _ _ _ _ _ _ _ _ _ _ _ _ _ _ _ _ _ _ _ _ _ _ _ _ _ _ _ _ _ _ _ _ _ _ _ _ _ _ _ _ _ _ _ _ _ _ _ _ _ _ _ _ _ _ _ _ _ _ _ _ _ _ _ _ _ _ _ _ _ _ _ _ _ _ _ _ _ _ _ _ _ _ _ _ _ _ _ _ _ _ _ _ _ _ _ _ _ _ _ _ _ _ _ _ _ _ _ _ _ _ _ _ _ _ _ _ _ _ _ _ _ _ _ _ _ _ _ _ _ _ _ _ _ _ _ _ _ _ _ _ _ _ _ _ _ _ _ _ _ _ _ _ _ _)
theorem out_3 (Ps : List (List Int)) (hPs : Ps = plL 3) (E Hs : List Int) (hE : E.length = 8) (bE : ∀ x, x ∈ E → 0 ≤ x ∧ x ≤ 255) (hH : Hs.length ≤ 8) (bH : ∀ x, x ∈ Hs → 0 ≤ x ∧ x ≤ 255) (bb : Bool) (x2 : AV) (K : List Fr) (Q : Out → Cfg → Prop)
    (hK : ∀ S M sm m, S.length = Hs.length → AI 3 S M sm m → ∀ (q15 : Nat × Option Ob), ∀ j0 j1 j3 j5 j6 j13 j14 j15 j16 j17 j18 j19 j20 j21 j22 j23 j24 j25 j26 j27 j28 j29 j30 j31 j32 j33 j34 j38 j39 j40 j41 j42 j43 j44 j45 j46 j47 j48 j49 j50 j51 j52 j53 j54 j55 j56 j57 j58 j59 j60 j61 j62 j63 j64 j65 j66 j67 j68 j69 j70 j71 j72 j73 j74 j75 j76 j77 j78 j79 j80 j81 j82 j83 j84 j85 j86 j87 j88 j89 j90 j91 j92 j93 j94 j95 j96 j97 j98 j99 j100 j101 j102 j103 j104 j105 j106 j107 j108 j109 j110 j111 j112 j113 j114 j115 j116 j117 j118 j119 j120 j121 j122 j123 j124 j125 j126 j127 j128 j129 j130 j131 j132 j133 j134 j135 j136 j137 j138 j139 j140 j141 j142 j143 j144 j145 j146 j147 j148 j149 j150 j151 j152 j153 j154 j155 j156 j157 j158 j159 j160 j161 j162 j163 j164 j165 j166 j167 j168 j169 j170 j171 j172 j173 j174 j175 j176 j177 j178 j179 j180 j181 j182 j183 j184 j185 j186 j187 j188 j189 j190 j191 j192 j193 j194 j195 j196 j197 j198 j199 j200 j201 j202 j203 j204 : AV, W Try.prog (RelU Try.prog xf) 0 K ⟨(j0 :: j1 :: x2 :: j3 :: (.ptr (.ag (E.map u8))) :: j5 :: j6 :: (ai 3) :: (aT Ps) :: (.os 1011 1 3 1 0 3) :: (svS S) :: (ai sm) :: (ai m) :: j13 :: j14 :: j15 :: j16 :: j17 :: j18 :: j19 :: j20 :: j21 :: j22 :: j23 :: j24 :: j25 :: j26 :: j27 :: j28 :: j29 :: j30 :: j31 :: j32 :: j33 :: j34 :: (.sl 1 bb (Hs.map u8)) :: (ai Hs.length) :: (ai Hs.length) :: j38 :: j39 :: j40 :: j41 :: j42 :: j43 :: j44 :: j45 :: j46 :: j47 :: j48 :: j49 :: j50 :: j51 :: j52 :: j53 :: j54 :: j55 :: j56 :: j57 :: j58 :: j59 :: j60 :: j61 :: j62 :: j63 :: j64 :: j65 :: j66 :: j67 :: j68 :: j69 :: j70 :: j71 :: j72 :: j73 :: j74 :: j75 :: j76 :: j77 :: j78 :: j79 :: j80 :: j81 :: j82 :: j83 :: j84 :: j85 :: j86 :: j87 :: j88 :: j89 :: j90 :: j91 :: j92 :: j93 :: j94 :: j95 :: j96 :: j97 :: j98 :: j99 :: j100 :: j101 :: j102 :: j103 :: j104 :: j105 :: j106 :: j107 :: j108 :: j109 :: j110 :: j111 :: j112 :: j113 :: j114 :: j115 :: j116 :: j117 :: j118 :: j119 :: j120 :: j121 :: j122 :: j123 :: j124 :: j125 :: j126 :: j127 :: j128 :: j129 :: j130 :: j131 :: j132 :: j133 :: j134 :: j135 :: j136 :: j137 :: j138 :: j139 :: j140 :: j141 :: j142 :: j143 :: j144 :: j145 :: j146 :: j147 :: j148 :: j149 :: j150 :: j151 :: j152 :: j153 :: j154 :: j155 :: j156 :: j157 :: j158 :: j159 :: j160 :: j161 :: j162 :: j163 :: j164 :: j165 :: j166 :: j167 :: j168 :: j169 :: j170 :: j171 :: j172 :: j173 :: j174 :: j175 :: j176 :: j177 :: j178 :: j179 :: j180 :: j181 :: j182 :: j183 :: j184 :: j185 :: j186 :: j187 :: j188 :: j189 :: j190 :: j191 :: j192 :: j193 :: j194 :: j195 :: j196 :: j197 :: j198 :: j199 :: j200 :: j201 :: j202 :: j203 :: j204 :: []), [(15, q15), (61, srS S), (1009, (1, some ⟨3, 1, (M.getD 0 []).map ai⟩)), (1011, (1, some ⟨37, 1, [.os 1009 1 3 1 0 3, .os 101009 1 3 1 0 3, .os 201009 1 3 1 0 3]⟩)), (101009, (1, some ⟨3, 1, (M.getD 1 []).map ai⟩)), (201009, (1, some ⟨3, 1, (M.getD 2 []).map ai⟩))]⟩ Q) :
    ∀ (k i : Nat), i + k = Hs.length → ∀ S M sm m, S.length = i → AI 3 S M sm m → ∀ (g15 : Nat) (o15 : Option Ob), ∀ j0 j1 j3 j5 j6 j13 j14 j15 j16 j17 j18 j19 j20 j21 j22 j23 j24 j25 j26 j27 j28 j29 j30 j31 j32 j33 j34 j38 j39 j40 j41 j42 j43 j44 j45 j46 j47 j48 j49 j50 j51 j52 j53 j54 j55 j56 j57 j58 j59 j60 j61 j62 j63 j64 j65 j66 j67 j68 j69 j70 j71 j72 j73 j74 j75 j76 j77 j78 j79 j80 j81 j82 j83 j84 j85 j86 j87 j88 j89 j90 j91 j92 j93 j94 j95 j96 j97 j98 j99 j100 j101 j102 j103 j104 j105 j106 j107 j108 j109 j110 j111 j112 j113 j114 j115 j116 j117 j118 j119 j120 j121 j122 j123 j124 j125 j126 j127 j128 j129 j130 j131 j132 j133 j134 j135 j136 j137 j138 j139 j140 j141 j142 j143 j144 j145 j146 j147 j148 j149 j150 j151 j152 j153 j154 j155 j156 j157 j158 j159 j160 j161 j162 j163 j164 j165 j166 j167 j168 j169 j170 j171 j172 j173 j174 j175 j176 j177 j178 j179 j180 j181 j182 j183 j184 j185 j186 j187 j188 j189 j190 j191 j192 j193 j194 j195 j196 j197 j198 j199 j200 j201 j202 j203 j204 : AV, W Try.prog (RelU Try.prog xf) 0 (.code (.loop xf6_L1) :: .blk 0 :: .stop :: K) ⟨(j0 :: j1 :: x2 :: j3 :: (.ptr (.ag (E.map u8))) :: j5 :: j6 :: (ai 3) :: (aT Ps) :: (.os 1011 1 3 1 0 3) :: (svS S) :: (ai sm) :: (ai m) :: j13 :: j14 :: j15 :: j16 :: j17 :: j18 :: j19 :: j20 :: j21 :: j22 :: j23 :: j24 :: j25 :: j26 :: j27 :: j28 :: j29 :: j30 :: j31 :: j32 :: j33 :: j34 :: (.sl 1 bb (Hs.map u8)) :: (ai Hs.length) :: (ai i) :: j38 :: j39 :: j40 :: j41 :: j42 :: j43 :: j44 :: j45 :: j46 :: j47 :: j48 :: j49 :: j50 :: j51 :: j52 :: j53 :: j54 :: j55 :: j56 :: j57 :: j58 :: j59 :: j60 :: j61 :: j62 :: j63 :: j64 :: j65 :: j66 :: j67 :: j68 :: j69 :: j70 :: j71 :: j72 :: j73 :: j74 :: j75 :: j76 :: j77 :: j78 :: j79 :: j80 :: j81 :: j82 :: j83 :: j84 :: j85 :: j86 :: j87 :: j88 :: j89 :: j90 :: j91 :: j92 :: j93 :: j94 :: j95 :: j96 :: j97 :: j98 :: j99 :: j100 :: j101 :: j102 :: j103 :: j104 :: j105 :: j106 :: j107 :: j108 :: j109 :: j110 :: j111 :: j112 :: j113 :: j114 :: j115 :: j116 :: j117 :: j118 :: j119 :: j120 :: j121 :: j122 :: j123 :: j124 :: j125 :: j126 :: j127 :: j128 :: j129 :: j130 :: j131 :: j132 :: j133 :: j134 :: j135 :: j136 :: j137 :: j138 :: j139 :: j140 :: j141 :: j142 :: j143 :: j144 :: j145 :: j146 :: j147 :: j148 :: j149 :: j150 :: j151 :: j152 :: j153 :: j154 :: j155 :: j156 :: j157 :: j158 :: j159 :: j160 :: j161 :: j162 :: j163 :: j164 :: j165 :: j166 :: j167 :: j168 :: j169 :: j170 :: j171 :: j172 :: j173 :: j174 :: j175 :: j176 :: j177 :: j178 :: j179 :: j180 :: j181 :: j182 :: j183 :: j184 :: j185 :: j186 :: j187 :: j188 :: j189 :: j190 :: j191 :: j192 :: j193 :: j194 :: j195 :: j196 :: j197 :: j198 :: j199 :: j200 :: j201 :: j202 :: j203 :: j204 :: []), [(15, (g15, o15)), (61, srS S), (1009, (1, some ⟨3, 1, (M.getD 0 []).map ai⟩)), (1011, (1, some ⟨37, 1, [.os 1009 1 3 1 0 3, .os 101009 1 3 1 0 3, .os 201009 1 3 1 0 3]⟩)), (101009, (1, some ⟨3, 1, (M.getD 1 []).map ai⟩)), (201009, (1, some ⟨3, 1, (M.getD 2 []).map ai⟩))]⟩ Q := by
  intro k
  induction k with
  | zero =>
    intro i hi S M sm m hS hA g15 o15 j0 j1 j3 j5 j6 j13 j14 j15 j16 j17 j18 j19 j20 j21 j22 j23 j24 j25 j26 j27 j28 j29 j30 j31 j32 j33 j34 j38 j39 j40 j41 j42 j43 j44 j45 j46 j47 j48 j49 j50 j51 j52 j53 j54 j55 j56 j57 j58 j59 j60 j61 j62 j63 j64 j65 j66 j67 j68 j69 j70 j71 j72 j73 j74 j75 j76 j77 j78 j79 j80 j81 j82 j83 j84 j85 j86 j87 j88 j89 j90 j91 j92 j93 j94 j95 j96 j97 j98 j99 j100 j101 j102 j103 j104 j105 j106 j107 j108 j109 j110 j111 j112 j113 j114 j115 j116 j117 j118 j119 j120 j121 j122 j123 j124 j125 j126 j127 j128 j129 j130 j131 j132 j133 j134 j135 j136 j137 j138 j139 j140 j141 j142 j143 j144 j145 j146 j147 j148 j149 j150 j151 j152 j153 j154 j155 j156 j157 j158 j159 j160 j161 j162 j163 j164 j165 j166 j167 j168 j169 j170 j171 j172 j173 j174 j175 j176 j177 j178 j179 j180 j181 j182 j183 j184 j185 j186 j187 j188 j189 j190 j191 j192 j193 j194 j195 j196 j197 j198 j199 j200 j201 j202 j203 j204
    have : i = Hs.length := by omega
    subst this
    have h0 : decide (Hs.length < Hs.length) = false := by simp
    have hK := hK S M sm m hS hA (g15, o15)
    generalize svS S = w1 at *
    generalize srS S = w2 at *
    refine W_loop (W_run 80 ?_)
    simp (maxSteps := 2000000) only [SA, Nat.reduceDiv, Nat.reduceSub, Nat.reduceAdd, Int.reduceLT, Int.reduceLE, Int.reduceToNat, Nat.reduceMul, Nat.reduceEqDiff, reduceCtorEq, Nat.reduceBEq, Nat.reduceLeDiff, Nat.reduceLT, xf6_L1, ai, lt_cast, h0]
    exact W_stop (hK _ _ _ _ _ _ _ _ _ _ _ _ _ _ _ _ _ _ _ _ _ _ _ _ _ _ _ _ _ _ _ _ _ _ _ _ _ _ _ _ _ _ _ _ _ _ _ _ _ _ _ _ _ _ _ _ _ _ _ _ _ _ _ _ _ _ _ _ _ _ _ _ _ _ _ _ _ _ _ _ _ _ _ _ _ _ _ _ _ _ _ _ _ _ _ _ _ _ _ _ _ _ _ _ _ _ _ _ _ _ _ _ _ _ _ _ _ _ _ _ _ _ _ _ _ _ _ _ _ _ _ _ _ _ _ _ _ _ _ _ _ _ _ _ _ _ _ _ _ _ _ _ _ _ _ _ _ _ _ _ _ _ _ _ _ _ _ _ _ _ _ _ _ _ _ _ _ _ _ _ _ _ _ _ _ _ _ _ _ _ _ _ _ _)
  | succ k ih =>
    intro i hi S M sm m hS hA g15 o15 j0 j1 j3 j5 j6 j13 j14 j15 j16 j17 j18 j19 j20 j21 j22 j23 j24 j25 j26 j27 j28 j29 j30 j31 j32 j33 j34 j38 j39 j40 j41 j42 j43 j44 j45 j46 j47 j48 j49 j50 j51 j52 j53 j54 j55 j56 j57 j58 j59 j60 j61 j62 j63 j64 j65 j66 j67 j68 j69 j70 j71 j72 j73 j74 j75 j76 j77 j78 j79 j80 j81 j82 j83 j84 j85 j86 j87 j88 j89 j90 j91 j92 j93 j94 j95 j96 j97 j98 j99 j100 j101 j102 j103 j104 j105 j106 j107 j108 j109 j110 j111 j112 j113 j114 j115 j116 j117 j118 j119 j120 j121 j122 j123 j124 j125 j126 j127 j128 j129 j130 j131 j132 j133 j134 j135 j136 j137 j138 j139 j140 j141 j142 j143 j144 j145 j146 j147 j148 j149 j150 j151 j152 j153 j154 j155 j156 j157 j158 j159 j160 j161 j162 j163 j164 j165 j166 j167 j168 j169 j170 j171 j172 j173 j174 j175 j176 j177 j178 j179 j180 j181 j182 j183 j184 j185 j186 j187 j188 j189 j190 j191 j192 j193 j194 j195 j196 j197 j198 j199 j200 j201 j202 j203 j204
    have h1 : i < Hs.length := by omega
    have h0 : decide (i < Hs.length) = true := decide_eq_true h1
    have hiE : i < E.length := by omega
    have i8 : (i : Int) < 8 := by omega
    have hx := bH _ (getD_mem (d := 0) h1)
    have he := bE _ (getD_mem (d := 0) hiE)
    have gH := get_u8 h1
    have gE := get_u8 hiE
    generalize Hs.getD i 0 = x at *
    generalize E.getD i 0 = e at *
    have hPl : 1 ≤ Ps.length ∧ Ps.length ≤ 24 := by rw [hPs]; decide
    have wx : IntKind.i64.wrap x = x := wrap_id (by omega) (by omega)
    have we : IntKind.i64.wrap e = e := wrap_id (by omega) (by omega)
    have zP : ((Ps.length : Int) = 0) = False := eq_false (by omega)
    have z4 : ((4 : Int) = 0) = False := eq_false (by decide)
    obtain ⟨a1, a2⟩ := tmod_b (a := x) (n := Ps.length) hx.1 (by omega)
    obtain ⟨b1, b2⟩ := tmod_b (a := e) (n := 4) he.1 (by omega)
    have hgp := get_T (T := Ps) (i := (x.tmod Ps.length).toNat) (by omega)
    have hpm : Ps.getD (x.tmod Ps.length).toNat [] ∈ plL 3 := by rw [← hPs]; exact getD_mem (by omega)
    generalize Ps.getD (x.tmod Ps.length).toNat [] = p at *
    obtain ⟨t, ht⟩ : ∃ t, t = 1 + e.tmod 4 := ⟨_, rfl⟩
    have wt : IntKind.i64.wrap (1 + e.tmod 4) = t := by rw [wrap_id (by omega) (by omega), ht]
    have hok := plL_len (by decide : 1 ≤ 3) (by decide : 3 ≤ 4) p hpm
    have hA2 := ai_add (by decide : 1 ≤ 3) (by decide : 3 ≤ 4) hA hpm (t := t) (by omega)
    have hcl := cloneD_run false p (by have := hok.1; omega)
    have hsb := hA.sb
    have hwsm : IntKind.i64.wrap (sm + t) = sm + t := wrap_id (by omega) (by omega)
    have wi : IntKind.i64.wrap ((i : Int) + 1) = ((i + 1 : Nat) : Int) := by rw [wrap_id (by omega) (by omega)]; simp
    have hpl : p.length = 3 := hok.1
    have next := ih (i + 1) (by omega) (S ++ [(p, t)]) _ _ _ (by simp [hS]) hA2
    have ag0 : (addT M p t).getD 0 [] = addR M p t 0 := add_get (by omega)
    have ag1 : (addT M p t).getD 1 [] = addR M p t 1 := add_get (by omega)
    have ag2 : (addT M p t).getD 2 [] = addR M p t 2 := add_get (by omega)
    rw [ag0, ag1, ag2] at next
    have hinn := inn_3 hA.sh (by omega) hok (t := t) (by omega) (g15 + 1) m
    generalize hm2 : mst m (addT M p t) p 3 = m2 at *
    refine W_loop (W_run 200 ?_)
    cases S with
    | nil =>
      have eS : shV (p, t) = .ag [al false p, ai t] := rfl
      simp only [svS, srS, List.nil_append, List.map_nil, List.length_nil, eS] at next ⊢
      simp (maxSteps := 2000000) only [SA, Nat.reduceDiv, Nat.reduceSub, Nat.reduceAdd, Int.reduceLT, Int.reduceLE, Int.reduceToNat, Nat.reduceMul, Nat.reduceEqDiff, reduceCtorEq, Nat.reduceBEq, Nat.reduceLeDiff, Nat.reduceLT, xf6_L1, ai, al, aT, u8, nilA, lt_cast, h0, i8, hE, gH, gE, wx, we, zP, z4, a1, a2, hgp, wt, Go.Proofs.Eng.fillA, raw_conv, rawC, opA, argT, Option.elim]
      refine W_frF [.none, .none, .none, .none, .none, .none, .none, .none, .none, .none, .none, .none, .none, .none, .none, .none, .wk 15, .any] (by kernel_rfl) (W_run 200 ?_)
      simp (maxSteps := 2000000) only [SA, Nat.reduceDiv, Nat.reduceSub, Nat.reduceAdd, Int.reduceLT, Int.reduceLE, Int.reduceToNat, Nat.reduceMul, Nat.reduceEqDiff, reduceCtorEq, Nat.reduceBEq, Nat.reduceLeDiff, Nat.reduceLT, ai, al, aT, u8, nilA, lt_cast, h0, i8, hE, gH, gE, wx, we, zP, z4, a1, a2, hgp, wt, Go.Proofs.Eng.fillA, raw_conv, rawC, opA, argT, Option.elim]
      refine W_call (args := [al false p]) rfl (noRefs_1 (noRef_al _ _)) hcl (noRef_al _ _) (W_run 200 ?_)
      simp (maxSteps := 2000000) only [SA, Nat.reduceDiv, Nat.reduceSub, Nat.reduceAdd, Int.reduceLT, Int.reduceLE, Int.reduceToNat, Nat.reduceMul, Nat.reduceEqDiff, reduceCtorEq, Nat.reduceBEq, Nat.reduceLeDiff, Nat.reduceLT, ai, al, aT, u8, nilA, i8, hE, gE, we, z4, wt, hwsm, hpl, Go.Proofs.Eng.fillA, Go.Proofs.Eng.elems, raw_conv, rawC, opA, argT, Option.elim, List.map_cons, List.map_nil]
      refine W_alone (hinn _ _ _ _ _ _ _ _ _ _ _ (fun j0 j1 j3 j5 j6 j13 j14 j16 j17 j18 j19 j20 j21 j22 j23 j24 j25 j26 j27 j28 j29 j30 j31 j32 j33 j34 j38 j39 j40 j41 j42 j43 j44 j45 j46 j47 j48 j49 j50 j51 j52 j53 j54 j55 j56 j57 j58 j59 j60 j61 j62 j63 j64 j65 j66 j70 j71 j72 j73 j74 j75 j76 j77 j78 j79 j80 j81 j82 j83 j84 j85 j86 j87 j88 j89 j90 j91 j92 j93 j94 j95 j96 j97 j98 j99 j100 j101 j102 j103 j104 j105 j106 j107 j108 j109 j110 j111 j112 j113 j114 j115 j116 j117 j118 j119 j120 j121 j122 j123 j124 j125 j126 j127 j128 j129 j130 j131 j132 j133 j134 j135 j136 j137 j138 j139 j140 j141 j142 j143 j144 j145 j146 j147 j148 j149 j150 j151 j152 j153 j154 j155 j156 j157 j158 j159 j160 j161 j162 j163 j164 j165 j166 j167 j168 j169 j170 j171 j172 j173 j174 j175 j176 j177 j178 j179 j180 j181 j182 j183 j184 j185 j186 j187 j188 j189 j190 j191 j192 j193 j194 j195 j196 j197 j198 j199 j200 j201 j202 j203 j204 => W_run 80 ?_) _ _ _ _ _ _ _ _ _ _ _ _ _ _ _ _ _ _ _ _ _ _ _ _ _ _ _ _ _ _ _ _ _ _ _ _ _ _ _ _ _ _ _ _ _ _ _ _ _ _ _ _ _ _ _ _ _ _ _ _ _ _ _ _ _ _ _ _ _ _ _ _ _ _ _ _ _ _ _ _ _ _ _ _ _ _ _ _ _ _ _ _ _ _ _ _ _ _ _ _ _ _ _ _ _ _ _ _ _ _ _ _ _ _ _ _ _ _ _ _ _ _ _ _ _ _ _ _ _ _ _ _ _ _ _ _ _ _ _ _ _ _ _ _ _ _ _ _ _ _ _ _ _ _ _ _ _ _ _ _ _ _ _ _ _ _ _ _ _ _ _ _ _ _ _ _ _ _ _ _ _ _ _ _ _ _ _ _ _ _)
      simp (maxSteps := 2000000) only [SA, Nat.reduceDiv, Nat.reduceSub, Nat.reduceAdd, Int.reduceLT, Int.reduceLE, Int.reduceToNat, Nat.reduceMul, Nat.reduceEqDiff, reduceCtorEq, Nat.reduceBEq, Nat.reduceLeDiff, Nat.reduceLT, xf6_R0, ai, wi]
      exact next _ _ _ _ _ _ _ _ _ _ _ _ _ _ _ _ _ _ _ _ _ _ _ _ _ _ _ _ _ _ _ _ _ _ _ _ _ _ _ _ _ _ _ _ _ _ _ _ _ _ _ _ _ _ _ _ _ _ _ _ _ _ _ _ _ _ _ _ _ _ _ _ _ _ _ _ _ _ _ _ _ _ _ _ _ _ _ _ _ _ _ _ _ _ _ _ _ _ _ _ _ _ _ _ _ _ _ _ _ _ _ _ _ _ _ _ _ _ _ _ _ _ _ _ _ _ _ _ _ _ _ _ _ _ _ _ _ _ _ _ _ _ _ _ _ _ _ _ _ _ _ _ _ _ _ _ _ _ _ _ _ _ _ _ _ _ _ _ _ _ _ _ _ _ _ _ _ _ _ _ _ _ _ _ _ _ _ _ _ _ _ _ _ _ _ _
    | cons y S2 =>
      have hS2 : S2.length + 1 = i := hS
      have q1 : (S2.length + 1 + 1) * 32 ≤ 100000000000000 := by omega
      have q2 : S2.length + 1 + 1 ≤ 100000000000000 := by omega
      have e2 : (S2 ++ [(p, t)]).length = S2.length + 1 := by simp
      have eS : shV (p, t) = .ag [al false p, ai t] := rfl
      simp only [svS, srS, List.cons_append, e2, List.map_append, List.map_cons, List.map_nil, eS] at next ⊢
      simp (maxSteps := 2000000) only [SA, Nat.reduceDiv, Nat.reduceSub, Nat.reduceAdd, Int.reduceLT, Int.reduceLE, Int.reduceToNat, Nat.reduceMul, Nat.reduceEqDiff, reduceCtorEq, Nat.reduceBEq, Nat.reduceLeDiff, Nat.reduceLT, xf6_L1, ai, al, aT, u8, nilA, lt_cast, h0, i8, hE, gH, gE, wx, we, zP, z4, a1, a2, hgp, wt, Go.Proofs.Eng.fillA, raw_conv, rawC, opA, argT, Option.elim]
      refine W_frF [.none, .none, .none, .none, .none, .none, .none, .none, .none, .none, .none, .none, .none, .none, .none, .none, .wk 15, .any] (by kernel_rfl) (W_run 200 ?_)
      simp (maxSteps := 2000000) only [SA, Nat.reduceDiv, Nat.reduceSub, Nat.reduceAdd, Int.reduceLT, Int.reduceLE, Int.reduceToNat, Nat.reduceMul, Nat.reduceEqDiff, reduceCtorEq, Nat.reduceBEq, Nat.reduceLeDiff, Nat.reduceLT, ai, al, aT, u8, nilA, lt_cast, h0, i8, hE, gH, gE, wx, we, zP, z4, a1, a2, hgp, wt, Go.Proofs.Eng.fillA, raw_conv, rawC, opA, argT, Option.elim]
      refine W_call (args := [al false p]) rfl (noRefs_1 (noRef_al _ _)) hcl (noRef_al _ _) (W_run 200 ?_)
      simp (maxSteps := 2000000) only [SA, Nat.reduceDiv, Nat.reduceSub, Nat.reduceAdd, Int.reduceLT, Int.reduceLE, Int.reduceToNat, Nat.reduceMul, Nat.reduceEqDiff, reduceCtorEq, Nat.reduceBEq, Nat.reduceLeDiff, Nat.reduceLT, ai, al, aT, u8, nilA, i8, hE, gE, we, z4, wt, hwsm, hpl, q1, q2, Go.Proofs.Eng.fillA, Go.Proofs.Eng.elems, raw_conv, rawC, opA, argT, Option.elim, List.map_cons, List.map_nil]
      refine W_alone (hinn _ _ _ _ _ _ _ _ _ _ _ (fun j0 j1 j3 j5 j6 j13 j14 j16 j17 j18 j19 j20 j21 j22 j23 j24 j25 j26 j27 j28 j29 j30 j31 j32 j33 j34 j38 j39 j40 j41 j42 j43 j44 j45 j46 j47 j48 j49 j50 j51 j52 j53 j54 j55 j56 j57 j58 j59 j60 j61 j62 j63 j64 j65 j66 j70 j71 j72 j73 j74 j75 j76 j77 j78 j79 j80 j81 j82 j83 j84 j85 j86 j87 j88 j89 j90 j91 j92 j93 j94 j95 j96 j97 j98 j99 j100 j101 j102 j103 j104 j105 j106 j107 j108 j109 j110 j111 j112 j113 j114 j115 j116 j117 j118 j119 j120 j121 j122 j123 j124 j125 j126 j127 j128 j129 j130 j131 j132 j133 j134 j135 j136 j137 j138 j139 j140 j141 j142 j143 j144 j145 j146 j147 j148 j149 j150 j151 j152 j153 j154 j155 j156 j157 j158 j159 j160 j161 j162 j163 j164 j165 j166 j167 j168 j169 j170 j171 j172 j173 j174 j175 j176 j177 j178 j179 j180 j181 j182 j183 j184 j185 j186 j187 j188 j189 j190 j191 j192 j193 j194 j195 j196 j197 j198 j199 j200 j201 j202 j203 j204 => W_run 80 ?_) _ _ _ _ _ _ _ _ _ _ _ _ _ _ _ _ _ _ _ _ _ _ _ _ _ _ _ _ _ _ _ _ _ _ _ _ _ _ _ _ _ _ _ _ _ _ _ _ _ _ _ _ _ _ _ _ _ _ _ _ _ _ _ _ _ _ _ _ _ _ _ _ _ _ _ _ _ _ _ _ _ _ _ _ _ _ _ _ _ _ _ _ _ _ _ _ _ _ _ _ _ _ _ _ _ _ _ _ _ _ _ _ _ _ _ _ _ _ _ _ _ _ _ _ _ _ _ _ _ _ _ _ _ _ _ _ _ _ _ _ _ _ _ _ _ _ _ _ _ _ _ _ _ _ _ _ _ _ _ _ _ _ _ _ _ _ _ _ _ _ _ _ _ _ _ _ _ _ _ _ _ _ _ _ _ _ _ _ _ _)
      simp (maxSteps := 2000000) only [SA, Nat.reduceDiv, Nat.reduceSub, Nat.reduceAdd, Int.reduceLT, Int.reduceLE, Int.reduceToNat, Nat.reduceMul, Nat.reduceEqDiff, reduceCtorEq, Nat.reduceBEq, Nat.reduceLeDiff, Nat.reduceLT, xf6_R0, ai, wi]
      exact next _ _ _ _ _ _ _ _ _ _ _ _ _ _ _ _ _ _ _ _ _ _ _ _ _ _ _ _ _ _ _ _ _ _ _ _ _ _ _ _ _ _ _ _ _ _ _ _ _ _ _ _ _ _ _ _ _ _ _ _ _ _ _ _ _ _ _ _ _ _ _ _ _ _ _ _ _ _ _ _ _ _ _ _ _ _ _ _ _ _ _ _ _ _ _ _ _ _ _ _ _ _ _ _ _ _ _ _ _ _ _ _ _ _ _ _ _ _ _ _ _ _ _ _ _ _ _ _ _ _ _ _ _ _ _ _ _ _ _ _ _ _ _ _ _ _ _ _ _ _ _ _ _ _ _ _ _ _ _ _ _ _ _ _ _ _ _ _ _ _ _ _ _ _ _ _ _ _ _ _ _ _ _ _ _ _ _ _ _ _ _ _ _ _ _ _
end Go.Proofs.Ytelkpfionifjgaa

