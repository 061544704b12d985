/-
  LineShown.
-/
import Derived.Test.YtdmffkknghianaaGC
import Derived.Test.YtdmffkknghianaaMn
set_option linter.unusedSimpArgs false
set_option linter.unusedVariables false
namespace Go.Proofs.Ytdmffkknghianaa
open Go Go.Proofs.Eng
set_option maxRecDepth 100000
set_option maxHeartbeats 4000000
theorem noRef_gal (a b e : Int) (H : List Int) : noRef (gal a b e H) = true := noRefs_of fun x hx => by
  simp only [List.mem_cons, List.mem_map] at hx
  rcases hx with rfl | rfl | rfl | ⟨z, _, rfl⟩ <;> rfl
/-- Grow of no word -/
theorem grow_bad {V : Int} {w : List Int} (hg : gX V w) (f g : Bool) {E : List Nat} (hE : E.length ≤ 100) : Runs Try.prog xf 33 [tx f V w, al g (nl E), ai (-1), ai 0] (.tup [nilA, ai 0, ai (if fE (pf w) V w.length E = 0 then 2 else fE (pf w) V w.length E)]) := by
  have hs := fits2_run hg f g hE
  have n00 : ((0 : Int) != 0) = false := rfl
  have d1 : decide ((-1 : Int) < 0) = true := rfl
  refine Runs.ofW (fn := xf33) 20 (by kernel_rfl) (W_run 80 ?_)
  simp (maxSteps := 2000000) only [SA, Nat.reduceDiv, Nat.reduceSub, Nat.reduceAdd, Int.reduceLT, Int.reduceLE, Int.reduceToNat, Nat.reduceMul, Nat.reduceEqDiff, reduceCtorEq, Nat.reduceBEq, Nat.reduceLeDiff, Nat.reduceLT, xf33, ai, al, tx]
  refine W_call (args := [tx f V w, al g (nl E)]) rfl (noRefs_2 (noRef_tx _ _ _) (noRef_al _ _)) hs rfl (W_run 80 ?_)
  by_cases h : fE (pf w) V w.length E = 0
  · rw [if_pos h, h]
    simp (maxSteps := 2000000) only [SA, Nat.reduceDiv, Nat.reduceSub, Nat.reduceAdd, Int.reduceLT, Int.reduceLE, Int.reduceToNat, Nat.reduceMul, Nat.reduceEqDiff, reduceCtorEq, Nat.reduceBEq, Nat.reduceLeDiff, Nat.reduceLT, ai, al, tx, n00, d1]
    exact W_ret1 (WX_pop (WX_nil ⟨.inl rfl, _, rfl, rfl⟩))
  · have n1 : (fE (pf w) V w.length E != 0) = true := by rw [bne_iff_ne]; exact h
    rw [if_neg h]
    generalize fE (pf w) V w.length E = c at *
    simp (maxSteps := 2000000) only [SA, Nat.reduceDiv, Nat.reduceSub, Nat.reduceAdd, Int.reduceLT, Int.reduceLE, Int.reduceToNat, Nat.reduceMul, Nat.reduceEqDiff, reduceCtorEq, Nat.reduceBEq, Nat.reduceLeDiff, Nat.reduceLT, ai, al, tx, n1]
    exact W_ret1 (WX_pop (WX_nil ⟨.inl rfl, _, rfl, rfl⟩))
def hvS (E : List Nat) : AV := match E with | [] => nilA | x :: t => .os 41 1 (x :: t).length 1 0 (x :: t).length
def hpS (q7 : Nat × Option Ob) (E : List Nat) : Heap := [(7, q7), (41, match E with | [] => (0, none) | x :: t => (1, some ⟨3, 1, (nl (x :: t)).map ai⟩))]
theorem bit_loop (n : Nat) (hn : n ≤ 10) (P z : Int) (q7 : Nat × Option Ob) (x0 x3 : AV) (K : List Fr) (Q : Out → Cfg → Prop)
    (hK : ∀ (E : List Nat) (b : Nat), b < n → E.length < n → (∀ t, eE n 0 (E ++ t) = eE n b t) → ∀ j4 j5 j11 j12 j13 j14 j15 j16 j17 j18 j19 j20 j21 j22 j23 j24 j25 j26 j27 j28 j29 j30 j31 j32 j33 j34 j35 j36 j37 j38 j39 j40 j41 j42 j43 j44 j45 j46 j47 j48 j49 j50 j51 j52 j53 j54 j55 j56 j57 j58 j59 j60 j61 j62 j63 j64 j65 j66 j67 j68 j69 j70 j71 j72 j73 j74 j75 j76 j77 j78 j79 j80 j81 j82 j83 j84 j85 j86 j87 j88 j89 j90 j91 j92 j93 j94 j95 j96 j97 j98 j99 j100 j101 j102 j103 j104 j105 j106 j107 j108 j109 j110 j111 j112 j113 j114 j115 j116 j117 j118 j119 j120 j121 j122 j123 j124 j125 j126 j127 j128 j129 j130 j131 : AV, W Try.prog (RelU Try.prog xf) 0 K ⟨(x0 :: (.v (.int .u16 P)) :: (u8 z) :: x3 :: j4 :: j5 :: (ab false) :: (.o 7 1 1 0 0) :: (ai n) :: (hvS E) :: (ai n) :: j11 :: j12 :: j13 :: j14 :: j15 :: j16 :: j17 :: j18 :: j19 :: j20 :: j21 :: j22 :: j23 :: j24 :: j25 :: j26 :: j27 :: j28 :: j29 :: j30 :: j31 :: j32 :: j33 :: j34 :: j35 :: j36 :: j37 :: j38 :: j39 :: j40 :: j41 :: j42 :: j43 :: j44 :: j45 :: j46 :: j47 :: j48 :: j49 :: j50 :: j51 :: j52 :: j53 :: j54 :: j55 :: j56 :: j57 :: j58 :: j59 :: j60 :: j61 :: j62 :: j63 :: j64 :: j65 :: j66 :: j67 :: j68 :: j69 :: j70 :: j71 :: j72 :: j73 :: j74 :: j75 :: j76 :: j77 :: j78 :: j79 :: j80 :: j81 :: j82 :: j83 :: j84 :: j85 :: j86 :: j87 :: j88 :: j89 :: j90 :: j91 :: j92 :: j93 :: j94 :: j95 :: j96 :: j97 :: j98 :: j99 :: j100 :: j101 :: j102 :: j103 :: j104 :: j105 :: j106 :: j107 :: j108 :: j109 :: j110 :: j111 :: j112 :: j113 :: j114 :: j115 :: j116 :: j117 :: j118 :: j119 :: j120 :: j121 :: j122 :: j123 :: j124 :: j125 :: j126 :: j127 :: j128 :: j129 :: j130 :: j131 :: []), hpS q7 E⟩ Q) :
    ∀ (m k : Nat), k + m = n → 1 ≤ k → ∀ (E : List Nat) (b : Nat), b < k → E.length < k → (∀ t, eE n 0 (E ++ t) = eE n b t) → ∀ j4 j5 j11 j12 j13 j14 j15 j16 j17 j18 j19 j20 j21 j22 j23 j24 j25 j26 j27 j28 j29 j30 j31 j32 j33 j34 j35 j36 j37 j38 j39 j40 j41 j42 j43 j44 j45 j46 j47 j48 j49 j50 j51 j52 j53 j54 j55 j56 j57 j58 j59 j60 j61 j62 j63 j64 j65 j66 j67 j68 j69 j70 j71 j72 j73 j74 j75 j76 j77 j78 j79 j80 j81 j82 j83 j84 j85 j86 j87 j88 j89 j90 j91 j92 j93 j94 j95 j96 j97 j98 j99 j100 j101 j102 j103 j104 j105 j106 j107 j108 j109 j110 j111 j112 j113 j114 j115 j116 j117 j118 j119 j120 j121 j122 j123 j124 j125 j126 j127 j128 j129 j130 j131 : AV, W Try.prog (RelU Try.prog xf) 0 (.code (.loop xf10_L0) :: .blk 0 :: .stop :: K) ⟨(x0 :: (.v (.int .u16 P)) :: (u8 z) :: x3 :: j4 :: j5 :: (ab false) :: (.o 7 1 1 0 0) :: (ai n) :: (hvS E) :: (ai k) :: j11 :: j12 :: j13 :: j14 :: j15 :: j16 :: j17 :: j18 :: j19 :: j20 :: j21 :: j22 :: j23 :: j24 :: j25 :: j26 :: j27 :: j28 :: j29 :: j30 :: j31 :: j32 :: j33 :: j34 :: j35 :: j36 :: j37 :: j38 :: j39 :: j40 :: j41 :: j42 :: j43 :: j44 :: j45 :: j46 :: j47 :: j48 :: j49 :: j50 :: j51 :: j52 :: j53 :: j54 :: j55 :: j56 :: j57 :: j58 :: j59 :: j60 :: j61 :: j62 :: j63 :: j64 :: j65 :: j66 :: j67 :: j68 :: j69 :: j70 :: j71 :: j72 :: j73 :: j74 :: j75 :: j76 :: j77 :: j78 :: j79 :: j80 :: j81 :: j82 :: j83 :: j84 :: j85 :: j86 :: j87 :: j88 :: j89 :: j90 :: j91 :: j92 :: j93 :: j94 :: j95 :: j96 :: j97 :: j98 :: j99 :: j100 :: j101 :: j102 :: j103 :: j104 :: j105 :: j106 :: j107 :: j108 :: j109 :: j110 :: j111 :: j112 :: j113 :: j114 :: j115 :: j116 :: j117 :: j118 :: j119 :: j120 :: j121 :: j122 :: j123 :: j124 :: j125 :: j126 :: j127 :: j128 :: j129 :: j130 :: j131 :: []), hpS q7 E⟩ Q := by
  intro m
  induction m with
  | zero =>
    intro k hk h1 E b hb hE he j4 j5 j11 j12 j13 j14 j15 j16 j17 j18 j19 j20 j21 j22 j23 j24 j25 j26 j27 j28 j29 j30 j31 j32 j33 j34 j35 j36 j37 j38 j39 j40 j41 j42 j43 j44 j45 j46 j47 j48 j49 j50 j51 j52 j53 j54 j55 j56 j57 j58 j59 j60 j61 j62 j63 j64 j65 j66 j67 j68 j69 j70 j71 j72 j73 j74 j75 j76 j77 j78 j79 j80 j81 j82 j83 j84 j85 j86 j87 j88 j89 j90 j91 j92 j93 j94 j95 j96 j97 j98 j99 j100 j101 j102 j103 j104 j105 j106 j107 j108 j109 j110 j111 j112 j113 j114 j115 j116 j117 j118 j119 j120 j121 j122 j123 j124 j125 j126 j127 j128 j129 j130 j131
    have ek : k = n := by omega
    subst ek
    have h0 : decide (k < k) = false := by simp
    refine W_loop (W_run 80 ?_)
    simp (maxSteps := 2000000) only [SA, Nat.reduceDiv, Nat.reduceSub, Nat.reduceAdd, Int.reduceLT, Int.reduceLE, Int.reduceToNat, Nat.reduceMul, Nat.reduceEqDiff, reduceCtorEq, Nat.reduceBEq, Nat.reduceLeDiff, Nat.reduceLT, xf10_L0, ai, ab, lt_cast, h0]
    exact W_stop (hK E b hb hE he _ _ _ _ _ _ _ _ _ _ _ _ _ _ _ _ _ _ _ _ _ _ _ _ _ _ _ _ _ _ _ _ _ _ _ _ _ _ _ _ _ _ _ _ _ _ _ _ _ _ _ _ _ _ _ _ _ _ _ _ _ _ _ _ _ _ _ _ _ _ _ _ _ _ _ _ _ _ _ _ _ _ _ _ _ _ _ _ _ _ _ _ _ _ _ _ _ _ _ _ _ _ _ _ _ _ _ _ _ _ _ _ _ _ _ _ _ _ _ _ _ _ _)
  | succ m ih =>
    intro k hk h1 E b hb hE he j4 j5 j11 j12 j13 j14 j15 j16 j17 j18 j19 j20 j21 j22 j23 j24 j25 j26 j27 j28 j29 j30 j31 j32 j33 j34 j35 j36 j37 j38 j39 j40 j41 j42 j43 j44 j45 j46 j47 j48 j49 j50 j51 j52 j53 j54 j55 j56 j57 j58 j59 j60 j61 j62 j63 j64 j65 j66 j67 j68 j69 j70 j71 j72 j73 j74 j75 j76 j77 j78 j79 j80 j81 j82 j83 j84 j85 j86 j87 j88 j89 j90 j91 j92 j93 j94 j95 j96 j97 j98 j99 j100 j101 j102 j103 j104 j105 j106 j107 j108 j109 j110 j111 j112 j113 j114 j115 j116 j117 j118 j119 j120 j121 j122 j123 j124 j125 j126 j127 j128 j129 j130 j131
    have h0 : decide (k < n) = true := decide_eq_true (by omega)
    have wi : IntKind.i64.wrap ((k : Int) + 1) = ((k + 1 : Nat) : Int) := by rw [wrap_id (by omega) (by omega)]; simp
    have k0 : ((k : Int) < 0) = False := eq_false (by omega)
    have no := ih (k + 1) (by omega) (by omega) E b (by omega) (by omega) he
    have yes := ih (k + 1) (by omega) (by omega) (E ++ [k]) k (by omega) (by simp; omega) (fun t => by rw [List.append_assoc, he, List.singleton_append, eE, if_neg (by omega), if_neg (by omega)])
    refine W_loop (W_run 80 ?_)
    simp (maxSteps := 2000000) only [SA, Nat.reduceDiv, Nat.reduceSub, Nat.reduceAdd, Int.reduceLT, Int.reduceLE, Int.reduceToNat, Nat.reduceMul, Nat.reduceEqDiff, reduceCtorEq, Nat.reduceBEq, Nat.reduceLeDiff, Nat.reduceLT, xf10_L0, ai, ab, lt_cast, h0, k0, Int.toNat_natCast]
    generalize (IntKind.u16.wrap ((BitVec.ofInt IntKind.u16.bits (P.fdiv (2 ^ min k IntKind.u16.bits)) &&& BitVec.ofInt IntKind.u16.bits 1).toNat : Int) == 1) = bit
    cases bit with
    | false =>
      simp (maxSteps := 2000000) only [SA, Nat.reduceDiv, Nat.reduceSub, Nat.reduceAdd, Int.reduceLT, Int.reduceLE, Int.reduceToNat, Nat.reduceMul, Nat.reduceEqDiff, reduceCtorEq, Nat.reduceBEq, Nat.reduceLeDiff, Nat.reduceLT, ai, ab, wi]
      exact no _ _ _ _ _ _ _ _ _ _ _ _ _ _ _ _ _ _ _ _ _ _ _ _ _ _ _ _ _ _ _ _ _ _ _ _ _ _ _ _ _ _ _ _ _ _ _ _ _ _ _ _ _ _ _ _ _ _ _ _ _ _ _ _ _ _ _ _ _ _ _ _ _ _ _ _ _ _ _ _ _ _ _ _ _ _ _ _ _ _ _ _ _ _ _ _ _ _ _ _ _ _ _ _ _ _ _ _ _ _ _ _ _ _ _ _ _ _ _ _ _ _ _
    | true =>
      cases E with
      | nil =>
        simp only [hpS, hvS, List.nil_append] at yes ⊢
        simp (maxSteps := 2000000) only [SA, Nat.reduceDiv, Nat.reduceSub, Nat.reduceAdd, Int.reduceLT, Int.reduceLE, Int.reduceToNat, Nat.reduceMul, Nat.reduceEqDiff, reduceCtorEq, Nat.reduceBEq, Nat.reduceLeDiff, Nat.reduceLT, ai, ab, nilA, wi, Go.Proofs.Eng.elems, List.map_cons, List.map_nil]
        exact yes _ _ _ _ _ _ _ _ _ _ _ _ _ _ _ _ _ _ _ _ _ _ _ _ _ _ _ _ _ _ _ _ _ _ _ _ _ _ _ _ _ _ _ _ _ _ _ _ _ _ _ _ _ _ _ _ _ _ _ _ _ _ _ _ _ _ _ _ _ _ _ _ _ _ _ _ _ _ _ _ _ _ _ _ _ _ _ _ _ _ _ _ _ _ _ _ _ _ _ _ _ _ _ _ _ _ _ _ _ _ _ _ _ _ _ _ _ _ _ _ _ _ _
      | cons x t =>
        have q1 : (t.length + 1 + 1) * 8 ≤ 100000000000000 := by simp only [List.length_cons] at hE; omega
        have q2 : t.length + 1 + 1 ≤ 100000000000000 := by simp only [List.length_cons] at hE; omega
        have e2 : (x :: (t ++ [k])).length = t.length + 1 + 1 := by simp
        have e3 : (nl (x :: (t ++ [k]))).map ai = (nl (x :: t)).map ai ++ [ai (k : Nat)] := by unfold nl; simp
        have e4 : ((nl (x :: t)).map ai).length = t.length + 1 := by unfold nl; simp
        simp only [hpS, hvS, List.cons_append, e2, e3] at yes ⊢
        simp (maxSteps := 2000000) only [SA, Nat.reduceDiv, Nat.reduceSub, Nat.reduceAdd, Int.reduceLT, Int.reduceLE, Int.reduceToNat, Nat.reduceMul, Nat.reduceEqDiff, reduceCtorEq, Nat.reduceBEq, Nat.reduceLeDiff, Nat.reduceLT, ai, ab, nilA, wi, q1, q2, e4, Go.Proofs.Eng.elems, List.map_cons, List.map_nil]
        exact yes _ _ _ _ _ _ _ _ _ _ _ _ _ _ _ _ _ _ _ _ _ _ _ _ _ _ _ _ _ _ _ _ _ _ _ _ _ _ _ _ _ _ _ _ _ _ _ _ _ _ _ _ _ _ _ _ _ _ _ _ _ _ _ _ _ _ _ _ _ _ _ _ _ _ _ _ _ _ _ _ _ _ _ _ _ _ _ _ _ _ _ _ _ _ _ _ _ _ _ _ _ _ _ _ _ _ _ _ _ _ _ _ _ _ _ _ _ _ _ _ _ _ _
theorem split_at' {E : List Nat} {k : Nat} (hk : k < E.length) {b : Nat} {l1 : List (Nat × Nat)} (hs : spE 0 E = l1 ++ spE b (E.drop k)) : spE 0 E = (l1 ++ [(b, E.getD k 0)]) ++ spE (E.getD k 0) (E.drop (k + 1)) := by
  rw [hs, drop_at (d := 0) hk, spE, List.append_assoc]; rfl
/-- so far all fit, or not -/
def wnt (q : Nat → Int) (V : Int) (l : List (Nat × Nat)) : Int := if l.all (fun p => fit q V p.1 p.2) = true then 0 else 15
theorem wnt_loop (V : Int) (w : List Int) (hg : gX V w) (E : List Nat) (hE0 : eE w.length 0 E = 0) (hEl : E.length ≤ w.length) (key : Nat) (h7 : ¬ 7 = key) (z : Int) (x0 x1 x3 : AV) (K : List Fr) (Q : Out → Cfg → Prop)
    (hK : ∀ j4 j5 j10 j13 j14 j15 j16 j17 j18 j19 j20 j21 j22 j23 j24 j25 j26 j27 j28 j29 j30 j31 j32 j33 j34 j35 j36 j37 j38 j39 j40 j41 j42 j43 j44 j45 j49 j50 j51 j52 j53 j54 j55 j56 j57 j58 j59 j60 j61 j62 j63 j64 j65 j66 j67 j68 j69 j70 j71 j72 j73 j74 j75 j76 j77 j78 j79 j80 j81 j82 j83 j84 j85 j86 j87 j88 j89 j90 j91 j92 j93 j94 j95 j96 j97 j98 j99 j100 j101 j102 j103 j104 j105 j106 j107 j108 j109 j110 j111 j112 j113 j114 j115 j116 j117 j118 j119 j120 j121 j122 j123 j124 j125 j126 j127 j128 j129 j130 j131 : AV, W Try.prog (RelU Try.prog xf) 0 K ⟨(x0 :: x1 :: (u8 z) :: x3 :: j4 :: j5 :: (ab false) :: (.o 7 1 1 0 0) :: (ai w.length) :: (.os key 1 E.length 1 0 E.length) :: j10 :: (ai (fE (pf w) V w.length E)) :: (ai w.length) :: j13 :: j14 :: j15 :: j16 :: j17 :: j18 :: j19 :: j20 :: j21 :: j22 :: j23 :: j24 :: j25 :: j26 :: j27 :: j28 :: j29 :: j30 :: j31 :: j32 :: j33 :: j34 :: j35 :: j36 :: j37 :: j38 :: j39 :: j40 :: j41 :: j42 :: j43 :: j44 :: j45 :: (.os key 1 E.length 1 0 E.length) :: (ai E.length) :: (ai E.length) :: j49 :: j50 :: j51 :: j52 :: j53 :: j54 :: j55 :: j56 :: j57 :: j58 :: j59 :: j60 :: j61 :: j62 :: j63 :: j64 :: j65 :: j66 :: j67 :: j68 :: j69 :: j70 :: j71 :: j72 :: j73 :: j74 :: j75 :: j76 :: j77 :: j78 :: j79 :: j80 :: j81 :: j82 :: j83 :: j84 :: j85 :: j86 :: j87 :: j88 :: j89 :: j90 :: j91 :: j92 :: j93 :: j94 :: j95 :: j96 :: j97 :: j98 :: j99 :: j100 :: j101 :: j102 :: j103 :: j104 :: j105 :: j106 :: j107 :: j108 :: j109 :: j110 :: j111 :: j112 :: j113 :: j114 :: j115 :: j116 :: j117 :: j118 :: j119 :: j120 :: j121 :: j122 :: j123 :: j124 :: j125 :: j126 :: j127 :: j128 :: j129 :: j130 :: j131 :: []), [(7, (1, some ⟨27, 2, [tx false V w]⟩)), (key, (1, some ⟨3, 1, (nl E).map ai⟩))]⟩ Q) :
    ∀ (m k : Nat), k + m = E.length → ∀ (b : Nat) (l1 : List (Nat × Nat)), spE 0 E = l1 ++ spE b (E.drop k) → eE w.length b (E.drop k) = 0 → ∀ j4 j5 j10 j13 j14 j15 j16 j17 j18 j19 j20 j21 j22 j23 j24 j25 j26 j27 j28 j29 j30 j31 j32 j33 j34 j35 j36 j37 j38 j39 j40 j41 j42 j43 j44 j45 j49 j50 j51 j52 j53 j54 j55 j56 j57 j58 j59 j60 j61 j62 j63 j64 j65 j66 j67 j68 j69 j70 j71 j72 j73 j74 j75 j76 j77 j78 j79 j80 j81 j82 j83 j84 j85 j86 j87 j88 j89 j90 j91 j92 j93 j94 j95 j96 j97 j98 j99 j100 j101 j102 j103 j104 j105 j106 j107 j108 j109 j110 j111 j112 j113 j114 j115 j116 j117 j118 j119 j120 j121 j122 j123 j124 j125 j126 j127 j128 j129 j130 j131 : AV, W Try.prog (RelU Try.prog xf) 0 (.code (.loop xf10_L1) :: .blk 2 :: .stop :: K) ⟨(x0 :: x1 :: (u8 z) :: x3 :: j4 :: j5 :: (ab false) :: (.o 7 1 1 0 0) :: (ai w.length) :: (.os key 1 E.length 1 0 E.length) :: j10 :: (ai (wnt (pf w) V l1)) :: (ai b) :: j13 :: j14 :: j15 :: j16 :: j17 :: j18 :: j19 :: j20 :: j21 :: j22 :: j23 :: j24 :: j25 :: j26 :: j27 :: j28 :: j29 :: j30 :: j31 :: j32 :: j33 :: j34 :: j35 :: j36 :: j37 :: j38 :: j39 :: j40 :: j41 :: j42 :: j43 :: j44 :: j45 :: (.os key 1 E.length 1 0 E.length) :: (ai E.length) :: (ai k) :: j49 :: j50 :: j51 :: j52 :: j53 :: j54 :: j55 :: j56 :: j57 :: j58 :: j59 :: j60 :: j61 :: j62 :: j63 :: j64 :: j65 :: j66 :: j67 :: j68 :: j69 :: j70 :: j71 :: j72 :: j73 :: j74 :: j75 :: j76 :: j77 :: j78 :: j79 :: j80 :: j81 :: j82 :: j83 :: j84 :: j85 :: j86 :: j87 :: j88 :: j89 :: j90 :: j91 :: j92 :: j93 :: j94 :: j95 :: j96 :: j97 :: j98 :: j99 :: j100 :: j101 :: j102 :: j103 :: j104 :: j105 :: j106 :: j107 :: j108 :: j109 :: j110 :: j111 :: j112 :: j113 :: j114 :: j115 :: j116 :: j117 :: j118 :: j119 :: j120 :: j121 :: j122 :: j123 :: j124 :: j125 :: j126 :: j127 :: j128 :: j129 :: j130 :: j131 :: []), [(7, (1, some ⟨27, 2, [tx false V w]⟩)), (key, (1, some ⟨3, 1, (nl E).map ai⟩))]⟩ Q := by
  have n10 := hg.n10
  have hEn := nl_len E
  intro m
  induction m with
  | zero =>
    intro k hk b l1 hs he j4 j5 j10 j13 j14 j15 j16 j17 j18 j19 j20 j21 j22 j23 j24 j25 j26 j27 j28 j29 j30 j31 j32 j33 j34 j35 j36 j37 j38 j39 j40 j41 j42 j43 j44 j45 j49 j50 j51 j52 j53 j54 j55 j56 j57 j58 j59 j60 j61 j62 j63 j64 j65 j66 j67 j68 j69 j70 j71 j72 j73 j74 j75 j76 j77 j78 j79 j80 j81 j82 j83 j84 j85 j86 j87 j88 j89 j90 j91 j92 j93 j94 j95 j96 j97 j98 j99 j100 j101 j102 j103 j104 j105 j106 j107 j108 j109 j110 j111 j112 j113 j114 j115 j116 j117 j118 j119 j120 j121 j122 j123 j124 j125 j126 j127 j128 j129 j130 j131
    have ek : k = E.length := by omega
    have h0 : decide (k < E.length) = false := decide_eq_false (by omega)
    rw [ek, List.drop_length, spE, List.append_nil] at hs
    rw [ek, List.drop_length, eE] at he
    have hbn : b = w.length := by split at he <;> omega
    have ef : wnt (pf w) V l1 = fE (pf w) V w.length E := by unfold wnt fE; rw [if_pos hE0, hs]
    rw [ef, hbn]
    refine W_loop (W_run 80 ?_)
    simp (maxSteps := 2000000) only [SA, Nat.reduceDiv, Nat.reduceSub, Nat.reduceAdd, Int.reduceLT, Int.reduceLE, Int.reduceToNat, Nat.reduceMul, Nat.reduceEqDiff, reduceCtorEq, Nat.reduceBEq, Nat.reduceLeDiff, Nat.reduceLT, xf10_L1, ai, ab, lt_cast, h0]
    rw [ek]
    exact W_stop (hK _ _ _ _ _ _ _ _ _ _ _ _ _ _ _ _ _ _ _ _ _ _ _ _ _ _ _ _ _ _ _ _ _ _ _ _ _ _ _ _ _ _ _ _ _ _ _ _ _ _ _ _ _ _ _ _ _ _ _ _ _ _ _ _ _ _ _ _ _ _ _ _ _ _ _ _ _ _ _ _ _ _ _ _ _ _ _ _ _ _ _ _ _ _ _ _ _ _ _ _ _ _ _ _ _ _ _ _ _ _ _ _ _ _ _ _ _ _ _)
  | succ m ih =>
    intro k hk b l1 hs he j4 j5 j10 j13 j14 j15 j16 j17 j18 j19 j20 j21 j22 j23 j24 j25 j26 j27 j28 j29 j30 j31 j32 j33 j34 j35 j36 j37 j38 j39 j40 j41 j42 j43 j44 j45 j49 j50 j51 j52 j53 j54 j55 j56 j57 j58 j59 j60 j61 j62 j63 j64 j65 j66 j67 j68 j69 j70 j71 j72 j73 j74 j75 j76 j77 j78 j79 j80 j81 j82 j83 j84 j85 j86 j87 j88 j89 j90 j91 j92 j93 j94 j95 j96 j97 j98 j99 j100 j101 j102 j103 j104 j105 j106 j107 j108 j109 j110 j111 j112 j113 j114 j115 j116 j117 j118 j119 j120 j121 j122 j123 j124 j125 j126 j127 j128 j129 j130 j131
    have hk1 : k < E.length := by omega
    have h0 : decide (k < E.length) = true := decide_eq_true hk1
    have hgt := get_nl hk1
    have hs2 := split_at' hk1 hs
    rw [drop_at (d := 0) hk1, eE] at he
    have klt : (k : Int) < E.length := by omega
    have knn : (0 : Int) ≤ k := by omega
    generalize E.getD k 0 = e at *
    have c1 : ¬ (e < 1 ∨ w.length < e) := fun h => by rw [if_pos h] at he; omega
    rw [if_neg c1] at he
    have c2 : ¬ e ≤ b := fun h => by rw [if_pos h] at he; omega
    rw [if_neg c2] at he
    have next := ih (k + 1) (by omega) e (l1 ++ [(b, e)]) hs2 he
    have hlf := lleft_run hg false (i := b) (j := e) (by omega) (by omega)
    have wi : IntKind.i64.wrap ((k : Int) + 1) = ((k + 1 : Nat) : Int) := by rw [wrap_id (by omega) (by omega)]; simp
    have hw : wnt (pf w) V (l1 ++ [(b, e)]) = if fit (pf w) V b e = true then wnt (pf w) V l1 else 15 := by
      unfold wnt
      rw [List.all_append]
      have e1 : ([(b, e)] : List (Nat × Nat)).all (fun p => fit (pf w) V p.1 p.2) = fit (pf w) V b e := by
        show (fit (pf w) V b e && true) = _
        rw [Bool.and_true]
      rw [e1]
      cases fit (pf w) V b e with
      | true => rw [Bool.and_true, if_pos rfl]
      | false => rw [Bool.and_false, if_neg (by simp), if_neg (by simp)]
    rw [hw] at next
    refine W_loop (W_run 120 ?_)
    simp (maxSteps := 2000000) only [SA, Nat.reduceDiv, Nat.reduceSub, Nat.reduceAdd, Int.reduceLT, Int.reduceLE, Int.reduceToNat, Nat.reduceMul, Nat.reduceEqDiff, reduceCtorEq, Nat.reduceBEq, Nat.reduceLeDiff, Nat.reduceLT, xf10_L1, ai, ab, al, tx, lt_cast, h0, hgt, hEn, klt, knn, h7, List.length_map, Int.toNat_natCast]
    refine W_call (args := [tx false V w, ai b, ai e]) rfl (noRefs_3 (noRef_tx _ _ _) rfl rfl) hlf rfl (W_run 120 ?_)
    cases hf : fit (pf w) V b e with
    | true =>
      have d : decide (lf (pf w) V b e < 0) = false := decide_eq_false (by have := fit_iff.1 hf; omega)
      rw [hf, if_pos rfl] at next
      simp (maxSteps := 2000000) only [SA, Nat.reduceDiv, Nat.reduceSub, Nat.reduceAdd, Int.reduceLT, Int.reduceLE, Int.reduceToNat, Nat.reduceMul, Nat.reduceEqDiff, reduceCtorEq, Nat.reduceBEq, Nat.reduceLeDiff, Nat.reduceLT, ai, ab, al, tx, d, wi]
      exact next _ _ _ _ _ _ _ _ _ _ _ _ _ _ _ _ _ _ _ _ _ _ _ _ _ _ _ _ _ _ _ _ _ _ _ _ _ _ _ _ _ _ _ _ _ _ _ _ _ _ _ _ _ _ _ _ _ _ _ _ _ _ _ _ _ _ _ _ _ _ _ _ _ _ _ _ _ _ _ _ _ _ _ _ _ _ _ _ _ _ _ _ _ _ _ _ _ _ _ _ _ _ _ _ _ _ _ _ _ _ _ _ _ _ _ _ _ _ _
    | false =>
      have d : decide (lf (pf w) V b e < 0) = true := decide_eq_true (by have : ¬ 0 ≤ lf (pf w) V b e := fun h => by rw [fit_iff.2 h] at hf; cases hf
                                                                         omega)
      rw [hf, if_neg (by simp)] at next
      simp (maxSteps := 2000000) only [SA, Nat.reduceDiv, Nat.reduceSub, Nat.reduceAdd, Int.reduceLT, Int.reduceLE, Int.reduceToNat, Nat.reduceMul, Nat.reduceEqDiff, reduceCtorEq, Nat.reduceBEq, Nat.reduceLeDiff, Nat.reduceLT, ai, ab, al, tx, d, wi]
      exact next _ _ _ _ _ _ _ _ _ _ _ _ _ _ _ _ _ _ _ _ _ _ _ _ _ _ _ _ _ _ _ _ _ _ _ _ _ _ _ _ _ _ _ _ _ _ _ _ _ _ _ _ _ _ _ _ _ _ _ _ _ _ _ _ _ _ _ _ _ _ _ _ _ _ _ _ _ _ _ _ _ _ _ _ _ _ _ _ _ _ _ _ _ _ _ _ _ _ _ _ _ _ _ _ _ _ _ _ _ _ _ _ _ _ _ _ _ _ _
theorem eE_app {n : Nat} : ∀ (E t : List Nat) (b : Nat), eE n b E = 0 → eE n b (E ++ t) = eE n n t
  | [], t, b, h => by
    rw [eE] at h
    by_cases hb : b = n
    · subst hb; rfl
    · rw [if_neg hb] at h; omega
  | e :: E, t, b, h => by
    rw [eE] at h
    rw [List.cons_append, eE]
    by_cases c1 : e < 1 ∨ n < e
    · rw [if_pos c1] at h; omega
    · rw [if_neg c1] at h ⊢
      by_cases c2 : e ≤ b
      · rw [if_pos c2] at h; omega
      · rw [if_neg c2] at h ⊢
        exact eE_app E t e h
theorem eE_take {n : Nat} : ∀ (E : List Nat) (b : Nat), b < n → eE n b E = 0 → eE n b (E.take (E.length - 1)) = 5
  | [], b, hb, h => by rw [eE] at h; rw [if_neg (by omega)] at h; omega
  | [e], b, hb, h => by simp only [List.length_singleton, Nat.sub_self, List.take_zero]; rw [eE, if_neg (by omega)]
  | e :: e2 :: E, b, hb, h => by
    have h0 := h
    rw [eE] at h
    by_cases c1 : e < 1 ∨ n < e
    · rw [if_pos c1] at h; omega
    · rw [if_neg c1] at h
      by_cases c2 : e ≤ b
      · rw [if_pos c2] at h; omega
      · rw [if_neg c2] at h
        have hen : e < n := by
          rw [eE] at h
          by_cases d1 : e2 < 1 ∨ n < e2
          · rw [if_pos d1] at h; omega
          · rw [if_neg d1] at h
            by_cases d2 : e2 ≤ e
            · rw [if_pos d2] at h; omega
            · omega
        have ih := eE_take (e2 :: E) e hen h
        simp only [List.length_cons, Nat.add_sub_cancel] at ih ⊢
        rw [List.take_succ_cons, eE, if_neg c1, if_neg c2]
        exact ih
theorem fE_of {q : Nat → Int} {V : Int} {n : Nat} {E : List Nat} {c : Int} (hc : c ≠ 0) (h : eE n 0 E = c) : fE q V n E = c := by unfold fE; rw [h, if_neg hc]
theorem nl_take (E : List Nat) (k : Nat) : (nl E).take k = nl (E.take k) := by unfold nl; rw [List.map_take]
theorem leftR_ex (q : Nat → Int) (V : Int) (n : Nat) (E : List Nat) : ∃ Y, leftR q V n E = .tup [Y, ai (fE q V n E)] ∧ noRef Y = true := by
  unfold leftR
  by_cases h : fE q V n E = 0
  · rw [if_pos h, h]; exact ⟨_, rfl, noRef_al _ _⟩
  · rw [if_neg h]; exact ⟨_, rfl, rfl⟩
theorem costR_ex (q : Nat → Int) (V : Int) (n : Nat) (E : List Nat) : ∃ y : Int, costR q V n E = .tup [ai y, ai (fE q V n E)] := by
  unfold costR
  by_cases h : fE q V n E = 0
  · rw [if_pos h, h]; exact ⟨_, rfl⟩
  · rw [if_neg h]; exact ⟨_, rfl⟩
end Go.Proofs.Ytdmffkknghianaa

