/-
  TableWaerden: the law.
-/
import Derived.Test.YtkbeaheladmeiaaPJ
import Derived.Test.YtkbeaheladmeiaaPK
set_option linter.unusedSimpArgs false
set_option linter.unusedVariables false
namespace Go.Proofs.Ytkbeaheladmeiaa
open Go Go.Proofs.Eng
set_option maxRecDepth 100000
set_option maxHeartbeats 4000000
def rg (k : Nat) : Nat → Int
  | 0 => 1
  | i + 1 => rg k i * ((k : Int) * ((i : Int) + 1))
def flatT (n k : Nat) : List (List Int) := (List.range n).map fun _ => List.replicate n (k : Int)
def lf (w : Int) (n i : Nat) : Int := w * ((n ^ i : Nat) : Int)
theorem lf_succ (w : Int) (n i : Nat) : lf w n (i + 1) = lf w n i * n := by unfold lf; rw [Nat.pow_succ, Int.natCast_mul, Int.mul_assoc]
theorem rg_b : ∀ k, k ≤ 8 → ∀ i, i ≤ 4 → 0 ≤ rg k i ∧ rg k i ≤ 100000 := by decide +kernel
theorem rg_v : ∀ k, k ≤ 8 → rg k 1 = (k : Int) ∧ rg k 2 = 2 * ((k : Int) * k) ∧ rg k 3 = 6 * ((k : Int) * k * k) ∧ rg k 4 = 24 * ((k : Int) * k * k * k) := by decide +kernel
theorem flat_v : ∀ n, n ≤ 4 → 1 ≤ n → ∀ k, k ≤ 8 → wgtT n (flatT n k) = rg k n := by decide +kernel
theorem pow_b : ∀ n, n ≤ 4 → ∀ i, i ≤ 4 → n ^ i ≤ 256 := by decide +kernel
theorem lf_b {w : Int} {n i : Nat} (hn : n ≤ 4) (hi : i ≤ 4) (hw : 0 ≤ w ∧ w ≤ 1000000) : 0 ≤ lf w n i ∧ lf w n i ≤ 256000000 := by
  have hp := pow_b n hn i hi
  unfold lf
  refine ⟨Int.mul_nonneg hw.1 (by omega), ?_⟩
  have := Int.mul_le_mul hw.2 (show ((n ^ i : Nat) : Int) ≤ 256 by omega) (by omega) (by omega : (0 : Int) ≤ 1000000)
  omega
theorem gT_flat {n k : Nat} (h1 : 1 ≤ n) (h4 : n ≤ 4) (hk : k ≤ 8) : gT n (flatT n k) where
  len := by unfold flatT; simp
  n1 := h1
  n4 := h4
  row := fun R hR => by obtain ⟨r, _, rfl⟩ := List.mem_map.1 hR; simp
  cel := fun R hR x hx => by
    obtain ⟨r, _, rfl⟩ := List.mem_map.1 hR
    have := List.eq_of_mem_replicate hx
    omega
theorem waer {n : Nat} {T : List (List Int)} {k : Nat} (hk : k ≤ 8) (hg : gT n T) (he : EvT n T k) : rg k n ≤ lf (wgtT n T) n n := by
  have h1 := hg.n1
  have h4 := hg.n4
  obtain ⟨v1, v2, v3, v4⟩ := rg_v k hk
  rcases (by omega : n = 1 ∨ n = 2 ∨ n = 3 ∨ n = 4) with rfl | rfl | rfl | rfl
  · have := waer_1 hg he
    have e : lf (wgtT 1 T) 1 1 = wgtT 1 T * 1 := rfl
    rw [v1, e]; omega
  · have := waer_2 hg he
    have e : lf (wgtT 2 T) 2 2 = wgtT 2 T * 4 := rfl
    rw [v2, e]; omega
  · have := waer_3 hk hg he
    have e : lf (wgtT 3 T) 3 3 = wgtT 3 T * 27 := rfl
    rw [v3, e]; omega
  · have := waer_4 hk hg he
    have e : lf (wgtT 4 T) 4 4 = wgtT 4 T * 256 := rfl
    rw [v4, e]; omega
theorem sumP {n : Nat} (T : List (List Int)) (k : Int) {X : List (List Int)} (hg : gT n X) (Ps : List (List Int)) (hPs : ∀ p, p ∈ Ps → okP n p) (hl : Ps.length ≤ 24) (xs : List AV) (ii : Nat) (K : List Fr) (Q : Out → Cfg → Prop)
    (hK : ∀ j0 j1 j2 j6 j9 j10 j11 j12 j13 j14 j15 j16 j17 j18 j19 j20 j21 j22 j23 j24 j25 j26 j27 j28 j29 j30 j31 j32 j36 j37 j38 j39 j43 j44 j45 j46 j47 j48 j49 j50 j51 j52 j53 j54 j55 j56 j57 j58 j59 j60 j61 j62 j63 j64 j65 j66 j67 j68 j69 j70 j71 j72 j73 j74 j75 j76 j77 j78 j79 j80 j81 j82 j83 j84 j85 j86 j87 j88 j89 j90 j91 j92 j93 j94 j95 j96 j97 j98 j99 j100 j101 j102 j103 j104 j105 j106 j107 j108 j109 j110 j111 j112 j113 j114 j115 j116 j117 j118 j119 j120 j121 j122 j123 j124 j125 j126 j127 : AV, W Try.prog (RelU Try.prog xf) 0 K ⟨(j0 :: j1 :: j2 :: (aT T) :: (ai k) :: (ai n) :: j6 :: (aT X) :: (ai (sumW X Ps)) :: j9 :: j10 :: j11 :: j12 :: j13 :: j14 :: j15 :: j16 :: j17 :: j18 :: j19 :: j20 :: j21 :: j22 :: j23 :: j24 :: j25 :: j26 :: j27 :: j28 :: j29 :: j30 :: j31 :: j32 :: (.sl 1 true xs) :: (ai 2) :: (ai ii) :: j36 :: j37 :: j38 :: j39 :: (aT Ps) :: (ai Ps.length) :: (ai Ps.length) :: j43 :: j44 :: j45 :: j46 :: j47 :: j48 :: j49 :: j50 :: j51 :: j52 :: j53 :: j54 :: j55 :: j56 :: j57 :: j58 :: j59 :: j60 :: j61 :: j62 :: j63 :: j64 :: j65 :: j66 :: j67 :: j68 :: j69 :: j70 :: j71 :: j72 :: j73 :: j74 :: j75 :: j76 :: j77 :: j78 :: j79 :: j80 :: j81 :: j82 :: j83 :: j84 :: j85 :: j86 :: j87 :: j88 :: j89 :: j90 :: j91 :: j92 :: j93 :: j94 :: j95 :: j96 :: j97 :: j98 :: j99 :: j100 :: j101 :: j102 :: j103 :: j104 :: j105 :: j106 :: j107 :: j108 :: j109 :: j110 :: j111 :: j112 :: j113 :: j114 :: j115 :: j116 :: j117 :: j118 :: j119 :: j120 :: j121 :: j122 :: j123 :: j124 :: j125 :: j126 :: j127 :: []), []⟩ Q) :
    ∀ (m i : Nat), i + m = Ps.length → ∀ j0 j1 j2 j6 j9 j10 j11 j12 j13 j14 j15 j16 j17 j18 j19 j20 j21 j22 j23 j24 j25 j26 j27 j28 j29 j30 j31 j32 j36 j37 j38 j39 j43 j44 j45 j46 j47 j48 j49 j50 j51 j52 j53 j54 j55 j56 j57 j58 j59 j60 j61 j62 j63 j64 j65 j66 j67 j68 j69 j70 j71 j72 j73 j74 j75 j76 j77 j78 j79 j80 j81 j82 j83 j84 j85 j86 j87 j88 j89 j90 j91 j92 j93 j94 j95 j96 j97 j98 j99 j100 j101 j102 j103 j104 j105 j106 j107 j108 j109 j110 j111 j112 j113 j114 j115 j116 j117 j118 j119 j120 j121 j122 j123 j124 j125 j126 j127 : AV, W Try.prog (RelU Try.prog xf) 0 (.code (.loop xf5_L0) :: .blk 2 :: .stop :: K) ⟨(j0 :: j1 :: j2 :: (aT T) :: (ai k) :: (ai n) :: j6 :: (aT X) :: (ai (sumW X (Ps.take i))) :: j9 :: j10 :: j11 :: j12 :: j13 :: j14 :: j15 :: j16 :: j17 :: j18 :: j19 :: j20 :: j21 :: j22 :: j23 :: j24 :: j25 :: j26 :: j27 :: j28 :: j29 :: j30 :: j31 :: j32 :: (.sl 1 true xs) :: (ai 2) :: (ai ii) :: j36 :: j37 :: j38 :: j39 :: (aT Ps) :: (ai Ps.length) :: (ai i) :: j43 :: j44 :: j45 :: j46 :: j47 :: j48 :: j49 :: j50 :: j51 :: j52 :: j53 :: j54 :: j55 :: j56 :: j57 :: j58 :: j59 :: j60 :: j61 :: j62 :: j63 :: j64 :: j65 :: j66 :: j67 :: j68 :: j69 :: j70 :: j71 :: j72 :: j73 :: j74 :: j75 :: j76 :: j77 :: j78 :: j79 :: j80 :: j81 :: j82 :: j83 :: j84 :: j85 :: j86 :: j87 :: j88 :: j89 :: j90 :: j91 :: j92 :: j93 :: j94 :: j95 :: j96 :: j97 :: j98 :: j99 :: j100 :: j101 :: j102 :: j103 :: j104 :: j105 :: j106 :: j107 :: j108 :: j109 :: j110 :: j111 :: j112 :: j113 :: j114 :: j115 :: j116 :: j117 :: j118 :: j119 :: j120 :: j121 :: j122 :: j123 :: j124 :: j125 :: j126 :: j127 :: []), []⟩ Q := by
  intro m
  induction m with
  | zero =>
    intro i hi j0 j1 j2 j6 j9 j10 j11 j12 j13 j14 j15 j16 j17 j18 j19 j20 j21 j22 j23 j24 j25 j26 j27 j28 j29 j30 j31 j32 j36 j37 j38 j39 j43 j44 j45 j46 j47 j48 j49 j50 j51 j52 j53 j54 j55 j56 j57 j58 j59 j60 j61 j62 j63 j64 j65 j66 j67 j68 j69 j70 j71 j72 j73 j74 j75 j76 j77 j78 j79 j80 j81 j82 j83 j84 j85 j86 j87 j88 j89 j90 j91 j92 j93 j94 j95 j96 j97 j98 j99 j100 j101 j102 j103 j104 j105 j106 j107 j108 j109 j110 j111 j112 j113 j114 j115 j116 j117 j118 j119 j120 j121 j122 j123 j124 j125 j126 j127
    have : i = Ps.length := by omega
    subst this
    rw [List.take_length]
    have h0 : decide (Ps.length < Ps.length) = false := by simp
    generalize sumW X Ps = z at *
    refine W_loop (W_run 80 ?_)
    simp (maxSteps := 2000000) only [SA, Nat.reduceDiv, Nat.reduceSub, Nat.reduceAdd, Int.reduceLT, Int.reduceLE, Int.reduceToNat, Nat.reduceMul, Nat.reduceEqDiff, reduceCtorEq, Nat.reduceBEq, Nat.reduceLeDiff, Nat.reduceLT, xf5_L0, ai, aT, lt_cast, h0]
    exact W_stop (hK _ _ _ _ _ _ _ _ _ _ _ _ _ _ _ _ _ _ _ _ _ _ _ _ _ _ _ _ _ _ _ _ _ _ _ _ _ _ _ _ _ _ _ _ _ _ _ _ _ _ _ _ _ _ _ _ _ _ _ _ _ _ _ _ _ _ _ _ _ _ _ _ _ _ _ _ _ _ _ _ _ _ _ _ _ _ _ _ _ _ _ _ _ _ _ _ _ _ _ _ _ _ _ _ _ _ _ _ _ _ _ _ _ _ _ _ _)
  | succ m ih =>
    intro i hi j0 j1 j2 j6 j9 j10 j11 j12 j13 j14 j15 j16 j17 j18 j19 j20 j21 j22 j23 j24 j25 j26 j27 j28 j29 j30 j31 j32 j36 j37 j38 j39 j43 j44 j45 j46 j47 j48 j49 j50 j51 j52 j53 j54 j55 j56 j57 j58 j59 j60 j61 j62 j63 j64 j65 j66 j67 j68 j69 j70 j71 j72 j73 j74 j75 j76 j77 j78 j79 j80 j81 j82 j83 j84 j85 j86 j87 j88 j89 j90 j91 j92 j93 j94 j95 j96 j97 j98 j99 j100 j101 j102 j103 j104 j105 j106 j107 j108 j109 j110 j111 j112 j113 j114 j115 j116 j117 j118 j119 j120 j121 j122 j123 j124 j125 j126 j127
    have hlt : i < Ps.length := by omega
    have h0 : decide (i < Ps.length) = true := decide_eq_true hlt
    have wi : IntKind.i64.wrap ((i : Int) + 1) = ((i + 1 : Nat) : Int) := by rw [wrap_id (by omega) (by omega)]; simp
    have hgp := get_T hlt
    have hp := hPs _ (getD_mem (d := []) hlt)
    have hw := wgt_run hg false hp.2.1 (by have := hp.1; omega)
    have hwb := wgt_b hg hp.2.1 (by have := hp.1; omega)
    have hsb := sumW_b hg (P := Ps.take i) fun q hq => hPs q (List.mem_of_mem_take hq)
    have htl : (Ps.take i).length ≤ 24 := by rw [List.length_take]; omega
    have next := ih (i + 1) (by omega)
    have e : sumW X (Ps.take (i + 1)) = sumW X (Ps.take i) + wgt X (Ps.getD i []) := by
      unfold sumW
      rw [take_snoc (d := []) hlt, List.map_append, List.map_cons, List.map_nil, sumI_snoc]
    rw [e] at next
    generalize Ps.getD i [] = p at *
    generalize wgt X p = w at *
    generalize sumW X (Ps.take i) = z at *
    have wz : IntKind.i64.wrap (z + w) = z + w := wrap_id (by omega) (by omega)
    refine W_loop (W_run 120 ?_)
    simp (maxSteps := 2000000) only [SA, Nat.reduceDiv, Nat.reduceSub, Nat.reduceAdd, Int.reduceLT, Int.reduceLE, Int.reduceToNat, Nat.reduceMul, Nat.reduceEqDiff, reduceCtorEq, Nat.reduceBEq, Nat.reduceLeDiff, Nat.reduceLT, xf5_L0, ai, al, aT, lt_cast, h0, hgp]
    refine W_call (args := [aT X, al false p]) rfl (noRefs_2 (noRef_T _) (noRef_al _ _)) hw rfl (W_run 80 ?_)
    simp (maxSteps := 2000000) only [SA, Nat.reduceDiv, Nat.reduceSub, Nat.reduceAdd, Int.reduceLT, Int.reduceLE, Int.reduceToNat, Nat.reduceMul, Nat.reduceEqDiff, reduceCtorEq, Nat.reduceBEq, Nat.reduceLeDiff, Nat.reduceLT, ai, wz, wi]
    exact next _ _ _ _ _ _ _ _ _ _ _ _ _ _ _ _ _ _ _ _ _ _ _ _ _ _ _ _ _ _ _ _ _ _ _ _ _ _ _ _ _ _ _ _ _ _ _ _ _ _ _ _ _ _ _ _ _ _ _ _ _ _ _ _ _ _ _ _ _ _ _ _ _ _ _ _ _ _ _ _ _ _ _ _ _ _ _ _ _ _ _ _ _ _ _ _ _ _ _ _ _ _ _ _ _ _ _ _ _ _ _ _ _ _ _ _ _
theorem itW {n : Nat} (T : List (List Int)) (k : Int) {X : List (List Int)} (hg : gT n X) (xs : List AV) (hxl : xs.length = 2) (ii : Nat) (hii : ii < 2) (hel : xs[ii]? = some (aT X)) (K : List Fr) (Q : Out → Cfg → Prop)
    (hK : ∀ j0 j1 j2 j6 j7 j8 j9 j10 j11 j12 j13 j14 j15 j16 j17 j18 j19 j20 j21 j22 j23 j24 j25 j26 j27 j28 j29 j30 j31 j32 j36 j37 j38 j39 j40 j41 j42 j43 j44 j45 j46 j47 j48 j49 j50 j51 j52 j53 j54 j55 j56 j57 j58 j59 j60 j61 j62 j63 j64 j65 j66 j67 j68 j69 j70 j71 j72 j73 j74 j75 j76 j77 j78 j79 j80 j81 j82 j83 j84 j85 j86 j87 j88 j89 j90 j91 j92 j93 j94 j95 j96 j97 j98 j99 j100 j101 j102 j103 j104 j105 j106 j107 j108 j109 j110 j111 j112 j113 j114 j115 j116 j117 j118 j119 j120 j121 j122 j123 j124 j125 j126 j127 : AV, W Try.prog (RelU Try.prog xf) 0 (.code (.loop xf5_L1) :: .blk 0 :: .stop :: K) ⟨(j0 :: j1 :: j2 :: (aT T) :: (ai k) :: (ai n) :: j6 :: j7 :: j8 :: j9 :: j10 :: j11 :: j12 :: j13 :: j14 :: j15 :: j16 :: j17 :: j18 :: j19 :: j20 :: j21 :: j22 :: j23 :: j24 :: j25 :: j26 :: j27 :: j28 :: j29 :: j30 :: j31 :: j32 :: (.sl 1 true xs) :: (ai 2) :: (ai ((ii + 1 : Nat) : Int)) :: j36 :: j37 :: j38 :: j39 :: j40 :: j41 :: j42 :: j43 :: j44 :: j45 :: j46 :: j47 :: j48 :: j49 :: j50 :: j51 :: j52 :: j53 :: j54 :: j55 :: j56 :: j57 :: j58 :: j59 :: j60 :: j61 :: j62 :: j63 :: j64 :: j65 :: j66 :: j67 :: j68 :: j69 :: j70 :: j71 :: j72 :: j73 :: j74 :: j75 :: j76 :: j77 :: j78 :: j79 :: j80 :: j81 :: j82 :: j83 :: j84 :: j85 :: j86 :: j87 :: j88 :: j89 :: j90 :: j91 :: j92 :: j93 :: j94 :: j95 :: j96 :: j97 :: j98 :: j99 :: j100 :: j101 :: j102 :: j103 :: j104 :: j105 :: j106 :: j107 :: j108 :: j109 :: j110 :: j111 :: j112 :: j113 :: j114 :: j115 :: j116 :: j117 :: j118 :: j119 :: j120 :: j121 :: j122 :: j123 :: j124 :: j125 :: j126 :: j127 :: []), []⟩ Q) :
    ∀ j0 j1 j2 j6 j7 j8 j9 j10 j11 j12 j13 j14 j15 j16 j17 j18 j19 j20 j21 j22 j23 j24 j25 j26 j27 j28 j29 j30 j31 j32 j36 j37 j38 j39 j40 j41 j42 j43 j44 j45 j46 j47 j48 j49 j50 j51 j52 j53 j54 j55 j56 j57 j58 j59 j60 j61 j62 j63 j64 j65 j66 j67 j68 j69 j70 j71 j72 j73 j74 j75 j76 j77 j78 j79 j80 j81 j82 j83 j84 j85 j86 j87 j88 j89 j90 j91 j92 j93 j94 j95 j96 j97 j98 j99 j100 j101 j102 j103 j104 j105 j106 j107 j108 j109 j110 j111 j112 j113 j114 j115 j116 j117 j118 j119 j120 j121 j122 j123 j124 j125 j126 j127 : AV, W Try.prog (RelU Try.prog xf) 0 (.code (.loop xf5_L1) :: .blk 0 :: .stop :: K) ⟨(j0 :: j1 :: j2 :: (aT T) :: (ai k) :: (ai n) :: j6 :: j7 :: j8 :: j9 :: j10 :: j11 :: j12 :: j13 :: j14 :: j15 :: j16 :: j17 :: j18 :: j19 :: j20 :: j21 :: j22 :: j23 :: j24 :: j25 :: j26 :: j27 :: j28 :: j29 :: j30 :: j31 :: j32 :: (.sl 1 true xs) :: (ai 2) :: (ai ii) :: j36 :: j37 :: j38 :: j39 :: j40 :: j41 :: j42 :: j43 :: j44 :: j45 :: j46 :: j47 :: j48 :: j49 :: j50 :: j51 :: j52 :: j53 :: j54 :: j55 :: j56 :: j57 :: j58 :: j59 :: j60 :: j61 :: j62 :: j63 :: j64 :: j65 :: j66 :: j67 :: j68 :: j69 :: j70 :: j71 :: j72 :: j73 :: j74 :: j75 :: j76 :: j77 :: j78 :: j79 :: j80 :: j81 :: j82 :: j83 :: j84 :: j85 :: j86 :: j87 :: j88 :: j89 :: j90 :: j91 :: j92 :: j93 :: j94 :: j95 :: j96 :: j97 :: j98 :: j99 :: j100 :: j101 :: j102 :: j103 :: j104 :: j105 :: j106 :: j107 :: j108 :: j109 :: j110 :: j111 :: j112 :: j113 :: j114 :: j115 :: j116 :: j117 :: j118 :: j119 :: j120 :: j121 :: j122 :: j123 :: j124 :: j125 :: j126 :: j127 :: []), []⟩ Q := by
  intro j0 j1 j2 j6 j7 j8 j9 j10 j11 j12 j13 j14 j15 j16 j17 j18 j19 j20 j21 j22 j23 j24 j25 j26 j27 j28 j29 j30 j31 j32 j36 j37 j38 j39 j40 j41 j42 j43 j44 j45 j46 j47 j48 j49 j50 j51 j52 j53 j54 j55 j56 j57 j58 j59 j60 j61 j62 j63 j64 j65 j66 j67 j68 j69 j70 j71 j72 j73 j74 j75 j76 j77 j78 j79 j80 j81 j82 j83 j84 j85 j86 j87 j88 j89 j90 j91 j92 j93 j94 j95 j96 j97 j98 j99 j100 j101 j102 j103 j104 j105 j106 j107 j108 j109 j110 j111 j112 j113 j114 j115 j116 j117 j118 j119 j120 j121 j122 j123 j124 j125 j126 j127
  have hpl := pl_run hg.n1 hg.n4
  have hplT := noRef_T (plL n)
  have hwr := weight_run hg
  rw [wgtT_pl hg] at hwr
  have hok : ∀ p, p ∈ plL n → okP n p := plL_len hg.n1 hg.n4
  have h24 : (plL n).length ≤ 24 := by
    have h : ∀ n, n ≤ 4 → (plL n).length ≤ 24 := by decide +kernel
    exact h n hg.n4
  generalize plL n = Ps at *
  have hin := sumP T k hg Ps hok h24 xs ii
  have n00 : ((0 : Int) != 0) = false := rfl
  have wii : IntKind.i64.wrap ((ii : Int) + 1) = ((ii + 1 : Nat) : Int) := by rw [wrap_id (by omega) (by omega)]; simp
  have dii : decide ((ii : Int) < 2) = true := decide_eq_true (by omega)
  have iii : (ii : Int) < 2 := by omega
  have z0 : (0 : Int) = sumW X (Ps.take 0) := rfl
  refine W_loop (W_run 120 ?_)
  simp (maxSteps := 2000000) only [SA, Nat.reduceDiv, Nat.reduceSub, Nat.reduceAdd, Int.reduceLT, Int.reduceLE, Int.reduceToNat, Nat.reduceMul, Nat.reduceEqDiff, reduceCtorEq, Nat.reduceBEq, Nat.reduceLeDiff, Nat.reduceLT, xf5_L1, ai, dii, iii, hxl, hel]
  refine W_call (args := [ai n]) rfl rfl hpl hplT (W_run 120 ?_)
  simp (maxSteps := 2000000) only [SA, Nat.reduceDiv, Nat.reduceSub, Nat.reduceAdd, Int.reduceLT, Int.reduceLE, Int.reduceToNat, Nat.reduceMul, Nat.reduceEqDiff, reduceCtorEq, Nat.reduceBEq, Nat.reduceLeDiff, Nat.reduceLT, ai, aT, List.length_map]
  refine W_alone (hin _ _ (fun j0 j1 j2 j6 j9 j10 j11 j12 j13 j14 j15 j16 j17 j18 j19 j20 j21 j22 j23 j24 j25 j26 j27 j28 j29 j30 j31 j32 j36 j37 j38 j39 j43 j44 j45 j46 j47 j48 j49 j50 j51 j52 j53 j54 j55 j56 j57 j58 j59 j60 j61 j62 j63 j64 j65 j66 j67 j68 j69 j70 j71 j72 j73 j74 j75 j76 j77 j78 j79 j80 j81 j82 j83 j84 j85 j86 j87 j88 j89 j90 j91 j92 j93 j94 j95 j96 j97 j98 j99 j100 j101 j102 j103 j104 j105 j106 j107 j108 j109 j110 j111 j112 j113 j114 j115 j116 j117 j118 j119 j120 j121 j122 j123 j124 j125 j126 j127 => W_run 120 ?_) Ps.length 0 (by omega) _ _ _ _ _ _ _ _ _ _ _ _ _ _ _ _ _ _ _ _ _ _ _ _ _ _ _ _ _ _ _ _ _ _ _ _ _ _ _ _ _ _ _ _ _ _ _ _ _ _ _ _ _ _ _ _ _ _ _ _ _ _ _ _ _ _ _ _ _ _ _ _ _ _ _ _ _ _ _ _ _ _ _ _ _ _ _ _ _ _ _ _ _ _ _ _ _ _ _ _ _ _ _ _ _ _ _ _ _ _ _ _ _ _ _ _ _)
  generalize sumW X Ps = z at *
  have zz : (z != z) = false := by simp
  simp (maxSteps := 2000000) only [SA, Nat.reduceDiv, Nat.reduceSub, Nat.reduceAdd, Int.reduceLT, Int.reduceLE, Int.reduceToNat, Nat.reduceMul, Nat.reduceEqDiff, reduceCtorEq, Nat.reduceBEq, Nat.reduceLeDiff, Nat.reduceLT, xf5_R0, ai, aT]
  refine W_call (args := [aT X]) rfl (noRefs_T _) hwr rfl (W_run 120 ?_)
  simp (maxSteps := 2000000) only [SA, Nat.reduceDiv, Nat.reduceSub, Nat.reduceAdd, Int.reduceLT, Int.reduceLE, Int.reduceToNat, Nat.reduceMul, Nat.reduceEqDiff, reduceCtorEq, Nat.reduceBEq, Nat.reduceLeDiff, Nat.reduceLT, xf5_R1, ai, n00, zz, wii]
  exact hK _ _ _ _ _ _ _ _ _ _ _ _ _ _ _ _ _ _ _ _ _ _ _ _ _ _ _ _ _ _ _ _ _ _ _ _ _ _ _ _ _ _ _ _ _ _ _ _ _ _ _ _ _ _ _ _ _ _ _ _ _ _ _ _ _ _ _ _ _ _ _ _ _ _ _ _ _ _ _ _ _ _ _ _ _ _ _ _ _ _ _ _ _ _ _ _ _ _ _ _ _ _ _ _ _ _ _ _ _ _ _ _ _ _ _ _ _ _ _ _ _ _
theorem mulW {n k : Nat} (hn : n ≤ 4) (hk : k ≤ 8) {w : Int} (hw : 0 ≤ w ∧ w ≤ 1000000) (T : List (List Int)) (K : List Fr) (Q : Out → Cfg → Prop)
    (hK : ∀ j0 j1 j2 j6 j7 j8 j9 j10 j11 j12 j13 j17 j18 j19 j20 j21 j22 j23 j24 j25 j26 j27 j28 j29 j30 j31 j32 j33 j34 j35 j36 j37 j38 j39 j40 j41 j42 j43 j44 j45 j46 j47 j48 j49 j50 j51 j52 j53 j54 j55 j56 j57 j58 j59 j60 j61 j62 j63 j64 j65 j66 j67 j68 j69 j70 j73 j74 j75 j76 j77 j78 j79 j80 j81 j82 j83 j84 j85 j86 j87 j88 j89 j90 j91 j92 j93 j94 j95 j96 j97 j98 j99 j100 j101 j102 j103 j104 j105 j106 j107 j108 j109 j110 j111 j112 j113 j114 j115 j116 j117 j118 j119 j120 j121 j122 j123 j124 j125 j126 j127 : AV, W Try.prog (RelU Try.prog xf) 0 K ⟨(j0 :: j1 :: j2 :: (aT T) :: (ai k) :: (ai n) :: j6 :: j7 :: j8 :: j9 :: j10 :: j11 :: j12 :: j13 :: (ai 0) :: (ai (lf w n n)) :: (ai (rg k n)) :: j17 :: j18 :: j19 :: j20 :: j21 :: j22 :: j23 :: j24 :: j25 :: j26 :: j27 :: j28 :: j29 :: j30 :: j31 :: j32 :: j33 :: j34 :: j35 :: j36 :: j37 :: j38 :: j39 :: j40 :: j41 :: j42 :: j43 :: j44 :: j45 :: j46 :: j47 :: j48 :: j49 :: j50 :: j51 :: j52 :: j53 :: j54 :: j55 :: j56 :: j57 :: j58 :: j59 :: j60 :: j61 :: j62 :: j63 :: j64 :: j65 :: j66 :: j67 :: j68 :: j69 :: j70 :: (ai n) :: (ai n) :: j73 :: j74 :: j75 :: j76 :: j77 :: j78 :: j79 :: j80 :: j81 :: j82 :: j83 :: j84 :: j85 :: j86 :: j87 :: j88 :: j89 :: j90 :: j91 :: j92 :: j93 :: j94 :: j95 :: j96 :: j97 :: j98 :: j99 :: j100 :: j101 :: j102 :: j103 :: j104 :: j105 :: j106 :: j107 :: j108 :: j109 :: j110 :: j111 :: j112 :: j113 :: j114 :: j115 :: j116 :: j117 :: j118 :: j119 :: j120 :: j121 :: j122 :: j123 :: j124 :: j125 :: j126 :: j127 :: []), []⟩ Q) :
    ∀ (m i : Nat), i + m = n → ∀ j0 j1 j2 j6 j7 j8 j9 j10 j11 j12 j13 j17 j18 j19 j20 j21 j22 j23 j24 j25 j26 j27 j28 j29 j30 j31 j32 j33 j34 j35 j36 j37 j38 j39 j40 j41 j42 j43 j44 j45 j46 j47 j48 j49 j50 j51 j52 j53 j54 j55 j56 j57 j58 j59 j60 j61 j62 j63 j64 j65 j66 j67 j68 j69 j70 j73 j74 j75 j76 j77 j78 j79 j80 j81 j82 j83 j84 j85 j86 j87 j88 j89 j90 j91 j92 j93 j94 j95 j96 j97 j98 j99 j100 j101 j102 j103 j104 j105 j106 j107 j108 j109 j110 j111 j112 j113 j114 j115 j116 j117 j118 j119 j120 j121 j122 j123 j124 j125 j126 j127 : AV, W Try.prog (RelU Try.prog xf) 0 (.code (.loop xf5_L2) :: .blk 4 :: .stop :: K) ⟨(j0 :: j1 :: j2 :: (aT T) :: (ai k) :: (ai n) :: j6 :: j7 :: j8 :: j9 :: j10 :: j11 :: j12 :: j13 :: (ai 0) :: (ai (lf w n i)) :: (ai (rg k i)) :: j17 :: j18 :: j19 :: j20 :: j21 :: j22 :: j23 :: j24 :: j25 :: j26 :: j27 :: j28 :: j29 :: j30 :: j31 :: j32 :: j33 :: j34 :: j35 :: j36 :: j37 :: j38 :: j39 :: j40 :: j41 :: j42 :: j43 :: j44 :: j45 :: j46 :: j47 :: j48 :: j49 :: j50 :: j51 :: j52 :: j53 :: j54 :: j55 :: j56 :: j57 :: j58 :: j59 :: j60 :: j61 :: j62 :: j63 :: j64 :: j65 :: j66 :: j67 :: j68 :: j69 :: j70 :: (ai n) :: (ai i) :: j73 :: j74 :: j75 :: j76 :: j77 :: j78 :: j79 :: j80 :: j81 :: j82 :: j83 :: j84 :: j85 :: j86 :: j87 :: j88 :: j89 :: j90 :: j91 :: j92 :: j93 :: j94 :: j95 :: j96 :: j97 :: j98 :: j99 :: j100 :: j101 :: j102 :: j103 :: j104 :: j105 :: j106 :: j107 :: j108 :: j109 :: j110 :: j111 :: j112 :: j113 :: j114 :: j115 :: j116 :: j117 :: j118 :: j119 :: j120 :: j121 :: j122 :: j123 :: j124 :: j125 :: j126 :: j127 :: []), []⟩ Q := by
  intro m
  induction m with
  | zero =>
    intro i hi j0 j1 j2 j6 j7 j8 j9 j10 j11 j12 j13 j17 j18 j19 j20 j21 j22 j23 j24 j25 j26 j27 j28 j29 j30 j31 j32 j33 j34 j35 j36 j37 j38 j39 j40 j41 j42 j43 j44 j45 j46 j47 j48 j49 j50 j51 j52 j53 j54 j55 j56 j57 j58 j59 j60 j61 j62 j63 j64 j65 j66 j67 j68 j69 j70 j73 j74 j75 j76 j77 j78 j79 j80 j81 j82 j83 j84 j85 j86 j87 j88 j89 j90 j91 j92 j93 j94 j95 j96 j97 j98 j99 j100 j101 j102 j103 j104 j105 j106 j107 j108 j109 j110 j111 j112 j113 j114 j115 j116 j117 j118 j119 j120 j121 j122 j123 j124 j125 j126 j127
    have : i = n := by omega
    subst this
    have h0 : decide (i < i) = false := by simp
    generalize lf w i i = z1 at *
    generalize rg k i = z2 at *
    refine W_loop (W_run 80 ?_)
    simp (maxSteps := 2000000) only [SA, Nat.reduceDiv, Nat.reduceSub, Nat.reduceAdd, Int.reduceLT, Int.reduceLE, Int.reduceToNat, Nat.reduceMul, Nat.reduceEqDiff, reduceCtorEq, Nat.reduceBEq, Nat.reduceLeDiff, Nat.reduceLT, xf5_L2, ai, lt_cast, h0]
    exact W_stop (hK _ _ _ _ _ _ _ _ _ _ _ _ _ _ _ _ _ _ _ _ _ _ _ _ _ _ _ _ _ _ _ _ _ _ _ _ _ _ _ _ _ _ _ _ _ _ _ _ _ _ _ _ _ _ _ _ _ _ _ _ _ _ _ _ _ _ _ _ _ _ _ _ _ _ _ _ _ _ _ _ _ _ _ _ _ _ _ _ _ _ _ _ _ _ _ _ _ _ _ _ _ _ _ _ _ _ _ _ _ _ _ _ _ _ _ _ _ _ _ _)
  | succ m ih =>
    intro i hi j0 j1 j2 j6 j7 j8 j9 j10 j11 j12 j13 j17 j18 j19 j20 j21 j22 j23 j24 j25 j26 j27 j28 j29 j30 j31 j32 j33 j34 j35 j36 j37 j38 j39 j40 j41 j42 j43 j44 j45 j46 j47 j48 j49 j50 j51 j52 j53 j54 j55 j56 j57 j58 j59 j60 j61 j62 j63 j64 j65 j66 j67 j68 j69 j70 j73 j74 j75 j76 j77 j78 j79 j80 j81 j82 j83 j84 j85 j86 j87 j88 j89 j90 j91 j92 j93 j94 j95 j96 j97 j98 j99 j100 j101 j102 j103 j104 j105 j106 j107 j108 j109 j110 j111 j112 j113 j114 j115 j116 j117 j118 j119 j120 j121 j122 j123 j124 j125 j126 j127
    have hlt : i < n := by omega
    have h0 : decide (i < n) = true := decide_eq_true hlt
    have wi : IntKind.i64.wrap ((i : Int) + 1) = ((i + 1 : Nat) : Int) := by rw [wrap_id (by omega) (by omega)]; simp
    have next := ih (i + 1) (by omega)
    have b1 := lf_b (n := n) (i := i + 1) hn (by omega) hw
    have b2 := rg_b k hk (i + 1) (by omega)
    have e2 : rg k (i + 1) = rg k i * ((k : Int) * ((i + 1 : Nat) : Int)) := rfl
    rw [lf_succ] at next b1
    rw [e2] at next b2
    have w1 : IntKind.i64.wrap (lf w n i * n) = lf w n i * n := wrap_id (by omega) (by omega)
    have w2 : IntKind.i64.wrap (rg k i * ((k : Int) * ((i + 1 : Nat) : Int))) = rg k i * ((k : Int) * ((i + 1 : Nat) : Int)) := wrap_id (by omega) (by omega)
    have b3 : 0 ≤ (k : Int) * ((i + 1 : Nat) : Int) ∧ (k : Int) * ((i + 1 : Nat) : Int) ≤ 40 := by
      have := Nat.mul_le_mul hk (show i + 1 ≤ 5 by omega)
      rw [← Int.natCast_mul]; omega
    have w3 : IntKind.i64.wrap ((k : Int) * ((i + 1 : Nat) : Int)) = (k : Int) * ((i + 1 : Nat) : Int) := wrap_id (by omega) (by omega)
    generalize lf w n i = z1 at *
    generalize rg k i = z2 at *
    refine W_loop (W_run 120 ?_)
    simp (maxSteps := 2000000) only [SA, Nat.reduceDiv, Nat.reduceSub, Nat.reduceAdd, Int.reduceLT, Int.reduceLE, Int.reduceToNat, Nat.reduceMul, Nat.reduceEqDiff, reduceCtorEq, Nat.reduceBEq, Nat.reduceLeDiff, Nat.reduceLT, xf5_L2, ai, lt_cast, h0, wi, w1, w3, w2]
    exact next _ _ _ _ _ _ _ _ _ _ _ _ _ _ _ _ _ _ _ _ _ _ _ _ _ _ _ _ _ _ _ _ _ _ _ _ _ _ _ _ _ _ _ _ _ _ _ _ _ _ _ _ _ _ _ _ _ _ _ _ _ _ _ _ _ _ _ _ _ _ _ _ _ _ _ _ _ _ _ _ _ _ _ _ _ _ _ _ _ _ _ _ _ _ _ _ _ _ _ _ _ _ _ _ _ _ _ _ _ _ _ _ _ _ _ _ _ _ _ _
def flR (L : List Int) (k : Nat) (c : Nat) : List Int := (List.range c).foldl (fun L c' => L.set c' (k : Int)) L
theorem flR_succ (L : List Int) (k c : Nat) : flR L k (c + 1) = (flR L k c).set c k := by unfold flR; rw [List.range_succ, List.foldl_append]; rfl
theorem flR_len (L : List Int) (k c : Nat) : (flR L k c).length = L.length := by
  induction c with
  | zero => rfl
  | succ c ih => rw [flR_succ, List.length_set, ih]
def flM (M : List (List Int)) (n k r : Nat) : List (List Int) := (List.range r).foldl (fun M r' => M.set r' (flR (M.getD r' []) k n)) M
theorem flM_succ (M : List (List Int)) (n k r : Nat) : flM M n k (r + 1) = (flM M n k r).set r (flR ((flM M n k r).getD r []) k n) := by unfold flM; rw [List.range_succ, List.foldl_append]; rfl
theorem flM_len (M : List (List Int)) (n k r : Nat) : (flM M n k r).length = M.length := by
  induction r with
  | zero => rfl
  | succ r ih => rw [flM_succ, List.length_set, ih]
theorem flM_end : ∀ n, n ≤ 4 → ∀ k, k ≤ 8 → flM (zerT n) n k n = flatT n k := by decide +kernel
theorem flM_row : ∀ n, n ≤ 4 → ∀ k, k ≤ 8 → ∀ r, r ≤ n → (flM (zerT n) n k r).all fun R => decide (R.length = n) := by decide +kernel
theorem flI {n g k : Nat} (hn4 : n ≤ 4) {H : List (List Int) → Heap} {ky : Nat → Nat} (hH : HF n g H ky) (z1 z2 : Int) (r : Nat) (hr : r < n) (M : List (List Int)) (hM : M.length = n) (hMr : (M.getD r []).length = n) (K : List Fr) (Q : Out → Cfg → Prop)
    (hK : ∀ j0 j1 j2 j3 j6 j7 j8 j9 j10 j11 j12 j13 j17 j20 j21 j22 j23 j24 j25 j26 j27 j28 j29 j30 j31 j32 j33 j34 j35 j36 j37 j38 j39 j40 j41 j42 j43 j44 j45 j46 j47 j48 j49 j50 j51 j52 j53 j54 j55 j56 j57 j58 j59 j60 j61 j62 j63 j64 j65 j66 j67 j68 j69 j70 j71 j72 j73 j74 j75 j76 j77 j78 j79 j80 j81 j82 j83 j84 j85 j86 j89 j90 j93 j94 j95 j96 j97 j98 j99 j100 j101 j102 j103 j104 j105 j106 j107 j108 j109 j110 j111 j112 j113 j114 j115 j116 j117 j118 j119 j120 j121 j122 j123 j124 j125 j126 j127 : AV, W Try.prog (RelU Try.prog xf) 0 K ⟨(j0 :: j1 :: j2 :: j3 :: (ai k) :: (ai n) :: j6 :: j7 :: j8 :: j9 :: j10 :: j11 :: j12 :: j13 :: (ai 0) :: (ai z1) :: (ai z2) :: j17 :: (.os 1011 g n 1 0 n) :: (ai r) :: j20 :: j21 :: j22 :: j23 :: j24 :: j25 :: j26 :: j27 :: j28 :: j29 :: j30 :: j31 :: j32 :: j33 :: j34 :: j35 :: j36 :: j37 :: j38 :: j39 :: j40 :: j41 :: j42 :: j43 :: j44 :: j45 :: j46 :: j47 :: j48 :: j49 :: j50 :: j51 :: j52 :: j53 :: j54 :: j55 :: j56 :: j57 :: j58 :: j59 :: j60 :: j61 :: j62 :: j63 :: j64 :: j65 :: j66 :: j67 :: j68 :: j69 :: j70 :: j71 :: j72 :: j73 :: j74 :: j75 :: j76 :: j77 :: j78 :: j79 :: j80 :: j81 :: j82 :: j83 :: j84 :: j85 :: j86 :: (ai n) :: (ai r) :: j89 :: j90 :: (ai n) :: (ai n) :: j93 :: j94 :: j95 :: j96 :: j97 :: j98 :: j99 :: j100 :: j101 :: j102 :: j103 :: j104 :: j105 :: j106 :: j107 :: j108 :: j109 :: j110 :: j111 :: j112 :: j113 :: j114 :: j115 :: j116 :: j117 :: j118 :: j119 :: j120 :: j121 :: j122 :: j123 :: j124 :: j125 :: j126 :: j127 :: []), H (M.set r (flR (M.getD r []) k n))⟩ Q) :
    ∀ (m c : Nat), c + m = n → ∀ j0 j1 j2 j3 j6 j7 j8 j9 j10 j11 j12 j13 j17 j20 j21 j22 j23 j24 j25 j26 j27 j28 j29 j30 j31 j32 j33 j34 j35 j36 j37 j38 j39 j40 j41 j42 j43 j44 j45 j46 j47 j48 j49 j50 j51 j52 j53 j54 j55 j56 j57 j58 j59 j60 j61 j62 j63 j64 j65 j66 j67 j68 j69 j70 j71 j72 j73 j74 j75 j76 j77 j78 j79 j80 j81 j82 j83 j84 j85 j86 j89 j90 j93 j94 j95 j96 j97 j98 j99 j100 j101 j102 j103 j104 j105 j106 j107 j108 j109 j110 j111 j112 j113 j114 j115 j116 j117 j118 j119 j120 j121 j122 j123 j124 j125 j126 j127 : AV, W Try.prog (RelU Try.prog xf) 0 (.code (.loop xf5_L3) :: .blk 8 :: .stop :: K) ⟨(j0 :: j1 :: j2 :: j3 :: (ai k) :: (ai n) :: j6 :: j7 :: j8 :: j9 :: j10 :: j11 :: j12 :: j13 :: (ai 0) :: (ai z1) :: (ai z2) :: j17 :: (.os 1011 g n 1 0 n) :: (ai r) :: j20 :: j21 :: j22 :: j23 :: j24 :: j25 :: j26 :: j27 :: j28 :: j29 :: j30 :: j31 :: j32 :: j33 :: j34 :: j35 :: j36 :: j37 :: j38 :: j39 :: j40 :: j41 :: j42 :: j43 :: j44 :: j45 :: j46 :: j47 :: j48 :: j49 :: j50 :: j51 :: j52 :: j53 :: j54 :: j55 :: j56 :: j57 :: j58 :: j59 :: j60 :: j61 :: j62 :: j63 :: j64 :: j65 :: j66 :: j67 :: j68 :: j69 :: j70 :: j71 :: j72 :: j73 :: j74 :: j75 :: j76 :: j77 :: j78 :: j79 :: j80 :: j81 :: j82 :: j83 :: j84 :: j85 :: j86 :: (ai n) :: (ai r) :: j89 :: j90 :: (ai n) :: (ai c) :: j93 :: j94 :: j95 :: j96 :: j97 :: j98 :: j99 :: j100 :: j101 :: j102 :: j103 :: j104 :: j105 :: j106 :: j107 :: j108 :: j109 :: j110 :: j111 :: j112 :: j113 :: j114 :: j115 :: j116 :: j117 :: j118 :: j119 :: j120 :: j121 :: j122 :: j123 :: j124 :: j125 :: j126 :: j127 :: []), H (M.set r (flR (M.getD r []) k c))⟩ Q := by
  intro m
  induction m with
  | zero =>
    intro c hc j0 j1 j2 j3 j6 j7 j8 j9 j10 j11 j12 j13 j17 j20 j21 j22 j23 j24 j25 j26 j27 j28 j29 j30 j31 j32 j33 j34 j35 j36 j37 j38 j39 j40 j41 j42 j43 j44 j45 j46 j47 j48 j49 j50 j51 j52 j53 j54 j55 j56 j57 j58 j59 j60 j61 j62 j63 j64 j65 j66 j67 j68 j69 j70 j71 j72 j73 j74 j75 j76 j77 j78 j79 j80 j81 j82 j83 j84 j85 j86 j89 j90 j93 j94 j95 j96 j97 j98 j99 j100 j101 j102 j103 j104 j105 j106 j107 j108 j109 j110 j111 j112 j113 j114 j115 j116 j117 j118 j119 j120 j121 j122 j123 j124 j125 j126 j127
    have : c = n := by omega
    subst this
    have h0 : decide (c < c) = false := by simp
    generalize H (M.set r (flR (M.getD r []) k c)) = hh at *
    refine W_loop (W_run 80 ?_)
    simp (maxSteps := 2000000) only [SA, Nat.reduceDiv, Nat.reduceSub, Nat.reduceAdd, Int.reduceLT, Int.reduceLE, Int.reduceToNat, Nat.reduceMul, Nat.reduceEqDiff, reduceCtorEq, Nat.reduceBEq, Nat.reduceLeDiff, Nat.reduceLT, xf5_L3, ai, lt_cast, h0]
    exact W_stop (hK _ _ _ _ _ _ _ _ _ _ _ _ _ _ _ _ _ _ _ _ _ _ _ _ _ _ _ _ _ _ _ _ _ _ _ _ _ _ _ _ _ _ _ _ _ _ _ _ _ _ _ _ _ _ _ _ _ _ _ _ _ _ _ _ _ _ _ _ _ _ _ _ _ _ _ _ _ _ _ _ _ _ _ _ _ _ _ _ _ _ _ _ _ _ _ _ _ _ _ _ _ _ _ _ _ _ _ _ _ _ _ _ _ _ _ _ _)
  | succ m ih =>
    intro c hc j0 j1 j2 j3 j6 j7 j8 j9 j10 j11 j12 j13 j17 j20 j21 j22 j23 j24 j25 j26 j27 j28 j29 j30 j31 j32 j33 j34 j35 j36 j37 j38 j39 j40 j41 j42 j43 j44 j45 j46 j47 j48 j49 j50 j51 j52 j53 j54 j55 j56 j57 j58 j59 j60 j61 j62 j63 j64 j65 j66 j67 j68 j69 j70 j71 j72 j73 j74 j75 j76 j77 j78 j79 j80 j81 j82 j83 j84 j85 j86 j89 j90 j93 j94 j95 j96 j97 j98 j99 j100 j101 j102 j103 j104 j105 j106 j107 j108 j109 j110 j111 j112 j113 j114 j115 j116 j117 j118 j119 j120 j121 j122 j123 j124 j125 j126 j127
    have hcn : c < n := by omega
    have h0 : decide (c < n) = true := decide_eq_true hcn
    have wc : IntKind.i64.wrap ((c : Int) + 1) = ((c + 1 : Nat) : Int) := by rw [wrap_id (by omega) (by omega)]; simp
    have next := ih (c + 1) (by omega)
    rw [flR_succ] at next
    have hfl : (flR (M.getD r []) k c).length = n := by rw [flR_len]; exact hMr
    generalize flR (M.getD r []) k c = L at *
    have e1 := hH.lo (M.set r L)
    have e2 := hH.l (M.set r L) r hr
    rw [set_get (by rw [hM]; exact hr), if_pos rfl] at e2
    have e3 := hH.p (M.set r L) r (L.set c (k : Int)) (by rw [List.length_set]; exact hM) hr
    rw [List.set_set] at e3
    have hrf : ((List.range n).map fun j => AV.os (ky j) g n 1 0 n)[r]? = some (.os (ky r) g n 1 0 n) := by rw [List.getElem?_map, List.getElem?_range hr]; rfl
    have hrl : ((List.range n).map fun j => AV.os (ky j) g n 1 0 n).length = n := by simp
    have hgk := get_al (l := L) (i := c) (by omega)
    generalize L.getD c 0 = old at *
    have hset : (L.map ai).set c (.v (.int .i64 (k : Int))) = (L.set c (k : Int)).map ai := by rw [List.map_set]; rfl
    generalize H (M.set r L) = h1 at *
    generalize H (M.set r (L.set c (k : Int))) = h2 at *
    generalize (List.range n).map (fun j => AV.os (ky j) g n 1 0 n) = rf at *
    generalize ky r = kd at *
    have hri : (r : Int) < (n : Int) := by omega
    have hci : (c : Int) < (n : Int) := by omega
    have hbq : kd.beq kd = true := Nat.beq_refl _
    refine W_loop (W_run 160 ?_)
    simp (maxSteps := 2000000) only [SA, Nat.reduceDiv, Nat.reduceSub, Nat.reduceAdd, Int.reduceLT, Int.reduceLE, Int.reduceToNat, Nat.reduceMul, Nat.reduceEqDiff, reduceCtorEq, Nat.reduceBEq, Nat.reduceLeDiff, Nat.reduceLT, xf5_L3, ai, lt_cast, h0, wc, e1, e2, hrf, hrl, hgk, hfl, hset, e3, hbq, hri, hci, List.length_map]
    exact next _ _ _ _ _ _ _ _ _ _ _ _ _ _ _ _ _ _ _ _ _ _ _ _ _ _ _ _ _ _ _ _ _ _ _ _ _ _ _ _ _ _ _ _ _ _ _ _ _ _ _ _ _ _ _ _ _ _ _ _ _ _ _ _ _ _ _ _ _ _ _ _ _ _ _ _ _ _ _ _ _ _ _ _ _ _ _ _ _ _ _ _ _ _ _ _ _ _ _ _ _ _ _ _ _ _ _ _ _ _ _ _ _ _ _ _ _
theorem flO {n g k : Nat} (hn4 : n ≤ 4) (hk : k ≤ 8) {H : List (List Int) → Heap} {ky : Nat → Nat} (hH : HF n g H ky) (z1 z2 : Int) (K : List Fr) (Q : Out → Cfg → Prop)
    (hK : ∀ j0 j1 j2 j3 j6 j7 j8 j9 j10 j11 j12 j13 j17 j19 j20 j21 j22 j23 j24 j25 j26 j27 j28 j29 j30 j31 j32 j33 j34 j35 j36 j37 j38 j39 j40 j41 j42 j43 j44 j45 j46 j47 j48 j49 j50 j51 j52 j53 j54 j55 j56 j57 j58 j59 j60 j61 j62 j63 j64 j65 j66 j67 j68 j69 j70 j71 j72 j73 j74 j75 j76 j77 j78 j79 j80 j81 j82 j83 j84 j85 j86 j89 j90 j91 j92 j93 j94 j95 j96 j97 j98 j99 j100 j101 j102 j103 j104 j105 j106 j107 j108 j109 j110 j111 j112 j113 j114 j115 j116 j117 j118 j119 j120 j121 j122 j123 j124 j125 j126 j127 : AV, W Try.prog (RelU Try.prog xf) 0 K ⟨(j0 :: j1 :: j2 :: j3 :: (ai k) :: (ai n) :: j6 :: j7 :: j8 :: j9 :: j10 :: j11 :: j12 :: j13 :: (ai 0) :: (ai z1) :: (ai z2) :: j17 :: (.os 1011 g n 1 0 n) :: j19 :: j20 :: j21 :: j22 :: j23 :: j24 :: j25 :: j26 :: j27 :: j28 :: j29 :: j30 :: j31 :: j32 :: j33 :: j34 :: j35 :: j36 :: j37 :: j38 :: j39 :: j40 :: j41 :: j42 :: j43 :: j44 :: j45 :: j46 :: j47 :: j48 :: j49 :: j50 :: j51 :: j52 :: j53 :: j54 :: j55 :: j56 :: j57 :: j58 :: j59 :: j60 :: j61 :: j62 :: j63 :: j64 :: j65 :: j66 :: j67 :: j68 :: j69 :: j70 :: j71 :: j72 :: j73 :: j74 :: j75 :: j76 :: j77 :: j78 :: j79 :: j80 :: j81 :: j82 :: j83 :: j84 :: j85 :: j86 :: (ai n) :: (ai n) :: j89 :: j90 :: j91 :: j92 :: j93 :: j94 :: j95 :: j96 :: j97 :: j98 :: j99 :: j100 :: j101 :: j102 :: j103 :: j104 :: j105 :: j106 :: j107 :: j108 :: j109 :: j110 :: j111 :: j112 :: j113 :: j114 :: j115 :: j116 :: j117 :: j118 :: j119 :: j120 :: j121 :: j122 :: j123 :: j124 :: j125 :: j126 :: j127 :: []), H (flatT n k)⟩ Q) :
    ∀ (m r : Nat), r + m = n → ∀ j0 j1 j2 j3 j6 j7 j8 j9 j10 j11 j12 j13 j17 j19 j20 j21 j22 j23 j24 j25 j26 j27 j28 j29 j30 j31 j32 j33 j34 j35 j36 j37 j38 j39 j40 j41 j42 j43 j44 j45 j46 j47 j48 j49 j50 j51 j52 j53 j54 j55 j56 j57 j58 j59 j60 j61 j62 j63 j64 j65 j66 j67 j68 j69 j70 j71 j72 j73 j74 j75 j76 j77 j78 j79 j80 j81 j82 j83 j84 j85 j86 j89 j90 j91 j92 j93 j94 j95 j96 j97 j98 j99 j100 j101 j102 j103 j104 j105 j106 j107 j108 j109 j110 j111 j112 j113 j114 j115 j116 j117 j118 j119 j120 j121 j122 j123 j124 j125 j126 j127 : AV, W Try.prog (RelU Try.prog xf) 0 (.code (.loop xf5_L4) :: .blk 6 :: .stop :: K) ⟨(j0 :: j1 :: j2 :: j3 :: (ai k) :: (ai n) :: j6 :: j7 :: j8 :: j9 :: j10 :: j11 :: j12 :: j13 :: (ai 0) :: (ai z1) :: (ai z2) :: j17 :: (.os 1011 g n 1 0 n) :: j19 :: j20 :: j21 :: j22 :: j23 :: j24 :: j25 :: j26 :: j27 :: j28 :: j29 :: j30 :: j31 :: j32 :: j33 :: j34 :: j35 :: j36 :: j37 :: j38 :: j39 :: j40 :: j41 :: j42 :: j43 :: j44 :: j45 :: j46 :: j47 :: j48 :: j49 :: j50 :: j51 :: j52 :: j53 :: j54 :: j55 :: j56 :: j57 :: j58 :: j59 :: j60 :: j61 :: j62 :: j63 :: j64 :: j65 :: j66 :: j67 :: j68 :: j69 :: j70 :: j71 :: j72 :: j73 :: j74 :: j75 :: j76 :: j77 :: j78 :: j79 :: j80 :: j81 :: j82 :: j83 :: j84 :: j85 :: j86 :: (ai n) :: (ai r) :: j89 :: j90 :: j91 :: j92 :: j93 :: j94 :: j95 :: j96 :: j97 :: j98 :: j99 :: j100 :: j101 :: j102 :: j103 :: j104 :: j105 :: j106 :: j107 :: j108 :: j109 :: j110 :: j111 :: j112 :: j113 :: j114 :: j115 :: j116 :: j117 :: j118 :: j119 :: j120 :: j121 :: j122 :: j123 :: j124 :: j125 :: j126 :: j127 :: []), H (flM (zerT n) n k r)⟩ Q := by
  intro m
  induction m with
  | zero =>
    intro r hr j0 j1 j2 j3 j6 j7 j8 j9 j10 j11 j12 j13 j17 j19 j20 j21 j22 j23 j24 j25 j26 j27 j28 j29 j30 j31 j32 j33 j34 j35 j36 j37 j38 j39 j40 j41 j42 j43 j44 j45 j46 j47 j48 j49 j50 j51 j52 j53 j54 j55 j56 j57 j58 j59 j60 j61 j62 j63 j64 j65 j66 j67 j68 j69 j70 j71 j72 j73 j74 j75 j76 j77 j78 j79 j80 j81 j82 j83 j84 j85 j86 j89 j90 j91 j92 j93 j94 j95 j96 j97 j98 j99 j100 j101 j102 j103 j104 j105 j106 j107 j108 j109 j110 j111 j112 j113 j114 j115 j116 j117 j118 j119 j120 j121 j122 j123 j124 j125 j126 j127
    have : r = n := by omega
    subst this
    have h0 : decide (r < r) = false := by simp
    rw [flM_end r hn4 k hk]
    generalize H (flatT r k) = hh at *
    refine W_loop (W_run 80 ?_)
    simp (maxSteps := 2000000) only [SA, Nat.reduceDiv, Nat.reduceSub, Nat.reduceAdd, Int.reduceLT, Int.reduceLE, Int.reduceToNat, Nat.reduceMul, Nat.reduceEqDiff, reduceCtorEq, Nat.reduceBEq, Nat.reduceLeDiff, Nat.reduceLT, xf5_L4, ai, lt_cast, h0]
    exact W_stop (hK _ _ _ _ _ _ _ _ _ _ _ _ _ _ _ _ _ _ _ _ _ _ _ _ _ _ _ _ _ _ _ _ _ _ _ _ _ _ _ _ _ _ _ _ _ _ _ _ _ _ _ _ _ _ _ _ _ _ _ _ _ _ _ _ _ _ _ _ _ _ _ _ _ _ _ _ _ _ _ _ _ _ _ _ _ _ _ _ _ _ _ _ _ _ _ _ _ _ _ _ _ _ _ _ _ _ _ _ _ _ _ _ _ _ _ _ _ _ _ _)
  | succ m ih =>
    intro r hr j0 j1 j2 j3 j6 j7 j8 j9 j10 j11 j12 j13 j17 j19 j20 j21 j22 j23 j24 j25 j26 j27 j28 j29 j30 j31 j32 j33 j34 j35 j36 j37 j38 j39 j40 j41 j42 j43 j44 j45 j46 j47 j48 j49 j50 j51 j52 j53 j54 j55 j56 j57 j58 j59 j60 j61 j62 j63 j64 j65 j66 j67 j68 j69 j70 j71 j72 j73 j74 j75 j76 j77 j78 j79 j80 j81 j82 j83 j84 j85 j86 j89 j90 j91 j92 j93 j94 j95 j96 j97 j98 j99 j100 j101 j102 j103 j104 j105 j106 j107 j108 j109 j110 j111 j112 j113 j114 j115 j116 j117 j118 j119 j120 j121 j122 j123 j124 j125 j126 j127
    have hrn : r < n := by omega
    have h0 : decide (r < n) = true := decide_eq_true hrn
    have wr : IntKind.i64.wrap ((r : Int) + 1) = ((r + 1 : Nat) : Int) := by rw [wrap_id (by omega) (by omega)]; simp
    have next := ih (r + 1) (by omega)
    rw [flM_succ] at next
    have hml : (flM (zerT n) n k r).length = n := by rw [flM_len]; exact (zer_sh n).len
    have hmr : ((flM (zerT n) n k r).getD r []).length = n := of_decide_eq_true ((List.all_eq_true.1 (flM_row n hn4 k hk r (by omega))) _ (getD_mem (by rw [hml]; exact hrn)))
    have hin := fun (K : List Fr) (Q : Out → Cfg → Prop) hK => flI (g := g) (k := k) hn4 hH z1 z2 r hrn (flM (zerT n) n k r) hml hmr K Q hK n 0 (by omega)
    have e0 : (flM (zerT n) n k r).set r (flR ((flM (zerT n) n k r).getD r []) k 0) = flM (zerT n) n k r := set_sameL
    rw [e0] at hin
    generalize flM (zerT n) n k r = M1 at *
    generalize H (M1.set r (flR (M1.getD r []) k n)) = h2 at *
    generalize H M1 = h1 at *
    refine W_loop (W_run 160 ?_)
    simp (maxSteps := 2000000) only [SA, Nat.reduceDiv, Nat.reduceSub, Nat.reduceAdd, Int.reduceLT, Int.reduceLE, Int.reduceToNat, Nat.reduceMul, Nat.reduceEqDiff, reduceCtorEq, Nat.reduceBEq, Nat.reduceLeDiff, Nat.reduceLT, xf5_L4, ai, lt_cast, h0]
    refine W_alone (hin _ _ (fun j0 j1 j2 j3 j6 j7 j8 j9 j10 j11 j12 j13 j17 j20 j21 j22 j23 j24 j25 j26 j27 j28 j29 j30 j31 j32 j33 j34 j35 j36 j37 j38 j39 j40 j41 j42 j43 j44 j45 j46 j47 j48 j49 j50 j51 j52 j53 j54 j55 j56 j57 j58 j59 j60 j61 j62 j63 j64 j65 j66 j67 j68 j69 j70 j71 j72 j73 j74 j75 j76 j77 j78 j79 j80 j81 j82 j83 j84 j85 j86 j89 j90 j93 j94 j95 j96 j97 j98 j99 j100 j101 j102 j103 j104 j105 j106 j107 j108 j109 j110 j111 j112 j113 j114 j115 j116 j117 j118 j119 j120 j121 j122 j123 j124 j125 j126 j127 => W_run 80 ?_) _ _ _ _ _ _ _ _ _ _ _ _ _ _ _ _ _ _ _ _ _ _ _ _ _ _ _ _ _ _ _ _ _ _ _ _ _ _ _ _ _ _ _ _ _ _ _ _ _ _ _ _ _ _ _ _ _ _ _ _ _ _ _ _ _ _ _ _ _ _ _ _ _ _ _ _ _ _ _ _ _ _ _ _ _ _ _ _ _ _ _ _ _ _ _ _ _ _ _ _ _ _ _ _ _ _ _ _ _ _ _ _ _ _ _ _ _)
    simp (maxSteps := 2000000) only [SA, Nat.reduceDiv, Nat.reduceSub, Nat.reduceAdd, Int.reduceLT, Int.reduceLE, Int.reduceToNat, Nat.reduceMul, Nat.reduceEqDiff, reduceCtorEq, Nat.reduceBEq, Nat.reduceLeDiff, Nat.reduceLT, xf5_R2, ai, wr]
    exact next _ _ _ _ _ _ _ _ _ _ _ _ _ _ _ _ _ _ _ _ _ _ _ _ _ _ _ _ _ _ _ _ _ _ _ _ _ _ _ _ _ _ _ _ _ _ _ _ _ _ _ _ _ _ _ _ _ _ _ _ _ _ _ _ _ _ _ _ _ _ _ _ _ _ _ _ _ _ _ _ _ _ _ _ _ _ _ _ _ _ _ _ _ _ _ _ _ _ _ _ _ _ _ _ _ _ _ _ _ _ _ _ _ _ _ _ _ _ _ _
def QW (o : Out) (c : Cfg) : Prop := (o = .ret ∨ o = .normal) ∧ ∃ rs, xf5.results.mapM (resOf Try.prog c) = some rs ∧ reify c.η 20 (retOf rs) = some (.v (.bool true))
/-- from the weight on -/
theorem endW {n k : Nat} (hk : k ≤ 8) {T : List (List Int)} (hg : gT n T) (he : EvT n T k) {H : List (List Int) → Heap} {ky : Nat → Nat} (hH : HF n 1 H ky) (hemp : RunsR Try.prog xf 1000 19 [ai n] [] (.os 1011 1 n 1 0 n) (H (zerT n))) (hre : ∀ M, M.length = n → (∀ R, R ∈ M → R.length = n) → [.os 1011 1 n 1 0 n].mapM (reify (H M) 20) = some [aT M]) (hW : Runs Try.prog xf 28 [] (.v (.bool true))) :
    ∀ j0 j1 j2 j6 j7 j8 j9 j10 j11 j12 j13 j14 j15 j16 j17 j18 j19 j20 j21 j22 j23 j24 j25 j26 j27 j28 j29 j30 j31 j32 j33 j34 j35 j36 j37 j38 j39 j40 j41 j42 j43 j44 j45 j46 j47 j48 j49 j50 j51 j52 j53 j54 j55 j56 j57 j58 j59 j60 j61 j62 j63 j64 j65 j66 j67 j68 j69 j70 j71 j72 j73 j74 j75 j76 j77 j78 j79 j80 j81 j82 j83 j84 j85 j86 j87 j88 j89 j90 j91 j92 j93 j94 j95 j96 j97 j98 j99 j100 j101 j102 j103 j104 j105 j106 j107 j108 j109 j110 j111 j112 j113 j114 j115 j116 j117 j118 j119 j120 j121 j122 j123 j124 j125 j126 j127 : AV, W Try.prog (RelU Try.prog xf) 0 [.code xf5_R5] ⟨(j0 :: j1 :: j2 :: (aT T) :: (ai k) :: (ai n) :: j6 :: j7 :: j8 :: j9 :: j10 :: j11 :: j12 :: j13 :: j14 :: j15 :: j16 :: j17 :: j18 :: j19 :: j20 :: j21 :: j22 :: j23 :: j24 :: j25 :: j26 :: j27 :: j28 :: j29 :: j30 :: j31 :: j32 :: j33 :: j34 :: j35 :: j36 :: j37 :: j38 :: j39 :: j40 :: j41 :: j42 :: j43 :: j44 :: j45 :: j46 :: j47 :: j48 :: j49 :: j50 :: j51 :: j52 :: j53 :: j54 :: j55 :: j56 :: j57 :: j58 :: j59 :: j60 :: j61 :: j62 :: j63 :: j64 :: j65 :: j66 :: j67 :: j68 :: j69 :: j70 :: j71 :: j72 :: j73 :: j74 :: j75 :: j76 :: j77 :: j78 :: j79 :: j80 :: j81 :: j82 :: j83 :: j84 :: j85 :: j86 :: j87 :: j88 :: j89 :: j90 :: j91 :: j92 :: j93 :: j94 :: j95 :: j96 :: j97 :: j98 :: j99 :: j100 :: j101 :: j102 :: j103 :: j104 :: j105 :: j106 :: j107 :: j108 :: j109 :: j110 :: j111 :: j112 :: j113 :: j114 :: j115 :: j116 :: j117 :: j118 :: j119 :: j120 :: j121 :: j122 :: j123 :: j124 :: j125 :: j126 :: j127 :: []), []⟩ QW := by
  intro j0 j1 j2 j6 j7 j8 j9 j10 j11 j12 j13 j14 j15 j16 j17 j18 j19 j20 j21 j22 j23 j24 j25 j26 j27 j28 j29 j30 j31 j32 j33 j34 j35 j36 j37 j38 j39 j40 j41 j42 j43 j44 j45 j46 j47 j48 j49 j50 j51 j52 j53 j54 j55 j56 j57 j58 j59 j60 j61 j62 j63 j64 j65 j66 j67 j68 j69 j70 j71 j72 j73 j74 j75 j76 j77 j78 j79 j80 j81 j82 j83 j84 j85 j86 j87 j88 j89 j90 j91 j92 j93 j94 j95 j96 j97 j98 j99 j100 j101 j102 j103 j104 j105 j106 j107 j108 j109 j110 j111 j112 j113 j114 j115 j116 j117 j118 j119 j120 j121 j122 j123 j124 j125 j126 j127
  have hn4 := hg.n4
  have hwr := weight_run hg
  have hwb : 0 ≤ wgtT n T ∧ wgtT n T ≤ 1000000 := by
    have h := sumW_b hg (P := plL n) (plL_len hg.n1 hg.n4)
    have h24 : (plL n).length ≤ 24 := by
      have h : ∀ n, n ≤ 4 → (plL n).length ≤ 24 := by decide +kernel
      exact h n hn4
    rw [wgtT_pl hg]
    omega
  have hineq := waer hk hg he
  have hgf := gT_flat (n := n) (k := k) hg.n1 hn4 hk
  have hfr := weight_run hgf
  rw [flat_v n hn4 hg.n1 k hk] at hfr
  have hrf := hre _ hgf.len hgf.row
  have hm := fun (K : List Fr) (Q : Out → Cfg → Prop) hK => mulW (n := n) (k := k) hn4 hk hwb T K Q hK n 0 (by omega)
  have hlf0 : lf (wgtT n T) n 0 = wgtT n T := by unfold lf; rw [Nat.pow_zero]; exact Int.mul_one _
  have hrg0 : rg k 0 = 1 := rfl
  rw [hlf0, hrg0] at hm
  have hf := fun (z1 z2 : Int) (K : List Fr) (Q : Out → Cfg → Prop) hK => flO (n := n) (g := 1) (k := k) hn4 hk hH z1 z2 K Q hK n 0 (by omega)
  have hM0 : flM (zerT n) n k 0 = zerT n := rfl
  rw [hM0] at hf
  have e00 : ((0 : Int) == 0) = true := rfl
  generalize wgtT n T = w at *
  generalize lf w n n = left at *
  generalize rg k n = right at *
  have dle : decide (right ≤ left) = true := decide_eq_true hineq
  have err : (right == right) = true := by simp
  generalize hfl : flatT n k = Fl at *
  generalize H Fl = hfin at *
  refine W_run 160 ?_
  simp (maxSteps := 2000000) only [SA, Nat.reduceDiv, Nat.reduceSub, Nat.reduceAdd, Int.reduceLT, Int.reduceLE, Int.reduceToNat, Nat.reduceMul, Nat.reduceEqDiff, reduceCtorEq, Nat.reduceBEq, Nat.reduceLeDiff, Nat.reduceLT, xf5_R5, ai, aT]
  refine W_call (args := [aT T]) rfl (noRefs_T _) hwr rfl (W_run 120 ?_)
  simp (maxSteps := 2000000) only [SA, Nat.reduceDiv, Nat.reduceSub, Nat.reduceAdd, Int.reduceLT, Int.reduceLE, Int.reduceToNat, Nat.reduceMul, Nat.reduceEqDiff, reduceCtorEq, Nat.reduceBEq, Nat.reduceLeDiff, Nat.reduceLT, ai, aT]
  refine W_alone (hm _ _ (fun j0 j1 j2 j6 j7 j8 j9 j10 j11 j12 j13 j17 j18 j19 j20 j21 j22 j23 j24 j25 j26 j27 j28 j29 j30 j31 j32 j33 j34 j35 j36 j37 j38 j39 j40 j41 j42 j43 j44 j45 j46 j47 j48 j49 j50 j51 j52 j53 j54 j55 j56 j57 j58 j59 j60 j61 j62 j63 j64 j65 j66 j67 j68 j69 j70 j73 j74 j75 j76 j77 j78 j79 j80 j81 j82 j83 j84 j85 j86 j87 j88 j89 j90 j91 j92 j93 j94 j95 j96 j97 j98 j99 j100 j101 j102 j103 j104 j105 j106 j107 j108 j109 j110 j111 j112 j113 j114 j115 j116 j117 j118 j119 j120 j121 j122 j123 j124 j125 j126 j127 => W_run 120 ?_) _ _ _ _ _ _ _ _ _ _ _ _ _ _ _ _ _ _ _ _ _ _ _ _ _ _ _ _ _ _ _ _ _ _ _ _ _ _ _ _ _ _ _ _ _ _ _ _ _ _ _ _ _ _ _ _ _ _ _ _ _ _ _ _ _ _ _ _ _ _ _ _ _ _ _ _ _ _ _ _ _ _ _ _ _ _ _ _ _ _ _ _ _ _ _ _ _ _ _ _ _ _ _ _ _ _ _ _ _ _ _ _ _ _ _ _ _ _ _ _)
  simp (maxSteps := 2000000) only [SA, Nat.reduceDiv, Nat.reduceSub, Nat.reduceAdd, Int.reduceLT, Int.reduceLE, Int.reduceToNat, Nat.reduceMul, Nat.reduceEqDiff, reduceCtorEq, Nat.reduceBEq, Nat.reduceLeDiff, Nat.reduceLT, xf5_R4, ai]
  refine W_callR (kb' := 1000) (args := [ai n]) rfl hemp rfl (W_run 120 ?_)
  simp (maxSteps := 2000000) only [SA, Nat.reduceDiv, Nat.reduceSub, Nat.reduceAdd, Int.reduceLT, Int.reduceLE, Int.reduceToNat, Nat.reduceMul, Nat.reduceEqDiff, reduceCtorEq, Nat.reduceBEq, Nat.reduceLeDiff, Nat.reduceLT, ai]
  refine W_alone (hf _ _ _ _ (fun j0 j1 j2 j3 j6 j7 j8 j9 j10 j11 j12 j13 j17 j19 j20 j21 j22 j23 j24 j25 j26 j27 j28 j29 j30 j31 j32 j33 j34 j35 j36 j37 j38 j39 j40 j41 j42 j43 j44 j45 j46 j47 j48 j49 j50 j51 j52 j53 j54 j55 j56 j57 j58 j59 j60 j61 j62 j63 j64 j65 j66 j67 j68 j69 j70 j71 j72 j73 j74 j75 j76 j77 j78 j79 j80 j81 j82 j83 j84 j85 j86 j89 j90 j91 j92 j93 j94 j95 j96 j97 j98 j99 j100 j101 j102 j103 j104 j105 j106 j107 j108 j109 j110 j111 j112 j113 j114 j115 j116 j117 j118 j119 j120 j121 j122 j123 j124 j125 j126 j127 => W_run 160 ?_) _ _ _ _ _ _ _ _ _ _ _ _ _ _ _ _ _ _ _ _ _ _ _ _ _ _ _ _ _ _ _ _ _ _ _ _ _ _ _ _ _ _ _ _ _ _ _ _ _ _ _ _ _ _ _ _ _ _ _ _ _ _ _ _ _ _ _ _ _ _ _ _ _ _ _ _ _ _ _ _ _ _ _ _ _ _ _ _ _ _ _ _ _ _ _ _ _ _ _ _ _ _ _ _ _ _ _ _ _ _ _ _ _ _ _ _ _ _ _ _)
  simp (maxSteps := 2000000) only [SA, Nat.reduceDiv, Nat.reduceSub, Nat.reduceAdd, Int.reduceLT, Int.reduceLE, Int.reduceToNat, Nat.reduceMul, Nat.reduceEqDiff, reduceCtorEq, Nat.reduceBEq, Nat.reduceLeDiff, Nat.reduceLT, xf5_R3, ai]
  refine W_look (fuel := 20) (args := [.os 1011 1 n 1 0 n]) (args' := [aT Fl]) rfl hrf hfr rfl rfl (W_run 160 ?_)
  simp (maxSteps := 2000000) only [SA, Nat.reduceDiv, Nat.reduceSub, Nat.reduceAdd, Int.reduceLT, Int.reduceLE, Int.reduceToNat, Nat.reduceMul, Nat.reduceEqDiff, reduceCtorEq, Nat.reduceBEq, Nat.reduceLeDiff, Nat.reduceLT, ai, e00, dle, err]
  refine W_call (args := []) rfl rfl hW rfl (W_run 160 ?_)
  simp (maxSteps := 2000000) only [SA, Nat.reduceDiv, Nat.reduceSub, Nat.reduceAdd, Int.reduceLT, Int.reduceLE, Int.reduceToNat, Nat.reduceMul, Nat.reduceEqDiff, reduceCtorEq, Nat.reduceBEq, Nat.reduceLeDiff, Nat.reduceLT, ai]
  exact W_ret1 (WX_nil ⟨.inl rfl, _, rfl, rfl⟩)
theorem allW {n k : Nat} (hk : k ≤ 8) {T X1 : List (List Int)} (hg : gT n T) (he : EvT n T k) (h1 : gT n X1) {H : List (List Int) → Heap} {ky : Nat → Nat} (hH : HF n 1 H ky) (hemp : RunsR Try.prog xf 1000 19 [ai n] [] (.os 1011 1 n 1 0 n) (H (zerT n))) (hre : ∀ M, M.length = n → (∀ R, R ∈ M → R.length = n) → [.os 1011 1 n 1 0 n].mapM (reify (H M) 20) = some [aT M]) (hW : Runs Try.prog xf 28 [] (.v (.bool true)))
    {a b e : Int} {D Hs : List Int} (hD : D.length = 16) (hHl : Hs.length = 8) (hev : Runs Try.prog xf 12 [ldg a b e D Hs, ai (8 : Nat)] (.tup [aT T, ai k])) (hfree : Runs Try.prog xf 29 [ldg a b e D Hs] (aT X1)) :
    Runs Try.prog xf 5 [ldg a b e D Hs] (.v (.bool true)) := by
  have hl27 : (D.map u8 ++ Hs.map u8).length = 24 := by simp [hD, hHl]
  have ht27 : List.take 24 (D.map u8 ++ Hs.map u8) = D.map u8 ++ Hs.map u8 := List.take_of_length_le (by rw [hl27]; omega)
  have hnr := noRef_ldg a b e D Hs
  have hMl := hg.len
  have hend := endW hk hg he hH hemp hre hW
  have d2 : decide ((2 : Int) < 2) = false := rfl
  have nrt : noRef (.tup [aT T, ai k]) = true := by show (noRef (aT T) && (noRef (ai k) && true)) = true; rw [noRef_T]; rfl
  have last : ∀ (xs : List AV), ∀ j0 j1 j2 j6 j7 j8 j9 j10 j11 j12 j13 j14 j15 j16 j17 j18 j19 j20 j21 j22 j23 j24 j25 j26 j27 j28 j29 j30 j31 j32 j36 j37 j38 j39 j40 j41 j42 j43 j44 j45 j46 j47 j48 j49 j50 j51 j52 j53 j54 j55 j56 j57 j58 j59 j60 j61 j62 j63 j64 j65 j66 j67 j68 j69 j70 j71 j72 j73 j74 j75 j76 j77 j78 j79 j80 j81 j82 j83 j84 j85 j86 j87 j88 j89 j90 j91 j92 j93 j94 j95 j96 j97 j98 j99 j100 j101 j102 j103 j104 j105 j106 j107 j108 j109 j110 j111 j112 j113 j114 j115 j116 j117 j118 j119 j120 j121 j122 j123 j124 j125 j126 j127 : AV, W Try.prog (RelU Try.prog xf) 0 (.code (.loop xf5_L1) :: .blk 0 :: .stop :: [.code xf5_R5]) ⟨(j0 :: j1 :: j2 :: (aT T) :: (ai k) :: (ai n) :: j6 :: j7 :: j8 :: j9 :: j10 :: j11 :: j12 :: j13 :: j14 :: j15 :: j16 :: j17 :: j18 :: j19 :: j20 :: j21 :: j22 :: j23 :: j24 :: j25 :: j26 :: j27 :: j28 :: j29 :: j30 :: j31 :: j32 :: (.sl 1 true xs) :: (ai 2) :: (ai 2) :: j36 :: j37 :: j38 :: j39 :: j40 :: j41 :: j42 :: j43 :: j44 :: j45 :: j46 :: j47 :: j48 :: j49 :: j50 :: j51 :: j52 :: j53 :: j54 :: j55 :: j56 :: j57 :: j58 :: j59 :: j60 :: j61 :: j62 :: j63 :: j64 :: j65 :: j66 :: j67 :: j68 :: j69 :: j70 :: j71 :: j72 :: j73 :: j74 :: j75 :: j76 :: j77 :: j78 :: j79 :: j80 :: j81 :: j82 :: j83 :: j84 :: j85 :: j86 :: j87 :: j88 :: j89 :: j90 :: j91 :: j92 :: j93 :: j94 :: j95 :: j96 :: j97 :: j98 :: j99 :: j100 :: j101 :: j102 :: j103 :: j104 :: j105 :: j106 :: j107 :: j108 :: j109 :: j110 :: j111 :: j112 :: j113 :: j114 :: j115 :: j116 :: j117 :: j118 :: j119 :: j120 :: j121 :: j122 :: j123 :: j124 :: j125 :: j126 :: j127 :: []), []⟩ QW := by
    intro xs j0 j1 j2 j6 j7 j8 j9 j10 j11 j12 j13 j14 j15 j16 j17 j18 j19 j20 j21 j22 j23 j24 j25 j26 j27 j28 j29 j30 j31 j32 j36 j37 j38 j39 j40 j41 j42 j43 j44 j45 j46 j47 j48 j49 j50 j51 j52 j53 j54 j55 j56 j57 j58 j59 j60 j61 j62 j63 j64 j65 j66 j67 j68 j69 j70 j71 j72 j73 j74 j75 j76 j77 j78 j79 j80 j81 j82 j83 j84 j85 j86 j87 j88 j89 j90 j91 j92 j93 j94 j95 j96 j97 j98 j99 j100 j101 j102 j103 j104 j105 j106 j107 j108 j109 j110 j111 j112 j113 j114 j115 j116 j117 j118 j119 j120 j121 j122 j123 j124 j125 j126 j127
    refine W_loop (W_run 80 ?_)
    simp (maxSteps := 2000000) only [SA, Nat.reduceDiv, Nat.reduceSub, Nat.reduceAdd, Int.reduceLT, Int.reduceLE, Int.reduceToNat, Nat.reduceMul, Nat.reduceEqDiff, reduceCtorEq, Nat.reduceBEq, Nat.reduceLeDiff, Nat.reduceLT, xf5_L1, ai, d2]
    exact W_stop (hend _ _ _ _ _ _ _ _ _ _ _ _ _ _ _ _ _ _ _ _ _ _ _ _ _ _ _ _ _ _ _ _ _ _ _ _ _ _ _ _ _ _ _ _ _ _ _ _ _ _ _ _ _ _ _ _ _ _ _ _ _ _ _ _ _ _ _ _ _ _ _ _ _ _ _ _ _ _ _ _ _ _ _ _ _ _ _ _ _ _ _ _ _ _ _ _ _ _ _ _ _ _ _ _ _ _ _ _ _ _ _ _ _ _ _ _ _ _ _ _ _ _ _ _ _)
  have it1 := itW T k h1 [aT T, aT X1] rfl 1 (by omega) rfl [.code xf5_R5] QW (fun j0 j1 j2 j6 j7 j8 j9 j10 j11 j12 j13 j14 j15 j16 j17 j18 j19 j20 j21 j22 j23 j24 j25 j26 j27 j28 j29 j30 j31 j32 j36 j37 j38 j39 j40 j41 j42 j43 j44 j45 j46 j47 j48 j49 j50 j51 j52 j53 j54 j55 j56 j57 j58 j59 j60 j61 j62 j63 j64 j65 j66 j67 j68 j69 j70 j71 j72 j73 j74 j75 j76 j77 j78 j79 j80 j81 j82 j83 j84 j85 j86 j87 j88 j89 j90 j91 j92 j93 j94 j95 j96 j97 j98 j99 j100 j101 j102 j103 j104 j105 j106 j107 j108 j109 j110 j111 j112 j113 j114 j115 j116 j117 j118 j119 j120 j121 j122 j123 j124 j125 j126 j127 => last _ _ _ _ _ _ _ _ _ _ _ _ _ _ _ _ _ _ _ _ _ _ _ _ _ _ _ _ _ _ _ _ _ _ _ _ _ _ _ _ _ _ _ _ _ _ _ _ _ _ _ _ _ _ _ _ _ _ _ _ _ _ _ _ _ _ _ _ _ _ _ _ _ _ _ _ _ _ _ _ _ _ _ _ _ _ _ _ _ _ _ _ _ _ _ _ _ _ _ _ _ _ _ _ _ _ _ _ _ _ _ _ _ _ _ _ _ _ _ _ _ _ _)
  have it0 := itW T k hg [aT T, aT X1] rfl 0 (by omega) rfl [.code xf5_R5] QW (fun j0 j1 j2 j6 j7 j8 j9 j10 j11 j12 j13 j14 j15 j16 j17 j18 j19 j20 j21 j22 j23 j24 j25 j26 j27 j28 j29 j30 j31 j32 j36 j37 j38 j39 j40 j41 j42 j43 j44 j45 j46 j47 j48 j49 j50 j51 j52 j53 j54 j55 j56 j57 j58 j59 j60 j61 j62 j63 j64 j65 j66 j67 j68 j69 j70 j71 j72 j73 j74 j75 j76 j77 j78 j79 j80 j81 j82 j83 j84 j85 j86 j87 j88 j89 j90 j91 j92 j93 j94 j95 j96 j97 j98 j99 j100 j101 j102 j103 j104 j105 j106 j107 j108 j109 j110 j111 j112 j113 j114 j115 j116 j117 j118 j119 j120 j121 j122 j123 j124 j125 j126 j127 => it1 _ _ _ _ _ _ _ _ _ _ _ _ _ _ _ _ _ _ _ _ _ _ _ _ _ _ _ _ _ _ _ _ _ _ _ _ _ _ _ _ _ _ _ _ _ _ _ _ _ _ _ _ _ _ _ _ _ _ _ _ _ _ _ _ _ _ _ _ _ _ _ _ _ _ _ _ _ _ _ _ _ _ _ _ _ _ _ _ _ _ _ _ _ _ _ _ _ _ _ _ _ _ _ _ _ _ _ _ _ _ _ _ _ _ _ _ _ _ _ _ _ _)
  refine Runs.ofW (fn := xf5) 20 (by kernel_rfl) (W_run 120 ?_)
  simp (maxSteps := 2000000) only [SA, Nat.reduceDiv, Nat.reduceSub, Nat.reduceAdd, Int.reduceLT, Int.reduceLE, Int.reduceToNat, Nat.reduceMul, Nat.reduceEqDiff, reduceCtorEq, Nat.reduceBEq, Nat.reduceLeDiff, Nat.reduceLT, xf5, ai, nilA, ldg, u8, hl27, ht27, List.length_append, hD, hHl]
  refine W_call (args := [ldg a b e D Hs, ai (8 : Nat)]) rfl (noRefs_2 hnr rfl) hev nrt (W_run 120 ?_)
  simp (maxSteps := 2000000) only [SA, Nat.reduceDiv, Nat.reduceSub, Nat.reduceAdd, Int.reduceLT, Int.reduceLE, Int.reduceToNat, Nat.reduceMul, Nat.reduceEqDiff, reduceCtorEq, Nat.reduceBEq, Nat.reduceLeDiff, Nat.reduceLT, ai, nilA, aT, u8, hMl, hl27, ht27, List.length_append, hD, hHl]
  refine W_call (args := [ldg a b e D Hs]) rfl (noRefs_1 hnr) hfree (noRef_T _) (W_run 120 ?_)
  simp (maxSteps := 2000000) only [SA, Nat.reduceDiv, Nat.reduceSub, Nat.reduceAdd, Int.reduceLT, Int.reduceLE, Int.reduceToNat, Nat.reduceMul, Nat.reduceEqDiff, reduceCtorEq, Nat.reduceBEq, Nat.reduceLeDiff, Nat.reduceLT, ai, nilA, aT, List.map_cons, List.map_nil]
  exact W_alone (it0 _ _ _ _ _ _ _ _ _ _ _ _ _ _ _ _ _ _ _ _ _ _ _ _ _ _ _ _ _ _ _ _ _ _ _ _ _ _ _ _ _ _ _ _ _ _ _ _ _ _ _ _ _ _ _ _ _ _ _ _ _ _ _ _ _ _ _ _ _ _ _ _ _ _ _ _ _ _ _ _ _ _ _ _ _ _ _ _ _ _ _ _ _ _ _ _ _ _ _ _ _ _ _ _ _ _ _ _ _ _ _ _ _ _ _ _ _ _ _ _ _ _)
theorem waer_law {a b e : Int} {D H : List Int} (ha : 0 ≤ a ∧ a ≤ 255) (hb : 0 ≤ b ∧ b ≤ 255) (he : 0 ≤ e ∧ e ≤ 255) (hD : D.length = 16) (hH : H.length = 8) (bD : ∀ x, x ∈ D → 0 ≤ x ∧ x ≤ 255) (bH : ∀ x, x ∈ H → 0 ≤ x ∧ x ≤ 255) (hW : Runs Try.prog xf 28 [] (.v (.bool true))) :
    Runs Try.prog xf 5 [ldg a b e D H] (.v (.bool true)) := by
  obtain ⟨_, h1, h4⟩ := sz_b ha
  obtain ⟨X1, hx, hfree⟩ := free_run (b := b) ha he hD hH bD
  obtain ⟨c1, c2⟩ := tmod_b (a := b) (n := (8 : Int) + 1) hb.1 (by omega)
  have e8 : (b.tmod ((8 : Nat) + 1)) = b.tmod (8 + 1) := rfl
  rcases (by omega : sz a = 1 ∨ sz a = 2 ∨ sz a = 3 ∨ sz a = 4) with h | h | h | h
  · obtain ⟨S0, T, hSl, hE, hev⟩ := even_1 (b := b) (e := e) h ha hb hD hH bH (most := 8) (by omega)
    have hS8 : S0.length ≤ 8 := by rw [hSl]; omega
    rw [h] at hx
    exact allW hS8 (ei_gT (by omega) (by omega) hE (by omega)) hE.ev hx (hf_1 1) emp_1 (reN_1 1) hW hD hH hev hfree
  · obtain ⟨S0, T, hSl, hE, hev⟩ := even_2 (b := b) (e := e) h ha hb hD hH bH (most := 8) (by omega)
    have hS8 : S0.length ≤ 8 := by rw [hSl]; omega
    rw [h] at hx
    exact allW hS8 (ei_gT (by omega) (by omega) hE (by omega)) hE.ev hx (hf_2 1) emp_2 (reN_2 1) hW hD hH hev hfree
  · obtain ⟨S0, T, hSl, hE, hev⟩ := even_3 (b := b) (e := e) h ha hb hD hH bH (most := 8) (by omega)
    have hS8 : S0.length ≤ 8 := by rw [hSl]; omega
    rw [h] at hx
    exact allW hS8 (ei_gT (by omega) (by omega) hE (by omega)) hE.ev hx (hf_3 1) emp_3 (reN_3 1) hW hD hH hev hfree
  · obtain ⟨S0, T, hSl, hE, hev⟩ := even_4 (b := b) (e := e) h ha hb hD hH bH (most := 8) (by omega)
    have hS8 : S0.length ≤ 8 := by rw [hSl]; omega
    rw [h] at hx
    exact allW hS8 (ei_gT (by omega) (by omega) hE (by omega)) hE.ev hx (hf_4 1) emp_4 (reN_4 1) hW hD hH hev hfree
end Go.Proofs.Ytkbeaheladmeiaa

