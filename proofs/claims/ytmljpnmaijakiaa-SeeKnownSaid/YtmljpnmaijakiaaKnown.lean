/-
  The law returns true.
-/
import Derived.Test.YtmljpnmaijakiaaWkA
import Derived.Test.YtmljpnmaijakiaaWkB
import Derived.Test.YtmljpnmaijakiaaKnA
import Derived.Test.YtmljpnmaijakiaaKnB
import Derived.KernelRfl
set_option linter.unusedSimpArgs false
set_option linter.unusedVariables false
namespace Go.Proofs.Ytmljpnmaijakiaa
open Go Go.Proofs.Eng Go.RowKit
def wkT : List (Nat × List AV × AV) := [(17, [bk60], wk0), (19, [bk60], wk1), (27, [bk61], wk2), (31, [bk60, il [3], ii 0], wk3), (33, [bk59], wk4), (35, [bk60], wk5), (37, [bk60, ii 0], wk6), (39, [bk60], wk7), (41, [bk59, ii 0], wk8), (17, [bk61], wk9), (27, [bk59], wk10), (33, [bk61], wk11), (31, [bk60, il [0], ii 3], wk12)]
theorem wkT_run (e : Nat × List AV × AV) (h : e ∈ wkT) : Runs Try.prog xf e.1 e.2.1 e.2.2 := by
  simp only [wkT, List.mem_cons, List.not_mem_nil, or_false] at h
  rcases h with rfl | rfl | rfl | rfl | rfl | rfl | rfl | rfl | rfl | rfl | rfl | rfl | rfl
  · exact wk0_run
  · exact wk1_run
  · exact wk2_run
  · exact wk3_run
  · exact wk4_run
  · exact wk5_run
  · exact wk6_run
  · exact wk7_run
  · exact wk8_run
  · exact wk9_run
  · exact wk10_run
  · exact wk11_run
  · exact wk12_run
theorem works_run : Runs Try.prog xf 16 [] (.v (.bool true)) := Runs.execM (fuel := 10000) wkT_run 30 (by kernel_rfl)
def knT : List (Nat × List AV × AV) := [(17, [bk59], kn0), (19, [bk59], kn1), (27, [bk60], kn2), (31, [bk60, il [0, 3], ii 1], kn3), (35, [bk59], kn4), (35, [bk61], kn5), (37, [bk60, ii 2], kn6), (37, [bk60, ii 5], kn7), (39, [bk59], kn8), (41, [bk59, ii 2], kn9), (16, [], .v (.bool true))]
theorem knT_run (e : Nat × List AV × AV) (h : e ∈ knT) : Runs Try.prog xf e.1 e.2.1 e.2.2 := by
  simp only [knT, List.mem_cons, List.not_mem_nil, or_false] at h
  rcases h with rfl | rfl | rfl | rfl | rfl | rfl | rfl | rfl | rfl | rfl | rfl
  · exact kn0_run
  · exact kn1_run
  · exact kn2_run
  · exact kn3_run
  · exact kn4_run
  · exact kn5_run
  · exact kn6_run
  · exact kn7_run
  · exact kn8_run
  · exact kn9_run
  · exact works_run
theorem known_run : Runs Try.prog xf 15 [] (.v (.bool true)) := Runs.execM (fuel := 10000) knT_run 30 (by kernel_rfl)
theorem orders_mixed : Try.prog.follows .mixedOrders = true := by kernel_rfl
theorem known_any (w : World) : Calls Try.prog 15 #[] w fun e w' => e = .returned (.bool true) ∧ Below w.heap.size w w' :=
  (known_run.pure orders_mixed xf_ok w (fun _ => False) [] rfl (fun j u x h => by simp at h) (fun b h => h.elim)).mono fun e w' ⟨v, h1, h2, h3⟩ => by
    cases h3
    exact ⟨h1, h2⟩
end Go.Proofs.Ytmljpnmaijakiaa
