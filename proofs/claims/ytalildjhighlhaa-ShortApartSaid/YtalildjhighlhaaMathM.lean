/-
  Plain mathematics of package short, continued: the least of the words of one size that tell two words apart.
-/
import Derived.Test.YtalildjhighlhaaMathE
import Derived.Test.YtalildjhighlhaaFst
namespace Go.Proofs.Ytalildjhighlhaa
open Go.Proofs.Short

theorem sz_min (n : Nat) (x : List UInt8) (hx : x.all okc = true) : szL (min n (x.length + 1)) x = szL n x := by
  by_cases h : n ≤ x.length + 1
  · rw [Nat.min_eq_left h]
  · have h1 : ∀ m, x.length < m → szL m x = [] := fun m hm => List.eq_nil_iff_forall_not_mem.2 fun p hp => by
      have h2 := (mem_szL m x hx p).1 hp
      have := h2.2.length_le
      omega
    rw [h1 _ (by omega), h1 _ (by omega)]
/-- the answer of the reference's differ -/
def difB (a b : List UInt8) (n : Nat) (is : Bool) (l : List UInt8) : Prop := (is = false ∧ l = [] ∧ diffL a b n = none) ∨ (is = true ∧ diffL a b n = some l)
theorem difB_of {a b : List UInt8} {n : Nat} (ha : a.all okc = true) (hb : b.all okc = true) {is : Bool} {l : List UInt8} (h : BestOf (fun p => p ∈ szL n a ++ szL n b) (dif a b) is l) : difB a b n is l := by
  rcases h with ⟨h1, h2, h3⟩ | ⟨h1, h2, h3, h4⟩
  · refine .inl ⟨h1, h2, ?_⟩
    unfold diffL
    exact List.find?_eq_none.2 fun q hq => by rw [h3 q ((mem_two ha hb).1 hq)]; decide
  · refine .inr ⟨h1, ?_⟩
    unfold diffL
    exact find_least ((srt_partsL [a, b]).filter _) ((mem_two ha hb).2 h3) h2 fun x hx hp => h4 x ((mem_two ha hb).1 hx) hp
theorem take_mem_succ {L : List (List UInt8)} {k : Nat} (hk : k < L.length) (p : List UInt8) : p ∈ L.take (k + 1) ↔ p ∈ L.take k ∨ p = L.getD k [] := by
  rw [List.take_add_one, List.getElem?_eq_getElem hk, List.mem_append, List.getD_eq_getElem?_getD, List.getElem?_eq_getElem hk]
  simp
end Go.Proofs.Ytalildjhighlhaa
