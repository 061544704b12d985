/-
  Ends of functions inside loops; whole numbers; lists of whole numbers as plain data.
-/
import Derived.Test.YtdmffkknghianaaEngS
set_option linter.unusedSimpArgs false
set_option linter.unusedVariables false
namespace Go.Proofs.Eng
open Go
section
variable {P : Program} {R : Rel} {kb : Nat} {k : List Fr} {c c1 : Cfg} {Q : Out → Cfg → Prop}
theorem W_ret1 (h : WX P R kb k .ret c Q) : W P R kb (.code .ret :: k) c Q := by
  obtain ⟨o', c', h1, h2⟩ := h
  exact ⟨o', c', ⟨.ret, c, .ret c, h1⟩, h2⟩
theorem WX_code {x : XCode} (h : WX P R kb k .ret c Q) : WX P R kb (.code x :: k) .ret c Q := by
  obtain ⟨o', c', h1, h2⟩ := h
  exact ⟨o', c', h1, h2⟩
theorem WX_lp {x : XCode} (h : WX P R kb k .ret c Q) : WX P R kb (.lp x :: k) .ret c Q := by
  obtain ⟨o', c', h1, h2⟩ := h
  exact ⟨o', c', h1, h2⟩
theorem WX_stop (h : WX P R kb k .ret c Q) : WX P R kb (.stop :: k) .ret c Q := h
theorem WX_blk {id : Nat} (h : WX P R kb k .ret c Q) : WX P R kb (.blk id :: k) .ret c Q := by
  obtain ⟨o', c', h1, h2⟩ := h
  exact ⟨o', c', by simp only [Aft]; rw [if_neg (by simp)]; exact h1, h2⟩
end
/-- what is left when a function returns: what lies behind the next stop -/
def popS : List Fr → List Fr
  | [] => []
  | .stop :: k => k
  | .op _ _ :: k => popS k
  | .code _ :: k => popS k
  | .blk _ :: k => popS k
  | .lp _ :: k => popS k
theorem WX_pop {P : Program} {R : Rel} {kb : Nat} {c : Cfg} {Q : Out → Cfg → Prop} : ∀ {k : List Fr}, WX P R kb (popS k) .ret c Q → WX P R kb k .ret c Q
  | [], h => h
  | .stop :: k, h => h
  | .op _ _ :: k, h => (WX_pop (k := k) h : WX P R kb k .ret c Q)
  | .code _ :: k, h => WX_code (WX_pop (k := k) h)
  | .blk _ :: k, h => WX_blk (WX_pop (k := k) h)
  | .lp _ :: k, h => WX_lp (WX_pop (k := k) h)
/-- a whole number -/
def ai (z : Int) : AV := .v (.int .i64 z)
def ab (b : Bool) : AV := .v (.bool b)
/-- a list of whole numbers -/
def al (full : Bool) (l : List Int) : AV := .sl 1 full (l.map ai)
theorem wrap_id {z : Int} (h1 : -9223372036854775808 ≤ z) (h2 : z < 9223372036854775808) : IntKind.i64.wrap z = z := by
  show (let m := z % (2 ^ 64 : Int); if true && m ≥ (2 ^ 63 : Int) then m - (2 ^ 64 : Int) else m) = z
  have e1 : (2 ^ 64 : Int) = 18446744073709551616 := by decide
  have e2 : (2 ^ 63 : Int) = 9223372036854775808 := by decide
  simp only [e1, e2, Bool.true_and, decide_eq_true_eq]
  split <;> omega
theorem get_al {l : List Int} {i : Nat} (h : i < l.length) : (l.map ai)[i]? = some (ai (l.getD i 0)) := by
  rw [List.getElem?_map, List.getElem?_eq_getElem h, List.getD_eq_getElem?_getD, List.getElem?_eq_getElem h]; rfl
theorem toNat_cast (i : Nat) : (i : Int).toNat = i := rfl
theorem cast_nonneg (i : Nat) : (0 : Int) ≤ i := Int.natCast_nonneg i
theorem lt_cast {i n : Nat} : decide ((i : Int) < (n : Int)) = decide (i < n) := by simp
/-- a row that is not there yet may be named -/
theorem W_eta {P : Program} {R : Rel} {kb j : Nat} {k : List Fr} {σ : List AV} {Q : Out → Cfg → Prop} {x : XCode} (h : W P R kb (.code x :: k) ⟨σ, [(j, (0, none))]⟩ Q) : W P R kb (.code x :: k) ⟨σ, []⟩ Q := by
  refine W_weak (c := ⟨σ, []⟩) (c1 := ⟨σ, [(j, (0, none))]⟩) ⟨rfl, fun t x y h1 h2 => ?_, fun k => ?_⟩ h
  · simp only at h1 h2; rw [h1] at h2; injection h2 with h2; subst h2; exact .refl _
  · refine ⟨?_, .inl ?_⟩
    · simp only [look]; split <;> rfl
    · simp only [look]; split <;> rfl
/-- rows that are there, and those that are not, may be named -/
theorem W_named {P : Program} {R : Rel} {kb : Nat} {k : List Fr} {σ : List AV} {η η' : Heap} {Q : Out → Cfg → Prop} {x : XCode} (he : ∀ j, look η j = look η' j) (h : W P R kb (.code x :: k) ⟨σ, η'⟩ Q) : W P R kb (.code x :: k) ⟨σ, η⟩ Q := by
  refine W_weak (c := ⟨σ, η⟩) (c1 := ⟨σ, η'⟩) ⟨rfl, fun t x y h1 h2 => ?_, fun k => ⟨by rw [he k], .inr (by rw [he k])⟩⟩ h
  simp only at h1 h2; rw [h1] at h2; injection h2 with h2; subst h2; exact .refl _
theorem giveT_row {σ : List AV} {η : Heap} {t k g e s : Nat} {xs : List AV} {n : Nat} (h1 : σ.getD t .any = .os k g n s 0 n) (h2 : look η k = (g, some ⟨e, s, xs⟩)) (h3 : xs.length = n) : giveT ⟨σ, η⟩ t = some ⟨σ.map (toData k g n s xs), putAt η k (g, none)⟩ := by
  simp only [giveT, h1, h2]
  rw [if_pos (by simp [h3])]
theorem toData_os (k g n s : Nat) (xs : List AV) : toData k g n s xs (.os k g n s 0 n) = .sl s false xs := by simp [toData]
theorem toData_v (k g n s : Nat) (xs : List AV) (x : Value) : toData k g n s xs (.v x) = .v x := rfl
theorem toData_ptr (k g n s : Nat) (xs : List AV) (x : AV) : toData k g n s xs (.ptr x) = .ptr x := rfl
theorem toData_sl (k g n s : Nat) (xs : List AV) (s' : Nat) (f : Bool) (ys : List AV) : toData k g n s xs (.sl s' f ys) = .sl s' f ys := rfl
theorem toData_ag (k g n s : Nat) (xs ys : List AV) : toData k g n s xs (.ag ys) = .ag ys := rfl
theorem toData_o (k g n s : Nat) (xs : List AV) (a b c d e : Nat) : toData k g n s xs (.o a b c d e) = .o a b c d e := rfl
theorem tf_beq : (true == false) = false := rfl
theorem ft_beq : (false == true) = false := rfl
theorem getD_mem {α : Type} {l : List α} {i : Nat} {d : α} (h : i < l.length) : l.getD i d ∈ l := by
  rw [List.getD_eq_getElem?_getD, List.getElem?_eq_getElem h]; exact List.getElem_mem h
theorem all_take {α : Type} {l : List α} {p : α → Bool} {i : Nat} {d : α} (h : i < l.length) : (l.take (i + 1)).all p = ((l.take i).all p && p (l.getD i d)) := by
  have e : l.getD i d = l[i] := by rw [List.getD_eq_getElem?_getD, List.getElem?_eq_getElem h]; rfl
  rw [e, ← List.take_append_getElem h, List.all_append]; simp
theorem all_bad {α : Type} {l : List α} {p : α → Bool} {i : Nat} {d : α} (h : i < l.length) (hp : p (l.getD i d) = false) : l.all p = false := by
  cases e : l.all p with
  | false => rfl
  | true => rw [List.all_eq_true.1 e _ (getD_mem h)] at hp; cases hp
end Go.Proofs.Eng
