/-
  Regions in any order; code; functions.
-/
import Derived.Test.YtdmffkknghianaaEngN
import Derived.LoopN
import Derived.Scope
set_option linter.unusedSimpArgs false
set_option linter.unusedVariables false
namespace Go.Proofs.Eng
open Go Go.RowKit

section
variable {P : Program} {R : Rel} {kb : Nat} {ops : Array Oper} {xs : List XOper} {F : List Lv}

/-- an operation waits for another one, perhaps through others -/
inductive Waits (ops : Array Oper) : Nat → Nat → Prop
  | one (j : Nat) (o : Oper) (e : _) (ho : ops[j]? = some o) (he : e ∈ o.after) (hb : Region.binds .any e = true) : Waits ops j e.on
  | more (j i : Nat) (o : Oper) (e : _) (ho : ops[j]? = some o) (he : e ∈ o.after) (hb : Region.binds .any e = true) (h : Waits ops e.on i) : Waits ops j i
/-- what is listed has all that it waits for listed -/
def ClosedL (ops : Array Oper) (listed : Array Bool) : Prop := ∀ (m : Nat) (o : Oper), ops[m]? = some o → listed.getD m false = true → ∀ e, e ∈ o.after → Region.binds .any e = true → listed.getD e.on false = true
theorem waits_listed {listed : Array Bool} (hc : ClosedL ops listed) {j i : Nat} (h : Waits ops j i) : listed.getD j false = true → listed.getD i false = true := by
  induction h with
  | one j o e ho he hb => exact fun hj => hc j o ho hj e he hb
  | more j i o e ho he hb _ ih => exact fun hj => ih (hc j o ho hj e he hb)
theorem waits_ready {listed : Array Bool} (hc : ClosedL ops listed) {j i : Nat} (hj : j ∈ Region.ready .any ops listed) (h : Waits ops j i) : listed.getD i false = true := by
  obtain ⟨_, o, ho, hall⟩ := mem_ready.1 hj
  cases h with
  | one _ o' e ho' he hb => rw [ho] at ho'; injection ho' with ho'; subst ho'; exact hall e he hb
  | more _ _ o' e ho' he hb h => rw [ho] at ho'; injection ho' with ho'; subst ho'; exact waits_listed hc h (hall e he hb)
theorem closed_set {listed : Array Bool} (hc : ClosedL ops listed) {i : Nat} (hi : i ∈ Region.ready .any ops listed) : ClosedL ops (listed.setIfInBounds i true) := by
  obtain ⟨hun, o, ho, hall⟩ := mem_ready.1 hi
  intro m o' ho' hm e he hb
  by_cases hmi : i = m
  · subst hmi
    rw [ho] at ho'; injection ho' with ho'; subst ho'
    exact getD_set_true (hall e he hb)
  · rw [getD_set_ne false hmi] at hm
    exact getD_set_true (hc m o' ho' hm e he hb)

/-- whatever order is picked from here on -/
def AnyX (P : Program) (R : Rel) (kb : Nat) (ops : Array Oper) (xs : List XOper) (F : List Lv) (Q : Cfg → Prop) : Nat → Array Bool → Cfg → Prop
  | 0, listed, c => Region.ready .any ops listed = [] ∧ Q c
  | n + 1, listed, c => (Region.ready .any ops listed = [] → Q c) ∧ ∀ i ∈ Region.ready .any ops listed, ∃ o c' lv, xs[i]? = some o ∧ Op1 P R kb o c c' lv ∧ lvSub lv (F.getD i .none) = true ∧ AnyX P R kb ops xs F Q n (listed.setIfInBounds i true) c'
/-- an operation that may come up now may be taken first -/
theorem anyX_first {Q : Cfg → Prop} {i : Nat} {oi : XOper} (hi : xs[i]? = some oi) : ∀ (n : Nat) (listed : Array Bool) (c c1 : Cfg) (lv : Lv), ClosedL ops listed →
    (∀ j oj, xs[j]? = some oj → j ≠ i → listed.getD j true = false → Waits ops j i ∨ (apartX oi oj = true ∧ lvOK (F.getD i .none) (F.getD j .none) = true)) →
    i ∈ Region.ready .any ops listed → Op1 P R kb oi c c1 lv → lvSub lv (F.getD i .none) = true → AnyX P R kb ops xs F Q n (listed.setIfInBounds i true) c1 → AnyX P R kb ops xs F Q (n + 1) listed c
  | 0, listed, c, c1, lv, hcl, hfree, hr, h1, hlv, H => by
    refine ⟨fun h => (by rw [h] at hr; cases hr), fun j hj => ?_⟩
    by_cases hji : j = i
    · subst hji; exact ⟨oi, c1, lv, hi, h1, hlv, H⟩
    · have := ready_mono hj hji
      rw [H.1] at this
      cases this
  | n + 1, listed, c, c1, lv, hcl, hfree, hr, h1, hlv, H => by
    refine ⟨fun h => (by rw [h] at hr; cases hr), fun j hj => ?_⟩
    by_cases hji : j = i
    · subst hji; exact ⟨oi, c1, lv, hi, h1, hlv, H⟩
    · obtain ⟨oj, c2, lvj, hoj, h2, hlvj, H2⟩ := H.2 j (ready_mono hj hji)
      have hjun : listed.getD j true = false := (mem_ready.1 hj).1
      have hiun : listed.getD i true = false := (mem_ready.1 hr).1
      have hnw : ¬ Waits ops j i := fun hw => by
        have := waits_ready hcl hj hw
        rcases Nat.lt_or_ge i listed.size with h' | h'
        · simp [h'] at hiun this; rw [hiun] at this; cases this
        · simp [Array.getElem?_eq_none h'] at hiun
      obtain ⟨hap, hok⟩ := (hfree j oj hoj hji hjun).resolve_left hnw
      obtain ⟨c', h3, h4⟩ := op1_swap hap (lvOK_sub hok hlv hlvj) h1 h2
      refine ⟨oj, c', lvj, hoj, h3, hlvj, ?_⟩
      refine anyX_first hi n (listed.setIfInBounds j true) c' c2 lv (closed_set hcl hj) (fun k ok hk hki hun => ?_) (ready_mono hr (Ne.symm hji)) h4 hlv ?_
      · refine hfree k ok hk hki ?_
        by_cases hjk : j = k
        · subst hjk; exact hjun
        · rw [getD_set_ne true hjk] at hun; exact hun
      · rw [Array.setIfInBounds_comm _ _ hji]; exact H2

/-- operations that may look at owned rows -/
def touch : XOp → Bool
  | .load .. | .store .. | .app .. | .appz .. | .slcA .. | .call .. | .callv .. | .inv .. | .mkm | .lkp .. | .mup .. | .del .. | .lenM .. | .rgs .. | .nxs .. | .cpy .. | .b2s .. => true
  | .box _ _ own _ | .bldS _ _ own _ | .mks _ _ own _ _ _ _ => own
  | _ => false
/-- the operations from here on: each waits for k (those are collected), or is apart from it; those that both may look at owned rows are handed out -/
def restP (k : Nat) (x : XOper) : Nat → List Nat → List Oper → List XOper → Option (List Nat)
  | j, wk, o :: os, y :: l => match o.after.toList.any (fun e => Region.binds .any e && wk.contains e.on) with
    | true => restP k x (j + 1) (j :: wk) os l
    | false => match apartX x y with
      | true => match touch x.op && touch y.op with
        | true => match restP k x (j + 1) wk os l with
          | some js => some (j :: js)
          | none => none
        | false => restP k x (j + 1) wk os l
      | false => none
  | _, _, _, [] => some []
  | _, _, [], _ :: _ => none
/-- the pairs of operations whose order is open and that may look at owned rows -/
def pairsC : Nat → List Oper → List XOper → Option (List (Nat × List Nat))
  | k, o :: os, x :: l => match o.after.toList.all (fun e => !Region.binds .any e || Nat.blt e.on k) with
    | true => match restP k x (k + 1) [k] os l with
      | some js => match pairsC (k + 1) os l with
        | some r => match js with
          | [] => some r
          | js => some ((k, js) :: r)
        | none => none
      | none => none
    | false => none
  | _, [], [] => some []
  | _, _, _ => none
theorem restP_ok {k : Nat} {x : XOper} : ∀ (os : List Oper) (l : List XOper) (j : Nat) (wk js : List Nat), (∀ i, os[i]? = ops[j + i]?) → (∀ i, l[i]? = xs[j + i]?) → (∀ i, i ∈ wk → i = k ∨ Waits ops i k) →
    restP k x j wk os l = some js → ∀ i y, j ≤ i → xs[i]? = some y → Waits ops i k ∨ (apartX x y = true ∧ (i ∈ js ∨ touch x.op = false ∨ touch y.op = false))
  | _, [], j, wk, js, ho, hl, hw, h, i, y, hij, hy => by
    have := hl (i - j)
    rw [show j + (i - j) = i by omega, hy] at this
    simp at this
  | [], _ :: _, _, _, _, _, _, _, h, _, _, _, _ => by simp [restP] at h
  | o :: os, z :: l, j, wk, js, ho, hl, hw, h, i, y, hij, hy => by
    have ho0 : ops[j]? = some o := by simpa using (ho 0).symm
    have hl0 : xs[j]? = some z := by simpa using (hl 0).symm
    have ho' : ∀ i, os[i]? = ops[j + 1 + i]? := fun i => by have := ho (i + 1); simpa [Nat.add_assoc, Nat.add_comm 1 i] using this
    have hl' : ∀ i, l[i]? = xs[j + 1 + i]? := fun i => by have := hl (i + 1); simpa [Nat.add_assoc, Nat.add_comm 1 i] using this
    unfold restP at h
    split at h
    · rename_i hany
      obtain ⟨e, he, hb⟩ := List.any_eq_true.1 hany
      simp only [Bool.and_eq_true, List.contains_iff_mem] at hb
      have hwj : Waits ops j k := by
        have he : e ∈ o.after := by simpa using he
        rcases hw _ hb.2 with q | q
        · rw [← q]; exact .one j o e ho0 he hb.1
        · exact .more j k o e ho0 he hb.1 q
      rcases Nat.eq_or_lt_of_le hij with rfl | hlt
      · exact .inl hwj
      · refine restP_ok os l (j + 1) (j :: wk) js ho' hl' (fun i hi => ?_) h i y hlt hy
        rcases List.mem_cons.1 hi with rfl | hi
        · exact .inr hwj
        · exact hw i hi
    · split at h <;> try (cases h; done)
      rename_i h1
      split at h
      · split at h <;> try (cases h; done)
        rename_i js' hjs
        injection h with h; subst h
        rcases Nat.eq_or_lt_of_le hij with rfl | hlt
        · rw [hl0] at hy; injection hy with hy; subst hy
          exact .inr ⟨h1, .inl List.mem_cons_self⟩
        · exact (restP_ok os l (j + 1) wk js' ho' hl' hw hjs i y hlt hy).imp id fun q => ⟨q.1, q.2.imp (List.mem_cons_of_mem _) id⟩
      · rename_i ht
        rcases Nat.eq_or_lt_of_le hij with rfl | hlt
        · rw [hl0] at hy; injection hy with hy; subst hy
          refine .inr ⟨h1, .inr ?_⟩
          cases hx : touch x.op
          · exact .inl rfl
          · rw [hx] at ht; simpa using ht
        · exact restP_ok os l (j + 1) wk js ho' hl' hw h i y hlt hy
theorem pairsC_ok : ∀ (os : List Oper) (l : List XOper) (k : Nat) (prs : List (Nat × List Nat)), (∀ i, os[i]? = ops[k + i]?) → (∀ i, l[i]? = xs[k + i]?) → pairsC k os l = some prs →
    (∀ i o, k ≤ i → ops[i]? = some o → ∀ e, e ∈ o.after → Region.binds .any e = true → e.on < i) ∧
    ∀ i x j y, k ≤ i → i < j → xs[i]? = some x → xs[j]? = some y → Waits ops j i ∨ (apartX x y = true ∧ ((∃ js, (i, js) ∈ prs ∧ j ∈ js) ∨ touch x.op = false ∨ touch y.op = false))
  | [], [], k, prs, ho, hl, h => by
    refine ⟨fun i o hk hi => ?_, fun i x j y hk hij hx hy => ?_⟩
    · have := ho (i - k); rw [show k + (i - k) = i by omega, hi] at this; simp at this
    · have := hl (i - k); rw [show k + (i - k) = i by omega, hx] at this; simp at this
  | [], _ :: _, _, _, _, _, h => by simp [pairsC] at h
  | _ :: _, [], _, _, _, _, h => by simp [pairsC] at h
  | o :: os, x :: l, k, prs, ho, hl, h => by
    have ho0 : ops[k]? = some o := by simpa using (ho 0).symm
    have hl0 : xs[k]? = some x := by simpa using (hl 0).symm
    have ho' : ∀ i, os[i]? = ops[k + 1 + i]? := fun i => by have := ho (i + 1); simpa [Nat.add_assoc, Nat.add_comm 1 i] using this
    have hl' : ∀ i, l[i]? = xs[k + 1 + i]? := fun i => by have := hl (i + 1); simpa [Nat.add_assoc, Nat.add_comm 1 i] using this
    unfold pairsC at h
    split at h <;> try (cases h; done)
    rename_i hr0
    split at h <;> try (cases h; done)
    rename_i js hjs
    split at h <;> try (cases h; done)
    rename_i r hr
    obtain ⟨ih1, ih2⟩ := pairsC_ok os l (k + 1) r ho' hl' hr
    have hsub : ∀ p, p ∈ r → p ∈ prs := fun p hp => by
      split at h
      · injection h with h; subst h; exact hp
      · injection h with h; subst h; exact List.mem_cons_of_mem _ hp
    have hmem : ∀ j, j ∈ js → ∃ js', (k, js') ∈ prs ∧ j ∈ js' := fun j hj => by
      split at h
      · cases hj
      · injection h with h; subst h; exact ⟨_, List.mem_cons_self, hj⟩
    refine ⟨fun i o' hk hi e he hb => ?_, fun i x' j y hk hij hx hy => ?_⟩
    · rcases Nat.eq_or_lt_of_le hk with rfl | hlt
      · rw [ho0] at hi; injection hi with hi; subst hi
        have := List.all_eq_true.1 hr0 e (by simpa using he)
        rw [hb] at this
        simp [Nat.blt] at this; omega
      · exact ih1 i o' hlt hi e he hb
    · rcases Nat.eq_or_lt_of_le hk with rfl | hlt
      · rw [hl0] at hx; injection hx with hx; subst hx
        exact (restP_ok os l (k + 1) [k] js ho' hl' (fun i hi => .inl (List.mem_singleton.1 hi)) hjs j y hij hy).imp id fun q => ⟨q.1, q.2.imp (hmem j) id⟩
      · exact (ih2 i x' j y hlt hij hx hy).imp id fun q => ⟨q.1, q.2.imp (fun ⟨js', h1, h2⟩ => ⟨js', hsub _ h1, h2⟩) id⟩
def isNone : Lv → Bool
  | .none => true
  | _ => false
/-- operations that do not look at owned rows say so -/
def quietF : List XOper → List Lv → Bool
  | [], [] => true
  | x :: l, f :: m => match touch x.op with
    | true => quietF l m
    | false => match isNone f with | true => quietF l m | false => false
  | _, _ => false
def pairOK (F : List Lv) : List (Nat × List Nat) → Bool
  | [] => true
  | (i, js) :: r => match js.all (fun j => lvOK (F.getD i .none) (F.getD j .none)) with
    | true => pairOK F r
    | false => false
theorem quietF_ok : ∀ {l : List XOper} {m : List Lv}, quietF l m = true → ∀ i x, l[i]? = some x → touch x.op = false → m.getD i .none = .none
  | [], [], _, i, x, hx, _ => by simp at hx
  | y :: l, f :: m, h, i, x, hx, ht => by
    unfold quietF at h
    cases i with
    | zero =>
      simp only [List.getElem?_cons_zero, Option.some.injEq] at hx
      subst hx
      rw [ht] at h
      simp only at h
      split at h <;> try (cases h; done)
      rename_i h1
      cases f <;> simp [isNone] at h1
      rfl
    | succ i =>
      have h2 : quietF l m = true := by
        split at h
        · exact h
        · split at h
          · exact h
          · cases h
      simpa using quietF_ok h2 i x (by simpa using hx) ht
  | [], _ :: _, h, _, _, _, _ => by cases h
  | _ :: _, [], h, _, _, _, _ => by cases h
theorem pairOK_ok {F : List Lv} : ∀ {prs : List (Nat × List Nat)}, pairOK F prs = true → ∀ i js j, (i, js) ∈ prs → j ∈ js → lvOK (F.getD i .none) (F.getD j .none) = true
  | [], _, i, js, j, h, _ => by cases h
  | (i', js') :: r, h, i, js, j, hm, hj => by
    unfold pairOK at h
    split at h <;> try (cases h; done)
    rename_i h1
    rcases List.mem_cons.1 hm with e | hm
    · injection e with e1 e2; subst e1; subst e2
      exact List.all_eq_true.1 h1 j hj
    · exact pairOK_ok h i js j hm hj
/-- the levels F, over operations whose order is open, let them be done in any order -/
def regF (xs : List XOper) (prs : List (Nat × List Nat)) (F : List Lv) : Bool := quietF xs F && pairOK F prs

inductive OpsRun (P : Program) (R : Rel) (kb : Nat) : List XOper → Cfg → Cfg → List Lv → Prop
  | nil (c : Cfg) : OpsRun P R kb [] c c []
  | cons (o : XOper) (l : List XOper) (c c1 c2 : Cfg) (lv : Lv) (lvs : List Lv) (h1 : Op1 P R kb o c c1 lv) (h2 : OpsRun P R kb l c1 c2 lvs) : OpsRun P R kb (o :: l) c c2 (lv :: lvs)
/-- operations in the order of the text; between them owned rows may be given up -/
inductive OpsG (P : Program) (R : Rel) (kb : Nat) : List XOper → Cfg → Cfg → Prop
  | nil (c : Cfg) : OpsG P R kb [] c c
  | cons (o : XOper) (l : List XOper) (c c1 c2 : Cfg) (lv : Lv) (h1 : Op1 P R kb o c c1 lv) (h2 : OpsG P R kb l c1 c2) : OpsG P R kb (o :: l) c c2
  | give (l : List XOper) (c c1 c2 : Cfg) (t : Nat) (h1 : giveT c t = some c1) (h2 : OpsG P R kb l c1 c2) : OpsG P R kb l c c2
def lvLe : List Lv → List Lv → Bool
  | [], [] => true
  | a :: l, b :: m => lvSub a b && lvLe l m
  | _, _ => false
theorem lvLe_refl : ∀ l : List Lv, lvLe l l = true
  | [] => rfl
  | a :: l => by simp only [lvLe, lvSub_refl a, lvLe_refl l, Bool.and_self]

theorem anyX_lex {c' : Cfg} {prs : List (Nat × List Nat)} (hp : pairsC 0 ops.toList xs = some prs) (hF0 : regF xs prs F = true) : ∀ (l : List XOper) (k : Nat) (listed : Array Bool) (c : Cfg) (lvs : List Lv), xs.length = ops.size → (∀ j, l[j]? = xs[k + j]?) → k + l.length = xs.length → listed.size = ops.size → (∀ j, j < ops.size → listed.getD j true = decide (j < k)) →
    ClosedL ops listed → OpsRun P R kb l c c' lvs → lvLe lvs (F.drop k) = true →
    AnyX P R kb ops xs F (fun d => d = c') l.length listed c
  | [], k, listed, c, lvs, hxl, hl, hkl, hsz, hls, hcl, h, hF => by
    cases h
    refine ⟨?_, rfl⟩
    rw [List.eq_nil_iff_forall_not_mem]
    intro j hj
    obtain ⟨h1, o, h2, _⟩ := mem_ready.1 hj
    have hlt : j < ops.size := (Array.getElem?_eq_some_iff.1 h2).1
    rw [hls j hlt] at h1
    have h1 : ¬ j < k := by simpa using h1
    simp only [List.length_nil, Nat.add_zero] at hkl
    omega
  | o :: l, k, listed, c, lvs, hxl, hl, hkl, hsz, hls, hcl, h, hF => by
    cases h with | cons _ _ _ c1 _ lv lvs h1 h2 =>
    obtain ⟨hp1, hp2⟩ := pairsC_ok (xs := xs) ops.toList xs 0 prs (fun j => by rw [Nat.zero_add, Array.getElem?_toList]) (fun j => by rw [Nat.zero_add]) hp
    simp only [regF, Bool.and_eq_true] at hF0
    have h0 : xs[k]? = some o := by simpa using (hl 0).symm
    have hk : k < ops.size := by rw [← hxl]; exact (List.getElem?_eq_some_iff.1 h0).1
    obtain ⟨o', ho0⟩ : ∃ o', ops[k]? = some o' := ⟨_, Array.getElem?_eq_getElem hk⟩
    have hl' : ∀ i, l[i]? = xs[k + 1 + i]? := fun i => by have := hl (i + 1); simpa [Nat.add_assoc, Nat.add_comm 1 i] using this
    have hr : k ∈ Region.ready .any ops listed := by
      refine mem_ready.2 ⟨by rw [hls k hk]; simp, o', ho0, fun e he hb => ?_⟩
      have hek : e.on < k := hp1 k o' (Nat.zero_le _) ho0 e he hb
      have h3 := hls e.on (by omega)
      rw [decide_eq_true hek] at h3
      have h4 : e.on < listed.size := by omega
      simpa [h4] using h3
    have hFk : ∃ b m, F.drop k = b :: m ∧ lvSub lv b = true ∧ lvLe lvs m = true := by
      cases hd : F.drop k with
      | nil => rw [hd] at hF; cases hF
      | cons b m => rw [hd] at hF; simp only [lvLe, Bool.and_eq_true] at hF; exact ⟨b, m, rfl, hF⟩
    obtain ⟨b, m, hd, hb, hm⟩ := hFk
    have hFb : F.getD k .none = b := by
      have : (F.drop k)[0]? = some b := by rw [hd]; rfl
      rw [List.getElem?_drop, Nat.add_zero] at this
      rw [List.getD_eq_getElem?_getD, this]; rfl
    have hFm : F.drop (k + 1) = m := by
      rw [← List.drop_drop, hd]; rfl
    refine anyX_first h0 l.length listed c c1 lv hcl (fun j oj hj hjk hun => ?_) hr h1 (by rw [hFb]; exact hb) (anyX_lex hp (by simp only [regF, Bool.and_eq_true]; exact hF0) l (k + 1) _ c1 lvs hxl hl' (by simp only [List.length_cons] at hkl; omega) (by simpa using hsz) (fun j hj => ?_) (closed_set hcl hr) h2 (by rw [hFm]; exact hm))
    · have hjs : j < ops.size := by rw [← hxl]; exact (List.getElem?_eq_some_iff.1 hj).1
      have hkj : k < j := by
        rcases Nat.lt_or_ge j k with q | q
        · have := hls j hjs
          rw [hun] at this; simp [q] at this
        · omega
      refine (hp2 k o j oj (Nat.zero_le _) hkj h0 hj).imp id fun ⟨q1, q2⟩ => ⟨q1, ?_⟩
      rcases q2 with ⟨js, q3, q4⟩ | q3 | q3
      · exact pairOK_ok hF0.2 k js j q3 q4
      · rw [quietF_ok hF0.1 k o h0 q3]; rfl
      · rw [quietF_ok hF0.1 j oj hj q3, lvOK_comm]; rfl
    · by_cases q : k = j
      · subst q
        have h4 : k < listed.size := by omega
        simp [h4]
      · rw [getD_set_ne true q, hls j hj]
        congr 1
        simp only [eq_iff_iff]; omega
end

section
variable {G : List (Value × AV)} {B : Nat} {S0 : Nat → Prop} {w0 w : World} {c c' : Cfg} {a : Act} {P : Program} {R : Rel} {kb : Nat} {own : Nat → Bool} {ops : Array Oper} {xs : List XOper}

theorem ops_at (hx : ops.toList.mapM (compOper P own ops) = some xs) {i : Nat} {xo : XOper} (hi : xs[i]? = some xo) : ∃ o, ops[i]? = some o ∧ compOper P own ops o = some xo := by
  obtain ⟨h1, h2⟩ := mapM_some hx
  have hlt : i < xs.length := (List.getElem?_eq_some_iff.1 hi).1
  have hlt2 : i < ops.size := by rw [h1] at hlt; simpa using hlt
  have : ops.toList[i]? = some ops[i] := by simp [hlt2]
  exact ⟨ops[i], by simp [hlt2], h2 i _ xo this hi⟩

theorem anyX_wp (hR : RelOK P R) (hx : ops.toList.mapM (compOper P own ops) = some xs) {F : List Lv} {Q : Exit → Act → World → Prop} {QC : Cfg → Prop} (hQ : ∀ d a w, QC d → Sits G B S0 w0 d a w → Q .normal a w) :
    ∀ (n : Nat) (listed : Array Bool) (c : Cfg) (a : Act) (w : World), Sits G B S0 w0 c a w → AnyX P R kb ops xs F QC n listed c → wpAny P .any ops Q n listed a w
  | 0, _, c, a, w, hs, h => ⟨h.1, hQ c a w h.2 hs⟩
  | n + 1, _, c, a, w, hs, h => ⟨fun h0 => hQ c a w (h.1 h0) hs, fun i hi => by
    obtain ⟨xo, c', lv, hxo, h1, _, h2⟩ := h.2 i hi
    obtain ⟨o, ho, hco⟩ := ops_at hx hxo
    exact op1_ok hR ho hco h1 hs fun a' w' hs' => anyX_wp hR hx hQ n _ c' a' w' hs' h2⟩

theorem opsRun_wp (hR : RelOK P R) (hx : ops.toList.mapM (compOper P own ops) = some xs) {Q : Exit → Act → World → Prop} (hQ : ∀ a w, Sits G B S0 w0 c' a w → Q .normal a w) :
    ∀ (l : List XOper) (k : Nat) (lvs : List Lv) (c : Cfg) (a : Act) (w : World), (∀ j, l[j]? = xs[k + j]?) → Sits G B S0 w0 c a w → OpsRun P R kb l c c' lvs → wpOps P ops Q (List.range' k l.length) a w
  | [], k, lvs, c, a, w, hl, hs, h => by cases h; exact hQ a w hs
  | o :: l, k, lvs, c, a, w, hl, hs, h => by
    cases h with | cons _ _ _ c1 _ lv lvs h1 h2 =>
    have h0 : xs[k]? = some o := by simpa using (hl 0).symm
    obtain ⟨op, ho, hco⟩ := ops_at hx h0
    rw [List.length_cons, List.range'_succ, wpOps_cons]
    exact op1_ok hR ho hco h1 hs fun a' w' hs' => opsRun_wp hR hx hQ l (k + 1) lvs c1 a' w' (fun j => by have := hl (j + 1); simpa [Nat.add_assoc, Nat.add_comm 1 j] using this) hs' h2

theorem opsG_wp (hR : RelOK P R) (hx : ops.toList.mapM (compOper P own ops) = some xs) {Q : Exit → Act → World → Prop} (hQ : ∀ a w, Sits G B S0 w0 c' a w → Q .normal a w) {l : List XOper} {c : Cfg} (h : OpsG P R kb l c c') :
    ∀ (k : Nat) (a : Act) (w : World), (∀ j, l[j]? = xs[k + j]?) → Sits G B S0 w0 c a w → wpOps P ops Q (List.range' k l.length) a w := by
  induction h with
  | nil c => intro k a w hl hs; exact hQ a w hs
  | cons o l c c1 c2 lv h1 h2 ih =>
    intro k a w hl hs
    have h0 : xs[k]? = some o := by simpa using (hl 0).symm
    obtain ⟨op, ho, hco⟩ := ops_at hx h0
    rw [List.length_cons, List.range'_succ, wpOps_cons]
    exact op1_ok hR ho hco h1 hs fun a' w' hs' => ih hQ (k + 1) a' w' (fun j => by have := hl (j + 1); simpa [Nat.add_assoc, Nat.add_comm 1 j] using this) hs'
  | give l c c1 c2 t h1 h2 ih =>
    intro k a w hl hs
    exact ih hQ k a w hl (hs.give h1)
theorem regionG_ok (hR : RelOK P R) (hx : ops.toList.mapM (compOper P own ops) = some xs) {id : Nat} (h : OpsG P R kb xs c c') (hs : Sits G B S0 w0 c a w) {Q : Exit → Act → World → Prop} (hQ : ∀ a w, Sits G B S0 w0 c' a w → Q .normal a w) : (Code.region id ops false).wp P Q a w := by
  have hl : xs.length = ops.size := by have := (mapM_some hx).1; simpa using this
  refine wp_region ?_
  rw [List.range_eq_range', ← hl]
  exact opsG_wp hR hx hQ h 0 a w (by simp) hs
theorem Sits.drawn (h : Sits G B S0 w0 c a w) : Sits G B S0 w0 c a { w with drawn := w.drawn + 1 } := ⟨h.1, let ⟨Γ, h2⟩ := h.2; ⟨Γ, h2.grow (Below.refl _ w).drew⟩⟩

def lvsOK (xs : List XOper) (F : List Lv) : Option (List (Nat × List Nat)) → Prop
  | none => True
  | some prs => regF xs prs F = true
def regOK (ops : Array Oper) (xs : List XOper) (draw : Bool) : Option (List (Nat × List Nat)) → Prop
  | none => draw = false
  | some prs => pairsC 0 ops.toList xs = some prs
/-- a region: in the order of the text, or (with levels under which its operations stay) in any -/
theorem region_ok (hm : P.follows .mixedOrders = true) (hR : RelOK P R) (hx : ops.toList.mapM (compOper P own ops) = some xs) {id : Nat} {draw : Bool} {prs : Option (List (Nat × List Nat))} (hp : regOK ops xs draw prs) {lvs F : List Lv} (h : OpsRun P R kb xs c c' lvs)
    (hlv : lvLe lvs F = true) (hF : lvsOK xs F prs) (hs : Sits G B S0 w0 c a w) {Q : Exit → Act → World → Prop} (hQ : ∀ a w, Sits G B S0 w0 c' a w → Q .normal a w) : (Code.region id ops draw).wp P Q a w := by
  have hl : xs.length = ops.size := by have := (mapM_some hx).1; simpa using this
  have plain : (Code.region id ops false).wp P Q a w := by
    refine wp_region ?_
    rw [List.range_eq_range', ← hl]
    exact opsRun_wp hR hx hQ xs 0 lvs c a w (by simp) hs h
  cases prs with
  | none => simp only [regOK] at hp; subst hp; exact plain
  | some prs =>
    cases draw with
    | false => exact plain
    | true =>
      refine wp_region_any hm ?_
      have hany := anyX_lex (ops := ops) hp hF xs 0 (Array.replicate ops.size false) c lvs hl (fun j => by rw [Nat.zero_add]) (Nat.zero_add _) (by simp) (fun j hj => by simp [hj]) (fun m o _ hm => by
        rcases Nat.lt_or_ge m ops.size with q | q
        · simp [q] at hm
        · simp [Array.getElem?_eq_none, q] at hm) h hlv
      rw [hl] at hany
      exact anyX_wp hR hx (fun d a w q hs => by subst q; exact hQ a w hs) _ _ c a _ hs.drawn hany

/-! ### code -/
end
inductive XCode where
  | skip
  | region (xs : List XOper) (prs : Option (List (Nat × List Nat)))
  | seq (a b : XCode)
  | cond (x : XArg) (t e : XCode)
  | block (id : Nat) (b : XCode)
  | loop (b : XCode)
  | exit (id : Nat)
  | scope (b : XCode)
  | ret
  | label (l : Nat)
  | goto (l : Nat)
  /-- what is left of a scope's code, and the whole of it -/
  | scopeAt (b x : XCode)
  deriving Inhabited
inductive Out where
  | normal
  | exit (id : Nat)
  | ret
  | goto (l : Nat)
  deriving DecidableEq
def isGoto : Out → Bool
  | .goto _ => true
  | _ => false
/-- what stands behind a label -/
def findX : XCode → Nat → Option XCode
  | .seq a b, l => match findX a l with
    | some r => some (.seq r b)
    | none => findX b l
  | .label l', l => if l' == l then some .skip else none
  | _, _ => none

def compRegion (P : Program) (own : Nat → Bool) (ops : Array Oper) (draw : Bool) : Option XCode :=
  match ops.toList.mapM (compOper P own ops) with
  | some xs =>
    match draw with
    | false => some (.region xs none)
    | true => match pairsC 0 ops.toList xs with
      | some prs => some (.region xs (some prs))
      | none => none
  | none => none
def compCode (P : Program) (own : Nat → Bool) : Code → Option XCode
  | .skip => some .skip
  | .label l => some (.label l)
  | .region _ ops draw => compRegion P own ops draw
  | .seq a b => match compCode P own a, compCode P own b with | some a, some b => some (.seq a b) | _, _ => none
  | .cond x t e => match argT x, compCode P own t, compCode P own e with | some x, some t, some e => some (.cond x t e) | _, _, _ => none
  | .block id b => match compCode P own b with | some b => some (.block id b) | none => none
  | .loop b => match compCode P own b with | some b => some (.loop b) | none => none
  | .exit id => some (.exit id)
  | .scope b => match compCode P own b with | some b => some (.scope b) | none => none
  | .ret => some .ret
  | .goto l => some (.goto l)
  | _ => none

inductive Ex (P : Program) (R : Rel) (kb : Nat) : XCode → Cfg → Out → Cfg → Prop
  | skip (c : Cfg) : Ex P R kb .skip c .normal c
  | region (xs : List XOper) (prs : Option (List (Nat × List Nat))) (c c' : Cfg) (lvs F : List Lv) (h : OpsRun P R kb xs c c' lvs) (hl : lvLe lvs F = true) (hF : lvsOK xs F prs) : Ex P R kb (.region xs prs) c .normal c'
  | regionG (xs : List XOper) (c c' : Cfg) (h : OpsG P R kb xs c c') : Ex P R kb (.region xs none) c .normal c'
  | seqN (x y : XCode) (c c1 c2 : Cfg) (o : Out) (h1 : Ex P R kb x c .normal c1) (h2 : Ex P R kb y c1 o c2) : Ex P R kb (.seq x y) c o c2
  | seqX (x y : XCode) (c c1 : Cfg) (o : Out) (h1 : Ex P R kb x c o c1) (hne : o ≠ .normal) : Ex P R kb (.seq x y) c o c1
  | condT (x : XArg) (t e : XCode) (c c1 : Cfg) (o : Out) (hx : evalA c.σ x = .v (.bool true)) (h : Ex P R kb t c o c1) : Ex P R kb (.cond x t e) c o c1
  | condF (x : XArg) (t e : XCode) (c c1 : Cfg) (o : Out) (hx : evalA c.σ x = .v (.bool false)) (h : Ex P R kb e c o c1) : Ex P R kb (.cond x t e) c o c1
  | block (id : Nat) (b : XCode) (c c1 : Cfg) (o : Out) (h : Ex P R kb b c o c1) : Ex P R kb (.block id b) c (if o = .exit id then .normal else o) c1
  | loopN (b : XCode) (c c1 c2 : Cfg) (o : Out) (h1 : Ex P R kb b c .normal c1) (h2 : Ex P R kb (.loop b) c1 o c2) : Ex P R kb (.loop b) c o c2
  | loopX (b : XCode) (c c1 : Cfg) (o : Out) (h1 : Ex P R kb b c o c1) (hne : o ≠ .normal) : Ex P R kb (.loop b) c o c1
  | exit (id : Nat) (c : Cfg) : Ex P R kb (.exit id) c (.exit id) c
  | scope (b : XCode) (c c1 : Cfg) (o : Out) (h : Ex P R kb (.scopeAt b b) c o c1) : Ex P R kb (.scope b) c o c1
  | scopeN (b x : XCode) (c c1 : Cfg) (o : Out) (h : Ex P R kb x c o c1) (hg : isGoto o = false) : Ex P R kb (.scopeAt b x) c o c1
  | scopeJ (b x r : XCode) (c c1 c2 : Cfg) (o : Out) (l : Nat) (h1 : Ex P R kb x c (.goto l) c1) (hf : findX b l = some r) (h2 : Ex P R kb (.scopeAt b r) c1 o c2) : Ex P R kb (.scopeAt b x) c o c2
  | label (l : Nat) (c : Cfg) : Ex P R kb (.label l) c .normal c
  | goto (l : Nat) (c : Cfg) : Ex P R kb (.goto l) c (.goto l) c
  | ret (c : Cfg) : Ex P R kb .ret c .ret c
  | weak (x : XCode) (c c1 c2 : Cfg) (o : Out) (hl : Le c c1) (h : Ex P R kb x c1 o c2) : Ex P R kb x c o c2
  | giv (x : XCode) (c c1 c2 : Cfg) (o : Out) (t : Nat) (hg : giveA c t = some c1) (h : Ex P R kb x c1 o c2) : Ex P R kb x c o c2

def toExit : Out → Exit
  | .normal => .normal
  | .exit id => .exit id
  | .ret => .ret
  | .goto l => .goto l

section
variable {G : List (Value × AV)} {B : Nat} {S0 : Nat → Prop} {w0 : World} {P : Program} {R : Rel} {kb : Nat} {own : Nat → Bool}
theorem then_of {K : Act → World → Prop} {Q : Exit → Act → World → Prop} {o : Out} (hne : o ≠ .normal) {a : Act} {w : World} (h : Q (toExit o) a w) : Exit.then K Q (toExit o) a w := by
  cases o <;> first | exact absurd rfl hne | exact h

def Inv (P : Program) (own : Nat → Bool) (code : Code) : XCode → Prop
  | .skip => code = .skip
  | .region xs F => ∃ id ops draw, code = .region id ops draw ∧ ops.toList.mapM (compOper P own ops) = some xs ∧ regOK ops xs draw F
  | .seq x y => ∃ a b, code = .seq a b ∧ compCode P own a = some x ∧ compCode P own b = some y
  | .cond xa t e => ∃ x a b, code = .cond x a b ∧ argT x = some xa ∧ compCode P own a = some t ∧ compCode P own b = some e
  | .block id x => ∃ a, code = .block id a ∧ compCode P own a = some x
  | .loop x => ∃ a, code = .loop a ∧ compCode P own a = some x
  | .exit id => code = .exit id
  | .scope x => ∃ a, code = .scope a ∧ compCode P own a = some x
  | .ret => code = .ret
  | .label l => code = .label l
  | .goto l => code = .goto l
  | .scopeAt _ _ => False
theorem comp_inv {code : Code} {x : XCode} (h : compCode P own code = some x) : Inv P own code x := by
  cases code with
  | skip => simp only [compCode, Option.some.injEq] at h; subst h; rfl
  | label l => simp only [compCode, Option.some.injEq] at h; subst h; rfl
  | region id ops draw =>
    simp only [compCode, compRegion] at h
    split at h <;> try (cases h; done)
    rename_i xs hxs
    split at h
    · injection h with h; subst h; exact ⟨id, ops, false, rfl, hxs, rfl⟩
    · split at h <;> try (cases h; done)
      injection h with h; subst h; exact ⟨id, ops, true, rfl, hxs, by assumption⟩
  | seq a b =>
    simp only [compCode] at h
    split at h <;> try (cases h; done)
    injection h with h; subst h; exact ⟨a, b, rfl, by assumption, by assumption⟩
  | cond x a b =>
    simp only [compCode] at h
    split at h <;> try (cases h; done)
    injection h with h; subst h; exact ⟨x, a, b, rfl, by assumption, by assumption, by assumption⟩
  | block id b =>
    simp only [compCode] at h
    split at h <;> try (cases h; done)
    injection h with h; subst h; exact ⟨b, rfl, by assumption⟩
  | loop b =>
    simp only [compCode] at h
    split at h <;> try (cases h; done)
    injection h with h; subst h; exact ⟨b, rfl, by assumption⟩
  | exit id => simp only [compCode, Option.some.injEq] at h; subst h; rfl
  | scope b =>
    simp only [compCode] at h
    split at h <;> try (cases h; done)
    injection h with h; subst h; exact ⟨b, rfl, by assumption⟩
  | ret => simp only [compCode, Option.some.injEq] at h; subst h; rfl
  | goto l => simp only [compCode, Option.some.injEq] at h; subst h; rfl
  | _ => simp only [compCode] at h; cases h

/-- the rounds of a loop, or the code itself -/
def WP (P : Program) (n : Nat) (Q : Exit → Act → World → Prop) (a : Act) (w : World) : Code → Prop
  | .loop b => Code.rounds P b Q n a w
  | code => code.wp P Q a w
theorem WP.wp {Q : Exit → Act → World → Prop} {a : Act} {w : World} {code : Code} {n : Nat} (h : WP P n Q a w code) : code.wp P Q a w := by
  cases code <;> first | exact h | exact wp_loop_rounds n h

theorem findL_ok {l : Nat} : ∀ (code : Code) (x : XCode), compCode P own code = some x → (∀ r, findX x l = some r → ∃ rest, findLabel code l = some rest ∧ compCode P own rest = some r) ∧ (findX x l = none → findLabel code l = none) := by
  intro code
  induction code with
  | seq a b iha ihb =>
    intro x h
    simp only [compCode] at h
    split at h <;> try (cases h; done)
    rename_i xa xb ha hb
    injection h with h; subst h
    obtain ⟨a1, a2⟩ := iha _ ha
    obtain ⟨b1, b2⟩ := ihb _ hb
    simp only [findX, findLabel]
    cases hfa : findX xa l with
    | some ra =>
      obtain ⟨rest, q1, q2⟩ := a1 ra hfa
      refine ⟨fun r hr => ?_, fun hr => by simp at hr⟩
      simp only [Option.some.injEq] at hr
      subst hr
      exact ⟨.seq rest b, by rw [q1], by simp only [compCode, q2, hb]⟩
    | none =>
      rw [a2 hfa]
      exact ⟨fun r hr => b1 r hr, fun hr => b2 hr⟩
  | label l' =>
    intro x h
    simp only [compCode, Option.some.injEq] at h
    subst h
    simp only [findX, findLabel]
    by_cases e : (l' == l) = true
    · rw [if_pos e, if_pos e]
      refine ⟨fun r hr => ?_, fun hr => by simp at hr⟩
      simp only [Option.some.injEq] at hr
      subst hr
      exact ⟨.skip, rfl, rfl⟩
    · rw [if_neg e, if_neg e]
      exact ⟨fun r hr => by simp at hr, fun _ => rfl⟩
  | _ =>
    intro x h
    refine ⟨fun r hr => ?_, fun _ => rfl⟩
    exfalso
    have h2 := comp_inv h
    cases x <;> simp only [findX, Inv] at hr h2 <;> first | (cases hr; done) | (obtain ⟨_, _, h3, _⟩ := h2; cases h3; done) | (cases h2; done)

/-- a scope's code is carried out from here on -/
def wpAt (P : Program) (body code : Code) (Q : Exit → Act → World → Prop) (a : Act) (w : World) : Prop :=
  ∀ (b : Frame) (k : List Item) (cs : List Frame), ∃ e a' w', Q e a' w' ∧ Arrives P (lone (b.at a (.code code :: .inScope body :: k)) cs w) b k cs e a' w'
theorem wp_scopeAt {Q : Exit → Act → World → Prop} {a : Act} {w : World} {c : Code} (h : wpAt P c c Q a w) : (Code.scope c).wp P Q a w := fun b k cs => by
  obtain ⟨e, a', w', q, r⟩ := h b k cs
  exact ⟨e, a', w', q, .of_steps (.one step_scope) r⟩
def jumps (P : Program) (body : Code) (Q : Exit → Act → World → Prop) : Exit → Act → World → Prop
  | .goto l, a, w => ∃ rest, findLabel body l = some rest ∧ wpAt P body rest Q a w
  | e, a, w => Q e a w
theorem wpAt_of {Q : Exit → Act → World → Prop} {a : Act} {w : World} {body code : Code} (h : code.wp P (jumps P body Q) a w) : wpAt P body code Q a w := by
  intro b k cs
  obtain ⟨e, a1, w1, hq, harr⟩ := h b (.inScope body :: k) cs
  cases e with
  | normal => exact ⟨.normal, a1, w1, hq, Steps.trans harr (.one step_inScope)⟩
  | exit id => exact ⟨.exit id, a1, w1, hq, fun k' hk => harr k' (by simp [exitTo, hk])⟩
  | goto l =>
    obtain ⟨rest, hf, h2⟩ := hq
    obtain ⟨e2, a2, w2, q2, r2⟩ := h2 b k cs
    exact ⟨e2, a2, w2, q2, .of_steps (harr _ (by simp [gotoIn, hf])) r2⟩
  | ret => exact ⟨_, a1, w1, hq, harr⟩
  | panic ch => exact ⟨_, a1, w1, hq, harr⟩
  | outgrown => exact ⟨_, a1, w1, hq, harr⟩

/-- what a run says of the code -/
def Good (G : List (Value × AV)) (B : Nat) (S0 : Nat → Prop) (w0 : World) (P : Program) (own : Nat → Bool) (n : Nat) (x : XCode) (c : Cfg) (o : Out) (c' : Cfg) : Prop := match x with
  | .scopeAt b y => ∀ (cb cy : Code), compCode P own cb = some b → compCode P own cy = some y → ∀ (a : Act) (w : World) (Q : Exit → Act → World → Prop), Sits G B S0 w0 c a w → (∀ a' w', Sits G B S0 w0 c' a' w' → Q (toExit o) a' w') → wpAt P cb cy Q a w
  | x => ∀ (code : Code), compCode P own code = some x → ∀ (a : Act) (w : World) (Q : Exit → Act → World → Prop), Sits G B S0 w0 c a w → (∀ a' w', Sits G B S0 w0 c' a' w' → Q (toExit o) a' w') → WP P n Q a w code
theorem Good.use {n : Nat} {x : XCode} {c c' : Cfg} {o : Out} (h : Good G B S0 w0 P own n x c o c') : ∀ (code : Code), compCode P own code = some x → ∀ (a : Act) (w : World) (Q : Exit → Act → World → Prop), Sits G B S0 w0 c a w → (∀ a' w', Sits G B S0 w0 c' a' w' → Q (toExit o) a' w') → WP P n Q a w code := by
  intro code hc
  cases x with
  | scopeAt b y => exact (comp_inv hc).elim
  | _ => exact h code hc
theorem ex_good (hm : P.follows .mixedOrders = true) (hR : RelOK P R) {x : XCode} {c c' : Cfg} {o : Out} (h : Ex P R kb x c o c') :
    ∃ n, Good G B S0 w0 P own n x c o c' := by
  induction h with
  | skip c =>
    refine ⟨0, ?_⟩
    intro code hc a w Q hs hQ
    have := comp_inv hc
    simp only [Inv] at this
    subst this
    exact wp_skip (hQ a w hs)
  | region xs prs c c' lvs F h hl hF =>
    refine ⟨0, ?_⟩
    intro code hc a w Q hs hQ
    obtain ⟨id, ops, draw, rfl, hxs, hp⟩ := comp_inv hc
    exact region_ok hm hR hxs hp h hl hF hs hQ
  | regionG xs c c' h =>
    refine ⟨0, ?_⟩
    intro code hc a w Q hs hQ
    obtain ⟨id, ops, draw, rfl, hxs, hF⟩ := comp_inv hc
    have hF : draw = false := hF
    subst hF
    exact regionG_ok hR hxs h hs hQ
  | seqN x y c c1 c2 o h1 h2 ih1 ih2 =>
    obtain ⟨n1, ih1⟩ := ih1
    have ih1 := ih1.use
    obtain ⟨n2, ih2⟩ := ih2
    have ih2 := ih2.use
    refine ⟨0, ?_⟩
    intro code hc a w Q hs hQ
    obtain ⟨p, q, rfl, hp, hq⟩ := comp_inv hc
    exact wp_seq (WP.wp (ih1 p hp a w _ hs fun a' w' hs' => (ih2 q hq a' w' Q hs' hQ).wp))
  | seqX x y c c1 o h1 hne ih1 =>
    obtain ⟨n1, ih1⟩ := ih1
    have ih1 := ih1.use
    refine ⟨0, ?_⟩
    intro code hc a w Q hs hQ
    obtain ⟨p, q, rfl, hp, hq⟩ := comp_inv hc
    exact wp_seq (WP.wp (ih1 p hp a w _ hs fun a' w' hs' => then_of hne (hQ a' w' hs')))
  | condT xa t e c c1 o hx h ih =>
    obtain ⟨n1, ih⟩ := ih
    have ih := ih.use
    refine ⟨0, ?_⟩
    intro code hc a w Q hs hQ
    obtain ⟨x, p, q, rfl, hxa, hp, hq⟩ := comp_inv hc
    obtain ⟨_, Γ, hH⟩ := hs
    have h1 := hH.arg hxa
    rw [hx] at h1
    exact wp_cond_true (v_inv h1) (ih p hp a w Q ⟨‹_›, Γ, hH⟩ hQ).wp
  | condF xa t e c c1 o hx h ih =>
    obtain ⟨n1, ih⟩ := ih
    have ih := ih.use
    refine ⟨0, ?_⟩
    intro code hc a w Q hs hQ
    obtain ⟨x, p, q, rfl, hxa, hp, hq⟩ := comp_inv hc
    obtain ⟨_, Γ, hH⟩ := hs
    have h1 := hH.arg hxa
    rw [hx] at h1
    exact wp_cond_false (v_inv h1) (ih q hq a w Q ⟨‹_›, Γ, hH⟩ hQ).wp
  | block id b c c1 o h ih =>
    obtain ⟨n1, ih⟩ := ih
    have ih := ih.use
    refine ⟨0, ?_⟩
    intro code hc a w Q hs hQ
    obtain ⟨p, rfl, hp⟩ := comp_inv hc
    refine wp_block (WP.wp (ih p hp a w _ hs fun a' w' hs' => ?_))
    have := hQ a' w' hs'
    cases o with
    | normal => exact this
    | ret => exact this
    | goto l => exact this
    | exit id' =>
      simp only [toExit, Exit.inBlock]
      by_cases e : id' = id
      · subst e; simp only [if_true] at this ⊢; exact this
      · rw [if_neg e]
        rw [if_neg (by intro q; injection q with q; exact e q)] at this
        exact this
  | loopN b c c1 c2 o h1 h2 ih1 ih2 =>
    obtain ⟨n1, ih1⟩ := ih1
    have ih1 := ih1.use
    obtain ⟨n2, ih2⟩ := ih2
    have ih2 := ih2.use
    refine ⟨n2 + 1, ?_⟩
    intro code hc a w Q hs hQ
    have hcc := hc
    obtain ⟨p, rfl, hp⟩ := comp_inv hc
    exact WP.wp (ih1 p hp a w (Exit.then (Code.rounds P p Q n2) Q) hs fun a' w' hs' => ih2 _ hcc a' w' Q hs' hQ)
  | loopX b c c1 o h1 hne ih1 =>
    obtain ⟨n1, ih1⟩ := ih1
    have ih1 := ih1.use
    refine ⟨1, ?_⟩
    intro code hc a w Q hs hQ
    obtain ⟨p, rfl, hp⟩ := comp_inv hc
    exact WP.wp (ih1 p hp a w (Exit.then (Code.rounds P p Q 0) Q) hs fun a' w' hs' => then_of hne (hQ a' w' hs'))
  | exit id c =>
    refine ⟨0, ?_⟩
    intro code hc a w Q hs hQ
    have := comp_inv hc
    simp only [Inv] at this
    subst this
    exact wp_exit (hQ a w hs)
  | scope b c c1 o h ih =>
    obtain ⟨n1, ih0⟩ := ih
    refine ⟨0, ?_⟩
    intro code hc a w Q hs hQ
    obtain ⟨p, rfl, hp⟩ := comp_inv hc
    exact wp_scopeAt (ih0 p p hp hp a w Q hs hQ)
  | scopeN b x c c1 o h hg ih =>
    obtain ⟨n1, ih⟩ := ih
    have ih := ih.use
    refine ⟨0, ?_⟩
    intro cb cy hb hy a w Q hs hQ
    refine wpAt_of (WP.wp (ih cy hy a w _ hs fun a' w' hs' => ?_))
    have := hQ a' w' hs'
    cases o with
    | goto l => cases hg
    | _ => exact this
  | scopeJ b x r c c1 c2 o l h1 hf h2 ih1 ih2 =>
    obtain ⟨n1, ih1⟩ := ih1
    have ih1 := ih1.use
    obtain ⟨n2, ih0⟩ := ih2
    refine ⟨0, ?_⟩
    intro cb cy hb hy a w Q hs hQ
    refine wpAt_of (WP.wp (ih1 cy hy a w _ hs fun a' w' hs' => ?_))
    obtain ⟨rest, q1, q2⟩ := (findL_ok cb b hb).1 r hf
    exact ⟨rest, q1, ih0 cb rest hb q2 a' w' Q hs' hQ⟩
  | label l c =>
    refine ⟨0, ?_⟩
    intro code hc a w Q hs hQ
    have := comp_inv hc
    simp only [Inv] at this
    subst this
    exact wp_label (hQ a w hs)
  | goto l c =>
    refine ⟨0, ?_⟩
    intro code hc a w Q hs hQ
    have := comp_inv hc
    simp only [Inv] at this
    subst this
    exact wp_goto (hQ a w hs)
  | ret c =>
    refine ⟨0, ?_⟩
    intro code hc a w Q hs hQ
    have := comp_inv hc
    simp only [Inv] at this
    subst this
    exact wp_ret (hQ a w hs)
  | weak x c c1 c2 o hl h ih =>
    obtain ⟨n1, ih0⟩ := ih
    refine ⟨n1, ?_⟩
    cases x with
    | scopeAt b y => exact fun cb cy hb hy a w Q hs hQ => ih0 cb cy hb hy a w Q (hs.le hl) hQ
    | _ => exact fun code hc a w Q hs hQ => ih0 code hc a w Q (hs.le hl) hQ
  | giv x c c1 c2 o t hg h ih =>
    obtain ⟨n1, ih0⟩ := ih
    refine ⟨n1, ?_⟩
    cases x with
    | scopeAt b y => exact fun cb cy hb hy a w Q hs hQ => ih0 cb cy hb hy a w Q (hs.giveA hg) hQ
    | _ => exact fun code hc a w Q hs hQ => ih0 code hc a w Q (hs.giveA hg) hQ
theorem ex_ok (hm : P.follows .mixedOrders = true) (hR : RelOK P R) {x : XCode} {c c' : Cfg} {o : Out} (h : Ex P R kb x c o c') :
    ∃ n, ∀ (code : Code), compCode P own code = some x → ∀ (a : Act) (w : World) (Q : Exit → Act → World → Prop), Sits G B S0 w0 c a w → (∀ a' w', Sits G B S0 w0 c' a' w' → Q (toExit o) a' w') → WP P n Q a w code := by
  obtain ⟨n, hn⟩ := ex_good (G := G) (B := B) (S0 := S0) (w0 := w0) (own := own) hm hR h
  exact ⟨n, hn.use⟩
end
end Go.Proofs.Eng
