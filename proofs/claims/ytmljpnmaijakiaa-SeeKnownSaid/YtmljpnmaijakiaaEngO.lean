/-
  Regions in any order; code; functions.
-/
import Derived.Test.YtmljpnmaijakiaaEngN
import Derived.LoopN
import Derived.Scope
set_option linter.unusedSimpArgs false
set_option linter.unusedVariables false
namespace Go.Proofs.Eng
open Go Go.RowKit

section
variable {P : Program} {R : Rel} {kb : Nat} {ops : Array Oper} {xs : List XOper} {F : List Nat}

def waitsB (ops : Array Oper) : Nat → Nat → Nat → Bool
  | 0, _, _ => false
  | f + 1, j, i => match ops[j]? with
    | some o => o.after.toList.any fun e => Region.binds .any e && (e.on == i || waitsB ops f e.on i)
    | none => false
/-- what is listed has all that it waits for listed -/
def ClosedL (ops : Array Oper) (listed : Array Bool) : Prop := ∀ (m : Nat) (o : Oper), ops[m]? = some o → listed.getD m false = true → ∀ e, e ∈ o.after → Region.binds .any e = true → listed.getD e.on false = true
theorem waits_listed {listed : Array Bool} (hc : ClosedL ops listed) : ∀ (f j i : Nat), listed.getD j false = true → waitsB ops f j i = true → listed.getD i false = true
  | 0, _, _, _, h => by cases h
  | f + 1, j, i, hj, h => by
    simp only [waitsB] at h
    split at h <;> try (cases h; done)
    rename_i o ho
    obtain ⟨e, he, h2⟩ := List.any_eq_true.1 h
    simp only [Bool.and_eq_true, Bool.or_eq_true, beq_iff_eq] at h2
    have h3 := hc j o ho hj e (by simpa using he) h2.1
    rcases h2.2 with rfl | h4
    · exact h3
    · exact waits_listed hc f e.on i h3 h4
theorem waits_ready {listed : Array Bool} (hc : ClosedL ops listed) {f j i : Nat} (hj : j ∈ Region.ready .any ops listed) (h : waitsB ops f j i = true) : listed.getD i false = true := by
  obtain ⟨_, o, ho, hall⟩ := mem_ready.1 hj
  cases f with
  | zero => cases h
  | succ f =>
    simp only [waitsB, ho] at h
    obtain ⟨e, he, h2⟩ := List.any_eq_true.1 h
    simp only [Bool.and_eq_true, Bool.or_eq_true, beq_iff_eq] at h2
    have h3 := hall e (by simpa using he) h2.1
    rcases h2.2 with rfl | h4
    · exact h3
    · exact waits_listed hc f e.on i h3 h4
theorem closed_set {listed : Array Bool} (hc : ClosedL ops listed) {i : Nat} (hi : i ∈ Region.ready .any ops listed) : ClosedL ops (listed.setIfInBounds i true) := by
  obtain ⟨hun, o, ho, hall⟩ := mem_ready.1 hi
  intro m o' ho' hm e he hb
  by_cases hmi : i = m
  · subst hmi
    rw [ho] at ho'; injection ho' with ho'; subst ho'
    exact getD_set_true (hall e he hb)
  · rw [getD_set_ne false hmi] at hm
    exact getD_set_true (hc m o' ho' hm e he hb)

/-- whatever order is picked from here on -/
def AnyX (P : Program) (R : Rel) (kb : Nat) (ops : Array Oper) (xs : List XOper) (F : List Nat) (Q : Cfg → Prop) : Nat → Array Bool → Cfg → Prop
  | 0, listed, c => Region.ready .any ops listed = [] ∧ Q c
  | n + 1, listed, c => (Region.ready .any ops listed = [] → Q c) ∧ ∀ i ∈ Region.ready .any ops listed, ∃ o c' lv, xs[i]? = some o ∧ Op1 P R kb o c c' lv ∧ lv ≤ F.getD i 0 ∧ AnyX P R kb ops xs F Q n (listed.setIfInBounds i true) c'
/-- an operation that may come up now may be taken first -/
theorem anyX_first {Q : Cfg → Prop} {i : Nat} {oi : XOper} (hi : xs[i]? = some oi) : ∀ (n : Nat) (listed : Array Bool) (c c1 : Cfg) (lv : Nat), ClosedL ops listed →
    (∀ j oj, xs[j]? = some oj → j ≠ i → listed.getD j true = false → waitsB ops ops.size j i = true ∨ (apartX oi oj = true ∧ lvOK (F.getD i 0) (F.getD j 0) = true)) →
    i ∈ Region.ready .any ops listed → Op1 P R kb oi c c1 lv → lv ≤ F.getD i 0 → AnyX P R kb ops xs F Q n (listed.setIfInBounds i true) c1 → AnyX P R kb ops xs F Q (n + 1) listed c
  | 0, listed, c, c1, lv, hcl, hfree, hr, h1, hlv, H => by
    refine ⟨fun h => (by rw [h] at hr; cases hr), fun j hj => ?_⟩
    by_cases hji : j = i
    · subst hji; exact ⟨oi, c1, lv, hi, h1, hlv, H⟩
    · have := ready_mono hj hji
      rw [H.1] at this
      cases this
  | n + 1, listed, c, c1, lv, hcl, hfree, hr, h1, hlv, H => by
    refine ⟨fun h => (by rw [h] at hr; cases hr), fun j hj => ?_⟩
    by_cases hji : j = i
    · subst hji; exact ⟨oi, c1, lv, hi, h1, hlv, H⟩
    · obtain ⟨oj, c2, lvj, hoj, h2, hlvj, H2⟩ := H.2 j (ready_mono hj hji)
      have hjun : listed.getD j true = false := (mem_ready.1 hj).1
      have hiun : listed.getD i true = false := (mem_ready.1 hr).1
      have hnw : waitsB ops ops.size j i = false := by
        cases hw : waitsB ops ops.size j i with
        | false => rfl
        | true =>
          have := waits_ready hcl hj hw
          rcases Nat.lt_or_ge i listed.size with h' | h'
          · simp [h'] at hiun this; rw [hiun] at this; cases this
          · simp [Array.getElem?_eq_none h'] at hiun
      obtain ⟨hap, hok⟩ := (hfree j oj hoj hji hjun).resolve_left (by rw [hnw]; simp)
      obtain ⟨c', h3, h4⟩ := op1_swap hap (lvOK_le hok hlv hlvj) h1 h2
      refine ⟨oj, c', lvj, hoj, h3, hlvj, ?_⟩
      refine anyX_first hi n (listed.setIfInBounds j true) c' c2 lv (closed_set hcl hj) (fun k ok hk hki hun => ?_) (ready_mono hr (Ne.symm hji)) h4 hlv ?_
      · refine hfree k ok hk hki ?_
        by_cases hjk : j = k
        · subst hjk; exact hjun
        · rw [getD_set_ne true hjk] at hun; exact hun
      · rw [Array.setIfInBounds_comm _ _ hji]; exact H2

def lexChk (ops : Array Oper) (xs : List XOper) (F : List Nat) : Nat → Nat → Array Bool → Bool
  | 0, _, listed => (Region.ready .any ops listed).isEmpty
  | n + 1, k, listed => (Region.ready .any ops listed).contains k &&
    (List.range xs.length).all (fun j => j == k || listed.getD j true || waitsB ops ops.size j k ||
      ((match xs[k]?, xs[j]? with | some x, some y => apartX x y | _, _ => false) && lvOK (F.getD k 0) (F.getD j 0))) && lexChk ops xs F n (k + 1) (listed.setIfInBounds k true)

inductive OpsRun (P : Program) (R : Rel) (kb : Nat) : List XOper → Cfg → Cfg → List Nat → Prop
  | nil (c : Cfg) : OpsRun P R kb [] c c []
  | cons (o : XOper) (l : List XOper) (c c1 c2 : Cfg) (lv : Nat) (lvs : List Nat) (h1 : Op1 P R kb o c c1 lv) (h2 : OpsRun P R kb l c1 c2 lvs) : OpsRun P R kb (o :: l) c c2 (lv :: lvs)
/-- operations in the order of the text; between them owned rows may be given up -/
inductive OpsG (P : Program) (R : Rel) (kb : Nat) : List XOper → Cfg → Cfg → Prop
  | nil (c : Cfg) : OpsG P R kb [] c c
  | cons (o : XOper) (l : List XOper) (c c1 c2 : Cfg) (lv : Nat) (h1 : Op1 P R kb o c c1 lv) (h2 : OpsG P R kb l c1 c2) : OpsG P R kb (o :: l) c c2
  | give (l : List XOper) (c c1 c2 : Cfg) (t : Nat) (h1 : giveT c t = some c1) (h2 : OpsG P R kb l c1 c2) : OpsG P R kb l c c2
def lvLe : List Nat → List Nat → Bool
  | [], [] => true
  | a :: l, b :: m => a ≤ b && lvLe l m
  | _, _ => false

theorem anyX_lex {c' : Cfg} : ∀ (l : List XOper) (k : Nat) (listed : Array Bool) (c : Cfg) (lvs : List Nat), (∀ j, l[j]? = xs[k + j]?) → ClosedL ops listed → lexChk ops xs F l.length k listed = true → OpsRun P R kb l c c' lvs → lvLe lvs (F.drop k) = true →
    AnyX P R kb ops xs F (fun d => d = c') l.length listed c
  | [], k, listed, c, lvs, hl, hcl, hB, h, hF => by
    cases h
    exact ⟨by simpa [lexChk] using hB, rfl⟩
  | o :: l, k, listed, c, lvs, hl, hcl, hB, h, hF => by
    cases h with | cons _ _ _ c1 _ lv lvs h1 h2 =>
    have h0 : xs[k]? = some o := by simpa using (hl 0).symm
    simp only [List.length_cons, lexChk, Bool.and_eq_true] at hB
    obtain ⟨⟨hr, hf⟩, hB'⟩ := hB
    have hr : k ∈ Region.ready .any ops listed := by simpa using hr
    have hFk : ∃ b m, F.drop k = b :: m ∧ lv ≤ b ∧ lvLe lvs m = true := by
      cases hd : F.drop k with
      | nil => rw [hd] at hF; cases hF
      | cons b m => rw [hd] at hF; simp only [lvLe, Bool.and_eq_true, decide_eq_true_eq] at hF; exact ⟨b, m, rfl, hF⟩
    obtain ⟨b, m, hd, hb, hm⟩ := hFk
    have hFb : F.getD k 0 = b := by
      have : (F.drop k)[0]? = some b := by rw [hd]; rfl
      rw [List.getElem?_drop, Nat.add_zero] at this
      rw [List.getD_eq_getElem?_getD, this]; rfl
    have hFm : F.drop (k + 1) = m := by
      rw [← List.drop_drop, hd]; rfl
    refine anyX_first h0 l.length listed c c1 lv hcl (fun j oj hj hjk hun => ?_) hr h1 (by rw [hFb]; exact hb) (anyX_lex l (k + 1) _ c1 lvs (fun j => by have := hl (j + 1); simpa [Nat.add_assoc, Nat.add_comm 1 j] using this) (closed_set hcl hr) hB' h2 (by rw [hFm]; exact hm))
    have hlt : j < xs.length := (List.getElem?_eq_some_iff.1 hj).1
    have := List.all_eq_true.1 hf j (List.mem_range.2 hlt)
    simp only [Bool.or_eq_true, beq_iff_eq, h0, hj, Bool.and_eq_true] at this
    rcases this with ((h3 | h3) | h3) | h3
    · exact absurd h3 hjk
    · rw [hun] at h3; cases h3
    · exact .inl h3
    · exact .inr h3
end

section
variable {G : List (Value × AV)} {B : Nat} {S0 : Nat → Prop} {w0 w : World} {c c' : Cfg} {a : Act} {P : Program} {R : Rel} {kb : Nat} {own : Nat → Bool} {ops : Array Oper} {xs : List XOper}

theorem ops_at (hx : ops.toList.mapM (compOper P own ops) = some xs) {i : Nat} {xo : XOper} (hi : xs[i]? = some xo) : ∃ o, ops[i]? = some o ∧ compOper P own ops o = some xo := by
  obtain ⟨h1, h2⟩ := mapM_some hx
  have hlt : i < xs.length := (List.getElem?_eq_some_iff.1 hi).1
  have hlt2 : i < ops.size := by rw [h1] at hlt; simpa using hlt
  have : ops.toList[i]? = some ops[i] := by simp [hlt2]
  exact ⟨ops[i], by simp [hlt2], h2 i _ xo this hi⟩

theorem anyX_wp (hR : RelOK P R) (hx : ops.toList.mapM (compOper P own ops) = some xs) {F : List Nat} {Q : Exit → Act → World → Prop} {QC : Cfg → Prop} (hQ : ∀ d a w, QC d → Sits G B S0 w0 d a w → Q .normal a w) :
    ∀ (n : Nat) (listed : Array Bool) (c : Cfg) (a : Act) (w : World), Sits G B S0 w0 c a w → AnyX P R kb ops xs F QC n listed c → wpAny P .any ops Q n listed a w
  | 0, _, c, a, w, hs, h => ⟨h.1, hQ c a w h.2 hs⟩
  | n + 1, _, c, a, w, hs, h => ⟨fun h0 => hQ c a w (h.1 h0) hs, fun i hi => by
    obtain ⟨xo, c', lv, hxo, h1, _, h2⟩ := h.2 i hi
    obtain ⟨o, ho, hco⟩ := ops_at hx hxo
    exact op1_ok hR ho hco h1 hs fun a' w' hs' => anyX_wp hR hx hQ n _ c' a' w' hs' h2⟩

theorem opsRun_wp (hR : RelOK P R) (hx : ops.toList.mapM (compOper P own ops) = some xs) {Q : Exit → Act → World → Prop} (hQ : ∀ a w, Sits G B S0 w0 c' a w → Q .normal a w) :
    ∀ (l : List XOper) (k : Nat) (lvs : List Nat) (c : Cfg) (a : Act) (w : World), (∀ j, l[j]? = xs[k + j]?) → Sits G B S0 w0 c a w → OpsRun P R kb l c c' lvs → wpOps P ops Q (List.range' k l.length) a w
  | [], k, lvs, c, a, w, hl, hs, h => by cases h; exact hQ a w hs
  | o :: l, k, lvs, c, a, w, hl, hs, h => by
    cases h with | cons _ _ _ c1 _ lv lvs h1 h2 =>
    have h0 : xs[k]? = some o := by simpa using (hl 0).symm
    obtain ⟨op, ho, hco⟩ := ops_at hx h0
    rw [List.length_cons, List.range'_succ, wpOps_cons]
    exact op1_ok hR ho hco h1 hs fun a' w' hs' => opsRun_wp hR hx hQ l (k + 1) lvs c1 a' w' (fun j => by have := hl (j + 1); simpa [Nat.add_assoc, Nat.add_comm 1 j] using this) hs' h2

theorem opsG_wp (hR : RelOK P R) (hx : ops.toList.mapM (compOper P own ops) = some xs) {Q : Exit → Act → World → Prop} (hQ : ∀ a w, Sits G B S0 w0 c' a w → Q .normal a w) {l : List XOper} {c : Cfg} (h : OpsG P R kb l c c') :
    ∀ (k : Nat) (a : Act) (w : World), (∀ j, l[j]? = xs[k + j]?) → Sits G B S0 w0 c a w → wpOps P ops Q (List.range' k l.length) a w := by
  induction h with
  | nil c => intro k a w hl hs; exact hQ a w hs
  | cons o l c c1 c2 lv h1 h2 ih =>
    intro k a w hl hs
    have h0 : xs[k]? = some o := by simpa using (hl 0).symm
    obtain ⟨op, ho, hco⟩ := ops_at hx h0
    rw [List.length_cons, List.range'_succ, wpOps_cons]
    exact op1_ok hR ho hco h1 hs fun a' w' hs' => ih hQ (k + 1) a' w' (fun j => by have := hl (j + 1); simpa [Nat.add_assoc, Nat.add_comm 1 j] using this) hs'
  | give l c c1 c2 t h1 h2 ih =>
    intro k a w hl hs
    exact ih hQ k a w hl (hs.give h1)
theorem regionG_ok (hR : RelOK P R) (hx : ops.toList.mapM (compOper P own ops) = some xs) {id : Nat} (h : OpsG P R kb xs c c') (hs : Sits G B S0 w0 c a w) {Q : Exit → Act → World → Prop} (hQ : ∀ a w, Sits G B S0 w0 c' a w → Q .normal a w) : (Code.region id ops false).wp P Q a w := by
  have hl : xs.length = ops.size := by have := (mapM_some hx).1; simpa using this
  refine wp_region ?_
  rw [List.range_eq_range', ← hl]
  exact opsG_wp hR hx hQ h 0 a w (by simp) hs
theorem Sits.drawn (h : Sits G B S0 w0 c a w) : Sits G B S0 w0 c a { w with drawn := w.drawn + 1 } := ⟨h.1, let ⟨Γ, h2⟩ := h.2; ⟨Γ, h2.grow (Below.refl _ w).drew⟩⟩

def lvsOK (lvs : List Nat) : Option (List Nat) → Prop
  | none => True
  | some F => lvLe lvs F = true
def regOK (ops : Array Oper) (xs : List XOper) (draw : Bool) : Option (List Nat) → Prop
  | none => draw = false
  | some F => lexChk ops xs F xs.length 0 (Array.replicate ops.size false) = true
/-- a region: in the order of the text, or (with levels under which its operations stay) in any -/
theorem region_ok (hm : P.follows .mixedOrders = true) (hR : RelOK P R) (hx : ops.toList.mapM (compOper P own ops) = some xs) {id : Nat} {draw : Bool} {F : Option (List Nat)} (hF : regOK ops xs draw F) {lvs : List Nat} (h : OpsRun P R kb xs c c' lvs)
    (hlv : lvsOK lvs F) (hs : Sits G B S0 w0 c a w) {Q : Exit → Act → World → Prop} (hQ : ∀ a w, Sits G B S0 w0 c' a w → Q .normal a w) : (Code.region id ops draw).wp P Q a w := by
  have hl : xs.length = ops.size := by have := (mapM_some hx).1; simpa using this
  have plain : (Code.region id ops false).wp P Q a w := by
    refine wp_region ?_
    rw [List.range_eq_range', ← hl]
    exact opsRun_wp hR hx hQ xs 0 lvs c a w (by simp) hs h
  cases F with
  | none => simp only [regOK] at hF; subst hF; exact plain
  | some F =>
    cases draw with
    | false => exact plain
    | true =>
      refine wp_region_any hm ?_
      have hany := anyX_lex (ops := ops) xs 0 (Array.replicate ops.size false) c lvs (by simp) (fun m o _ hm => by
        rcases Nat.lt_or_ge m ops.size with q | q
        · simp [q] at hm
        · simp [Array.getElem?_eq_none, q] at hm) hF h hlv
      rw [hl] at hany
      exact anyX_wp hR hx (fun d a w q hs => by subst q; exact hQ a w hs) _ _ c a _ hs.drawn hany

/-! ### code -/
end
inductive XCode where
  | skip
  | region (xs : List XOper) (F : Option (List Nat))
  | seq (a b : XCode)
  | cond (x : XArg) (t e : XCode)
  | block (id : Nat) (b : XCode)
  | loop (b : XCode)
  | exit (id : Nat)
  | scope (b : XCode)
  | ret
  deriving Inhabited
inductive Out where
  | normal
  | exit (id : Nat)
  | ret
  deriving DecidableEq

def lvOf : XOp → Bool → Nat
  | .load .., strict => if strict then 1 else 0
  | .store .., _ | .box _ _ true _, _ | .bldS _ _ true _, _ | .mks _ _ true _ _ _ _, _ | .app .., _ | .appz .., _ => 2
  | .callv .., _ | .call .., _ => 0
  | _, _ => 0
def compRegion (P : Program) (own : Nat → Bool) (ops : Array Oper) (draw : Bool) : Option XCode :=
  match ops.toList.mapM (compOper P own ops) with
  | some xs =>
    match draw with
    | false => some (.region xs none)
    | true =>
      if lexChk ops xs (xs.map fun o => lvOf o.op true) xs.length 0 (Array.replicate ops.size false) = true then some (.region xs (some (xs.map fun o => lvOf o.op true)))
      else if lexChk ops xs (xs.map fun o => lvOf o.op false) xs.length 0 (Array.replicate ops.size false) = true then some (.region xs (some (xs.map fun o => lvOf o.op false))) else none
  | none => none
def compCode (P : Program) (own : Nat → Bool) : Code → Option XCode
  | .skip => some .skip
  | .label _ => some .skip
  | .region _ ops draw => compRegion P own ops draw
  | .seq a b => match compCode P own a, compCode P own b with | some a, some b => some (.seq a b) | _, _ => none
  | .cond x t e => match argT x, compCode P own t, compCode P own e with | some x, some t, some e => some (.cond x t e) | _, _, _ => none
  | .block id b => match compCode P own b with | some b => some (.block id b) | none => none
  | .loop b => match compCode P own b with | some b => some (.loop b) | none => none
  | .exit id => some (.exit id)
  | .scope b => match compCode P own b with | some b => some (.scope b) | none => none
  | .ret => some .ret
  | _ => none

inductive Ex (P : Program) (R : Rel) (kb : Nat) : XCode → Cfg → Out → Cfg → Prop
  | skip (c : Cfg) : Ex P R kb .skip c .normal c
  | region (xs : List XOper) (F : Option (List Nat)) (c c' : Cfg) (lvs : List Nat) (h : OpsRun P R kb xs c c' lvs) (hl : lvsOK lvs F) : Ex P R kb (.region xs F) c .normal c'
  | regionG (xs : List XOper) (c c' : Cfg) (h : OpsG P R kb xs c c') : Ex P R kb (.region xs none) c .normal c'
  | seqN (x y : XCode) (c c1 c2 : Cfg) (o : Out) (h1 : Ex P R kb x c .normal c1) (h2 : Ex P R kb y c1 o c2) : Ex P R kb (.seq x y) c o c2
  | seqX (x y : XCode) (c c1 : Cfg) (o : Out) (h1 : Ex P R kb x c o c1) (hne : o ≠ .normal) : Ex P R kb (.seq x y) c o c1
  | condT (x : XArg) (t e : XCode) (c c1 : Cfg) (o : Out) (hx : evalA c.σ x = .v (.bool true)) (h : Ex P R kb t c o c1) : Ex P R kb (.cond x t e) c o c1
  | condF (x : XArg) (t e : XCode) (c c1 : Cfg) (o : Out) (hx : evalA c.σ x = .v (.bool false)) (h : Ex P R kb e c o c1) : Ex P R kb (.cond x t e) c o c1
  | block (id : Nat) (b : XCode) (c c1 : Cfg) (o : Out) (h : Ex P R kb b c o c1) : Ex P R kb (.block id b) c (if o = .exit id then .normal else o) c1
  | loopN (b : XCode) (c c1 c2 : Cfg) (o : Out) (h1 : Ex P R kb b c .normal c1) (h2 : Ex P R kb (.loop b) c1 o c2) : Ex P R kb (.loop b) c o c2
  | loopX (b : XCode) (c c1 : Cfg) (o : Out) (h1 : Ex P R kb b c o c1) (hne : o ≠ .normal) : Ex P R kb (.loop b) c o c1
  | exit (id : Nat) (c : Cfg) : Ex P R kb (.exit id) c (.exit id) c
  | scope (b : XCode) (c c1 : Cfg) (o : Out) (h : Ex P R kb b c o c1) : Ex P R kb (.scope b) c o c1
  | ret (c : Cfg) : Ex P R kb .ret c .ret c
  | weak (x : XCode) (c c1 c2 : Cfg) (o : Out) (hl : Le c c1) (h : Ex P R kb x c1 o c2) : Ex P R kb x c o c2

def toExit : Out → Exit
  | .normal => .normal
  | .exit id => .exit id
  | .ret => .ret

section
variable {G : List (Value × AV)} {B : Nat} {S0 : Nat → Prop} {w0 : World} {P : Program} {R : Rel} {kb : Nat} {own : Nat → Bool}
theorem then_of {K : Act → World → Prop} {Q : Exit → Act → World → Prop} {o : Out} (hne : o ≠ .normal) {a : Act} {w : World} (h : Q (toExit o) a w) : Exit.then K Q (toExit o) a w := by
  cases o <;> first | exact absurd rfl hne | exact h

def Inv (P : Program) (own : Nat → Bool) (code : Code) : XCode → Prop
  | .skip => code = .skip ∨ ∃ l, code = .label l
  | .region xs F => ∃ id ops draw, code = .region id ops draw ∧ ops.toList.mapM (compOper P own ops) = some xs ∧ regOK ops xs draw F
  | .seq x y => ∃ a b, code = .seq a b ∧ compCode P own a = some x ∧ compCode P own b = some y
  | .cond xa t e => ∃ x a b, code = .cond x a b ∧ argT x = some xa ∧ compCode P own a = some t ∧ compCode P own b = some e
  | .block id x => ∃ a, code = .block id a ∧ compCode P own a = some x
  | .loop x => ∃ a, code = .loop a ∧ compCode P own a = some x
  | .exit id => code = .exit id
  | .scope x => ∃ a, code = .scope a ∧ compCode P own a = some x
  | .ret => code = .ret
theorem comp_inv {code : Code} {x : XCode} (h : compCode P own code = some x) : Inv P own code x := by
  cases code with
  | skip => simp only [compCode, Option.some.injEq] at h; subst h; exact .inl rfl
  | label l => simp only [compCode, Option.some.injEq] at h; subst h; exact .inr ⟨l, rfl⟩
  | region id ops draw =>
    simp only [compCode, compRegion] at h
    split at h <;> try (cases h; done)
    rename_i xs hxs
    split at h
    · injection h with h; subst h; exact ⟨id, ops, false, rfl, hxs, rfl⟩
    · split at h
      · injection h with h; subst h; exact ⟨id, ops, true, rfl, hxs, by assumption⟩
      · split at h <;> try (cases h; done)
        injection h with h; subst h; exact ⟨id, ops, true, rfl, hxs, by assumption⟩
  | seq a b =>
    simp only [compCode] at h
    split at h <;> try (cases h; done)
    injection h with h; subst h; exact ⟨a, b, rfl, by assumption, by assumption⟩
  | cond x a b =>
    simp only [compCode] at h
    split at h <;> try (cases h; done)
    injection h with h; subst h; exact ⟨x, a, b, rfl, by assumption, by assumption, by assumption⟩
  | block id b =>
    simp only [compCode] at h
    split at h <;> try (cases h; done)
    injection h with h; subst h; exact ⟨b, rfl, by assumption⟩
  | loop b =>
    simp only [compCode] at h
    split at h <;> try (cases h; done)
    injection h with h; subst h; exact ⟨b, rfl, by assumption⟩
  | exit id => simp only [compCode, Option.some.injEq] at h; subst h; rfl
  | scope b =>
    simp only [compCode] at h
    split at h <;> try (cases h; done)
    injection h with h; subst h; exact ⟨b, rfl, by assumption⟩
  | ret => simp only [compCode, Option.some.injEq] at h; subst h; rfl
  | _ => simp only [compCode] at h; cases h

/-- the rounds of a loop, or the code itself -/
def WP (P : Program) (n : Nat) (Q : Exit → Act → World → Prop) (a : Act) (w : World) : Code → Prop
  | .loop b => Code.rounds P b Q n a w
  | code => code.wp P Q a w
theorem WP.wp {Q : Exit → Act → World → Prop} {a : Act} {w : World} {code : Code} {n : Nat} (h : WP P n Q a w code) : code.wp P Q a w := by
  cases code <;> first | exact h | exact wp_loop_rounds n h

theorem ex_ok (hm : P.follows .mixedOrders = true) (hR : RelOK P R) {x : XCode} {c c' : Cfg} {o : Out} (h : Ex P R kb x c o c') :
    ∃ n, ∀ (code : Code), compCode P own code = some x → ∀ (a : Act) (w : World) (Q : Exit → Act → World → Prop), Sits G B S0 w0 c a w → (∀ a' w', Sits G B S0 w0 c' a' w' → Q (toExit o) a' w') → WP P n Q a w code := by
  induction h with
  | skip c =>
    refine ⟨0, ?_⟩
    intro code hc a w Q hs hQ
    rcases comp_inv hc with rfl | ⟨l, rfl⟩
    · exact wp_skip (hQ a w hs)
    · exact wp_label (hQ a w hs)
  | region xs F c c' lvs h hl =>
    refine ⟨0, ?_⟩
    intro code hc a w Q hs hQ
    obtain ⟨id, ops, draw, rfl, hxs, hF⟩ := comp_inv hc
    exact region_ok hm hR hxs hF h hl hs hQ
  | regionG xs c c' h =>
    refine ⟨0, ?_⟩
    intro code hc a w Q hs hQ
    obtain ⟨id, ops, draw, rfl, hxs, hF⟩ := comp_inv hc
    have hF : draw = false := hF
    subst hF
    exact regionG_ok hR hxs h hs hQ
  | seqN x y c c1 c2 o h1 h2 ih1 ih2 =>
    obtain ⟨n1, ih1⟩ := ih1
    obtain ⟨n2, ih2⟩ := ih2
    refine ⟨0, ?_⟩
    intro code hc a w Q hs hQ
    obtain ⟨p, q, rfl, hp, hq⟩ := comp_inv hc
    exact wp_seq (WP.wp (ih1 p hp a w _ hs fun a' w' hs' => (ih2 q hq a' w' Q hs' hQ).wp))
  | seqX x y c c1 o h1 hne ih1 =>
    obtain ⟨n1, ih1⟩ := ih1
    refine ⟨0, ?_⟩
    intro code hc a w Q hs hQ
    obtain ⟨p, q, rfl, hp, hq⟩ := comp_inv hc
    exact wp_seq (WP.wp (ih1 p hp a w _ hs fun a' w' hs' => then_of hne (hQ a' w' hs')))
  | condT xa t e c c1 o hx h ih =>
    obtain ⟨n1, ih⟩ := ih
    refine ⟨0, ?_⟩
    intro code hc a w Q hs hQ
    obtain ⟨x, p, q, rfl, hxa, hp, hq⟩ := comp_inv hc
    obtain ⟨_, Γ, hH⟩ := hs
    have h1 := hH.arg hxa
    rw [hx] at h1
    exact wp_cond_true (v_inv h1) (ih p hp a w Q ⟨‹_›, Γ, hH⟩ hQ).wp
  | condF xa t e c c1 o hx h ih =>
    obtain ⟨n1, ih⟩ := ih
    refine ⟨0, ?_⟩
    intro code hc a w Q hs hQ
    obtain ⟨x, p, q, rfl, hxa, hp, hq⟩ := comp_inv hc
    obtain ⟨_, Γ, hH⟩ := hs
    have h1 := hH.arg hxa
    rw [hx] at h1
    exact wp_cond_false (v_inv h1) (ih q hq a w Q ⟨‹_›, Γ, hH⟩ hQ).wp
  | block id b c c1 o h ih =>
    obtain ⟨n1, ih⟩ := ih
    refine ⟨0, ?_⟩
    intro code hc a w Q hs hQ
    obtain ⟨p, rfl, hp⟩ := comp_inv hc
    refine wp_block (WP.wp (ih p hp a w _ hs fun a' w' hs' => ?_))
    have := hQ a' w' hs'
    cases o with
    | normal => exact this
    | ret => exact this
    | exit id' =>
      simp only [toExit, Exit.inBlock]
      by_cases e : id' = id
      · subst e; simp only [if_true] at this ⊢; exact this
      · rw [if_neg e]
        rw [if_neg (by intro q; injection q with q; exact e q)] at this
        exact this
  | loopN b c c1 c2 o h1 h2 ih1 ih2 =>
    obtain ⟨n1, ih1⟩ := ih1
    obtain ⟨n2, ih2⟩ := ih2
    refine ⟨n2 + 1, ?_⟩
    intro code hc a w Q hs hQ
    have hcc := hc
    obtain ⟨p, rfl, hp⟩ := comp_inv hc
    exact WP.wp (ih1 p hp a w (Exit.then (Code.rounds P p Q n2) Q) hs fun a' w' hs' => ih2 _ hcc a' w' Q hs' hQ)
  | loopX b c c1 o h1 hne ih1 =>
    obtain ⟨n1, ih1⟩ := ih1
    refine ⟨1, ?_⟩
    intro code hc a w Q hs hQ
    obtain ⟨p, rfl, hp⟩ := comp_inv hc
    exact WP.wp (ih1 p hp a w (Exit.then (Code.rounds P p Q 0) Q) hs fun a' w' hs' => then_of hne (hQ a' w' hs'))
  | exit id c =>
    refine ⟨0, ?_⟩
    intro code hc a w Q hs hQ
    have := comp_inv hc
    simp only [Inv] at this
    subst this
    exact wp_exit (hQ a w hs)
  | scope b c c1 o h ih =>
    obtain ⟨n1, ih⟩ := ih
    refine ⟨0, ?_⟩
    intro code hc a w Q hs hQ
    obtain ⟨p, rfl, hp⟩ := comp_inv hc
    refine wp_scope_straight (WP.wp (ih p hp a w _ hs fun a' w' hs' => ?_))
    have := hQ a' w' hs'
    cases o <;> exact this
  | ret c =>
    refine ⟨0, ?_⟩
    intro code hc a w Q hs hQ
    have := comp_inv hc
    simp only [Inv] at this
    subst this
    exact wp_ret (hQ a w hs)
  | weak x c c1 c2 o hl h ih =>
    obtain ⟨n1, ih⟩ := ih
    refine ⟨n1, ?_⟩
    intro code hc a w Q hs hQ
    exact ih code hc a w Q (hs.le hl) hQ
end
end Go.Proofs.Eng
