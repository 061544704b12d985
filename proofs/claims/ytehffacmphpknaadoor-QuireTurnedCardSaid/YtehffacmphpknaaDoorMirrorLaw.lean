/-
  The walk of QuireMirror: it returns true at any two numbers.
-/
import Derived.Test.YtehffacmphpknaaDoorFactU
import Derived.Test.YtehffacmphpknaaDoorWalkedH
import Derived.Test.YtehffacmphpknaaDoorWorks
import Derived.Deep.QuietTactic
set_option linter.unusedSimpArgs false
set_option linter.unusedVariables false
namespace Go.Proofs.YtehffacmphpknaaDoor
open Go.RowKit Go.Lib Go.Proofs.Quire

/-- one power of two as it stands in the walk -/
theorem shl_one (k N : Nat) (hN : 2 ^ k = N) (h64 : N ≤ 64) : wrap64 ((2 : Int) ^ k) = (N : Int) := by
  rw [show ((2 : Int) ^ k) = (((2 : Nat) ^ k : Nat) : Int) by push_cast; rfl, hN]
  simp only [wrap64]; omega
theorem pow_le64 (k : Nat) (hk : k ≤ 6) : 1 ≤ 2 ^ k ∧ 2 ^ k ≤ 64 := ⟨Nat.one_le_two_pow, Nat.le_trans (Nat.pow_le_pow_right (by omega) hk) (by decide)⟩
/-- a range over a string of letters: what the iterator yields -/
theorem next_s {P : Program} (wr : World) (I : Nat) (s : ByteArray) (pos : Nat) (hit : wr.heap[I]? = some (.stringIter s pos)) (hp : pos < s.size) (h128 : (s[pos]'hp).toNat < 128) (ty : TypeId) :
    (Instr.next (.pointer (some ⟨I, 0, none⟩)) true ty).run P wr = .ok (.tuple #[.bool true, .int .i64 pos, .int .i32 (s[pos]'hp).toNat]) (wr.iterAt I s (pos + 1)) := run_next_ascii_at wr I s pos ty hit hp h128
set_option maxRecDepth 100000 in
set_option maxHeartbeats 4000000 in
theorem mirrorLaw_any (m b : Nat) (w : World) (hT : Tab w) (hm : m < 256) (hb : b < 256) :
    Calls Tryd.prog 11 #[.int .u8 m, .int .u8 b] w (ValC (.bool true) w) := by
  have h0 := fun W => foldsH_any (m % 6) b (by omega) hb W
  rw [show m % 6 % 7 = m % 6 by omega] at h0
  obtain ⟨k, hk⟩ : ∃ k, m % 6 = k := ⟨_, rfl⟩
  rw [hk] at h0
  have hk5 : k ≤ 5 := by omega
  have hmk : ((m % 6 : Nat) : Int) = (k : Int) := by rw [hk]
  have hfl := foldsOf_len b k
  have hz := foldsOf_ok b k (by omega)
  have hz2 := foldsOf_more b k hk5
  generalize hfs : foldsOf b k = fs at h0 hfl hz hz2
  have hbl : (foldsB fs).length = k := by rw [foldsB_len, hfl]
  have hp0 : creP fs = creS (foldsB fs) := by unfold creP; rw [if_pos hz]
  have hp1 : ∀ o, creP (fs ++ [wayU o]) = creS (foldsB fs ++ [o]) := fun o => by unfold creP; rw [if_pos (hz2 o), foldsB_more]
  have h1 := fun W => creases_any fs W (small _ (by omega))
  have h2 := fun o W => creases_any (fs ++ [wayU o]) W (small _ (by rw [List.length_append]; simp; omega))
  rw [hz, hp0] at h1
  have h1 : ∀ W, Calls Tryd.prog 23 #[.string ⟨fs.toArray⟩] W (ValC (.tuple #[.string ⟨(creS (foldsB fs)).toArray⟩, .int .i64 0]) W) := h1
  simp only [hz2, hp1] at h2
  have hmir := fun i h h' => mirror_of (foldsB fs) (by omega) i h h'
  have hmor := fun o i h => more_of o (foldsB fs) (by omega) i h
  have hl0 := creS_len (foldsB fs)
  have hl1 := fun o => creS_len (foldsB fs ++ [o])
  have ha0 := creS_lt (foldsB fs)
  have ha1 := fun o => creS_lt (foldsB fs ++ [o])
  rw [hbl] at hmir hl0
  simp only [hbl] at hmor
  simp only [List.length_append, hbl, List.length_singleton, Nat.pow_succ] at hl1
  generalize foldsB fs = f at h1 h2 hmir hmor hl0 hl1 ha0 ha1
  obtain ⟨n, hn⟩ : ∃ n, 2 ^ k = n := ⟨_, rfl⟩
  obtain ⟨hn1, hn2⟩ := pow_le64 k (by omega)
  have hn3 : n ≤ 32 := by rw [← hn]; exact Nat.le_trans (Nat.pow_le_pow_right (by omega) hk5) (by decide)
  have hwr := Lib.hid (shl_one k n hn (by omega))
  rw [hn] at hmir hl0 hn1
  simp only [hn] at hmor hl1
  obtain ⟨N, hN⟩ : ∃ N, n = N + 1 := ⟨n - 1, by omega⟩
  have hszc : ((⟨(creS f).toArray⟩ : ByteArray)).size = N := by rw [size_l]; omega
  have hbyc : ∀ i (h : i < ((⟨(creS f).toArray⟩ : ByteArray)).size), ((⟨(creS f).toArray⟩ : ByteArray))[i] = (creS f).getD i 0 := fun i h => byte_at _ i (by rw [size_l] at h; exact h) h
  have hlc : ∀ i (h : i < ((⟨(creS f).toArray⟩ : ByteArray)).size), (((⟨(creS f).toArray⟩ : ByteArray))[i]).toNat < 128 := fun i h => by
    rw [hbyc i h, getD_lt _ _ _ (by rw [size_l] at h; exact h)]; exact ha0 _ (List.getElem_mem _)
  have hszd : ∀ o, ((⟨(creS (f ++ [o])).toArray⟩ : ByteArray)).size = 2 * n - 1 := fun o => by rw [size_l]; have := hl1 o; omega
  have hbyd : ∀ o i (h : i < ((⟨(creS (f ++ [o])).toArray⟩ : ByteArray)).size), ((⟨(creS (f ++ [o])).toArray⟩ : ByteArray))[i] = (creS (f ++ [o])).getD i 0 := fun o i h => byte_at _ i (by rw [size_l] at h; exact h) h
  have hld : ∀ o i (h : i < ((⟨(creS (f ++ [o])).toArray⟩ : ByteArray)).size), (((⟨(creS (f ++ [o])).toArray⟩ : ByteArray))[i]).toNat < 128 := fun o i h => by
    rw [hbyd o i h, getD_lt _ _ _ (by rw [size_l] at h; exact h)]; exact ha1 o _ (List.getElem_mem _)
  have hmir2 : ∀ i (h : i < ((⟨(creS f).toArray⟩ : ByteArray)).size) (h' : n - 2 - i < ((⟨(creS f).toArray⟩ : ByteArray)).size), i + 1 ≠ n / 2 → ((((⟨(creS f).toArray⟩ : ByteArray))[i].toNat : Int) == (((⟨(creS f).toArray⟩ : ByteArray))[n - 2 - i].toNat : Int)) = false := fun i h h' hne => by
    rw [hbyc, hbyc]
    have := hmir i (by rw [size_l] at h; omega) hne
    simp only [beq_eq_false_iff_ne]
    exact fun e => this (by omega)
  have hmor2 : ∀ o i (h : i < ((⟨(creS (f ++ [o])).toArray⟩ : ByteArray)).size), (((⟨(creS (f ++ [o])).toArray⟩ : ByteArray))[i]).toNat = moreU o (creS f) i := fun o i h => by
    rw [hbyd]; exact hmor o i (by rw [size_l] at h; have := hl1 o; omega)
  have happ : ∀ o, (⟨fs.toArray⟩ : ByteArray) ++ ⟨#[wayU o]⟩ = ⟨(fs ++ [wayU o]).toArray⟩ := fun o => by
    apply ByteArray.ext; simp
  have hs0 : (⟨fs.toArray⟩ : ByteArray).size = k := by rw [size_l]; exact hfl
  have hhalf : ∀ i (h : i < ((⟨(creS f).toArray⟩ : ByteArray)).size), (((⟨(creS f).toArray⟩ : ByteArray))[i]).toNat = ((creS f).getD i 0).toNat := fun i h => by rw [hbyc]
  generalize (⟨(creS f).toArray⟩ : ByteArray) = sc at h1 hszc hlc hmir2 hhalf
  obtain ⟨sd, hsd⟩ : ∃ sd : Bool → ByteArray, sd = fun o => ⟨(creS (f ++ [o])).toArray⟩ := ⟨_, rfl⟩
  obtain ⟨se, hse⟩ : ∃ se : Bool → ByteArray, se = fun o => ⟨(fs ++ [wayU o]).toArray⟩ := ⟨_, rfl⟩
  have h2' : ∀ o W, Calls Tryd.prog 23 #[.string (se o)] W (ValC (.tuple #[.string (sd o), .int .i64 0]) W) := fun o W => by rw [hsd, hse]; exact h2 o W
  have hszd' : ∀ o, (sd o).size = 2 * n - 1 := fun o => by rw [hsd]; exact hszd o
  have hld' : ∀ o i (h : i < (sd o).size), ((sd o)[i]).toNat < 128 := fun o => by rw [hsd]; exact hld o
  have hmor' : ∀ o i (h : i < (sd o).size), ((sd o)[i]).toNat = moreU o (creS f) i := fun o => by rw [hsd]; exact hmor2 o
  have happ' : ∀ o, (⟨fs.toArray⟩ : ByteArray) ++ ⟨#[wayU o]⟩ = se o := fun o => by rw [hse]; exact happ o
  generalize (⟨fs.toArray⟩ : ByteArray) = s0 at h0 h1 happ' hs0
  clear h2 hszd hld hmor2 hbyd hbyc happ hsd hse hmor hmir hl0 hl1 ha0 ha1 hp0 hp1 hz hz2 hfl hfs hbl
  have H2 := Lib.hid h2'; have HSD := Lib.hid hszd'; have HLD := Lib.hid hld'; have HMO := Lib.hid hmor'; have HAP := Lib.hid happ'; have HLC := Lib.hid hlc; have HMI := Lib.hid hmir2; have HHA := Lib.hid hhalf
  have hws := fun W hW => works_any W hW
  have HN := Lib.hid hN
  clear h2' hszd' hld' hmor' happ' hlc hmir2 hhalf hn
  have hm0 : (m : Int) % 6 = (k : Int) := by omega
  have hne0 : ((N : Int) != (n : Int) - 1) = false := by simp; omega
  clear hN
  go_enter Tryd.func11, Tryd.ntmps11
  go_wp2_with (fail)
  refine (h0 _).mono ?_; rintro e w1 ⟨rfl, q1, rfl⟩
  have hB1 : Below w.heap.size w (w.drewN q1) := below_drewN (Below.refl _ _) _
  generalize w.drewN q1 = w1 at hB1 ⊢
  go_wp2_with (fail)
  refine (h1 _).mono ?_; rintro e w2 ⟨rfl, hb1⟩
  have hB2 := hB1.trans (hb1.mono hB1.size)
  clear hB1 hb1 h0 h1
  go_upto_region 4 with (fail)
  simp only [hwr.out]
  go_wp2_with (fail)
  have hI := World.iter_heap w2 sc 0
  have hB3 : Below w.heap.size w (w2.iter sc 0) := hB2.alloc hB2.size _
  have hIg : w.heap.size ≤ w2.heap.size := hB2.size
  generalize w2.iter sc 0 = w3 at hI hB3 ⊢
  go_loopw [9] (fun _ wr => ∃ pos : Nat, pos ≤ N ∧ wr.heap[w2.heap.size]? = some (.stringIter sc pos) ∧ Below w.heap.size w wr) (fun _ wr => N - wr.iterPos w2.heap.size)
  case atStart => exact ⟨0, Nat.zero_le _, hI, hB3⟩
  case round =>
    clear hI hB3 hB2
    obtain ⟨pos, hpos, hit, hbr⟩ := hrel
    have hit0 := Lib.hid hit
    have hN := HN.out
    by_cases hlt : pos < N
    · have hps : pos < sc.size := by omega
      have hps2 : n - 2 - pos < sc.size := by omega
      have hnx := fun ty => next_s (P := Tryd.prog) wr w2.heap.size sc pos hit hps (HLC.out pos hps) ty
      have hbB := below_iterAt hbr (k := w2.heap.size) hIg sc (pos + 1)
      have hitB := iterAt_heap wr w2.heap.size sc pos (pos + 1) hit
      have e1 : IntKind.i64.wrap ((n : Int) / 2 - 1) = (n : Int) / 2 - 1 := by rw [IntKind.wrap_i64]; omega
      have e2 : IntKind.i64.wrap ((n : Int) - 2) = (n : Int) - 2 := by rw [IntKind.wrap_i64]; omega
      obtain ⟨j, hj⟩ : ∃ j : Nat, n - 2 - pos = j := ⟨_, rfl⟩
      rw [hj] at hps2
      have e3 : IntKind.i64.wrap ((n : Int) - 2 - pos) = (j : Int) := by rw [IntKind.wrap_i64]; omega
      have e6 : j < N := by omega
      have e7 : IntKind.i64.wrap ((n : Int) / 2) = (n : Int) / 2 := by rw [IntKind.wrap_i64]; omega
      have e8 : (n : Int).tdiv 2 = (n : Int) / 2 := by rw [Int.tdiv_eq_ediv_of_nonneg (by omega)]
      have E1 := Lib.hid e1; have E2 := Lib.hid e2; have E3 := Lib.hid e3
      by_cases hmid : pos + 1 = n / 2
      · have hne : ((pos : Int) != (n : Int) / 2 - 1) = false := by simp; omega
        clear hmid hN hj
        go_wp2_with (fail)
        generalize (wr.iterAt w2.heap.size sc (pos + 1)) = w4 at hbB hitB ⊢
        go_quiet (fail)
        go_wp2_with (fail)
        exact ⟨⟨pos + 1, by omega, hitB, below_drewN hbB _⟩, by rw [iterPos_of hit0.out, iterPos_of (w := w4.drewN _) hitB]; omega⟩
      · have hne : ((pos : Int) != (n : Int) / 2 - 1) = true := by simp; omega
        have hbe : ((sc[pos].toNat : Int) == (sc[j].toNat : Int)) = false := by have h := HMI.out pos hps (by rw [hj]; exact hps2) hmid; simp only [hj] at h; exact h
        clear hmid hN hj
        go_wp2_with (fail)
        generalize (wr.iterAt w2.heap.size sc (pos + 1)) = w4 at hbB hitB ⊢
        go_quiet (fail)
        go_wp2_with (fail)
        exact ⟨⟨pos + 1, by omega, hitB, below_drewN hbB _⟩, by rw [iterPos_of hit0.out, iterPos_of (w := w4.drewN _) hitB]; omega⟩
    · have hnx := fun ty => run_next_end_at (P := Tryd.prog) wr w2.heap.size sc pos ty hit (by omega)
      clear hit hit0 hN
      go_wp2_with (fail)
      have hsz := hbr.size
      have hB4 := hbr.alloc hsz (.cells #[.string ⟨#[111]⟩, .string ⟨#[117]⟩] 9)
      have hc0 : (wr.alloc (.cells #[.string ⟨#[111]⟩, .string ⟨#[117]⟩] 9)).cell? ⟨wr.heap.size, 0, none⟩ = some (.string ⟨#[111]⟩) := by simp
      have hc1 : (wr.alloc (.cells #[.string ⟨#[111]⟩, .string ⟨#[117]⟩] 9)).cell? ⟨wr.heap.size, 1, none⟩ = some (.string ⟨#[117]⟩) := by simp
      have hg : wr.heap.size < (wr.alloc (.cells #[.string ⟨#[111]⟩, .string ⟨#[117]⟩] 9)).heap.size := by simp
      generalize wr.alloc (.cells #[.string ⟨#[111]⟩, .string ⟨#[117]⟩] 9) = w4 at hB4 hc0 hc1 hg ⊢
      generalize wr.heap.size = g at hc0 hc1 hg ⊢
      clear hbr hsz
      go_loopw [61] (fun v wr => ∃ t : Nat, t ≤ 2 ∧ v = .int .i64 t ∧ Below w.heap.size w wr ∧ Below w4.heap.size w4 wr) (fun v _ => 2 - (RowKit.intOf v).toNat)
      case atStart => exact ⟨0, by omega, rfl, hB4, Below.refl _ _⟩
      case round =>
        clear hB4
        rename_i wr0
        obtain ⟨t, ht, rfl, hbr, hb4⟩ := hrel
        by_cases hlt2 : t < 2
        · obtain ⟨o, hcell⟩ : ∃ o, wr.cell? ⟨g, t, none⟩ = some (.string ⟨#[wayU o]⟩) := by
            have : t = 0 ∨ t = 1 := by omega
            rcases this with rfl | rfl
            · exact ⟨true, (hb4.cell (p := ⟨g, 0, none⟩) hg).trans hc0⟩
            · exact ⟨false, (hb4.cell (p := ⟨g, 1, none⟩) hg).trans hc1⟩
          have happ := HAP.out o
          have hso : ¬ 9223372036854775807 < k + (⟨#[wayU o]⟩ : ByteArray).size := by show ¬ 9223372036854775807 < k + 1; omega
          have hq : ((⟨#[wayU o]⟩ : ByteArray).toList == [111]) = o := by cases o <;> decide +kernel
          generalize (⟨#[wayU o]⟩ : ByteArray) = so at hcell happ hso hq
          go_wp2_with (fail)
          refine (H2.out o _).mono ?_; rintro e w5 ⟨rfl, hb5⟩
          have hB5 := hbr.trans (hb5.mono hbr.size)
          have hB45 := hb4.trans (hb5.mono hb4.size)
          have hszd := HSD.out o; have hld := HLD.out o; have hmo := HMO.out o
          generalize sd o = sx at hszd hld hmo ⊢
          obtain ⟨M, hM⟩ : ∃ M, 2 * n - 1 = M := ⟨_, rfl⟩
          rw [hM] at hszd
          have hneM : ((M : Int) != 2 * (n : Int) - 1) = false := by simp; omega
          have HM := Lib.hid hM; have HLD2 := Lib.hid hld; have HMO2 := Lib.hid hmo
          clear hM hld hmo hbr hb4 hb5 hso happ
          go_wp2_with (fail)
          have hI := World.iter_heap w5 sx 0
          have hB6 : Below w.heap.size w (w5.iter sx 0) := hB5.alloc hB5.size _
          have hB46 : Below w4.heap.size w4 (w5.iter sx 0) := hB45.alloc hB45.size _
          have hIg : w.heap.size ≤ w5.heap.size := hB5.size
          have hIg4 : w4.heap.size ≤ w5.heap.size := hB45.size
          generalize w5.iter sx 0 = w6 at hI hB6 hB46 ⊢
          generalize w5.heap.size = I at hI hIg hIg4 ⊢
          clear hB5 hB45
          go_loopw [14] (fun _ wr => ∃ pos : Nat, pos ≤ M ∧ wr.heap[I]? = some (.stringIter sx pos) ∧ Below w.heap.size w wr ∧ Below w4.heap.size w4 wr) (fun _ wr => M - wr.iterPos I)
          case atStart => exact ⟨0, Nat.zero_le _, hI, hB6, hB46⟩
          case round =>
            clear hI hB6 hB46
            obtain ⟨pos, hpos, hit, hbr, hb4⟩ := hrel
            have hit0 := Lib.hid hit
            by_cases hlt3 : pos < M
            · have hps : pos < sx.size := by omega
              have hnx := fun ty => next_s (P := Tryd.prog) wr I sx pos hit hps (HLD2.out pos hps) ty
              have hbB := below_iterAt hbr (k := I) hIg sx (pos + 1)
              have hb4B := below_iterAt hb4 (k := I) hIg4 sx (pos + 1)
              have hitB := iterAt_heap wr I sx pos (pos + 1) hit
              have hval := HMO2.out pos hps
              unfold moreU at hval
              by_cases p2 : pos % 2 = 1
              · have hpb : ((pos : Int) % 2 == 1) = true := by simp; omega
                have hps2 : pos / 2 < sc.size := by have := HM.out; have := HN.out; omega
                rw [if_pos p2, ← HHA.out (pos / 2) hps2] at hval
                have hjn : pos / 2 < N := by omega
                have hN3 : N ≤ 31 := by have := HN.out; omega
                have hw : wrap64 ((pos : Int) / 2) = ((pos / 2 : Nat) : Int) := by simp only [wrap64]; omega
                generalize pos / 2 = j at hps2 hval hjn hw
                have hcmp : ((sx[pos].toNat : Int) != (sc[j].toNat : Int)) = false := by rw [hval]; simp
                clear p2 hval hit
                go_wp2_with (simp only [hw])
                clear hw
                exact ⟨⟨pos + 1, by omega, hitB, hbB, hb4B⟩, by rw [iterPos_of hit0.out, iterPos_of hitB]; omega⟩
              · have hpb : ((pos : Int) % 2 == 1) = false := by simp; omega
                rw [if_neg p2] at hval
                have hp4 : ((pos : Int) % 4 == 0) = decide (pos % 4 = 0) := by rw [Bool.eq_iff_iff]; simp; omega
                generalize decide (pos % 4 = 0) = b4 at hval hp4
                clear p2 hit
                cases b4 <;> cases o
                all_goals
                  simp only [Bool.false_eq_true, Bool.true_eq_false, if_true, if_false, reduceIte, reduceCtorEq] at hval
                  first
                    | (have hcmp : ((sx[pos].toNat : Int) != 118) = false := by rw [hval]; rfl)
                    | (have hcmp : ((sx[pos].toNat : Int) != 104) = false := by rw [hval]; rfl)
                  clear hval
                  go_wp2_with (fail)
                  exact ⟨⟨pos + 1, by omega, hitB, hbB, hb4B⟩, by rw [iterPos_of hit0.out, iterPos_of hitB]; omega⟩
            · have hnx := fun ty => run_next_end_at (P := Tryd.prog) wr I sx pos ty hit (by omega)
              clear hit hit0
              go_wp2_with (fail)
              exact ⟨⟨t + 1, by omega, by go_num, hbr, hb4⟩, by simp [RowKit.intOf]; omega⟩
        · have hT5 := hT.below hbr
          go_wp2_with (fail)
          refine (hws _ hT5).mono ?_; rintro e w6 ⟨rfl, hb6⟩
          have hB6 := hbr.trans (hb6.mono hbr.size)
          go_wp2_with (fail)
          go_ret
          exact ⟨rfl, hB6⟩
end Go.Proofs.YtehffacmphpknaaDoor
