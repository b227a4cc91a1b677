
import Derived.Test.YtichkianildkgaaGreatEj
import Derived.Test.YtichkianildkgaaGreatEk
import Derived.Test.YtichkianildkgaaGreatBti
import Derived.Deep.RegionWith
namespace Go.Proofs.YtichkianildkgaaGreat
open Go.RowKit BitX Go.MemX Go.Ch6
set_option linter.unusedVariables false

/-- the least number of bits of which p holds -/
def fstB (p : Nat → Bool) : Option Nat := (List.range 41).find? fun b => decide (2 ≤ b) && p b
def fstR (p : Nat → Bool) : Int := match fstB p with | some b => b | none => 0
def fstO (p : Nat → Bool) : Bool := (fstB p).isSome
theorem fstB_yes {p : Nat → Bool} {b : Nat} (h2 : 2 ≤ b) (h40 : b ≤ 40) (hb : p b = true) (hn : ∀ c, 2 ≤ c → c < b → p c = false) : fstB p = some b := by
  unfold fstB
  rw [List.find?_range_eq_some]
  refine ⟨by simp [hb, h2], by simp; omega, fun j hj => ?_⟩
  by_cases hj2 : 2 ≤ j
  · simp [hn j hj2 hj]
  · simp [hj2]
theorem fstB_no {p : Nat → Bool} (hn : ∀ c, 2 ≤ c → c < 41 → p c = false) : fstB p = none := by
  unfold fstB
  rw [List.find?_eq_none]
  intro x hx
  by_cases h2 : 2 ≤ x
  · simp [hn x h2 (by simpa using hx)]
  · simp [h2]
theorem fst_yes {p : Nat → Bool} {b : Nat} (h2 : 2 ≤ b) (h40 : b ≤ 40) (hb : p b = true) (hn : ∀ c, 2 ≤ c → c < b → p c = false) : fstR p = b ∧ fstO p = true := by
  unfold fstR fstO; rw [fstB_yes h2 h40 hb hn]; exact ⟨rfl, rfl⟩
theorem fst_no {p : Nat → Bool} (hn : ∀ c, 2 ≤ c → c < 41 → p c = false) : fstR p = 0 ∧ fstO p = false := by
  unfold fstR fstO; rw [fstB_no hn]; exact ⟨rfl, rfl⟩
theorem fst_step {p : Nat → Bool} {b : Nat} (hn : ∀ c, 2 ≤ c → c < b → p c = false) (h : p b = false) : ∀ c, 2 ≤ c → c < b + 1 → p c = false := by
  intro c h1 h2
  by_cases e : c = b
  · rw [e]; exact h
  · exact hn c h1 (by omega)


/-- the bits are enough -/
def enP (r st n b : Nat) : Bool := decide (cbG r st * 2 ^ (n - 1) ≤ 2 ^ (b - 1))
theorem sumF_mul (n : Nat) (f : Nat → Int) (c : Int) : sumF n (fun i => f i * c) = sumF n f * c := by
  induction n with
  | zero => simp [sumF]
  | succ n ih => rw [sumF_succ, sumF_succ, ih, Int.add_mul]
theorem at0_nn {r st : Nat} (h1 : 1 ≤ r) (h2 : r ≤ 8) (h3 : st ≤ 4) (i : Nat) : 0 ≤ at0 (cbW r st) i := by
  have h := (cb_parts h1 h2 h3).2.1
  by_cases hi : i < (cbW r st).length
  · obtain ⟨x, hx⟩ := get_lt (cbW r st) i hi
    rw [at0_of hx]
    exact (h x (List.mem_of_getElem? hx)).1
  · rw [at0_out (by omega)]; omega
theorem lo_cb {r st : Nat} {P : Int} (h1 : 1 ≤ r) (h2 : r ≤ 8) (h3 : st ≤ 4) (hP : 1 ≤ P) : loS (cbW r st) (-P) (P - 1) (cbW r st).length = -(cbG r st * P) := by
  unfold loS
  rw [sumF_congr _ _ (fun i => at0 (cbW r st) i * (-P)) fun i _ => ?_, sumF_mul, (cb_parts h1 h2 h3).2.2.1, Int.mul_neg]
  have h := at0_nn h1 h2 h3 i
  have a : at0 (cbW r st) i * (-P) ≤ 0 := Int.mul_nonpos_of_nonneg_of_nonpos h (by omega)
  have b : 0 ≤ at0 (cbW r st) i * (P - 1) := Int.mul_nonneg h (by omega)
  unfold leastI; split
  · rfl
  · omega
theorem hi_cb {r st : Nat} {P : Int} (h1 : 1 ≤ r) (h2 : r ≤ 8) (h3 : st ≤ 4) (hP : 1 ≤ P) : hiS (cbW r st) (-P) (P - 1) (cbW r st).length = cbG r st * (P - 1) := by
  unfold hiS
  rw [sumF_congr _ _ (fun i => at0 (cbW r st) i * (P - 1)) fun i _ => ?_, sumF_mul, (cb_parts h1 h2 h3).2.2.1]
  have h := at0_nn h1 h2 h3 i
  have a : at0 (cbW r st) i * (-P) ≤ 0 := Int.mul_nonpos_of_nonneg_of_nonpos h (by omega)
  have b : 0 ≤ at0 (cbW r st) i * (P - 1) := Int.mul_nonneg h (by omega)
  unfold mostI; split
  · omega
  · omega
theorem has_cb {r st n b : Nat} (h1 : 1 ≤ r) (h2 : r ≤ 8) (h3 : st ≤ 4) : hasB (loS (cbW r st) (-(2 : Int) ^ (n - 1)) ((2 : Int) ^ (n - 1) - 1) (cbW r st).length) (hiS (cbW r st) (-(2 : Int) ^ (n - 1)) ((2 : Int) ^ (n - 1) - 1) (cbW r st).length) b = enP r st n b := by
  have hp := pow1 (n - 1)
  rw [lo_cb h1 h2 h3 (by omega), hi_cb h1 h2 h3 (by omega)]
  unfold hasB enP
  congr 1
  rw [eq_iff_iff, Int.mul_sub, Int.mul_one]
  have hg := (cb_parts h1 h2 h3).2.2.2.2.1
  generalize cbG r st * 2 ^ (n - 1) = M at *
  generalize (2 : Int) ^ (b - 1) = Q at *
  omega
theorem bits_fst {lo hi : Int} {p : Nat → Bool} (h : ∀ b, hasB lo hi b = p b) : bitsR lo hi = fstR p ∧ bitsO lo hi = fstO p := by
  have e : bitsF lo hi = fstB p := by
    unfold bitsF fstB
    congr 1
    funext b; rw [h]
  unfold bitsR bitsO fstR fstO
  rw [e]; exact ⟨rfl, rfl⟩
def bcB (b st r : Int) : Bool := decide (2 ≤ b ∧ b ≤ 16) && askB st r
def bcO (b st r : Int) : Bool := bcB b st r && fstO (enP r.toNat st.toNat b.toNat)
def bcR (b st r : Int) : Int := onI (bcB b st r) (fstR (enP r.toNat st.toNat b.toNat))
theorem bc_no {b st r : Int} (h : bcB b st r = false) : Ending.returned (.tuple #[.int .i64 0, .bool false]) = .returned (.tuple #[.int .i64 (bcR b st r), .bool (bcO b st r)]) := by unfold bcR bcO; rw [h]; rfl
theorem bc_yes {b st r x : Int} {q : Bool} (h : bcB b st r = true) (h1 : x = fstR (enP r.toNat st.toNat b.toNat)) (h2 : q = fstO (enP r.toNat st.toNat b.toNat)) : Ending.returned (.tuple #[.int .i64 x, .bool q]) = .returned (.tuple #[.int .i64 (bcR b st r), .bool (bcO b st r)]) := by unfold bcR bcO; rw [h, h1, h2]; rfl
theorem bcB_n1 {b st r : Int} (h : decide (2 ≤ b ∧ b ≤ 16) = false) : bcB b st r = false := by unfold bcB; rw [h]; rfl
theorem bcB_n2 {b st r : Int} (h : askB st r = false) : bcB b st r = false := by unfold bcB; rw [h]; simp
theorem bcB_g {b st r : Int} (h : decide (2 ≤ b ∧ b ≤ 16) = true) (h2 : askB st r = true) : bcB b st r = true := by unfold bcB; rw [h, h2]; rfl


set_option maxHeartbeats 1000000 in
theorem spec_BitsForComb_any (b st r : Int) (w : World) :
    Calls Tryz.prog 34 #[.int .i64 b, .int .i64 st, .int .i64 r] w fun e w' => e = .returned (.tuple #[.int .i64 (bcR b st r), .bool (bcO b st r)]) ∧ Below w.heap.size w w' := by
  cases h0 : decide (2 ≤ b ∧ b ≤ 16)
  · have HB0 := hid h0
    clear h0
    go_enter Tryz.func34, Tryz.ntmps34
    go_wp2_with fail
    refine (l1In_is _ _ _ false _ HB0.out).mono ?_
    rintro e w' ⟨rfl, rfl⟩
    go_wp2_with fail
    go_ret2
    exact ⟨bc_no (bcB_n1 HB0.out), Below.refl _ _⟩
  · have HB0 := hid h0
    clear h0
    cases h1 : askB st r
    · have HB1 := hid h1
      clear h1
      go_enter Tryz.func34, Tryz.ntmps34
      go_wp2_with fail
      refine (l1In_is _ _ _ true _ HB0.out).mono ?_
      rintro e w' ⟨rfl, rfl⟩
      go_wp2_with fail
      refine (cbAsked_is _ _ false _ HB1.out).mono ?_
      rintro e w' ⟨rfl, rfl⟩
      go_wp2_with fail
      go_ret2
      exact ⟨bc_no (bcB_n2 HB1.out), Below.refl _ _⟩
    · have HB1 := hid h1
      clear h1
      have HT := hid (bcB_g HB0.out HB1.out)
      obtain ⟨⟨a1, a2⟩, ⟨a3, a4⟩⟩ := askB_t HB1.out
      obtain ⟨a5, a6⟩ := of_decide_eq_true HB0.out
      obtain ⟨t, rfl⟩ : ∃ t : Nat, st = t := ⟨st.toNat, by omega⟩
      obtain ⟨q, rfl⟩ : ∃ q : Nat, r = q := ⟨r.toNat, by omega⟩
      obtain ⟨n, rfl⟩ : ∃ n : Nat, b = n := ⟨b.toNat, by omega⟩
      have s1 : 1 ≤ t := by omega
      have s2 : t ≤ 4 := by omega
      have r1 : 1 ≤ q := by omega
      have r2 : q ≤ 8 := by omega
      have n1 : 2 ≤ n := by omega
      have n2 : n ≤ 16 := by omega
      clear a1 a2 a3 a4 a5 a6
      go_enter Tryz.func34, Tryz.ntmps34
      go_wp2_with fail
      refine (l1In_is _ _ _ true _ HB0.out).mono ?_
      rintro e w' ⟨rfl, rfl⟩
      go_wp2_with fail
      refine (cbAsked_is _ _ true _ HB1.out).mono ?_
      rintro e w' ⟨rfl, rfl⟩
      go_wp2_with fail
      refine (cbGain_any t q _ s1 s2 r1 r2).mono ?_
      rintro e w' ⟨rfl, rfl⟩
      obtain ⟨P1, P2⟩ := pow_small n (by omega) n2
      have hg := (cb_parts r1 r2 s2).2.2.2.2
      obtain ⟨M, hM⟩ : ∃ M, M = cbG q t * 2 ^ (n - 1) := ⟨_, rfl⟩
      have hM0 : 0 ≤ M := by rw [hM]; exact Int.mul_nonneg (by omega) (by omega)
      have hM1 : M ≤ 134217728 := by
        have := Int.mul_le_mul hg.2 (show (2 : Int) ^ (n - 1) ≤ 32768 by omega) (by omega) (by omega)
        omega
      have s0 : ((n : Int) - 1).toNat = n - 1 := by omega
      have e1 : wrap64 (cbG q t * 2 ^ (n - 1)) = M := by rw [← hM]; exact IntWalk.wrap64_in _ (by omega)
      have e2 : wrap64 (cbG q t * 2 ^ min (n - 1) 64) = M := by rw [Nat.min_eq_left (by omega)]; exact e1
      have HM := hid hM
      have HE1 := hid e1
      clear hM hg P1 P2 e1 e2
      go_wp2_with fail
      rw [HE1.out]
      generalize hG : cbG q t = G
      have HG := hid hG
      clear hG
      have Hen := hid (fun b => show enP q t n b = decide (M ≤ 2 ^ (b - 1)) from by unfold enP; rw [HM.out])
      go_loop [9] (fun i => ∃ b : Nat, 2 ≤ b ∧ b ≤ 41 ∧ i = .int .i64 b ∧ Hid (∀ c, 2 ≤ c → c < b → enP q t n c = false))
        (fun i => 41 - (intOf i).toNat)
      case atStart => exact ⟨2, by omega, by omega, rfl, hid fun c h1 h2 => by omega⟩
      case round =>
        obtain ⟨b, hb2, hb41, rfl, hno⟩ := hrel
        by_cases hb40 : b ≤ 40
        · have f0 : (0 : Int) ≤ (b : Int) - 1 := by omega
          have f1 : (b : Int) ≤ 40 := by omega
          obtain ⟨P1, P2⟩ := pow_mid b hb40
          obtain ⟨P, hP⟩ : ∃ P, (2 : Int) ^ (b - 1) = P := ⟨_, rfl⟩
          rw [hP] at P1 P2
          have hw : wrap64 ((2 : Int) ^ (b - 1)) = P := by rw [hP]; exact IntWalk.wrap64_in _ (by omega)
          have Hw := hid hw
          have he := Hen.out b
          rw [hP] at he
          have He := hid he
          have Hno := hid hno
          clear hP hw hno he
          go_wp2_with fail
          · rename_i h1 h2
            rw [Hw.out] at h1
            have Hfin := hid (fst_yes hb2 hb40 (by rw [He.out]; exact decide_eq_true h1) Hno.out.out)
            clear h1
            go_ret2
            exact ⟨bc_yes HT.out Hfin.out.1.symm Hfin.out.2.symm, Below.refl _ _⟩
          · rename_i h1
            rw [Hw.out] at h1
            have Hs := hid (fst_step Hno.out.out (by rw [He.out]; exact decide_eq_false (by omega)))
            clear h1
            go_round
            case rel => exact ⟨b + 1, by omega, by omega, by go_num, Hs⟩
            case measure => simp [intOf]; omega
        · obtain rfl : b = 41 := by omega
          have Hfin := hid (fst_no hno.out)
          clear hb40 hno
          go_wp2
          go_ret2
          exact ⟨bc_yes HT.out Hfin.out.1.symm Hfin.out.2.symm, Below.refl _ _⟩


set_option maxHeartbeats 1000000 in
theorem impl_BitsForComb_any (b st r : Int) (w : World) :
    Calls Tryz.prog 33 #[.int .i64 b, .int .i64 st, .int .i64 r] w fun e w' => e = .returned (.tuple #[.int .i64 (bcR b st r), .bool (bcO b st r)]) ∧ Below w.heap.size w w' := by
  cases h0 : decide (2 ≤ b ∧ b ≤ 16)
  · have HB0 := hid h0
    have HN := hid (of_decide_eq_false h0)
    clear h0
    go_enter Tryz.func33, Tryz.ntmps33
    have B0 := bel_alloc w (.cells #[.int .i64 b, .bool false] 68)
    obtain ⟨hbA, hbB⟩ := box2_cells (Below.refl (w.alloc (.cells #[.int .i64 b, .bool false] 68)).heap.size (w.alloc (.cells #[.int .i64 b, .bool false] 68)))
    go_wp2_with fail
    refine (impl_IsWord_no _ _ _ HN.out).mono ?_
    rintro e w1 ⟨rfl, hb1⟩
    have B1 := bel_step B0 hb1
    go_wp2_with fail
    go_ret2
    exact ⟨bc_no (bcB_n1 HB0.out), B1⟩
  · have HB0 := hid h0
    obtain ⟨a1, a2⟩ := of_decide_eq_true h0
    clear h0
    cases h1 : askB st r
    · have HB1 := hid h1
      clear h1
      go_enter Tryz.func33, Tryz.ntmps33
      have B0 := bel_alloc w (.cells #[.int .i64 b, .bool false] 68)
      obtain ⟨hbA, hbB⟩ := box2_cells (Below.refl (w.alloc (.cells #[.int .i64 b, .bool false] 68)).heap.size (w.alloc (.cells #[.int .i64 b, .bool false] 68)))
      go_wp2_with fail
      refine (impl_IsWord_yes _ _ _ a1 a2).mono ?_
      rintro e w1 ⟨rfl, hb1⟩
      have B1 := bel_step B0 hb1
      go_wp2_with fail
      refine (isComb_is _ _ false _ HB1.out).mono ?_
      rintro e w' ⟨rfl, rfl⟩
      go_wp2_with fail
      go_ret2
      exact ⟨bc_no (bcB_n2 HB1.out), B1⟩
    · have HB1 := hid h1
      clear h1
      clear a1 a2
      have HT := hid (bcB_g HB0.out HB1.out)
      obtain ⟨⟨a1, a2⟩, ⟨a3, a4⟩⟩ := askB_t HB1.out
      obtain ⟨a5, a6⟩ := of_decide_eq_true HB0.out
      obtain ⟨t, rfl⟩ : ∃ t : Nat, st = t := ⟨st.toNat, by omega⟩
      obtain ⟨q, rfl⟩ : ∃ q : Nat, r = q := ⟨r.toNat, by omega⟩
      obtain ⟨n, rfl⟩ : ∃ n : Nat, b = n := ⟨b.toNat, by omega⟩
      have s1 : 1 ≤ t := by omega
      have s2 : t ≤ 4 := by omega
      have r1 : 1 ≤ q := by omega
      have r2 : q ≤ 8 := by omega
      have n1 : 2 ≤ n := by omega
      have n2 : n ≤ 16 := by omega
      clear a1 a2 a3 a4 a5 a6
      have Hbf := hid (bits_fst fun b => has_cb (n := n) (b := b) r1 r2 s2)
      have HQ := hid (cbW_q r1 r2 s2)
      go_enter Tryz.func33, Tryz.ntmps33
      have B0 := bel_alloc w (.cells #[.int .i64 (n : Int), .bool false] 68)
      obtain ⟨hbA, hbB⟩ := box2_cells (Below.refl (w.alloc (.cells #[.int .i64 (n : Int), .bool false] 68)).heap.size (w.alloc (.cells #[.int .i64 (n : Int), .bool false] 68)))
      go_wp2_with fail
      refine (impl_IsWord_yes _ _ _ (by omega) (by omega)).mono ?_
      rintro e w1 ⟨rfl, hb1⟩
      have B1 := bel_step B0 hb1
      have hgz : w.heap.size < w1.heap.size := Nat.lt_of_lt_of_le (by simp) hb1.size
      obtain ⟨hbA, hbB⟩ := boxed hbA hbB (by simp) hb1
      go_wp2_with fail
      refine (isComb_is _ _ true _ HB1.out).mono ?_
      rintro e w' ⟨rfl, rfl⟩
      go_wp2_with fail
      go_region_with (first | (go_at_call 52; refine (combWeights_any t q _ s1 s2 r1 r2).mono ?_; rintro e w2 ⟨v2, rfl, R2, hb2⟩; have B2 := bel_step B1 (bel_undrew hb2); obtain ⟨hcA, hcB⟩ := boxed hbA hbB hgz (bel_undrew hb2); have Hs2 := hid R2.sl; clear R2) | (go_at_call 78; refine (bitsNeeded_in _ (cbW q t) n false _ Hs2.out HQ.out n1 n2).mono ?_; rintro e w3 ⟨rfl, hb3⟩; have B3 := bel_step B2 hb3))
      all_goals go_wp2
      all_goals go_ret2
      all_goals exact ⟨bc_yes HT.out Hbf.out.1 Hbf.out.2, B3⟩


end Go.Proofs.YtichkianildkgaaGreat
