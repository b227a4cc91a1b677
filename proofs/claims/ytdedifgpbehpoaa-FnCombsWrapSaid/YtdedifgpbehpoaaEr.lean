
import Derived.Test.YtdedifgpbehpoaaEq
import Derived.Test.YtdedifgpbehpoaaEj
import Derived.Test.YtdedifgpbehpoaaEk
import Derived.Test.YtdedifgpbehpoaaBti
import Derived.Deep.RegionWith
namespace Go.Proofs.Ytdedifgpbehpoaa
open Go.RowKit BitX Go.MemX Go.Ch6
set_option linter.unusedVariables false

/-- the bits are enough -/
def enP (r st n b : Nat) : Bool := decide (cbG r st * 2 ^ (n - 1) ≤ 2 ^ (b - 1))
theorem sumF_mul (n : Nat) (f : Nat → Int) (c : Int) : sumF n (fun i => f i * c) = sumF n f * c := by
  induction n with
  | zero => simp [sumF]
  | succ n ih => rw [sumF_succ, sumF_succ, ih, Int.add_mul]
theorem at0_nn {r st : Nat} (h1 : 1 ≤ r) (h2 : r ≤ 8) (h3 : st ≤ 4) (i : Nat) : 0 ≤ at0 (cbW r st) i := by
  have h := (cb_parts h1 h2 h3).2.1
  by_cases hi : i < (cbW r st).length
  · obtain ⟨x, hx⟩ := get_lt (cbW r st) i hi
    rw [at0_of hx]
    exact (h x (List.mem_of_getElem? hx)).1
  · rw [at0_out (by omega)]; omega
theorem lo_cb {r st : Nat} {P : Int} (h1 : 1 ≤ r) (h2 : r ≤ 8) (h3 : st ≤ 4) (hP : 1 ≤ P) : loS (cbW r st) (-P) (P - 1) (cbW r st).length = -(cbG r st * P) := by
  unfold loS
  rw [sumF_congr _ _ (fun i => at0 (cbW r st) i * (-P)) fun i _ => ?_, sumF_mul, (cb_parts h1 h2 h3).2.2.1, Int.mul_neg]
  have h := at0_nn h1 h2 h3 i
  have a : at0 (cbW r st) i * (-P) ≤ 0 := Int.mul_nonpos_of_nonneg_of_nonpos h (by omega)
  have b : 0 ≤ at0 (cbW r st) i * (P - 1) := Int.mul_nonneg h (by omega)
  unfold leastI; split
  · rfl
  · omega
theorem hi_cb {r st : Nat} {P : Int} (h1 : 1 ≤ r) (h2 : r ≤ 8) (h3 : st ≤ 4) (hP : 1 ≤ P) : hiS (cbW r st) (-P) (P - 1) (cbW r st).length = cbG r st * (P - 1) := by
  unfold hiS
  rw [sumF_congr _ _ (fun i => at0 (cbW r st) i * (P - 1)) fun i _ => ?_, sumF_mul, (cb_parts h1 h2 h3).2.2.1]
  have h := at0_nn h1 h2 h3 i
  have a : at0 (cbW r st) i * (-P) ≤ 0 := Int.mul_nonpos_of_nonneg_of_nonpos h (by omega)
  have b : 0 ≤ at0 (cbW r st) i * (P - 1) := Int.mul_nonneg h (by omega)
  unfold mostI; split
  · omega
  · omega
theorem has_cb {r st n b : Nat} (h1 : 1 ≤ r) (h2 : r ≤ 8) (h3 : st ≤ 4) : hasB (loS (cbW r st) (-(2 : Int) ^ (n - 1)) ((2 : Int) ^ (n - 1) - 1) (cbW r st).length) (hiS (cbW r st) (-(2 : Int) ^ (n - 1)) ((2 : Int) ^ (n - 1) - 1) (cbW r st).length) b = enP r st n b := by
  have hp := pow1 (n - 1)
  rw [lo_cb h1 h2 h3 (by omega), hi_cb h1 h2 h3 (by omega)]
  unfold hasB enP
  congr 1
  rw [eq_iff_iff, Int.mul_sub, Int.mul_one]
  have hg := (cb_parts h1 h2 h3).2.2.2.2.1
  generalize cbG r st * 2 ^ (n - 1) = M at *
  generalize (2 : Int) ^ (b - 1) = Q at *
  omega
theorem bits_fst {lo hi : Int} {p : Nat → Bool} (h : ∀ b, hasB lo hi b = p b) : bitsR lo hi = fstR p ∧ bitsO lo hi = fstO p := by
  have e : bitsF lo hi = fstB p := by
    unfold bitsF fstB
    congr 1
    funext b; rw [h]
  unfold bitsR bitsO fstR fstO
  rw [e]; exact ⟨rfl, rfl⟩
def bcB (b st r : Int) : Bool := decide (2 ≤ b ∧ b ≤ 16) && askB st r
def bcO (b st r : Int) : Bool := bcB b st r && fstO (enP r.toNat st.toNat b.toNat)
def bcR (b st r : Int) : Int := onI (bcB b st r) (fstR (enP r.toNat st.toNat b.toNat))
theorem bc_no {b st r : Int} (h : bcB b st r = false) : Ending.returned (.tuple #[.int .i64 0, .bool false]) = .returned (.tuple #[.int .i64 (bcR b st r), .bool (bcO b st r)]) := by unfold bcR bcO; rw [h]; rfl
theorem bc_yes {b st r x : Int} {q : Bool} (h : bcB b st r = true) (h1 : x = fstR (enP r.toNat st.toNat b.toNat)) (h2 : q = fstO (enP r.toNat st.toNat b.toNat)) : Ending.returned (.tuple #[.int .i64 x, .bool q]) = .returned (.tuple #[.int .i64 (bcR b st r), .bool (bcO b st r)]) := by unfold bcR bcO; rw [h, h1, h2]; rfl
theorem bcB_n1 {b st r : Int} (h : decide (2 ≤ b ∧ b ≤ 16) = false) : bcB b st r = false := by unfold bcB; rw [h]; rfl
theorem bcB_n2 {b st r : Int} (h : askB st r = false) : bcB b st r = false := by unfold bcB; rw [h]; simp
theorem bcB_g {b st r : Int} (h : decide (2 ≤ b ∧ b ≤ 16) = true) (h2 : askB st r = true) : bcB b st r = true := by unfold bcB; rw [h, h2]; rfl


set_option maxHeartbeats 1000000 in
theorem impl_BitsForComb_any (b st r : Int) (w : World) :
    Calls Try.prog 13 #[.int .i64 b, .int .i64 st, .int .i64 r] w fun e w' => e = .returned (.tuple #[.int .i64 (bcR b st r), .bool (bcO b st r)]) ∧ Below w.heap.size w w' := by
  cases h0 : decide (2 ≤ b ∧ b ≤ 16)
  · have HB0 := hid h0
    have HN := hid (of_decide_eq_false h0)
    clear h0
    go_enter Try.func13, Try.ntmps13
    have B0 := bel_alloc w (.cells #[.int .i64 b, .bool false] 53)
    obtain ⟨hbA, hbB⟩ := box2_cells (Below.refl (w.alloc (.cells #[.int .i64 b, .bool false] 53)).heap.size (w.alloc (.cells #[.int .i64 b, .bool false] 53)))
    go_wp2_with fail
    refine (impl_IsWord_no _ _ _ HN.out).mono ?_
    rintro e w1 ⟨rfl, hb1⟩
    have B1 := bel_step B0 hb1
    go_wp2_with fail
    go_ret2
    exact ⟨bc_no (bcB_n1 HB0.out), B1⟩
  · have HB0 := hid h0
    obtain ⟨a1, a2⟩ := of_decide_eq_true h0
    clear h0
    cases h1 : askB st r
    · have HB1 := hid h1
      clear h1
      go_enter Try.func13, Try.ntmps13
      have B0 := bel_alloc w (.cells #[.int .i64 b, .bool false] 53)
      obtain ⟨hbA, hbB⟩ := box2_cells (Below.refl (w.alloc (.cells #[.int .i64 b, .bool false] 53)).heap.size (w.alloc (.cells #[.int .i64 b, .bool false] 53)))
      go_wp2_with fail
      refine (impl_IsWord_yes _ _ _ a1 a2).mono ?_
      rintro e w1 ⟨rfl, hb1⟩
      have B1 := bel_step B0 hb1
      go_wp2_with fail
      refine (isComb_is _ _ false _ HB1.out).mono ?_
      rintro e w' ⟨rfl, rfl⟩
      go_wp2_with fail
      go_ret2
      exact ⟨bc_no (bcB_n2 HB1.out), B1⟩
    · have HB1 := hid h1
      clear h1
      clear a1 a2
      have HT := hid (bcB_g HB0.out HB1.out)
      obtain ⟨⟨a1, a2⟩, ⟨a3, a4⟩⟩ := askB_t HB1.out
      obtain ⟨a5, a6⟩ := of_decide_eq_true HB0.out
      obtain ⟨t, rfl⟩ : ∃ t : Nat, st = t := ⟨st.toNat, by omega⟩
      obtain ⟨q, rfl⟩ : ∃ q : Nat, r = q := ⟨r.toNat, by omega⟩
      obtain ⟨n, rfl⟩ : ∃ n : Nat, b = n := ⟨b.toNat, by omega⟩
      have s1 : 1 ≤ t := by omega
      have s2 : t ≤ 4 := by omega
      have r1 : 1 ≤ q := by omega
      have r2 : q ≤ 8 := by omega
      have n1 : 2 ≤ n := by omega
      have n2 : n ≤ 16 := by omega
      clear a1 a2 a3 a4 a5 a6
      have Hbf := hid (bits_fst fun b => has_cb (n := n) (b := b) r1 r2 s2)
      have HQ := hid (cbW_q r1 r2 s2)
      go_enter Try.func13, Try.ntmps13
      have B0 := bel_alloc w (.cells #[.int .i64 (n : Int), .bool false] 53)
      obtain ⟨hbA, hbB⟩ := box2_cells (Below.refl (w.alloc (.cells #[.int .i64 (n : Int), .bool false] 53)).heap.size (w.alloc (.cells #[.int .i64 (n : Int), .bool false] 53)))
      go_wp2_with fail
      refine (impl_IsWord_yes _ _ _ (by omega) (by omega)).mono ?_
      rintro e w1 ⟨rfl, hb1⟩
      have B1 := bel_step B0 hb1
      have hgz : w.heap.size < w1.heap.size := Nat.lt_of_lt_of_le (by simp) hb1.size
      obtain ⟨hbA, hbB⟩ := boxed hbA hbB (by simp) hb1
      go_wp2_with fail
      refine (isComb_is _ _ true _ HB1.out).mono ?_
      rintro e w' ⟨rfl, rfl⟩
      go_wp2_with fail
      go_region_with (first | (go_at_call 38; refine (combWeights_any t q _ s1 s2 r1 r2).mono ?_; rintro e w2 ⟨v2, rfl, R2, hb2⟩; have B2 := bel_step B1 (bel_undrew hb2); obtain ⟨hcA, hcB⟩ := boxed hbA hbB hgz (bel_undrew hb2); have Hs2 := hid R2.sl; clear R2) | (go_at_call 37; refine (bitsNeeded_in _ (cbW q t) n false _ Hs2.out HQ.out n1 n2).mono ?_; rintro e w3 ⟨rfl, hb3⟩; have B3 := bel_step B2 hb3))
      all_goals go_wp2
      all_goals go_ret2
      all_goals exact ⟨bc_yes HT.out Hbf.out.1 Hbf.out.2, B3⟩


end Go.Proofs.Ytdedifgpbehpoaa
