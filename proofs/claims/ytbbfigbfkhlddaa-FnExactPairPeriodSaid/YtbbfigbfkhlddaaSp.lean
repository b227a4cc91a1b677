
import Derived.Test.YtbbfigbfkhlddaaFi
namespace Go.Proofs.Ytbbfigbfkhlddaa
open Go.RowKit BitX
theorem ret_b {a b : Bool} (h : a = b) : Ending.returned (.bool a) = .returned (.bool b) := by rw [h]
def leastI (a b : Int) : Int := if a < b then a else b
def mostI (a b : Int) : Int := if b < a then a else b

set_option maxHeartbeats 400000 in
theorem l1In_yes (n lo hi : Int) (w : World) (h1 : lo ≤ n) (h2 : n ≤ hi) :
    Calls Try.prog 23 #[.int .i64 n, .int .i64 lo, .int .i64 hi] w fun e w' => e = .returned (.bool true) ∧ w = w' := by
  go_enter Try.func23, Try.ntmps23
  go_wp2
  go_ret
  exact ⟨rfl, rfl⟩
set_option maxHeartbeats 400000 in
theorem l1In_no (n lo hi : Int) (w : World) (h : ¬ (lo ≤ n ∧ n ≤ hi)) :
    Calls Try.prog 23 #[.int .i64 n, .int .i64 lo, .int .i64 hi] w fun e w' => e = .returned (.bool false) ∧ w = w' := by
  by_cases h1 : n < lo
  · clear h
    go_enter Try.func23, Try.ntmps23
    go_wp2
    go_ret
    exact ⟨rfl, rfl⟩
  · have h2 : lo ≤ n := by omega
    have h3 : hi < n := by omega
    clear h h1
    go_enter Try.func23, Try.ntmps23
    go_wp2
    go_ret
    exact ⟨ret_b (decide_eq_false (by omega)), rfl⟩

set_option maxHeartbeats 400000 in
theorem wdGood_yes (b : Int) (wr : Bool) (w : World) (h1 : 2 ≤ b) (h2 : b ≤ 16) :
    Calls Try.prog 35 #[.agg #[.int .i64 b, .bool wr]] w fun e w' => e = .returned (.bool true) ∧ Below w.heap.size w w' := by
  go_enter Try.func35, Try.ntmps35
  go_wp2_with (go_at_call 23; refine (l1In_yes _ _ _ _ (by omega) (by omega)).mono ?_; rintro e w1 ⟨rfl, rfl⟩)
  go_ret
  exact ⟨rfl, (Below.refl _ _).alloc (Nat.le_refl _) _⟩
set_option maxHeartbeats 400000 in
theorem wdGood_no (b : Int) (wr : Bool) (w : World) (h : ¬ (2 ≤ b ∧ b ≤ 16)) :
    Calls Try.prog 35 #[.agg #[.int .i64 b, .bool wr]] w fun e w' => e = .returned (.bool false) ∧ Below w.heap.size w w' := by
  have H := hid h
  clear h
  go_enter Try.func35, Try.ntmps35
  go_wp2_with (go_at_call 23; refine (l1In_no _ _ _ _ H.out).mono ?_; rintro e w1 ⟨rfl, rfl⟩)
  go_ret
  exact ⟨rfl, (Below.refl _ _).alloc (Nat.le_refl _) _⟩

set_option maxHeartbeats 400000 in
theorem wdLow_any (b : Nat) (wr : Bool) (w : World) (h1 : 1 ≤ b) (h2 : b ≤ 16) :
    Calls Try.prog 36 #[.agg #[.int .i64 (b : Int), .bool wr]] w fun e w' => e = .returned (.int .i64 (-(2 : Int) ^ (b - 1))) ∧ Below w.heap.size w w' := by
  go_enter Try.func36, Try.ntmps36
  go_wp2
  go_ret
  have := pow_small b h1 h2
  exact ⟨ret_i (by rw [IntWalk.wrap64_in (2 ^ (b - 1)) (by omega)]; exact IntWalk.wrap64_in _ (by omega)), (Below.refl _ _).alloc (Nat.le_refl _) _⟩
set_option maxHeartbeats 400000 in
theorem wdHigh_any (b : Nat) (wr : Bool) (w : World) (h1 : 1 ≤ b) (h2 : b ≤ 16) :
    Calls Try.prog 37 #[.agg #[.int .i64 (b : Int), .bool wr]] w fun e w' => e = .returned (.int .i64 ((2 : Int) ^ (b - 1) - 1)) ∧ Below w.heap.size w w' := by
  go_enter Try.func37, Try.ntmps37
  go_wp2
  go_ret
  have := pow_small b h1 h2
  exact ⟨ret_i (by rw [IntWalk.wrap64_in (2 ^ (b - 1)) (by omega)]; exact IntWalk.wrap64_in _ (by omega)), (Below.refl _ _).alloc (Nat.le_refl _) _⟩
set_option maxHeartbeats 400000 in
theorem l1Least_any (a b : Int) (w : World) :
    Calls Try.prog 31 #[.int .i64 a, .int .i64 b] w fun e w' => e = .returned (.int .i64 (leastI a b)) ∧ w = w' := by
  by_cases h : a < b
  · have hf : a = leastI a b := by unfold leastI; rw [if_pos h]
    have Hf := hid hf
    clear hf
    go_enter Try.func31, Try.ntmps31
    go_wp2
    go_ret
    exact ⟨ret_i Hf.out, rfl⟩
  · have hf : b = leastI a b := by unfold leastI; rw [if_neg h]
    have Hf := hid hf
    clear hf
    go_enter Try.func31, Try.ntmps31
    go_wp2
    go_ret
    exact ⟨ret_i Hf.out, rfl⟩
set_option maxHeartbeats 400000 in
theorem l1Most_any (a b : Int) (w : World) :
    Calls Try.prog 58 #[.int .i64 a, .int .i64 b] w fun e w' => e = .returned (.int .i64 (mostI a b)) ∧ w = w' := by
  by_cases h : b < a
  · have hf : a = mostI a b := by unfold mostI; rw [if_pos h]
    have Hf := hid hf
    clear hf
    go_enter Try.func58, Try.ntmps58
    go_wp2
    go_ret
    exact ⟨ret_i Hf.out, rfl⟩
  · have hf : b = mostI a b := by unfold mostI; rw [if_neg h]
    have Hf := hid hf
    clear hf
    go_enter Try.func58, Try.ntmps58
    go_wp2
    go_ret
    exact ⟨ret_i Hf.out, rfl⟩
theorem fit_le (b : Nat) (x : Int) (h1 : 1 ≤ b) (h2 : b ≤ 16) : leastI (2 ^ (b - 1) - 1) (mostI (-(2 : Int) ^ (b - 1)) x) = fitI b false x := by
  have := pow_small b h1 h2
  unfold leastI mostI fitI
  split <;> split <;> (try split) <;> (try split) <;> first | omega | simp_all | skip
  all_goals omega

set_option maxHeartbeats 400000 in
theorem wdFit_hold (b : Nat) (x : Int) (w : World) (h1 : 1 ≤ b) (h2 : b ≤ 16) :
    Calls Try.prog 50 #[.agg #[.int .i64 (b : Int), .bool false], .int .i64 x] w fun e w' => e = .returned (.int .i64 (fitI b false x)) ∧ Below w.heap.size w w' := by
  have Hf := hid (fit_le b x h1 h2)
  go_enter Try.func50, Try.ntmps50
  go_wp2_with fail
  go_region_with (first | (go_at_call 37; refine (wdHigh_any b false _ h1 h2).mono ?_; rintro e w1 ⟨rfl, hb1⟩; have hc1 := hb1.cell (p := ⟨w.heap.size, 0, none⟩) (by simp); have hc2 := hb1.cell (p := ⟨w.heap.size, 1, none⟩) (by simp)) | (go_at_call 36; refine (wdLow_any b false _ h1 h2).mono ?_; rintro e w2 ⟨rfl, hb2⟩; have hd1 := hb2.cell (p := ⟨w.heap.size, 0, none⟩) (by have := hb1.size; simp at *; omega); have hd2 := hb2.cell (p := ⟨w.heap.size, 1, none⟩) (by have := hb1.size; simp at *; omega)) | (go_at_call 58; refine (l1Most_any _ _ _).mono ?_; rintro e w3 ⟨rfl, rfl⟩) | (go_at_call 31; refine (l1Least_any _ _ _).mono ?_; rintro e w3 ⟨rfl, rfl⟩))
  all_goals go_wp2
  all_goals go_ret
  all_goals exact ⟨ret_i Hf.out, ((((Below.refl _ _).alloc (Nat.le_refl _) _).drew.trans (hb1.mono (by show w.heap.size ≤ _; simp))).trans (hb2.mono (by have := hb1.size; simp at this; omega)))⟩
theorem tmod_mod (x m : Int) : x.tmod m % m = x % m := by
  have h := Int.mul_tdiv_add_tmod x m
  generalize x.tmod m = t at *
  rw [← h, Int.add_comm, Int.add_mul_emod_self_left]
theorem bmod_lo (b : Nat) (x : Int) (h1 : 1 ≤ b) (h : x % 2 ^ b ≤ 2 ^ (b - 1) - 1) : x % 2 ^ b = fitI b true x := by
  have hp : (2 : Int) ^ b = 2 * 2 ^ (b - 1) := by
    rw [show b = (b - 1) + 1 from by omega, Int.pow_succ, Int.mul_comm]; congr 2
  simp only [fitI, if_true, Int.bmod_def, show ((2 ^ b : Nat) : Int) = 2 ^ b from by norm_cast]
  rw [if_pos (by omega)]
theorem bmod_hi (b : Nat) (x : Int) (h1 : 1 ≤ b) (h : 2 ^ (b - 1) - 1 < x % 2 ^ b) : x % 2 ^ b - 2 ^ b = fitI b true x := by
  have hp : (2 : Int) ^ b = 2 * 2 ^ (b - 1) := by
    rw [show b = (b - 1) + 1 from by omega, Int.pow_succ, Int.mul_comm]; congr 2
  simp only [fitI, if_true, Int.bmod_def, show ((2 ^ b : Nat) : Int) = 2 ^ b from by norm_cast]
  rw [if_neg (by omega)]

set_option maxHeartbeats 400000 in
theorem wdFit_wrap (b : Nat) (x : Int) (w : World) (h1 : 1 ≤ b) (h2 : b ≤ 16) :
    Calls Try.prog 50 #[.agg #[.int .i64 (b : Int), .bool true], .int .i64 x] w fun e w' => e = .returned (.int .i64 (fitI b true x)) ∧ Below w.heap.size w w' := by
  have hps := pow_small b h1 h2
  obtain ⟨m, hm⟩ : ∃ m : Int, m = 2 ^ b := ⟨_, rfl⟩
  have hm2 : m = 2 * 2 ^ (b - 1) := by
    rw [hm, show b = (b - 1) + 1 from by omega, Int.pow_succ, Int.mul_comm]; congr 2
  have hw : wrap64 ((2 : Int) ^ b) = m := by rw [hm]; exact IntWalk.wrap64_in _ (by omega)
  have hm3 : 2 ≤ m := by omega
  have hm4 : m ≤ 65536 := by omega
  have Hm := hid hm
  have Hm2 := hid hm2
  clear hm hm2 hps
  have ht1 : -m < x.tmod m := Int.lt_tmod_of_pos x (by omega)
  have ht2 : x.tmod m < m := Int.tmod_lt_of_pos x (by omega)
  go_enter Try.func50, Try.ntmps50
  go_wp2_with (go_at_call 37; refine (wdHigh_any b true _ h1 h2).mono ?_; rintro e w1 ⟨rfl, hb1⟩)
  · have hlt : 2 ^ (b - 1) - 1 < x.tmod m % m := by assumption
    have hr2 : x.tmod m % m < m := Int.emod_lt_of_pos _ (by omega)
    go_ret
    refine ⟨ret_i ?_, ((Below.refl _ _).alloc (Nat.le_refl _) _).trans (hb1.mono (by simp))⟩
    rw [IntWalk.wrap64_in (x.tmod m % m - m) (by have := pow_small b h1 h2; omega)]
    rw [tmod_mod] at hlt ⊢
    rw [Hm.out] at hlt ⊢
    exact bmod_hi b x h1 hlt
  · have hlt : x.tmod m % m ≤ 2 ^ (b - 1) - 1 := by assumption
    go_ret
    refine ⟨ret_i ?_, ((Below.refl _ _).alloc (Nat.le_refl _) _).trans (hb1.mono (by simp))⟩
    rw [tmod_mod] at hlt ⊢
    rw [Hm.out] at hlt ⊢
    exact bmod_lo b x h1 hlt
theorem wdFit_any (b : Nat) (wr : Bool) (x : Int) (w : World) (h1 : 1 ≤ b) (h2 : b ≤ 16) :
    Calls Try.prog 50 #[.agg #[.int .i64 (b : Int), .bool wr], .int .i64 x] w fun e w' => e = .returned (.int .i64 (fitI b wr x)) ∧ Below w.heap.size w w' := by
  cases wr
  · exact wdFit_hold b x w h1 h2
  · exact wdFit_wrap b x w h1 h2
end Go.Proofs.Ytbbfigbfkhlddaa
