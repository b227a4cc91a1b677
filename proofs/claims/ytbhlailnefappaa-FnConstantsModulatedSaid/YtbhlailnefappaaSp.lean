
import Derived.Test.YtbhlailnefappaaFi
namespace Go.Proofs.Ytbhlailnefappaa
open Go.RowKit BitX
theorem ret_b {a b : Bool} (h : a = b) : Ending.returned (.bool a) = .returned (.bool b) := by rw [h]
def leastI (a b : Int) : Int := if a < b then a else b
def mostI (a b : Int) : Int := if b < a then a else b

set_option maxHeartbeats 400000 in
theorem l1In_yes (n lo hi : Int) (w : World) (h1 : lo ≤ n) (h2 : n ≤ hi) :
    Calls Try.prog 63 #[.int .i64 n, .int .i64 lo, .int .i64 hi] w fun e w' => e = .returned (.bool true) ∧ w = w' := by
  go_enter Try.func63, Try.ntmps63
  go_wp2
  go_ret
  exact ⟨rfl, rfl⟩
set_option maxHeartbeats 400000 in
theorem l1In_no (n lo hi : Int) (w : World) (h : ¬ (lo ≤ n ∧ n ≤ hi)) :
    Calls Try.prog 63 #[.int .i64 n, .int .i64 lo, .int .i64 hi] w fun e w' => e = .returned (.bool false) ∧ w = w' := by
  by_cases h1 : n < lo
  · clear h
    go_enter Try.func63, Try.ntmps63
    go_wp2
    go_ret
    exact ⟨rfl, rfl⟩
  · have h2 : lo ≤ n := by omega
    have h3 : hi < n := by omega
    clear h h1
    go_enter Try.func63, Try.ntmps63
    go_wp2
    go_ret
    exact ⟨ret_b (decide_eq_false (by omega)), rfl⟩

set_option maxHeartbeats 400000 in
theorem l1Least_any (a b : Int) (w : World) :
    Calls Try.prog 75 #[.int .i64 a, .int .i64 b] w fun e w' => e = .returned (.int .i64 (leastI a b)) ∧ w = w' := by
  by_cases h : a < b
  · have hf : a = leastI a b := by unfold leastI; rw [if_pos h]
    have Hf := hid hf
    clear hf
    go_enter Try.func75, Try.ntmps75
    go_wp2
    go_ret
    exact ⟨ret_i Hf.out, rfl⟩
  · have hf : b = leastI a b := by unfold leastI; rw [if_neg h]
    have Hf := hid hf
    clear hf
    go_enter Try.func75, Try.ntmps75
    go_wp2
    go_ret
    exact ⟨ret_i Hf.out, rfl⟩
set_option maxHeartbeats 400000 in
theorem l1Most_any (a b : Int) (w : World) :
    Calls Try.prog 76 #[.int .i64 a, .int .i64 b] w fun e w' => e = .returned (.int .i64 (mostI a b)) ∧ w = w' := by
  by_cases h : b < a
  · have hf : a = mostI a b := by unfold mostI; rw [if_pos h]
    have Hf := hid hf
    clear hf
    go_enter Try.func76, Try.ntmps76
    go_wp2
    go_ret
    exact ⟨ret_i Hf.out, rfl⟩
  · have hf : b = mostI a b := by unfold mostI; rw [if_neg h]
    have Hf := hid hf
    clear hf
    go_enter Try.func76, Try.ntmps76
    go_wp2
    go_ret
    exact ⟨ret_i Hf.out, rfl⟩
theorem fit_le (b : Nat) (x : Int) (h1 : 1 ≤ b) (h2 : b ≤ 16) : leastI (2 ^ (b - 1) - 1) (mostI (-(2 : Int) ^ (b - 1)) x) = fitI b false x := by
  have := pow_small b h1 h2
  unfold leastI mostI fitI
  split <;> split <;> (try split) <;> (try split) <;> first | omega | simp_all | skip
  all_goals omega

theorem tmod_mod (x m : Int) : x.tmod m % m = x % m := by
  have h := Int.mul_tdiv_add_tmod x m
  generalize x.tmod m = t at *
  rw [← h, Int.add_comm, Int.add_mul_emod_self_left]
theorem bmod_lo (b : Nat) (x : Int) (h1 : 1 ≤ b) (h : x % 2 ^ b ≤ 2 ^ (b - 1) - 1) : x % 2 ^ b = fitI b true x := by
  have hp : (2 : Int) ^ b = 2 * 2 ^ (b - 1) := by
    rw [show b = (b - 1) + 1 from by omega, Int.pow_succ, Int.mul_comm]; congr 2
  simp only [fitI, if_true, Int.bmod_def, show ((2 ^ b : Nat) : Int) = 2 ^ b from by norm_cast]
  rw [if_pos (by omega)]
theorem bmod_hi (b : Nat) (x : Int) (h1 : 1 ≤ b) (h : 2 ^ (b - 1) - 1 < x % 2 ^ b) : x % 2 ^ b - 2 ^ b = fitI b true x := by
  have hp : (2 : Int) ^ b = 2 * 2 ^ (b - 1) := by
    rw [show b = (b - 1) + 1 from by omega, Int.pow_succ, Int.mul_comm]; congr 2
  simp only [fitI, if_true, Int.bmod_def, show ((2 ^ b : Nat) : Int) = 2 ^ b from by norm_cast]
  rw [if_neg (by omega)]

end Go.Proofs.Ytbhlailnefappaa
