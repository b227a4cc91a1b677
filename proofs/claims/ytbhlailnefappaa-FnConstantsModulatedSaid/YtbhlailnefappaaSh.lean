
import Derived.WalkKit
namespace Go.ShX
open Go Go.RowKit

/-- a number shifted by k bits with a mode -/
def shiftI (x : Int) (k : Nat) (mode : Int) : Int :=
  if mode = 1 then (x + 2 ^ k / 2) / 2 ^ k else if mode = 2 then x.tdiv (2 ^ k) else x / 2 ^ k

theorem pow_or (k : Nat) : (2 : Int) ^ k = 1 ∨ ∃ h : Int, (2 : Int) ^ k = 2 * h ∧ 0 < h := by
  cases k with
  | zero => exact .inl rfl
  | succ k => exact .inr ⟨2 ^ k, by rw [Int.pow_succ, Int.mul_comm], Int.pow_pos (by decide)⟩

theorem shift_down (x : Int) (k : Nat) : shiftI x k 0 = x / 2 ^ k := rfl

theorem near_key (x P : Int) (hP : P = 1 ∨ ∃ a : Int, P = 2 * a ∧ 0 < a) : (2 * (x % P) < P → (x + P / 2) / P = x / P) ∧ (0 < x % P → P ≤ 2 * (x % P) → (x + P / 2) / P = x / P + 1) := by
  rcases hP with rfl | ⟨a, rfl, ha⟩
  · constructor
    · intro _; simp
    · intro h; simp [Int.emod_one] at h
  · have hd := Int.mul_ediv_add_emod x (2 * a)
    have h0 := Int.emod_nonneg x (show 2 * a ≠ 0 by omega)
    have h1 := Int.emod_lt_of_pos x (show 0 < 2 * a by omega)
    generalize x % (2 * a) = r at *
    generalize x / (2 * a) = q at *
    have e : 2 * a / 2 = a := by omega
    constructor
    · intro h
      rw [e, ← hd, show 2 * a * q + r + a = (r + a) + 2 * a * q from by omega, Int.add_mul_ediv_left _ _ (by omega), Int.ediv_eq_zero_of_lt (by omega) (by omega)]
      omega
    · intro _ h
      rw [e, ← hd, show 2 * a * q + r + a = (r - a) + 2 * a * (q + 1) from by rw [Int.mul_add]; omega, Int.add_mul_ediv_left _ _ (by omega), Int.ediv_eq_zero_of_lt (by omega) (by omega)]
      omega
theorem near_no (x : Int) (k : Nat) (h : 2 * (x % 2 ^ k) < 2 ^ k) : shiftI x k 1 = x / 2 ^ k := (near_key x (2 ^ k) (pow_or k)).1 h
theorem near_yes (x : Int) (k : Nat) (h0 : 0 < x % 2 ^ k) (h : 2 ^ k ≤ 2 * (x % 2 ^ k)) : shiftI x k 1 = x / 2 ^ k + 1 := (near_key x (2 ^ k) (pow_or k)).2 h0 h
theorem tdiv_pos (x m : Int) (hx : 0 ≤ x) : x.tdiv m = x / m := Int.tdiv_eq_ediv_of_nonneg hx
theorem tdiv_exact (x m : Int) (hm : 0 < m) (h : x % m = 0) : x.tdiv m = x / m ∧ x.tmod m = 0 := by
  have hd := Int.mul_ediv_add_emod x m
  rw [h, Int.add_zero] at hd
  constructor
  · conv => lhs; rw [← hd]
    exact Int.mul_tdiv_cancel_left _ (by omega)
  · conv => lhs; rw [← hd]
    exact Int.mul_tmod_right _ _
theorem tdiv_neg (x m : Int) (hm : 0 < m) (hx : x < 0) (h : 0 < x % m) : x.tdiv m = x / m + 1 ∧ x.tmod m = x % m - m := by
  have hd := Int.mul_ediv_add_emod x m
  have h1 := Int.emod_lt_of_pos x hm
  have hq : x.tdiv m = x / m + 1 := by
    rw [Int.tdiv_eq_ediv]
    have hn : ¬ (0 ≤ x ∨ m ∣ x) := by
      intro hh
      rcases hh with hh | hh
      · omega
      · have := Int.emod_eq_zero_of_dvd hh; omega
    rw [if_neg hn, Int.sign_eq_one_of_pos hm]
  refine ⟨hq, ?_⟩
  have ht := Int.mul_tdiv_add_tmod x m
  rw [hq, Int.mul_add] at ht
  omega
theorem shift_zero_pos (x : Int) (k : Nat) (hx : 0 ≤ x) : shiftI x k 2 = x / 2 ^ k := tdiv_pos x _ hx
theorem shift_zero_exact (x : Int) (k : Nat) (h : x % 2 ^ k = 0) : shiftI x k 2 = x / 2 ^ k := (tdiv_exact x _ (Int.pow_pos (by decide)) h).1
theorem shift_zero_neg (x : Int) (k : Nat) (hx : x < 0) (h : 0 < x % 2 ^ k) : shiftI x k 2 = x / 2 ^ k + 1 := (tdiv_neg x _ (Int.pow_pos (by decide)) hx h).1
theorem div_bounds (x m : Int) (hm : 0 < m) : -(x.natAbs : Int) - 1 ≤ x / m ∧ x / m ≤ x.natAbs := by
  constructor
  · have : -(x.natAbs : Int) - 1 ≤ x / m := by
      apply Int.le_ediv_of_mul_le hm
      have : (-(x.natAbs : Int) - 1) * m ≤ (-(x.natAbs : Int) - 1) * 1 := Int.mul_le_mul_of_nonpos_left (by omega) (by omega)
      omega
    exact this
  · have : x / m ≤ x.natAbs := by
      apply Int.ediv_le_of_le_mul hm
      have : (x.natAbs : Int) * 1 ≤ (x.natAbs : Int) * m := Int.mul_le_mul_of_nonneg_left (by omega) (by omega)
      omega
    exact this
end Go.ShX
