
import Derived.Test.YtdedifgpbehpoaaBo
namespace Go.Proofs.Ytdedifgpbehpoaa
open Go.RowKit BitX

theorem pow_small (b : Nat) (h1 : 1 ≤ b) (h2 : b ≤ 16) : (1 : Int) ≤ 2 ^ (b - 1) ∧ (2 : Int) ^ (b - 1) ≤ 32768 := by
  have hp : (0 : Int) < 2 ^ (b - 1) := Int.pow_pos (by decide)
  have : (2 : Nat) ^ (b - 1) ≤ 2 ^ 15 := Nat.pow_le_pow_right (by decide) (by omega)
  have h3 : (2 : Int) ^ (b - 1) ≤ 2 ^ 15 := by exact_mod_cast this
  omega
theorem ret_i {a b : Int} (h : a = b) : Ending.returned (.int .i64 a) = .returned (.int .i64 b) := by rw [h]

/-- a number fitted to a word -/
def fitI (b : Nat) (wr : Bool) (x : Int) : Int :=
  if wr then x.bmod (2 ^ b) else if x < -(2 : Int) ^ (b - 1) then -(2 : Int) ^ (b - 1) else if 2 ^ (b - 1) - 1 < x then 2 ^ (b - 1) - 1 else x

set_option maxHeartbeats 400000 in
theorem leastOf_any (b : Nat) (wr : Bool) (w : World) (h1 : 1 ≤ b) (h2 : b ≤ 16) :
    Calls Try.prog 63 #[.agg #[.int .i64 (b : Int), .bool wr]] w fun e w' => e = .returned (.int .i64 (-(2 : Int) ^ (b - 1))) ∧ Below w.heap.size w w' := by
  go_enter Try.func63, Try.ntmps63
  go_wp2
  go_ret
  have := pow_small b h1 h2
  exact ⟨ret_i (IntWalk.wrap64_in _ (by omega)), (Below.refl _ _).alloc (Nat.le_refl _) _⟩
set_option maxHeartbeats 400000 in
theorem greatestOf_any (b : Nat) (wr : Bool) (w : World) (h1 : 1 ≤ b) (h2 : b ≤ 16) :
    Calls Try.prog 64 #[.agg #[.int .i64 (b : Int), .bool wr]] w fun e w' => e = .returned (.int .i64 ((2 : Int) ^ (b - 1) - 1)) ∧ Below w.heap.size w w' := by
  go_enter Try.func64, Try.ntmps64
  go_wp2
  go_ret
  have := pow_small b h1 h2
  exact ⟨ret_i (by rw [IntWalk.wrap64_in (2 ^ (b - 1)) (by omega)]; exact IntWalk.wrap64_in _ (by omega)), (Below.refl _ _).alloc (Nat.le_refl _) _⟩

theorem isIn_yes (b : Nat) (wr : Bool) (x : Int) (w : World) (h1 : 1 ≤ b) (h2 : b ≤ 16) (hx1 : -9223372036854775808 ≤ x) (hx2 : x ≤ 9223372036854775807) (hi : -(2 : Int) ^ (b - 1) ≤ x ∧ x ≤ 2 ^ (b - 1) - 1) :
    Calls Try.prog 65 #[.agg #[.int .i64 (b : Int), .bool wr], .int .i64 x] w fun e w' => e = .returned (.bool true) ∧ Below w.heap.size w w' := by
  refine (isIn_any b wr x w h1 (by omega)).mono fun e w' ⟨he, hb⟩ => ⟨?_, hb⟩
  rw [he, cutV_id b x h1 (by omega) hx1 hx2, decide_eq_true hi]
theorem isIn_no (b : Nat) (wr : Bool) (x : Int) (w : World) (h1 : 1 ≤ b) (h2 : b ≤ 16) (hx1 : -9223372036854775808 ≤ x) (hx2 : x ≤ 9223372036854775807) (hi : ¬ (-(2 : Int) ^ (b - 1) ≤ x ∧ x ≤ 2 ^ (b - 1) - 1)) :
    Calls Try.prog 65 #[.agg #[.int .i64 (b : Int), .bool wr], .int .i64 x] w fun e w' => e = .returned (.bool false) ∧ Below w.heap.size w w' := by
  refine (isIn_any b wr x w h1 (by omega)).mono fun e w' ⟨he, hb⟩ => ⟨?_, hb⟩
  rw [he, cutV_id b x h1 (by omega) hx1 hx2, decide_eq_false hi]

end Go.Proofs.Ytdedifgpbehpoaa
