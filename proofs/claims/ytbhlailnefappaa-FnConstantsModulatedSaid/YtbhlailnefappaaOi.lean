
import Derived.Test.YtbhlailnefappaaBl
import Derived.Test.YtbhlailnefappaaAb
import Derived.Deep.QuietTactic
import Derived.BigQuiet
namespace Go.Proofs.Ytbhlailnefappaa
open Go.RowKit BitX Go.MemX Go.ShX
set_option linter.unusedVariables false

theorem pow10 (k : Nat) (h : k ≤ 10) : (1 : Int) ≤ 2 ^ k ∧ (2 : Int) ^ k ≤ 1024 := by
  have h1 : (2 : Nat) ^ k ≤ 2 ^ 10 := Nat.pow_le_pow_right (by decide) h
  have h2 : (2 : Int) ^ k ≤ 2 ^ 10 := by exact_mod_cast h1
  have h3 : (0 : Int) < 2 ^ k := Int.pow_pos (by decide)
  omega

theorem ret_ii {i j k l : Int} (h1 : i = j) (h2 : k = l) : Ending.returned (.tuple #[.int .i64 i, .int .i64 k]) = .returned (.tuple #[.int .i64 j, .int .i64 l]) := by rw [h1, h2]

theorem i64_nat (q : Nat) (h : q ≤ 5000) : IntKind.i64.wrap (q : Int) = (q : Int) := IntWalk.i64_in _ (by omega)
theorem i64_neg (q : Nat) (h : q ≤ 5000) : IntKind.i64.wrap (-(q : Int)) = -(q : Int) := IntWalk.i64_in _ (by omega)
theorem w64_nat (q : Nat) (h : q ≤ 5000) : wrap64 (q : Int) = (q : Int) := IntWalk.wrap64_in _ (by omega)
theorem w64_neg (q : Nat) (h : q ≤ 5000) : wrap64 (-(q : Int)) = -(q : Int) := IntWalk.wrap64_in _ (by omega)


theorem tmod_nat (x y : Nat) : (x : Int).tmod (y : Int) = ((x % y : Nat) : Int) := by
  rw [Int.tmod_eq_emod_of_nonneg (by omega)]; rfl
theorem gcd_step (x y : Nat) : Nat.gcd y (x % y) = Nat.gcd x y := by
  rw [Nat.gcd_comm y, ← Nat.gcd_rec, Nat.gcd_comm]
set_option maxHeartbeats 1000000 in
theorem gcd_any (x y : Nat) (w : World) (hx : x ≤ 5000) (hy : y ≤ 5000) :
    Calls Try.prog 68 #[.int .i64 (x : Int), .int .i64 (y : Int)] w fun e w' => e = .returned (.int .i64 ((Nat.gcd x y : Nat) : Int)) ∧ Below w.heap.size w w' := by
  obtain ⟨G, hG⟩ : ∃ G, G = Nat.gcd x y := ⟨_, rfl⟩
  have HG := hid hG.symm
  rw [← hG]
  clear hG
  go_enter Try.func68, Try.ntmps68
  go_wp2_with fail
  go_loopw [0, 1] (fun aa bb wr => ∃ x' y' : Nat, aa = .int .i64 (x' : Int) ∧ bb = .int .i64 (y' : Int) ∧ Hid (Nat.gcd x' y' = G) ∧ x' ≤ 5000 ∧ y' ≤ 5000 ∧ Below w.heap.size w wr)
    (fun _ bb _ => (intOf bb).toNat)
  case atStart => exact ⟨x, y, rfl, rfl, HG, hx, hy, Below.refl _ _⟩
  case round =>
    clear HG hx hy
    obtain ⟨x, y, rfl, rfl, HG, hx, hy, hb⟩ := hrel
    by_cases h0 : y = 0
    · subst h0
      have hg : x = G := by rw [← HG.out, Nat.gcd_zero_right]
      have Hg := hid hg
      clear HG hg
      go_wp2
      go_ret
      exact ⟨ret_i (by rw [Hg.out]), hb⟩
    · have hy1 : (1 : Int) ≤ (y : Int) := by omega
      have hst := gcd_step x y
      rw [HG.out] at hst
      have hm := tmod_nat x y
      have hlt : x % y < y := Nat.mod_lt _ (by omega)
      generalize x % y = z at *
      have Hst := hid hst
      have e1 : IntKind.i64.wrap ((x : Int).tmod (y : Int)) = (z : Int) := by rw [hm]; exact IntWalk.i64_in _ (by omega)
      have e2 : IntKind.i64.wrap (z : Int) = (z : Int) := IntWalk.i64_in _ (by omega)
      have hy0 : (y : Int) ≠ 0 := by omega
      have hyb : ((y : Int) == 0) = false := by rw [beq_eq_false_iff_ne]; exact hy0
      clear hst h0
      go_wp2_with fail
      go_quiet (fail)
      go_wp2
      go_roundw
      case rel => exact ⟨y, z, rfl, rfl, Hst, by omega, by omega, below_drewN hb _⟩
      case measure => simp [intOf]; omega


end Go.Proofs.Ytbhlailnefappaa
