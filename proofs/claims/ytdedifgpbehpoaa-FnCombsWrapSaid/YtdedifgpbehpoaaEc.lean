
import Derived.Test.YtdedifgpbehpoaaEb
import Derived.Deep.QuietTactic
import Derived.BigQuiet
namespace Go.Proofs.Ytdedifgpbehpoaa
open Go.RowKit BitX Go.MemX Go.Ch6
set_option linter.unusedVariables false


set_option maxHeartbeats 1000000 in
theorem cbWrap_any (x : Int) (b : Nat) (w : World) (h1 : 2 ≤ b) (h2 : b ≤ 40) (x1 : -1125899906842624 ≤ x) (x2 : x ≤ 1125899906842624) :
    Calls Try.prog 80 #[.int .i64 x, .int .i64 (b : Int)] w fun e w' => e = .returned (.int .i64 (wrI b x)) ∧ w = w' := by
  have hp := pow1 (b - 1)
  have hq := pow39 h2
  have hA := pow_two (b := b) (by omega)
  have hm := wrI_model (P := 2 ^ (b - 1)) (x := x) hp
  have hw := wrI_of b x
  generalize wrI b x = W at *
  generalize (2 : Int) ^ (b - 1) = P at *
  obtain ⟨A, hAe⟩ : ∃ A, A = 2 * P := ⟨_, rfl⟩
  rw [← hAe] at hA hm hw
  have s1 : wrap64 (1 * 2 ^ min b 64) = A := by rw [Nat.min_eq_left (by omega), Int.one_mul, hA]; exact IntWalk.wrap64_in _ (by omega)
  have s2 : wrap64 (1 * 2 ^ b) = A := by rw [Int.one_mul, hA]; exact IntWalk.wrap64_in _ (by omega)
  have s3 : wrap64 (2 ^ b) = A := by rw [hA]; exact IntWalk.wrap64_in _ (by omega)
  have t1 := Int.tmod_lt_of_pos x (show 0 < A by omega)
  have t2 := Int.lt_tmod_of_pos x (show 0 < A by omega)
  have r1 := Int.emod_nonneg x (show A ≠ 0 by omega)
  have r2 := Int.emod_lt_of_pos x (show 0 < A by omega)
  obtain ⟨t, ht⟩ : ∃ t, x.tmod A = t := ⟨_, rfl⟩
  obtain ⟨r, hr⟩ : ∃ r, x % A = r := ⟨_, rfl⟩
  rw [ht] at t1 t2 hm
  rw [hr] at r1 r2 hm hw
  have hm2 : (t + A) % A = r := by rw [← hm, Int.tmod_eq_emod_of_nonneg (by omega)]
  have e1 : x.tmod A = t := ht
  have e1b : 0 ≤ x → x % A = t := fun h => by rw [← Int.tmod_eq_emod_of_nonneg h]; exact e1
  have e3 : (t + A) % A = r := hm2
  have e4 : A / 2 = P := by omega
  have f1 : 0 ≤ t + A := by omega
  have a0 : A ≠ 0 := by omega
  have a1 : (A == 0) = false := by rw [beq_eq_false_iff_ne]; exact a0
  have a2 : A ≤ 1099511627776 := by omega
  have a3 : 1 ≤ A := by omega
  have E1 := hid e1
  have E1b := hid e1b
  clear e1 e1b hm hm2 ht hr hA hq hp
  by_cases hle : P ≤ r
  · have Hw := hid (show r - A = W from by rw [hw, if_pos hle])
    clear hw hAe
    by_cases hx : 0 ≤ x
    · have e1 := E1b.out hx
      clear E1 E1b
      go_enter Try.func80, Try.ntmps80
      go_wp2_with fail
      go_ret
      exact ⟨ret_i Hw.out, rfl⟩
    · have e1 := E1.out
      clear E1 E1b
      go_enter Try.func80, Try.ntmps80
      go_wp2_with fail
      go_ret
      exact ⟨ret_i Hw.out, rfl⟩
  · have Hw := hid (show r = W from by rw [hw, if_neg hle])
    clear hw hAe
    by_cases hx : 0 ≤ x
    · have e1 := E1b.out hx
      clear E1 E1b
      go_enter Try.func80, Try.ntmps80
      go_wp2_with fail
      go_ret
      exact ⟨ret_i Hw.out, rfl⟩
    · have e1 := E1.out
      clear E1 E1b
      go_enter Try.func80, Try.ntmps80
      go_wp2_with fail
      go_ret
      exact ⟨ret_i Hw.out, rfl⟩


set_option maxHeartbeats 1000000 in
theorem wrapped_any (x : Int) (b : Nat) (w : World) (h1 : 2 ≤ b) (h2 : b ≤ 40) (x1 : -1125899906842624 ≤ x) (x2 : x ≤ 1125899906842624) :
    Calls Try.prog 68 #[.int .i64 x, .int .i64 (b : Int)] w fun e w' => e = .returned (.int .i64 (wrI b x)) ∧ w = w' := by
  have hp := pow1 (b - 1)
  have hq := pow39 h2
  have hA := pow_two (b := b) (by omega)
  have hm := Go.Ch6.and_mask (x + 2 ^ (b - 1)) b (by omega)
  have hw : wrI b x = (x + 2 ^ (b - 1)) % (2 * 2 ^ (b - 1)) - 2 ^ (b - 1) := rfl
  rw [← hA] at hw
  have s3 : wrap64 ((2 : Int) ^ (b - 1)) = 2 ^ (b - 1) := IntWalk.wrap64_in _ (by omega)
  have hfin : wrap64 (bits BinOp.and IntKind.i64 (wrap64 (x + wrap64 (2 ^ (b - 1)))) (wrap64 (wrap64 (2 * wrap64 (2 ^ (b - 1))) - 1)) - wrap64 (2 ^ (b - 1))) = wrI b x := by
    rw [hw, s3]
    rw [hA] at hm ⊢
    generalize (2 : Int) ^ (b - 1) = P at *
    have r1 := Int.emod_nonneg (x + P) (show (2 : Int) * P ≠ 0 by omega)
    have r2 := Int.emod_lt_of_pos (x + P) (show (0 : Int) < 2 * P by omega)
    rw [IntWalk.wrap64_in (x + P) (by omega), IntWalk.wrap64_in (2 * P) (by omega), IntWalk.wrap64_in (2 * P - 1) (by omega), hm]
    exact IntWalk.wrap64_in _ (by omega)
  have s0 : ((b : Int) - 1).toNat = b - 1 := by omega
  have Hw := hid hfin
  clear hw hA hm s3 hfin hq hp
  go_enter Try.func68, Try.ntmps68
  go_wp2_with fail
  go_ret
  exact ⟨ret_i Hw.out, rfl⟩

end Go.Proofs.Ytdedifgpbehpoaa
