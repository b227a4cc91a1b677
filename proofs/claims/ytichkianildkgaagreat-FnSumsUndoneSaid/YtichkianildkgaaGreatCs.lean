
import Derived.Test.YtichkianildkgaaGreatCn
import Derived.Test.YtichkianildkgaaGreatSh
namespace Go.Proofs.YtichkianildkgaaGreat
open Go.RowKit BitX Go.ShX

theorem pow20 (k : Nat) (h : k ≤ 20) : (1 : Int) ≤ 2 ^ k ∧ (2 : Int) ^ k ≤ 1048576 := by
  have hp : (0 : Int) < 2 ^ k := Int.pow_pos (by decide)
  have : (2 : Nat) ^ k ≤ 2 ^ 20 := Nat.pow_le_pow_right (by decide) h
  have h3 : (2 : Int) ^ k ≤ 2 ^ 20 := by exact_mod_cast this
  omega

set_option maxHeartbeats 400000 in
theorem wdShift_A0 (x : Int) (k : Nat) (w : World) (hk : k ≤ 20) (h3 : -1000000000000 ≤ x) (h4 : x ≤ 1000000000000) (hx0 : 0 ≤ x) :
    Calls Tryz.prog 75 #[.int .i64 x, .int .i64 (k : Int), .int .i64 0] w fun e w' => e = .returned (.int .i64 (shiftI x k 0)) ∧ w = w' := by
  obtain ⟨m, hm⟩ : ∃ m : Int, m = 2 ^ k := ⟨_, rfl⟩
  have hps := pow20 k hk
  have hw : wrap64 ((2 : Int) ^ k) = m := by rw [hm]; exact IntWalk.wrap64_in _ (by omega)
  have hm1 : 1 ≤ m := by omega
  have hm2 : m ≤ 1048576 := by omega
  have hdb := div_bounds x m (by omega)
  obtain ⟨q, hq⟩ : ∃ q, x / m = q := ⟨_, rfl⟩
  obtain ⟨r, hr⟩ : ∃ r, x % m = r := ⟨_, rfl⟩
  obtain ⟨p, hp⟩ : ∃ p, q * m = p := ⟨_, rfl⟩
  have hd := Int.mul_ediv_add_emod x m
  have r0 : 0 ≤ r := by rw [← hr]; exact Int.emod_nonneg x (by omega)
  have r1 : r < m := by rw [← hr]; exact Int.emod_lt_of_pos x (by omega)
  rw [hq, hr, Int.mul_comm, hp] at hd
  rw [hq] at hdb
  have x1 : p + r ≤ x := by omega
  have x2 : x ≤ p + r := by omega
  have q1 : -1000000000002 ≤ q := by omega
  have q2 : q ≤ 1000000000002 := by omega
  have Hm := hid hm
  have Hq := hid hq
  have Hr := hid hr
  clear hm hd hdb hps
  have hf : q = shiftI x k 0 := by rw [shift_down, ← Hm.out, Hq.out]
  have HF := hid hf
  clear hf
  go_enter Tryz.func75, Tryz.ntmps75
  go_wp2
  go_ret
  exact ⟨ret_i (by first | exact HF.out | (rw [Hq.out]; exact HF.out)), rfl⟩

set_option maxHeartbeats 400000 in
theorem wdShift_A1 (x : Int) (k : Nat) (w : World) (hk : k ≤ 20) (h3 : -1000000000000 ≤ x) (h4 : x ≤ 1000000000000) (hx0 : 0 ≤ x) :
    Calls Tryz.prog 75 #[.int .i64 x, .int .i64 (k : Int), .int .i64 1] w fun e w' => e = .returned (.int .i64 (shiftI x k 1)) ∧ w = w' := by
  obtain ⟨m, hm⟩ : ∃ m : Int, m = 2 ^ k := ⟨_, rfl⟩
  have hps := pow20 k hk
  have hw : wrap64 ((2 : Int) ^ k) = m := by rw [hm]; exact IntWalk.wrap64_in _ (by omega)
  have hm1 : 1 ≤ m := by omega
  have hm2 : m ≤ 1048576 := by omega
  have hdb := div_bounds x m (by omega)
  obtain ⟨q, hq⟩ : ∃ q, x / m = q := ⟨_, rfl⟩
  obtain ⟨r, hr⟩ : ∃ r, x % m = r := ⟨_, rfl⟩
  obtain ⟨p, hp⟩ : ∃ p, q * m = p := ⟨_, rfl⟩
  have hd := Int.mul_ediv_add_emod x m
  have r0 : 0 ≤ r := by rw [← hr]; exact Int.emod_nonneg x (by omega)
  have r1 : r < m := by rw [← hr]; exact Int.emod_lt_of_pos x (by omega)
  rw [hq, hr, Int.mul_comm, hp] at hd
  rw [hq] at hdb
  have x1 : p + r ≤ x := by omega
  have x2 : x ≤ p + r := by omega
  have q1 : -1000000000002 ≤ q := by omega
  have q2 : q ≤ 1000000000002 := by omega
  have Hm := hid hm
  have Hq := hid hq
  have Hr := hid hr
  clear hm hd hdb hps
  by_cases hz : 2 * r < m
  · skip
    have hf : q = shiftI x k 1 := by rw [near_no x k (by rw [← Hm.out, Hr.out]; omega), ← Hm.out, Hq.out]
    have HF := hid hf
    clear hf
    go_enter Tryz.func75, Tryz.ntmps75
    go_wp2
    go_ret
    exact ⟨ret_i (by first | exact HF.out | (rw [Hq.out]; exact HF.out)), rfl⟩
  · have hz2 : m ≤ 2 * r := by omega
    clear hz
    have hf : q + 1 = shiftI x k 1 := by rw [near_yes x k (by rw [← Hm.out, Hr.out]; omega) (by rw [← Hm.out, Hr.out]; omega), ← Hm.out, Hq.out]
    have HF := hid hf
    clear hf
    go_enter Tryz.func75, Tryz.ntmps75
    go_wp2
    go_ret
    exact ⟨ret_i (by first | exact HF.out | (rw [Hq.out]; exact HF.out)), rfl⟩

set_option maxHeartbeats 400000 in
theorem wdShift_A2 (x : Int) (k : Nat) (w : World) (hk : k ≤ 20) (h3 : -1000000000000 ≤ x) (h4 : x ≤ 1000000000000) (hx0 : 0 ≤ x) :
    Calls Tryz.prog 75 #[.int .i64 x, .int .i64 (k : Int), .int .i64 2] w fun e w' => e = .returned (.int .i64 (shiftI x k 2)) ∧ w = w' := by
  obtain ⟨m, hm⟩ : ∃ m : Int, m = 2 ^ k := ⟨_, rfl⟩
  have hps := pow20 k hk
  have hw : wrap64 ((2 : Int) ^ k) = m := by rw [hm]; exact IntWalk.wrap64_in _ (by omega)
  have hm1 : 1 ≤ m := by omega
  have hm2 : m ≤ 1048576 := by omega
  have hdb := div_bounds x m (by omega)
  obtain ⟨q, hq⟩ : ∃ q, x / m = q := ⟨_, rfl⟩
  obtain ⟨r, hr⟩ : ∃ r, x % m = r := ⟨_, rfl⟩
  obtain ⟨p, hp⟩ : ∃ p, q * m = p := ⟨_, rfl⟩
  have hd := Int.mul_ediv_add_emod x m
  have r0 : 0 ≤ r := by rw [← hr]; exact Int.emod_nonneg x (by omega)
  have r1 : r < m := by rw [← hr]; exact Int.emod_lt_of_pos x (by omega)
  rw [hq, hr, Int.mul_comm, hp] at hd
  rw [hq] at hdb
  have x1 : p + r ≤ x := by omega
  have x2 : x ≤ p + r := by omega
  have q1 : -1000000000002 ≤ q := by omega
  have q2 : q ≤ 1000000000002 := by omega
  have Hm := hid hm
  have Hq := hid hq
  have Hr := hid hr
  clear hm hd hdb hps
  have hf : q = shiftI x k 2 := by rw [shift_zero_pos x k hx0, ← Hm.out, Hq.out]
  have HF := hid hf
  clear hf
  go_enter Tryz.func75, Tryz.ntmps75
  go_wp2
  go_ret
  exact ⟨ret_i (by first | exact HF.out | (rw [Hq.out]; exact HF.out)), rfl⟩

set_option maxHeartbeats 400000 in
theorem wdShift_B0 (x : Int) (k : Nat) (w : World) (hk : k ≤ 20) (h3 : -1000000000000 ≤ x) (h4 : x ≤ 1000000000000) (hx0 : x < 0) (hr0 : x % 2 ^ k = 0) :
    Calls Tryz.prog 75 #[.int .i64 x, .int .i64 (k : Int), .int .i64 0] w fun e w' => e = .returned (.int .i64 (shiftI x k 0)) ∧ w = w' := by
  obtain ⟨m, hm⟩ : ∃ m : Int, m = 2 ^ k := ⟨_, rfl⟩
  have hps := pow20 k hk
  have hw : wrap64 ((2 : Int) ^ k) = m := by rw [hm]; exact IntWalk.wrap64_in _ (by omega)
  have hm1 : 1 ≤ m := by omega
  have hm2 : m ≤ 1048576 := by omega
  have hdb := div_bounds x m (by omega)
  obtain ⟨q, hq⟩ : ∃ q, x / m = q := ⟨_, rfl⟩
  obtain ⟨r, hr⟩ : ∃ r, x % m = r := ⟨_, rfl⟩
  obtain ⟨p, hp⟩ : ∃ p, q * m = p := ⟨_, rfl⟩
  have hd := Int.mul_ediv_add_emod x m
  have r0 : 0 ≤ r := by rw [← hr]; exact Int.emod_nonneg x (by omega)
  have r1 : r < m := by rw [← hr]; exact Int.emod_lt_of_pos x (by omega)
  rw [hq, hr, Int.mul_comm, hp] at hd
  rw [hq] at hdb
  have x1 : p + r ≤ x := by omega
  have x2 : x ≤ p + r := by omega
  have q1 : -1000000000002 ≤ q := by omega
  have q2 : q ≤ 1000000000002 := by omega
  rw [← hm, hr] at hr0
  have Hm := hid hm
  have Hq := hid hq
  have Hr := hid hr
  clear hm hd hdb hps
  obtain rfl : r = 0 := hr0
  have hf : q = shiftI x k 0 := by rw [shift_down, ← Hm.out, Hq.out]
  have HF := hid hf
  clear hf
  have ht := (tdiv_exact x m (by omega) (by omega)).1
  have hu := (tdiv_exact x m (by omega) (by omega)).2
  rw [hq] at ht
  go_enter Tryz.func75, Tryz.ntmps75
  go_wp2
  go_ret
  exact ⟨ret_i (by first | exact HF.out | (rw [Hq.out]; exact HF.out)), rfl⟩

set_option maxHeartbeats 400000 in
theorem wdShift_B1 (x : Int) (k : Nat) (w : World) (hk : k ≤ 20) (h3 : -1000000000000 ≤ x) (h4 : x ≤ 1000000000000) (hx0 : x < 0) (hr0 : x % 2 ^ k = 0) :
    Calls Tryz.prog 75 #[.int .i64 x, .int .i64 (k : Int), .int .i64 1] w fun e w' => e = .returned (.int .i64 (shiftI x k 1)) ∧ w = w' := by
  obtain ⟨m, hm⟩ : ∃ m : Int, m = 2 ^ k := ⟨_, rfl⟩
  have hps := pow20 k hk
  have hw : wrap64 ((2 : Int) ^ k) = m := by rw [hm]; exact IntWalk.wrap64_in _ (by omega)
  have hm1 : 1 ≤ m := by omega
  have hm2 : m ≤ 1048576 := by omega
  have hdb := div_bounds x m (by omega)
  obtain ⟨q, hq⟩ : ∃ q, x / m = q := ⟨_, rfl⟩
  obtain ⟨r, hr⟩ : ∃ r, x % m = r := ⟨_, rfl⟩
  obtain ⟨p, hp⟩ : ∃ p, q * m = p := ⟨_, rfl⟩
  have hd := Int.mul_ediv_add_emod x m
  have r0 : 0 ≤ r := by rw [← hr]; exact Int.emod_nonneg x (by omega)
  have r1 : r < m := by rw [← hr]; exact Int.emod_lt_of_pos x (by omega)
  rw [hq, hr, Int.mul_comm, hp] at hd
  rw [hq] at hdb
  have x1 : p + r ≤ x := by omega
  have x2 : x ≤ p + r := by omega
  have q1 : -1000000000002 ≤ q := by omega
  have q2 : q ≤ 1000000000002 := by omega
  rw [← hm, hr] at hr0
  have Hm := hid hm
  have Hq := hid hq
  have Hr := hid hr
  clear hm hd hdb hps
  obtain rfl : r = 0 := hr0
  have hf : q = shiftI x k 1 := by rw [near_no x k (by rw [← Hm.out, Hr.out]; omega), ← Hm.out, Hq.out]
  have HF := hid hf
  clear hf
  have ht := (tdiv_exact x m (by omega) (by omega)).1
  have hu := (tdiv_exact x m (by omega) (by omega)).2
  rw [hq] at ht
  go_enter Tryz.func75, Tryz.ntmps75
  go_wp2
  go_ret
  exact ⟨ret_i (by first | exact HF.out | (rw [Hq.out]; exact HF.out)), rfl⟩

set_option maxHeartbeats 400000 in
theorem wdShift_B2 (x : Int) (k : Nat) (w : World) (hk : k ≤ 20) (h3 : -1000000000000 ≤ x) (h4 : x ≤ 1000000000000) (hx0 : x < 0) (hr0 : x % 2 ^ k = 0) :
    Calls Tryz.prog 75 #[.int .i64 x, .int .i64 (k : Int), .int .i64 2] w fun e w' => e = .returned (.int .i64 (shiftI x k 2)) ∧ w = w' := by
  obtain ⟨m, hm⟩ : ∃ m : Int, m = 2 ^ k := ⟨_, rfl⟩
  have hps := pow20 k hk
  have hw : wrap64 ((2 : Int) ^ k) = m := by rw [hm]; exact IntWalk.wrap64_in _ (by omega)
  have hm1 : 1 ≤ m := by omega
  have hm2 : m ≤ 1048576 := by omega
  have hdb := div_bounds x m (by omega)
  obtain ⟨q, hq⟩ : ∃ q, x / m = q := ⟨_, rfl⟩
  obtain ⟨r, hr⟩ : ∃ r, x % m = r := ⟨_, rfl⟩
  obtain ⟨p, hp⟩ : ∃ p, q * m = p := ⟨_, rfl⟩
  have hd := Int.mul_ediv_add_emod x m
  have r0 : 0 ≤ r := by rw [← hr]; exact Int.emod_nonneg x (by omega)
  have r1 : r < m := by rw [← hr]; exact Int.emod_lt_of_pos x (by omega)
  rw [hq, hr, Int.mul_comm, hp] at hd
  rw [hq] at hdb
  have x1 : p + r ≤ x := by omega
  have x2 : x ≤ p + r := by omega
  have q1 : -1000000000002 ≤ q := by omega
  have q2 : q ≤ 1000000000002 := by omega
  rw [← hm, hr] at hr0
  have Hm := hid hm
  have Hq := hid hq
  have Hr := hid hr
  clear hm hd hdb hps
  obtain rfl : r = 0 := hr0
  have hf : q = shiftI x k 2 := by rw [shift_zero_exact x k (by rw [← Hm.out, Hr.out]), ← Hm.out, Hq.out]
  have HF := hid hf
  clear hf
  have ht := (tdiv_exact x m (by omega) (by omega)).1
  have hu := (tdiv_exact x m (by omega) (by omega)).2
  rw [hq] at ht
  go_enter Tryz.func75, Tryz.ntmps75
  go_wp2
  go_ret
  exact ⟨ret_i (by first | exact HF.out | (rw [Hq.out]; exact HF.out)), rfl⟩

set_option maxHeartbeats 400000 in
theorem wdShift_C0 (x : Int) (k : Nat) (w : World) (hk : k ≤ 20) (h3 : -1000000000000 ≤ x) (h4 : x ≤ 1000000000000) (hx0 : x < 0) (hr0 : 0 < x % 2 ^ k) :
    Calls Tryz.prog 75 #[.int .i64 x, .int .i64 (k : Int), .int .i64 0] w fun e w' => e = .returned (.int .i64 (shiftI x k 0)) ∧ w = w' := by
  obtain ⟨m, hm⟩ : ∃ m : Int, m = 2 ^ k := ⟨_, rfl⟩
  have hps := pow20 k hk
  have hw : wrap64 ((2 : Int) ^ k) = m := by rw [hm]; exact IntWalk.wrap64_in _ (by omega)
  have hm1 : 1 ≤ m := by omega
  have hm2 : m ≤ 1048576 := by omega
  have hdb := div_bounds x m (by omega)
  obtain ⟨q, hq⟩ : ∃ q, x / m = q := ⟨_, rfl⟩
  obtain ⟨r, hr⟩ : ∃ r, x % m = r := ⟨_, rfl⟩
  obtain ⟨p, hp⟩ : ∃ p, q * m = p := ⟨_, rfl⟩
  have hd := Int.mul_ediv_add_emod x m
  have r0 : 0 ≤ r := by rw [← hr]; exact Int.emod_nonneg x (by omega)
  have r1 : r < m := by rw [← hr]; exact Int.emod_lt_of_pos x (by omega)
  rw [hq, hr, Int.mul_comm, hp] at hd
  rw [hq] at hdb
  have x1 : p + r ≤ x := by omega
  have x2 : x ≤ p + r := by omega
  have q1 : -1000000000002 ≤ q := by omega
  have q2 : q ≤ 1000000000002 := by omega
  rw [← hm, hr] at hr0
  have Hm := hid hm
  have Hq := hid hq
  have Hr := hid hr
  clear hm hd hdb hps
  have hf : q = shiftI x k 0 := by rw [shift_down, ← Hm.out, Hq.out]
  have HF := hid hf
  clear hf
  have ht := (tdiv_neg x m (by omega) hx0 (by omega)).1
  have hu := (tdiv_neg x m (by omega) hx0 (by omega)).2
  rw [hq] at ht
  rw [hr] at hu
  go_enter Tryz.func75, Tryz.ntmps75
  go_wp2
  go_ret
  exact ⟨ret_i (by first | exact HF.out | (rw [Hq.out]; exact HF.out)), rfl⟩

set_option maxHeartbeats 400000 in
theorem wdShift_C1 (x : Int) (k : Nat) (w : World) (hk : k ≤ 20) (h3 : -1000000000000 ≤ x) (h4 : x ≤ 1000000000000) (hx0 : x < 0) (hr0 : 0 < x % 2 ^ k) :
    Calls Tryz.prog 75 #[.int .i64 x, .int .i64 (k : Int), .int .i64 1] w fun e w' => e = .returned (.int .i64 (shiftI x k 1)) ∧ w = w' := by
  obtain ⟨m, hm⟩ : ∃ m : Int, m = 2 ^ k := ⟨_, rfl⟩
  have hps := pow20 k hk
  have hw : wrap64 ((2 : Int) ^ k) = m := by rw [hm]; exact IntWalk.wrap64_in _ (by omega)
  have hm1 : 1 ≤ m := by omega
  have hm2 : m ≤ 1048576 := by omega
  have hdb := div_bounds x m (by omega)
  obtain ⟨q, hq⟩ : ∃ q, x / m = q := ⟨_, rfl⟩
  obtain ⟨r, hr⟩ : ∃ r, x % m = r := ⟨_, rfl⟩
  obtain ⟨p, hp⟩ : ∃ p, q * m = p := ⟨_, rfl⟩
  have hd := Int.mul_ediv_add_emod x m
  have r0 : 0 ≤ r := by rw [← hr]; exact Int.emod_nonneg x (by omega)
  have r1 : r < m := by rw [← hr]; exact Int.emod_lt_of_pos x (by omega)
  rw [hq, hr, Int.mul_comm, hp] at hd
  rw [hq] at hdb
  have x1 : p + r ≤ x := by omega
  have x2 : x ≤ p + r := by omega
  have q1 : -1000000000002 ≤ q := by omega
  have q2 : q ≤ 1000000000002 := by omega
  rw [← hm, hr] at hr0
  have Hm := hid hm
  have Hq := hid hq
  have Hr := hid hr
  clear hm hd hdb hps
  by_cases hz : 2 * r < m
  · skip
    have hf : q = shiftI x k 1 := by rw [near_no x k (by rw [← Hm.out, Hr.out]; omega), ← Hm.out, Hq.out]
    have HF := hid hf
    clear hf
    have ht := (tdiv_neg x m (by omega) hx0 (by omega)).1
    have hu := (tdiv_neg x m (by omega) hx0 (by omega)).2
    rw [hq] at ht
    rw [hr] at hu
    go_enter Tryz.func75, Tryz.ntmps75
    go_wp2
    go_ret
    exact ⟨ret_i (by first | exact HF.out | (rw [Hq.out]; exact HF.out)), rfl⟩
  · have hz2 : m ≤ 2 * r := by omega
    clear hz
    have hf : q + 1 = shiftI x k 1 := by rw [near_yes x k (by rw [← Hm.out, Hr.out]; omega) (by rw [← Hm.out, Hr.out]; omega), ← Hm.out, Hq.out]
    have HF := hid hf
    clear hf
    have ht := (tdiv_neg x m (by omega) hx0 (by omega)).1
    have hu := (tdiv_neg x m (by omega) hx0 (by omega)).2
    rw [hq] at ht
    rw [hr] at hu
    go_enter Tryz.func75, Tryz.ntmps75
    go_wp2
    go_ret
    exact ⟨ret_i (by first | exact HF.out | (rw [Hq.out]; exact HF.out)), rfl⟩

set_option maxHeartbeats 400000 in
theorem wdShift_C2 (x : Int) (k : Nat) (w : World) (hk : k ≤ 20) (h3 : -1000000000000 ≤ x) (h4 : x ≤ 1000000000000) (hx0 : x < 0) (hr0 : 0 < x % 2 ^ k) :
    Calls Tryz.prog 75 #[.int .i64 x, .int .i64 (k : Int), .int .i64 2] w fun e w' => e = .returned (.int .i64 (shiftI x k 2)) ∧ w = w' := by
  obtain ⟨m, hm⟩ : ∃ m : Int, m = 2 ^ k := ⟨_, rfl⟩
  have hps := pow20 k hk
  have hw : wrap64 ((2 : Int) ^ k) = m := by rw [hm]; exact IntWalk.wrap64_in _ (by omega)
  have hm1 : 1 ≤ m := by omega
  have hm2 : m ≤ 1048576 := by omega
  have hdb := div_bounds x m (by omega)
  obtain ⟨q, hq⟩ : ∃ q, x / m = q := ⟨_, rfl⟩
  obtain ⟨r, hr⟩ : ∃ r, x % m = r := ⟨_, rfl⟩
  obtain ⟨p, hp⟩ : ∃ p, q * m = p := ⟨_, rfl⟩
  have hd := Int.mul_ediv_add_emod x m
  have r0 : 0 ≤ r := by rw [← hr]; exact Int.emod_nonneg x (by omega)
  have r1 : r < m := by rw [← hr]; exact Int.emod_lt_of_pos x (by omega)
  rw [hq, hr, Int.mul_comm, hp] at hd
  rw [hq] at hdb
  have x1 : p + r ≤ x := by omega
  have x2 : x ≤ p + r := by omega
  have q1 : -1000000000002 ≤ q := by omega
  have q2 : q ≤ 1000000000002 := by omega
  rw [← hm, hr] at hr0
  have Hm := hid hm
  have Hq := hid hq
  have Hr := hid hr
  clear hm hd hdb hps
  have hf : q + 1 = shiftI x k 2 := by rw [shift_zero_neg x k hx0 (by rw [← Hm.out, Hr.out]; omega), ← Hm.out, Hq.out]
  have HF := hid hf
  clear hf
  have ht := (tdiv_neg x m (by omega) hx0 (by omega)).1
  have hu := (tdiv_neg x m (by omega) hx0 (by omega)).2
  rw [hq] at ht
  rw [hr] at hu
  go_enter Tryz.func75, Tryz.ntmps75
  go_wp2
  go_ret
  exact ⟨ret_i (by first | exact HF.out | (rw [Hq.out]; exact HF.out)), rfl⟩

theorem wdShift_any (x : Int) (k : Nat) (mode : Int) (w : World) (hk : k ≤ 20) (h3 : -1000000000000 ≤ x) (h4 : x ≤ 1000000000000) (hmode : mode = 0 ∨ mode = 1 ∨ mode = 2) :
    Calls Tryz.prog 75 #[.int .i64 x, .int .i64 (k : Int), .int .i64 mode] w fun e w' => e = .returned (.int .i64 (shiftI x k mode)) ∧ w = w' := by
  have h0 : 0 ≤ x % 2 ^ k := Int.emod_nonneg x (by have := pow20 k hk; omega)
  rcases hmode with rfl | rfl | rfl
  · by_cases hx : 0 ≤ x
    · exact wdShift_A0 x k w hk h3 h4 hx
    · by_cases hr : x % 2 ^ k = 0
      · exact wdShift_B0 x k w hk h3 h4 (by omega) hr
      · exact wdShift_C0 x k w hk h3 h4 (by omega) (by omega)
  · by_cases hx : 0 ≤ x
    · exact wdShift_A1 x k w hk h3 h4 hx
    · by_cases hr : x % 2 ^ k = 0
      · exact wdShift_B1 x k w hk h3 h4 (by omega) hr
      · exact wdShift_C1 x k w hk h3 h4 (by omega) (by omega)
  · by_cases hx : 0 ≤ x
    · exact wdShift_A2 x k w hk h3 h4 hx
    · by_cases hr : x % 2 ^ k = 0
      · exact wdShift_B2 x k w hk h3 h4 (by omega) hr
      · exact wdShift_C2 x k w hk h3 h4 (by omega) (by omega)

set_option maxHeartbeats 400000 in
theorem shifted_0 (x : Int) (k : Nat) (w : World) (hk : k ≤ 20) :
    Calls Tryz.prog 73 #[.int .i64 x, .int .i64 (k : Int), .int .i64 0] w fun e w' => e = .returned (.int .i64 (shiftI x k 0)) ∧ w = w' := by
  obtain ⟨m, hm⟩ : ∃ m : Int, m = 2 ^ k := ⟨_, rfl⟩
  have hps := pow20 k hk
  have hw : wrap64 ((2 : Int) ^ k) = m := by rw [hm]; exact IntWalk.wrap64_in _ (by omega)
  have hm1 : 1 ≤ m := by omega
  have hm2 : m ≤ 1048576 := by omega
  have Hm := hid hm
  clear hm hps
  have hf : x / 2 ^ k = shiftI x k 0 := rfl
  have HF := hid hf
  clear hf
  go_enter Tryz.func73, Tryz.ntmps73
  go_wp2
  go_ret
  exact ⟨ret_i HF.out, rfl⟩

set_option maxHeartbeats 400000 in
theorem shifted_1 (x : Int) (k : Nat) (w : World) (hk : k ≤ 20) (h3 : -1000000000000 ≤ x) (h4 : x ≤ 1000000000000) :
    Calls Tryz.prog 73 #[.int .i64 x, .int .i64 (k : Int), .int .i64 1] w fun e w' => e = .returned (.int .i64 (shiftI x k 1)) ∧ w = w' := by
  obtain ⟨m, hm⟩ : ∃ m : Int, m = 2 ^ k := ⟨_, rfl⟩
  have hps := pow20 k hk
  have hw : wrap64 ((2 : Int) ^ k) = m := by rw [hm]; exact IntWalk.wrap64_in _ (by omega)
  have hm1 : 1 ≤ m := by omega
  have hm2 : m ≤ 1048576 := by omega
  have Hm := hid hm
  clear hm hps
  have hf : (x + m / 2) / 2 ^ k = shiftI x k 1 := by rw [Hm.out]; rfl
  have HF := hid hf
  clear hf
  go_enter Tryz.func73, Tryz.ntmps73
  go_wp2
  go_ret
  exact ⟨ret_i HF.out, rfl⟩

set_option maxHeartbeats 400000 in
theorem shifted_2 (x : Int) (k : Nat) (w : World) (hk : k ≤ 20) (h3 : -1000000000000 ≤ x) (h4 : x ≤ 1000000000000) :
    Calls Tryz.prog 73 #[.int .i64 x, .int .i64 (k : Int), .int .i64 2] w fun e w' => e = .returned (.int .i64 (shiftI x k 2)) ∧ w = w' := by
  obtain ⟨m, hm⟩ : ∃ m : Int, m = 2 ^ k := ⟨_, rfl⟩
  have hps := pow20 k hk
  have hw : wrap64 ((2 : Int) ^ k) = m := by rw [hm]; exact IntWalk.wrap64_in _ (by omega)
  have hm1 : 1 ≤ m := by omega
  have hm2 : m ≤ 1048576 := by omega
  have Hm := hid hm
  clear hm hps
  have hb1 : x.tdiv m ≤ 1000000000000 := by
    have := Int.natAbs_tdiv_le_natAbs x m
    omega
  have hb2 : -1000000000000 ≤ x.tdiv m := by
    have := Int.natAbs_tdiv_le_natAbs x m
    omega
  by_cases hx0 : 0 ≤ x
  · have hf : x / m = shiftI x k 2 := by rw [Hm.out, shift_zero_pos x k hx0]
    have HF := hid hf
    clear hf
    go_enter Tryz.func73, Tryz.ntmps73
    go_wp2
    go_ret
    exact ⟨ret_i (by first | exact HF.out | (rw [tdiv_pos x m hx0]; exact HF.out)), rfl⟩
  · have hf : x.tdiv m = shiftI x k 2 := by rw [Hm.out]; rfl
    have HF := hid hf
    have hx1 : x < 0 := by omega
    clear hf hx0
    go_enter Tryz.func73, Tryz.ntmps73
    go_wp2
    go_ret
    exact ⟨ret_i HF.out, rfl⟩

theorem shifted_any (x : Int) (k : Nat) (mode : Int) (w : World) (hk : k ≤ 20) (h3 : -1000000000000 ≤ x) (h4 : x ≤ 1000000000000) (hmode : mode = 0 ∨ mode = 1 ∨ mode = 2) :
    Calls Tryz.prog 73 #[.int .i64 x, .int .i64 (k : Int), .int .i64 mode] w fun e w' => e = .returned (.int .i64 (shiftI x k mode)) ∧ w = w' := by
  rcases hmode with rfl | rfl | rfl
  · exact shifted_0 x k w hk
  · exact shifted_1 x k w hk h3 h4
  · exact shifted_2 x k w hk h3 h4
end Go.Proofs.YtichkianildkgaaGreat
