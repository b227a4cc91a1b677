
import Derived.Test.YtedhclicjkjlfaaLg
namespace Go.Proofs.Ytedhclicjkjlfaa
open Go.RowKit BitX Go.ShX

theorem mul_small {x y : Int} (x1 : -32768 ≤ x) (x2 : x ≤ 32767) (y1 : -32768 ≤ y) (y2 : y ≤ 32767) : -1073741824 ≤ x * y ∧ x * y ≤ 1073741824 := by
  have h : (x * y).natAbs ≤ 32768 * 32768 := by
    rw [Int.natAbs_mul]; exact Nat.mul_le_mul (by omega) (by omega)
  omega
theorem shift_small (x : Int) (k : Nat) (mode : Int) (h1 : -1073741824 ≤ x) (h2 : x ≤ 1073741824) (hk : k ≤ 20) : -9223372036854775808 ≤ shiftI x k mode ∧ shiftI x k mode ≤ 9223372036854775807 := by
  have hp := pow20 k hk
  have a := div_bounds x (2 ^ k) (by omega)
  have b := div_bounds (x + 2 ^ k / 2) (2 ^ k) (by omega)
  have c := Int.natAbs_tdiv_le_natAbs x (2 ^ k)
  unfold shiftI
  split
  · omega
  · split <;> omega

set_option maxHeartbeats 1000000 in
theorem spec_TimesIn_yes (n : Nat) (x y : Int) (k : Nat) (mode : Int) (wr : Bool) (w : World) (h1 : 2 ≤ n) (h2 : n ≤ 16) (ha : -(2 : Int) ^ (n - 1) ≤ x ∧ x ≤ 2 ^ (n - 1) - 1) (hb : -(2 : Int) ^ (n - 1) ≤ y ∧ y ≤ 2 ^ (n - 1) - 1) (hk : k ≤ 20) (a3 : 0 ≤ mode) (a4 : mode ≤ 2) :
    Calls Try.prog 20 #[.agg #[.int .i64 (n : Int), .bool wr], .int .i64 x, .int .i64 y, .int .i64 (k : Int), .int .i64 mode] w fun e w' => e = .returned (.tuple #[.int .i64 (fitI n wr (shiftI (x * y) k mode)), .bool true]) ∧ Below w.heap.size w w' := by
  have HA := hid ha
  clear ha
  have HB := hid hb
  clear hb
  obtain ⟨sx1, sx2⟩ := in_small (by omega) h2 HA.out
  obtain ⟨sy1, sy2⟩ := in_small (by omega) h2 HB.out
  obtain ⟨m1, m2⟩ := mul_small sx1 sx2 sy1 sy2
  obtain ⟨s1, s2⟩ := shift_small (x * y) k mode m1 m2 hk
  have hxy : IntKind.i64.wrap (x * y) = x * y := IntWalk.i64_in _ (by omega)
  have HS1 := hid s1
  have HS2 := hid s2
  clear s1 s2
  have hmode : mode = 0 ∨ mode = 1 ∨ mode = 2 := by omega
  have HM := hid hmode
  clear hmode
  go_enter Try.func20, Try.ntmps20
  go_wp2_with fail
  refine (wdIn_yes n x wr _ h1 h2 HA.out).mono ?_
  rintro e w1 ⟨rfl, B1⟩
  obtain ⟨c1, d1⟩ := box2_cells B1
  go_wp2_with fail
  refine (wdIn_yes n y wr _ h1 h2 HB.out).mono ?_
  rintro e w2 ⟨rfl, hb⟩
  have B2 := bel_step B1 hb
  obtain ⟨c2, d2⟩ := box2_cells B2
  go_wp2_with fail
  refine (wdMode_yes _ _ _ (by omega) (by omega) a3 a4).mono ?_
  rintro e w' ⟨rfl, rfl⟩
  have hz : w.heap.size < w2.heap.size := by have := B2.size; simp at this; omega
  go_wp2_with fail
  go_region_with (first | (go_at_call 48; refine (wdShift_any (x * y) k mode _ hk (by omega) (by omega) HM.out).mono ?_; rintro e w' ⟨rfl, rfl⟩) | (go_at_call 33; refine (wdFit_any n wr (shiftI (x * y) k mode) _ (by omega) h2).mono ?_; rintro e w9 ⟨rfl, hb⟩))
  all_goals go_wp2
  all_goals go_ret2
  all_goals exact ⟨rfl, bel_step (bel_step (bel_alloc _ _) B2).drew hb⟩

set_option maxHeartbeats 1000000 in
theorem spec_TimesIn_no3 (n : Nat) (x y k mode : Int) (wr : Bool) (w : World) (h1 : 2 ≤ n) (h2 : n ≤ 16) (ha : -(2 : Int) ^ (n - 1) ≤ x ∧ x ≤ 2 ^ (n - 1) - 1) (hb : -(2 : Int) ^ (n - 1) ≤ y ∧ y ≤ 2 ^ (n - 1) - 1) (h : ¬ ((0 ≤ k ∧ k ≤ 20) ∧ (0 ≤ mode ∧ mode ≤ 2))) :
    Calls Try.prog 20 #[.agg #[.int .i64 (n : Int), .bool wr], .int .i64 x, .int .i64 y, .int .i64 k, .int .i64 mode] w fun e w' => e = .returned (.tuple #[.int .i64 0, .bool false]) ∧ Below w.heap.size w w' := by
  have HA := hid ha
  clear ha
  have HB := hid hb
  clear hb
  have H := hid h
  clear h
  go_enter Try.func20, Try.ntmps20
  go_wp2_with fail
  refine (wdIn_yes n x wr _ h1 h2 HA.out).mono ?_
  rintro e w1 ⟨rfl, B1⟩
  obtain ⟨c1, d1⟩ := box2_cells B1
  go_wp2_with fail
  refine (wdIn_yes n y wr _ h1 h2 HB.out).mono ?_
  rintro e w2 ⟨rfl, hb⟩
  have B2 := bel_step B1 hb
  obtain ⟨c2, d2⟩ := box2_cells B2
  go_wp2_with fail
  refine (wdMode_no _ _ _ H.out).mono ?_
  rintro e w' ⟨rfl, rfl⟩
  go_wp2_with fail
  go_ret2
  exact ⟨rfl, bel_step (bel_alloc _ _) B2⟩

set_option maxHeartbeats 400000 in
theorem spec_TimesIn_no1 (n : Nat) (x y k mode : Int) (wr : Bool) (w : World) (h1 : 2 ≤ n) (h2 : n ≤ 16) (ha : ¬ (-(2 : Int) ^ (n - 1) ≤ x ∧ x ≤ 2 ^ (n - 1) - 1)) :
    Calls Try.prog 20 #[.agg #[.int .i64 (n : Int), .bool wr], .int .i64 x, .int .i64 y, .int .i64 k, .int .i64 mode] w fun e w' => e = .returned (.tuple #[.int .i64 0, .bool false]) ∧ Below w.heap.size w w' := by
  have HA := hid ha
  clear ha
  go_enter Try.func20, Try.ntmps20
  go_wp2_with fail
  refine (wdIn_no n x wr _ h1 h2 HA.out).mono ?_
  rintro e w1 ⟨rfl, B1⟩
  obtain ⟨c1, d1⟩ := box2_cells B1
  go_wp2_with fail
  go_ret2
  exact ⟨rfl, bel_step (bel_alloc _ _) B1⟩

set_option maxHeartbeats 400000 in
theorem spec_TimesIn_no2 (n : Nat) (x y k mode : Int) (wr : Bool) (w : World) (h1 : 2 ≤ n) (h2 : n ≤ 16) (ha : -(2 : Int) ^ (n - 1) ≤ x ∧ x ≤ 2 ^ (n - 1) - 1) (hb : ¬ (-(2 : Int) ^ (n - 1) ≤ y ∧ y ≤ 2 ^ (n - 1) - 1)) :
    Calls Try.prog 20 #[.agg #[.int .i64 (n : Int), .bool wr], .int .i64 x, .int .i64 y, .int .i64 k, .int .i64 mode] w fun e w' => e = .returned (.tuple #[.int .i64 0, .bool false]) ∧ Below w.heap.size w w' := by
  have HA := hid ha
  clear ha
  have HB := hid hb
  clear hb
  go_enter Try.func20, Try.ntmps20
  go_wp2_with fail
  refine (wdIn_yes n x wr _ h1 h2 HA.out).mono ?_
  rintro e w1 ⟨rfl, B1⟩
  obtain ⟨c1, d1⟩ := box2_cells B1
  go_wp2_with fail
  refine (wdIn_no n y wr _ h1 h2 HB.out).mono ?_
  rintro e w2 ⟨rfl, hb⟩
  have B2 := bel_step B1 hb
  obtain ⟨c2, d2⟩ := box2_cells B2
  go_wp2_with fail
  go_ret2
  exact ⟨rfl, bel_step (bel_alloc _ _) B2⟩

set_option maxHeartbeats 400000 in
theorem spec_TimesIn_bad (b x y k mode : Int) (wr : Bool) (w : World) (h : ¬ (2 ≤ b ∧ b ≤ 16)) :
    Calls Try.prog 20 #[.agg #[.int .i64 b, .bool wr], .int .i64 x, .int .i64 y, .int .i64 k, .int .i64 mode] w fun e w' => e = .returned (.tuple #[.int .i64 0, .bool false]) ∧ Below w.heap.size w w' := by
  have H := hid h
  clear h
  go_enter Try.func20, Try.ntmps20
  go_wp2_with fail
  refine (wdIn_bad b x wr _ H.out).mono ?_
  rintro e w1 ⟨rfl, B1⟩
  go_wp2_with fail
  go_ret2
  exact ⟨rfl, bel_step (bel_alloc _ _) B1⟩

set_option maxHeartbeats 1000000 in
theorem impl_TimesIn_yes (n : Nat) (x y : Int) (k : Nat) (mode : Int) (wr : Bool) (w : World) (h1 : 2 ≤ n) (h2 : n ≤ 16) (ha : -(2 : Int) ^ (n - 1) ≤ x ∧ x ≤ 2 ^ (n - 1) - 1) (hb : -(2 : Int) ^ (n - 1) ≤ y ∧ y ≤ 2 ^ (n - 1) - 1) (hk : k ≤ 20) (a3 : 0 ≤ mode) (a4 : mode ≤ 2) :
    Calls Try.prog 19 #[.agg #[.int .i64 (n : Int), .bool wr], .int .i64 x, .int .i64 y, .int .i64 (k : Int), .int .i64 mode] w fun e w' => e = .returned (.tuple #[.int .i64 (fitI n wr (shiftI (x * y) k mode)), .bool true]) ∧ Below w.heap.size w w' := by
  have HA := hid ha
  clear ha
  have HB := hid hb
  clear hb
  obtain ⟨sx1, sx2⟩ := in_small (by omega) h2 HA.out
  obtain ⟨sy1, sy2⟩ := in_small (by omega) h2 HB.out
  obtain ⟨m1, m2⟩ := mul_small sx1 sx2 sy1 sy2
  obtain ⟨s1, s2⟩ := shift_small (x * y) k mode m1 m2 hk
  have hxy : IntKind.i64.wrap (x * y) = x * y := IntWalk.i64_in _ (by omega)
  have HS1 := hid s1
  have HS2 := hid s2
  clear s1 s2
  have hmode : mode = 0 ∨ mode = 1 ∨ mode = 2 := by omega
  have HM := hid hmode
  clear hmode
  have hx1 : -9223372036854775808 ≤ x := by omega
  have hx2 : x ≤ 9223372036854775807 := by omega
  have hy1 : -9223372036854775808 ≤ y := by omega
  have hy2 : y ≤ 9223372036854775807 := by omega
  go_enter Try.func19, Try.ntmps19
  go_wp2_with fail
  refine (impl_IsWord_yes _ _ _ (by omega) (by omega)).mono ?_
  rintro e w1 ⟨rfl, B1⟩
  obtain ⟨c1, d1⟩ := box2_cells B1
  go_wp2_with fail
  refine (isIn_yes n wr x _ (by omega) h2 hx1 hx2 HA.out).mono ?_
  rintro e w2 ⟨rfl, hb⟩
  have B2 := bel_step B1 hb
  obtain ⟨c2, d2⟩ := box2_cells B2
  go_wp2_with fail
  refine (isIn_yes n wr y _ (by omega) h2 hy1 hy2 HB.out).mono ?_
  rintro e w3 ⟨rfl, hb⟩
  have B3 := bel_step B2 hb
  obtain ⟨c3, d3⟩ := box2_cells B3
  go_wp2_with fail
  refine (isShift_yes _ _ (by omega) (by omega)).mono ?_
  rintro e w' ⟨rfl, rfl⟩
  go_wp2_with fail
  refine (isMode_yes _ _ a3 a4).mono ?_
  rintro e w' ⟨rfl, rfl⟩
  have hz : w.heap.size < w3.heap.size := by have := B3.size; simp at this; omega
  go_wp2_with fail
  go_region_with (first | (go_at_call 46; refine (shifted_any (x * y) k mode _ hk (by omega) (by omega) HM.out).mono ?_; rintro e w' ⟨rfl, rfl⟩) | (go_at_call 30; refine (fit_any n wr (shiftI (x * y) k mode) _ (by omega) h2 HS1.out HS2.out).mono ?_; rintro e w9 ⟨rfl, hb⟩))
  all_goals go_wp2
  all_goals go_ret2
  all_goals exact ⟨rfl, bel_step (bel_step (bel_alloc _ _) B3).drew hb⟩

set_option maxHeartbeats 1000000 in
theorem impl_TimesIn_no3 (n : Nat) (x y k mode : Int) (wr : Bool) (w : World) (h1 : 2 ≤ n) (h2 : n ≤ 16) (hx1 : -9223372036854775808 ≤ x) (hx2 : x ≤ 9223372036854775807) (hy1 : -9223372036854775808 ≤ y) (hy2 : y ≤ 9223372036854775807) (ha : -(2 : Int) ^ (n - 1) ≤ x ∧ x ≤ 2 ^ (n - 1) - 1) (hb : -(2 : Int) ^ (n - 1) ≤ y ∧ y ≤ 2 ^ (n - 1) - 1) (h : ¬ ((0 ≤ k ∧ k ≤ 20) ∧ (0 ≤ mode ∧ mode ≤ 2))) :
    Calls Try.prog 19 #[.agg #[.int .i64 (n : Int), .bool wr], .int .i64 x, .int .i64 y, .int .i64 k, .int .i64 mode] w fun e w' => e = .returned (.tuple #[.int .i64 0, .bool false]) ∧ Below w.heap.size w w' := by
  have HA := hid ha
  clear ha
  have HB := hid hb
  clear hb
  by_cases hk : 0 ≤ k ∧ k ≤ 20
  · have hl : ¬ (0 ≤ mode ∧ mode ≤ 2) := fun hl => h ⟨hk, hl⟩
    have HK := hid hk
    have HL := hid hl
    clear hk hl h
    go_enter Try.func19, Try.ntmps19
    go_wp2_with fail
    refine (impl_IsWord_yes _ _ _ (by omega) (by omega)).mono ?_
    rintro e w1 ⟨rfl, B1⟩
    obtain ⟨c1, d1⟩ := box2_cells B1
    go_wp2_with fail
    refine (isIn_yes n wr x _ (by omega) h2 hx1 hx2 HA.out).mono ?_
    rintro e w2 ⟨rfl, hb⟩
    have B2 := bel_step B1 hb
    obtain ⟨c2, d2⟩ := box2_cells B2
    go_wp2_with fail
    refine (isIn_yes n wr y _ (by omega) h2 hy1 hy2 HB.out).mono ?_
    rintro e w3 ⟨rfl, hb⟩
    have B3 := bel_step B2 hb
    obtain ⟨c3, d3⟩ := box2_cells B3
    go_wp2_with fail
    refine (isShift_yes _ _ HK.out.1 HK.out.2).mono ?_
    rintro e w' ⟨rfl, rfl⟩
    go_wp2_with fail
    refine (isMode_no _ _ HL.out).mono ?_
    rintro e w' ⟨rfl, rfl⟩
    go_wp2_with fail
    go_ret2
    exact ⟨rfl, bel_step (bel_alloc _ _) B3⟩
  · have HK := hid hk
    clear hk h
    go_enter Try.func19, Try.ntmps19
    go_wp2_with fail
    refine (impl_IsWord_yes _ _ _ (by omega) (by omega)).mono ?_
    rintro e w1 ⟨rfl, B1⟩
    obtain ⟨c1, d1⟩ := box2_cells B1
    go_wp2_with fail
    refine (isIn_yes n wr x _ (by omega) h2 hx1 hx2 HA.out).mono ?_
    rintro e w2 ⟨rfl, hb⟩
    have B2 := bel_step B1 hb
    obtain ⟨c2, d2⟩ := box2_cells B2
    go_wp2_with fail
    refine (isIn_yes n wr y _ (by omega) h2 hy1 hy2 HB.out).mono ?_
    rintro e w3 ⟨rfl, hb⟩
    have B3 := bel_step B2 hb
    obtain ⟨c3, d3⟩ := box2_cells B3
    go_wp2_with fail
    refine (isShift_no _ _ HK.out).mono ?_
    rintro e w' ⟨rfl, rfl⟩
    go_wp2_with fail
    go_ret2
    exact ⟨rfl, bel_step (bel_alloc _ _) B3⟩

set_option maxHeartbeats 400000 in
theorem impl_TimesIn_no1 (n : Nat) (x y k mode : Int) (wr : Bool) (w : World) (h1 : 2 ≤ n) (h2 : n ≤ 16) (hx1 : -9223372036854775808 ≤ x) (hx2 : x ≤ 9223372036854775807) (ha : ¬ (-(2 : Int) ^ (n - 1) ≤ x ∧ x ≤ 2 ^ (n - 1) - 1)) :
    Calls Try.prog 19 #[.agg #[.int .i64 (n : Int), .bool wr], .int .i64 x, .int .i64 y, .int .i64 k, .int .i64 mode] w fun e w' => e = .returned (.tuple #[.int .i64 0, .bool false]) ∧ Below w.heap.size w w' := by
  have HA := hid ha
  clear ha
  go_enter Try.func19, Try.ntmps19
  go_wp2_with fail
  refine (impl_IsWord_yes _ _ _ (by omega) (by omega)).mono ?_
  rintro e w1 ⟨rfl, B1⟩
  obtain ⟨c1, d1⟩ := box2_cells B1
  go_wp2_with fail
  refine (isIn_no n wr x _ (by omega) h2 hx1 hx2 HA.out).mono ?_
  rintro e w2 ⟨rfl, hb⟩
  have B2 := bel_step B1 hb
  obtain ⟨c2, d2⟩ := box2_cells B2
  go_wp2_with fail
  go_ret2
  exact ⟨rfl, bel_step (bel_alloc _ _) B2⟩

set_option maxHeartbeats 400000 in
theorem impl_TimesIn_no2 (n : Nat) (x y k mode : Int) (wr : Bool) (w : World) (h1 : 2 ≤ n) (h2 : n ≤ 16) (hx1 : -9223372036854775808 ≤ x) (hx2 : x ≤ 9223372036854775807) (hy1 : -9223372036854775808 ≤ y) (hy2 : y ≤ 9223372036854775807) (ha : -(2 : Int) ^ (n - 1) ≤ x ∧ x ≤ 2 ^ (n - 1) - 1) (hb : ¬ (-(2 : Int) ^ (n - 1) ≤ y ∧ y ≤ 2 ^ (n - 1) - 1)) :
    Calls Try.prog 19 #[.agg #[.int .i64 (n : Int), .bool wr], .int .i64 x, .int .i64 y, .int .i64 k, .int .i64 mode] w fun e w' => e = .returned (.tuple #[.int .i64 0, .bool false]) ∧ Below w.heap.size w w' := by
  have HA := hid ha
  clear ha
  have HB := hid hb
  clear hb
  go_enter Try.func19, Try.ntmps19
  go_wp2_with fail
  refine (impl_IsWord_yes _ _ _ (by omega) (by omega)).mono ?_
  rintro e w1 ⟨rfl, B1⟩
  obtain ⟨c1, d1⟩ := box2_cells B1
  go_wp2_with fail
  refine (isIn_yes n wr x _ (by omega) h2 hx1 hx2 HA.out).mono ?_
  rintro e w2 ⟨rfl, hb⟩
  have B2 := bel_step B1 hb
  obtain ⟨c2, d2⟩ := box2_cells B2
  go_wp2_with fail
  refine (isIn_no n wr y _ (by omega) h2 hy1 hy2 HB.out).mono ?_
  rintro e w3 ⟨rfl, hb⟩
  have B3 := bel_step B2 hb
  obtain ⟨c3, d3⟩ := box2_cells B3
  go_wp2_with fail
  go_ret2
  exact ⟨rfl, bel_step (bel_alloc _ _) B3⟩

set_option maxHeartbeats 400000 in
theorem impl_TimesIn_bad (b x y k mode : Int) (wr : Bool) (w : World) (h : ¬ (2 ≤ b ∧ b ≤ 16)) :
    Calls Try.prog 19 #[.agg #[.int .i64 b, .bool wr], .int .i64 x, .int .i64 y, .int .i64 k, .int .i64 mode] w fun e w' => e = .returned (.tuple #[.int .i64 0, .bool false]) ∧ Below w.heap.size w w' := by
  have H := hid h
  clear h
  go_enter Try.func19, Try.ntmps19
  go_wp2_with fail
  refine (impl_IsWord_no _ _ _ H.out).mono ?_
  rintro e w1 ⟨rfl, B1⟩
  go_wp2_with fail
  go_ret2
  exact ⟨rfl, bel_step (bel_alloc _ _) B1⟩

end Go.Proofs.Ytedhclicjkjlfaa
