
import Derived.Test.YtedhclicjkjlfaaLd
import Derived.OpenShut
namespace Go.Proofs.Ytedhclicjkjlfaa
open Go.RowKit BitX

theorem in_small {b : Nat} {x : Int} (h1 : 1 ≤ b) (h2 : b ≤ 16) (hi : -(2 : Int) ^ (b - 1) ≤ x ∧ x ≤ 2 ^ (b - 1) - 1) : -32768 ≤ x ∧ x ≤ 32767 := by
  have := pow_small b h1 h2; omega
theorem sum2_any (v : Value) (x y : Int) (w : World) (hs : Go.MemX.Sl w v [x, y]) (hx1 : -1000000 ≤ x) (hx2 : x ≤ 1000000) (hy1 : -1000000 ≤ y) (hy2 : y ≤ 1000000) :
    Calls Try.prog 40 #[v] w fun e w' => e = .returned (.int .i64 (x + y)) ∧ w = w' := by
  refine (Su.sumOf_any v [x, y] w hs (by simp) ?_ ?_).mono fun e w' ⟨he, hw⟩ => ⟨?_, hw⟩
  · intro k hk
    match k, hk with
    | 0, _ => simp [Go.MemX.sumL]
    | 1, _ => simp [Go.MemX.sumL]; omega
    | 2, _ => simp [Go.MemX.sumL]; omega
    | k + 3, hk => simp at hk
  · intro z hz
    simp at hz
    rcases hz with rfl | rfl <;> omega
  · rw [he]; simp [Go.MemX.sumL]

set_option maxHeartbeats 400000 in
theorem spec_AddIn_yes (n : Nat) (x y : Int) (wr : Bool) (w : World) (h1 : 2 ≤ n) (h2 : n ≤ 16) (ha : -(2 : Int) ^ (n - 1) ≤ x ∧ x ≤ 2 ^ (n - 1) - 1) (hb : -(2 : Int) ^ (n - 1) ≤ y ∧ y ≤ 2 ^ (n - 1) - 1) :
    Calls Try.prog 15 #[.agg #[.int .i64 (n : Int), .bool wr], .int .i64 x, .int .i64 y] w fun e w' => e = .returned (.tuple #[.int .i64 (fitI n wr (x + y)), .bool true]) ∧ Below w.heap.size w w' := by
  have HA := hid ha
  clear ha
  have HB := hid hb
  clear hb
  obtain ⟨sx1, sx2⟩ := in_small (by omega) h2 HA.out
  obtain ⟨sy1, sy2⟩ := in_small (by omega) h2 HB.out
  go_enter Try.func15, Try.ntmps15
  go_wp2_with fail
  refine (wdIn_yes n x wr _ h1 h2 HA.out).mono ?_
  rintro e w1 ⟨rfl, B1⟩
  obtain ⟨c1, d1⟩ := box2_cells B1
  go_wp2_with fail
  refine (wdIn_yes n y wr _ h1 h2 HB.out).mono ?_
  rintro e w2 ⟨rfl, hb⟩
  have B2 := bel_step B1 hb
  obtain ⟨c2, d2⟩ := box2_cells B2
  go_wp2_with fail
  refine (wdFit_any n wr (x + y) _ (by omega) h2).mono ?_
  rintro e w3 ⟨rfl, hb⟩
  have B3 := bel_step B2 hb
  go_wp2_with fail
  go_ret2
  exact ⟨rfl, bel_step (bel_alloc _ _) B3⟩

set_option maxHeartbeats 400000 in
theorem spec_AddIn_no1 (n : Nat) (x y : Int) (wr : Bool) (w : World) (h1 : 2 ≤ n) (h2 : n ≤ 16) (ha : ¬ (-(2 : Int) ^ (n - 1) ≤ x ∧ x ≤ 2 ^ (n - 1) - 1)) :
    Calls Try.prog 15 #[.agg #[.int .i64 (n : Int), .bool wr], .int .i64 x, .int .i64 y] w fun e w' => e = .returned (.tuple #[.int .i64 0, .bool false]) ∧ Below w.heap.size w w' := by
  have HA := hid ha
  clear ha
  go_enter Try.func15, Try.ntmps15
  go_wp2_with fail
  refine (wdIn_no n x wr _ h1 h2 HA.out).mono ?_
  rintro e w1 ⟨rfl, B1⟩
  obtain ⟨c1, d1⟩ := box2_cells B1
  go_wp2_with fail
  go_ret2
  exact ⟨rfl, bel_step (bel_alloc _ _) B1⟩

set_option maxHeartbeats 400000 in
theorem spec_AddIn_no2 (n : Nat) (x y : Int) (wr : Bool) (w : World) (h1 : 2 ≤ n) (h2 : n ≤ 16) (ha : -(2 : Int) ^ (n - 1) ≤ x ∧ x ≤ 2 ^ (n - 1) - 1) (hb : ¬ (-(2 : Int) ^ (n - 1) ≤ y ∧ y ≤ 2 ^ (n - 1) - 1)) :
    Calls Try.prog 15 #[.agg #[.int .i64 (n : Int), .bool wr], .int .i64 x, .int .i64 y] w fun e w' => e = .returned (.tuple #[.int .i64 0, .bool false]) ∧ Below w.heap.size w w' := by
  have HA := hid ha
  clear ha
  have HB := hid hb
  clear hb
  go_enter Try.func15, Try.ntmps15
  go_wp2_with fail
  refine (wdIn_yes n x wr _ h1 h2 HA.out).mono ?_
  rintro e w1 ⟨rfl, B1⟩
  obtain ⟨c1, d1⟩ := box2_cells B1
  go_wp2_with fail
  refine (wdIn_no n y wr _ h1 h2 HB.out).mono ?_
  rintro e w2 ⟨rfl, hb⟩
  have B2 := bel_step B1 hb
  go_wp2_with fail
  go_ret2
  exact ⟨rfl, bel_step (bel_alloc _ _) B2⟩

set_option maxHeartbeats 400000 in
theorem spec_AddIn_bad (b x y : Int) (wr : Bool) (w : World) (h : ¬ (2 ≤ b ∧ b ≤ 16)) :
    Calls Try.prog 15 #[.agg #[.int .i64 b, .bool wr], .int .i64 x, .int .i64 y] w fun e w' => e = .returned (.tuple #[.int .i64 0, .bool false]) ∧ Below w.heap.size w w' := by
  have H := hid h
  clear h
  go_enter Try.func15, Try.ntmps15
  go_wp2_with fail
  refine (wdIn_bad b x wr _ H.out).mono ?_
  rintro e w1 ⟨rfl, B1⟩
  go_wp2_with fail
  go_ret2
  exact ⟨rfl, bel_step (bel_alloc _ _) B1⟩

set_option maxHeartbeats 400000 in
theorem impl_AddIn_yes (n : Nat) (x y : Int) (wr : Bool) (w : World) (h1 : 2 ≤ n) (h2 : n ≤ 16) (ha : -(2 : Int) ^ (n - 1) ≤ x ∧ x ≤ 2 ^ (n - 1) - 1) (hb : -(2 : Int) ^ (n - 1) ≤ y ∧ y ≤ 2 ^ (n - 1) - 1) :
    Calls Try.prog 14 #[.agg #[.int .i64 (n : Int), .bool wr], .int .i64 x, .int .i64 y] w fun e w' => e = .returned (.tuple #[.int .i64 (fitI n wr (x + y)), .bool true]) ∧ Below w.heap.size w w' := by
  have HA := hid ha
  clear ha
  have HB := hid hb
  clear hb
  obtain ⟨sx1, sx2⟩ := in_small (by omega) h2 HA.out
  obtain ⟨sy1, sy2⟩ := in_small (by omega) h2 HB.out
  go_enter Try.func14, Try.ntmps14
  go_wp2_with fail
  refine (impl_IsWord_yes _ _ _ (by omega) (by omega)).mono ?_
  rintro e w1 ⟨rfl, B1⟩
  obtain ⟨c1, d1⟩ := box2_cells B1
  go_wp2_with fail
  refine (isIn_yes n wr x _ (by omega) h2 (by omega) (by omega) HA.out).mono ?_
  rintro e w2 ⟨rfl, hb⟩
  have B2 := bel_step B1 hb
  obtain ⟨c2, d2⟩ := box2_cells B2
  go_wp2_with fail
  refine (isIn_yes n wr y _ (by omega) h2 (by omega) (by omega) HB.out).mono ?_
  rintro e w3 ⟨rfl, hb⟩
  have B3 := bel_step B2 hb
  obtain ⟨c3, d3⟩ := box2_cells B3
  have hz : w.heap.size < w3.heap.size := by have := B3.size; simp at this; omega
  go_wp2_with fail
  go_region_with (first | (go_at_call 40; refine (sum2_any _ x (y) _ (by first | exact Go.MemX.Sl.two _ _ _ _ | exact (Go.MemX.Sl.two _ _ _ _).drew) (by omega) (by omega) (by omega) (by omega)).mono ?_; rintro e w' ⟨rfl, rfl⟩) | (go_at_call 30; refine (fit_any n wr (x + y) _ (by omega) h2 (by omega) (by omega)).mono ?_; rintro e w5 ⟨rfl, hb⟩))
  all_goals go_wp2
  all_goals go_ret2
  all_goals exact ⟨rfl, bel_step (((bel_step (bel_alloc _ _) B3).alloc (by omega) _).drew) hb⟩

set_option maxHeartbeats 400000 in
theorem impl_AddIn_no1 (n : Nat) (x y : Int) (wr : Bool) (w : World) (h1 : 2 ≤ n) (h2 : n ≤ 16) (hx1 : -9223372036854775808 ≤ x) (hx2 : x ≤ 9223372036854775807) (ha : ¬ (-(2 : Int) ^ (n - 1) ≤ x ∧ x ≤ 2 ^ (n - 1) - 1)) :
    Calls Try.prog 14 #[.agg #[.int .i64 (n : Int), .bool wr], .int .i64 x, .int .i64 y] w fun e w' => e = .returned (.tuple #[.int .i64 0, .bool false]) ∧ Below w.heap.size w w' := by
  have HA := hid ha
  clear ha
  go_enter Try.func14, Try.ntmps14
  go_wp2_with fail
  refine (impl_IsWord_yes _ _ _ (by omega) (by omega)).mono ?_
  rintro e w1 ⟨rfl, B1⟩
  obtain ⟨c1, d1⟩ := box2_cells B1
  go_wp2_with fail
  refine (isIn_no n wr x _ (by omega) h2 hx1 hx2 HA.out).mono ?_
  rintro e w2 ⟨rfl, hb⟩
  have B2 := bel_step B1 hb
  obtain ⟨c2, d2⟩ := box2_cells B2
  go_wp2_with fail
  go_ret2
  exact ⟨rfl, bel_step (bel_alloc _ _) B2⟩

set_option maxHeartbeats 400000 in
theorem impl_AddIn_no2 (n : Nat) (x y : Int) (wr : Bool) (w : World) (h1 : 2 ≤ n) (h2 : n ≤ 16) (hx1 : -9223372036854775808 ≤ x) (hx2 : x ≤ 9223372036854775807) (hy1 : -9223372036854775808 ≤ y) (hy2 : y ≤ 9223372036854775807) (ha : -(2 : Int) ^ (n - 1) ≤ x ∧ x ≤ 2 ^ (n - 1) - 1) (hb : ¬ (-(2 : Int) ^ (n - 1) ≤ y ∧ y ≤ 2 ^ (n - 1) - 1)) :
    Calls Try.prog 14 #[.agg #[.int .i64 (n : Int), .bool wr], .int .i64 x, .int .i64 y] w fun e w' => e = .returned (.tuple #[.int .i64 0, .bool false]) ∧ Below w.heap.size w w' := by
  have HA := hid ha
  clear ha
  have HB := hid hb
  clear hb
  go_enter Try.func14, Try.ntmps14
  go_wp2_with fail
  refine (impl_IsWord_yes _ _ _ (by omega) (by omega)).mono ?_
  rintro e w1 ⟨rfl, B1⟩
  obtain ⟨c1, d1⟩ := box2_cells B1
  go_wp2_with fail
  refine (isIn_yes n wr x _ (by omega) h2 hx1 hx2 HA.out).mono ?_
  rintro e w2 ⟨rfl, hb⟩
  have B2 := bel_step B1 hb
  obtain ⟨c2, d2⟩ := box2_cells B2
  go_wp2_with fail
  refine (isIn_no n wr y _ (by omega) h2 hy1 hy2 HB.out).mono ?_
  rintro e w3 ⟨rfl, hb⟩
  have B3 := bel_step B2 hb
  go_wp2_with fail
  go_ret2
  exact ⟨rfl, bel_step (bel_alloc _ _) B3⟩

set_option maxHeartbeats 400000 in
theorem impl_AddIn_bad (b x y : Int) (wr : Bool) (w : World) (h : ¬ (2 ≤ b ∧ b ≤ 16)) :
    Calls Try.prog 14 #[.agg #[.int .i64 b, .bool wr], .int .i64 x, .int .i64 y] w fun e w' => e = .returned (.tuple #[.int .i64 0, .bool false]) ∧ Below w.heap.size w w' := by
  have H := hid h
  clear h
  go_enter Try.func14, Try.ntmps14
  go_wp2_with fail
  refine (impl_IsWord_no _ _ _ H.out).mono ?_
  rintro e w1 ⟨rfl, B1⟩
  go_wp2_with fail
  go_ret2
  exact ⟨rfl, bel_step (bel_alloc _ _) B1⟩

set_option maxHeartbeats 400000 in
theorem spec_LessIn_yes (n : Nat) (x y : Int) (wr : Bool) (w : World) (h1 : 2 ≤ n) (h2 : n ≤ 16) (ha : -(2 : Int) ^ (n - 1) ≤ x ∧ x ≤ 2 ^ (n - 1) - 1) (hb : -(2 : Int) ^ (n - 1) ≤ y ∧ y ≤ 2 ^ (n - 1) - 1) :
    Calls Try.prog 17 #[.agg #[.int .i64 (n : Int), .bool wr], .int .i64 x, .int .i64 y] w fun e w' => e = .returned (.tuple #[.int .i64 (fitI n wr (x - y)), .bool true]) ∧ Below w.heap.size w w' := by
  have HA := hid ha
  clear ha
  have HB := hid hb
  clear hb
  obtain ⟨sx1, sx2⟩ := in_small (by omega) h2 HA.out
  obtain ⟨sy1, sy2⟩ := in_small (by omega) h2 HB.out
  go_enter Try.func17, Try.ntmps17
  go_wp2_with fail
  refine (wdIn_yes n x wr _ h1 h2 HA.out).mono ?_
  rintro e w1 ⟨rfl, B1⟩
  obtain ⟨c1, d1⟩ := box2_cells B1
  go_wp2_with fail
  refine (wdIn_yes n y wr _ h1 h2 HB.out).mono ?_
  rintro e w2 ⟨rfl, hb⟩
  have B2 := bel_step B1 hb
  obtain ⟨c2, d2⟩ := box2_cells B2
  go_wp2_with fail
  refine (wdFit_any n wr (x - y) _ (by omega) h2).mono ?_
  rintro e w3 ⟨rfl, hb⟩
  have B3 := bel_step B2 hb
  go_wp2_with fail
  go_ret2
  exact ⟨rfl, bel_step (bel_alloc _ _) B3⟩

set_option maxHeartbeats 400000 in
theorem spec_LessIn_no1 (n : Nat) (x y : Int) (wr : Bool) (w : World) (h1 : 2 ≤ n) (h2 : n ≤ 16) (ha : ¬ (-(2 : Int) ^ (n - 1) ≤ x ∧ x ≤ 2 ^ (n - 1) - 1)) :
    Calls Try.prog 17 #[.agg #[.int .i64 (n : Int), .bool wr], .int .i64 x, .int .i64 y] w fun e w' => e = .returned (.tuple #[.int .i64 0, .bool false]) ∧ Below w.heap.size w w' := by
  have HA := hid ha
  clear ha
  go_enter Try.func17, Try.ntmps17
  go_wp2_with fail
  refine (wdIn_no n x wr _ h1 h2 HA.out).mono ?_
  rintro e w1 ⟨rfl, B1⟩
  obtain ⟨c1, d1⟩ := box2_cells B1
  go_wp2_with fail
  go_ret2
  exact ⟨rfl, bel_step (bel_alloc _ _) B1⟩

set_option maxHeartbeats 400000 in
theorem spec_LessIn_no2 (n : Nat) (x y : Int) (wr : Bool) (w : World) (h1 : 2 ≤ n) (h2 : n ≤ 16) (ha : -(2 : Int) ^ (n - 1) ≤ x ∧ x ≤ 2 ^ (n - 1) - 1) (hb : ¬ (-(2 : Int) ^ (n - 1) ≤ y ∧ y ≤ 2 ^ (n - 1) - 1)) :
    Calls Try.prog 17 #[.agg #[.int .i64 (n : Int), .bool wr], .int .i64 x, .int .i64 y] w fun e w' => e = .returned (.tuple #[.int .i64 0, .bool false]) ∧ Below w.heap.size w w' := by
  have HA := hid ha
  clear ha
  have HB := hid hb
  clear hb
  go_enter Try.func17, Try.ntmps17
  go_wp2_with fail
  refine (wdIn_yes n x wr _ h1 h2 HA.out).mono ?_
  rintro e w1 ⟨rfl, B1⟩
  obtain ⟨c1, d1⟩ := box2_cells B1
  go_wp2_with fail
  refine (wdIn_no n y wr _ h1 h2 HB.out).mono ?_
  rintro e w2 ⟨rfl, hb⟩
  have B2 := bel_step B1 hb
  go_wp2_with fail
  go_ret2
  exact ⟨rfl, bel_step (bel_alloc _ _) B2⟩

set_option maxHeartbeats 400000 in
theorem spec_LessIn_bad (b x y : Int) (wr : Bool) (w : World) (h : ¬ (2 ≤ b ∧ b ≤ 16)) :
    Calls Try.prog 17 #[.agg #[.int .i64 b, .bool wr], .int .i64 x, .int .i64 y] w fun e w' => e = .returned (.tuple #[.int .i64 0, .bool false]) ∧ Below w.heap.size w w' := by
  have H := hid h
  clear h
  go_enter Try.func17, Try.ntmps17
  go_wp2_with fail
  refine (wdIn_bad b x wr _ H.out).mono ?_
  rintro e w1 ⟨rfl, B1⟩
  go_wp2_with fail
  go_ret2
  exact ⟨rfl, bel_step (bel_alloc _ _) B1⟩

set_option maxHeartbeats 400000 in
theorem impl_LessIn_yes0 (n : Nat) (x y : Int) (wr : Bool) (w : World) (h1 : 2 ≤ n) (h2 : n ≤ 16) (ha : -(2 : Int) ^ (n - 1) ≤ x ∧ x ≤ 2 ^ (n - 1) - 1) (hb : -(2 : Int) ^ (n - 1) ≤ y ∧ y ≤ 2 ^ (n - 1) - 1) :
    Calls Try.prog 16 #[.agg #[.int .i64 (n : Int), .bool wr], .int .i64 x, .int .i64 y] w fun e w' => e = .returned (.tuple #[.int .i64 (fitI n wr (x + -y)), .bool true]) ∧ Below w.heap.size w w' := by
  have HA := hid ha
  clear ha
  have HB := hid hb
  clear hb
  obtain ⟨sx1, sx2⟩ := in_small (by omega) h2 HA.out
  obtain ⟨sy1, sy2⟩ := in_small (by omega) h2 HB.out
  go_enter Try.func16, Try.ntmps16
  go_wp2_with fail
  refine (impl_IsWord_yes _ _ _ (by omega) (by omega)).mono ?_
  rintro e w1 ⟨rfl, B1⟩
  obtain ⟨c1, d1⟩ := box2_cells B1
  go_wp2_with fail
  refine (isIn_yes n wr x _ (by omega) h2 (by omega) (by omega) HA.out).mono ?_
  rintro e w2 ⟨rfl, hb⟩
  have B2 := bel_step B1 hb
  obtain ⟨c2, d2⟩ := box2_cells B2
  go_wp2_with fail
  refine (isIn_yes n wr y _ (by omega) h2 (by omega) (by omega) HB.out).mono ?_
  rintro e w3 ⟨rfl, hb⟩
  have B3 := bel_step B2 hb
  obtain ⟨c3, d3⟩ := box2_cells B3
  have hneg : IntKind.i64.wrap (-y) = -y := IntWalk.i64_in _ (by omega)
  have hz : w.heap.size < w3.heap.size := by have := B3.size; simp at this; omega
  go_wp2_with fail
  go_region_with (first | (go_at_call 40; refine (sum2_any _ x (-y) _ (by first | exact Go.MemX.Sl.two _ _ _ _ | exact (Go.MemX.Sl.two _ _ _ _).drew) (by omega) (by omega) (by omega) (by omega)).mono ?_; rintro e w' ⟨rfl, rfl⟩) | (go_at_call 30; refine (fit_any n wr (x + -y) _ (by omega) h2 (by omega) (by omega)).mono ?_; rintro e w5 ⟨rfl, hb⟩))
  all_goals go_wp2
  all_goals go_ret2
  all_goals exact ⟨rfl, bel_step (((bel_step (bel_alloc _ _) B3).alloc (by omega) _).drew) hb⟩

set_option maxHeartbeats 400000 in
theorem impl_LessIn_yes (n : Nat) (x y : Int) (wr : Bool) (w : World) (h1 : 2 ≤ n) (h2 : n ≤ 16) (ha : -(2 : Int) ^ (n - 1) ≤ x ∧ x ≤ 2 ^ (n - 1) - 1) (hb : -(2 : Int) ^ (n - 1) ≤ y ∧ y ≤ 2 ^ (n - 1) - 1) :
    Calls Try.prog 16 #[.agg #[.int .i64 (n : Int), .bool wr], .int .i64 x, .int .i64 y] w fun e w' => e = .returned (.tuple #[.int .i64 (fitI n wr (x - y)), .bool true]) ∧ Below w.heap.size w w' := by
  refine (impl_LessIn_yes0 n x y wr w h1 h2 ha hb).mono fun e w' ⟨he, hk⟩ => ⟨?_, hk⟩
  rw [he, Int.sub_eq_add_neg]

set_option maxHeartbeats 400000 in
theorem impl_LessIn_no1 (n : Nat) (x y : Int) (wr : Bool) (w : World) (h1 : 2 ≤ n) (h2 : n ≤ 16) (hx1 : -9223372036854775808 ≤ x) (hx2 : x ≤ 9223372036854775807) (ha : ¬ (-(2 : Int) ^ (n - 1) ≤ x ∧ x ≤ 2 ^ (n - 1) - 1)) :
    Calls Try.prog 16 #[.agg #[.int .i64 (n : Int), .bool wr], .int .i64 x, .int .i64 y] w fun e w' => e = .returned (.tuple #[.int .i64 0, .bool false]) ∧ Below w.heap.size w w' := by
  have HA := hid ha
  clear ha
  go_enter Try.func16, Try.ntmps16
  go_wp2_with fail
  refine (impl_IsWord_yes _ _ _ (by omega) (by omega)).mono ?_
  rintro e w1 ⟨rfl, B1⟩
  obtain ⟨c1, d1⟩ := box2_cells B1
  go_wp2_with fail
  refine (isIn_no n wr x _ (by omega) h2 hx1 hx2 HA.out).mono ?_
  rintro e w2 ⟨rfl, hb⟩
  have B2 := bel_step B1 hb
  obtain ⟨c2, d2⟩ := box2_cells B2
  go_wp2_with fail
  go_ret2
  exact ⟨rfl, bel_step (bel_alloc _ _) B2⟩

set_option maxHeartbeats 400000 in
theorem impl_LessIn_no2 (n : Nat) (x y : Int) (wr : Bool) (w : World) (h1 : 2 ≤ n) (h2 : n ≤ 16) (hx1 : -9223372036854775808 ≤ x) (hx2 : x ≤ 9223372036854775807) (hy1 : -9223372036854775808 ≤ y) (hy2 : y ≤ 9223372036854775807) (ha : -(2 : Int) ^ (n - 1) ≤ x ∧ x ≤ 2 ^ (n - 1) - 1) (hb : ¬ (-(2 : Int) ^ (n - 1) ≤ y ∧ y ≤ 2 ^ (n - 1) - 1)) :
    Calls Try.prog 16 #[.agg #[.int .i64 (n : Int), .bool wr], .int .i64 x, .int .i64 y] w fun e w' => e = .returned (.tuple #[.int .i64 0, .bool false]) ∧ Below w.heap.size w w' := by
  have HA := hid ha
  clear ha
  have HB := hid hb
  clear hb
  go_enter Try.func16, Try.ntmps16
  go_wp2_with fail
  refine (impl_IsWord_yes _ _ _ (by omega) (by omega)).mono ?_
  rintro e w1 ⟨rfl, B1⟩
  obtain ⟨c1, d1⟩ := box2_cells B1
  go_wp2_with fail
  refine (isIn_yes n wr x _ (by omega) h2 hx1 hx2 HA.out).mono ?_
  rintro e w2 ⟨rfl, hb⟩
  have B2 := bel_step B1 hb
  obtain ⟨c2, d2⟩ := box2_cells B2
  go_wp2_with fail
  refine (isIn_no n wr y _ (by omega) h2 hy1 hy2 HB.out).mono ?_
  rintro e w3 ⟨rfl, hb⟩
  have B3 := bel_step B2 hb
  go_wp2_with fail
  go_ret2
  exact ⟨rfl, bel_step (bel_alloc _ _) B3⟩

set_option maxHeartbeats 400000 in
theorem impl_LessIn_bad (b x y : Int) (wr : Bool) (w : World) (h : ¬ (2 ≤ b ∧ b ≤ 16)) :
    Calls Try.prog 16 #[.agg #[.int .i64 b, .bool wr], .int .i64 x, .int .i64 y] w fun e w' => e = .returned (.tuple #[.int .i64 0, .bool false]) ∧ Below w.heap.size w w' := by
  have H := hid h
  clear h
  go_enter Try.func16, Try.ntmps16
  go_wp2_with fail
  refine (impl_IsWord_no _ _ _ H.out).mono ?_
  rintro e w1 ⟨rfl, B1⟩
  go_wp2_with fail
  go_ret2
  exact ⟨rfl, bel_step (bel_alloc _ _) B1⟩

end Go.Proofs.Ytedhclicjkjlfaa
