
import Derived.Test.YtedhclicjkjlfaaKb
import Derived.Test.YtedhclicjkjlfaaRs
import Derived.Test.YtedhclicjkjlfaaLg
import Derived.Test.YtedhclicjkjlfaaAb
namespace Go.Proofs.Ytedhclicjkjlfaa
open Go.RowKit BitX Go.MemX Go.ShX
set_option linter.unusedVariables false


theorem big_any (u1 u2 : Option Addr) (n1 c1 n2 c2 : Nat) (w : World) (h : n1 ≤ 1048576) (h2 : n2 ≤ 1048576 - n1) :
    Calls Try.prog 5 #[.slice u1 n1 c1, .slice u2 n2 c2] w fun e w' => e = .returned (.bool false) ∧ w = w' := by
  go_enter Try.func5, Try.ntmps5
  go_wp2
  go_ret
  exact ⟨ret_b (by simp <;> omega), rfl⟩
theorem big_first (u1 u2 : Option Addr) (n1 c1 n2 c2 : Nat) (w : World) (h : 1048576 < n1) :
    Calls Try.prog 5 #[.slice u1 n1 c1, .slice u2 n2 c2] w fun e w' => e = .returned (.bool true) ∧ w = w' := by
  go_enter Try.func5, Try.ntmps5
  go_wp2
  go_ret
  exact ⟨rfl, rfl⟩
theorem big_both (u1 u2 : Option Addr) (n1 c1 n2 c2 : Nat) (w : World) (h : n1 ≤ 1048576) (h2 : 1048576 - n1 < n2) (h3 : n2 ≤ 9223372036854775807) :
    Calls Try.prog 5 #[.slice u1 n1 c1, .slice u2 n2 c2] w fun e w' => e = .returned (.bool true) ∧ w = w' := by
  go_enter Try.func5, Try.ntmps5
  go_wp2
  go_ret
  exact ⟨ret_b (by simp <;> omega), rfl⟩
/-- the cursor as a draw makes it -/
theorem Cur.new {w : World} {a : Option Addr} {len cap : Nat} (hb : By w.heap.size w a len) (hl : len ≤ 1048576) : Cur w.heap.size 0 (w.alloc (.cells #[.slice a len cap, .int .i64 0, .int .u64 0] 46)) :=
  ⟨a, len, cap, 0, 0, heap_alloc_new _ _, hb.kept (bel_alloc w _), hl, Nat.le_refl _, by decide, by decide⟩
def DrawsRS (w : World) (e : Ending) (w' : World) : Prop := (∃ x k m, e = .returned (.tuple #[.int .i64 x, .int .i64 k, .int .i64 m]) ∧ (-4611686018427387904 ≤ x ∧ x ≤ 4611686018427387904) ∧ (-1 ≤ k ∧ k ≤ 64) ∧ -1 ≤ m ∧ m ≤ 3) ∧ Below w.heap.size w w'
set_option maxHeartbeats 1000000 in
theorem DrawRoundShift_any (a : Option Addr) (len cap : Nat) (w : World) (hb : By w.heap.size w a len) (hl : len ≤ 1048576) :
    Calls Try.prog 22 #[.slice a len cap] w (DrawsRS w) := by
  have HC := hid (Cur.new (cap := cap) hb hl)
  have HA := hid (bel_alloc w (.cells #[.slice a len cap, .int .i64 0, .int .u64 0] 46))
  clear hb
  go_enter Try.func22, Try.ntmps22
  go_wp2_with fail
  refine (number_any _ 0 _ HC.out (by omega)).mono ?_
  rintro e w1 ⟨⟨x, rfl, x1, x2⟩, hc1, hb1⟩
  have HC1 := hid hc1
  have HB1 := hid hb1
  clear hc1 hb1
  go_wp2_with fail
  refine (shift_any _ 6 _ HC1.out (by omega)).mono ?_
  rintro e w2 ⟨⟨k, rfl, k1, k2⟩, hc2, hb2⟩
  have HC2 := hid hc2
  have HB2 := hid (HB1.out.trans hb2)
  clear hc2 hb2
  go_wp2_with fail
  refine (mode_any _ 10 _ HC2.out (by omega)).mono ?_
  rintro e w3 ⟨⟨m, rfl, m1, m2⟩, hc3, hb3⟩
  have HB3 := hid (HB2.out.trans hb3)
  clear hc3 hb3
  go_wp2
  go_ret3
  exact ⟨⟨x, k, m, rfl, ⟨x1, x2⟩, ⟨k1, k2⟩, m1, m2⟩, HA.out.trans HB3.out.1⟩
set_option maxHeartbeats 400000 in
theorem iSize_any (x : Int) (w : World) (h1 : -4000000000000000000 ≤ x) (h2 : x ≤ 4000000000000000000) :
    Calls Try.prog 26 #[.int .i64 x] w fun e w' => e = .returned (.int .i64 (absI x)) ∧ w = w' := by
  go_enter Try.func26, Try.ntmps26
  go_wp2
  all_goals go_ret
  all_goals exact ⟨ret_i (by unfold absI; omega), rfl⟩
/-- shifted numbers and their rests -/
theorem rest_is (x P : Int) (hP : 1 ≤ P) : x / P * P + x % P = x ∧ 0 ≤ x % P ∧ x % P < P := by
  have a := Int.mul_ediv_add_emod x P
  rw [Int.mul_comm P] at a
  exact ⟨a, Int.emod_nonneg x (by omega), Int.emod_lt_of_pos x (by omega)⟩

theorem shift_in (x : Int) (k : Nat) (mode : Int) (C : Int) (h1 : -C ≤ x) (h2 : x ≤ C) (hk : k ≤ 20) : -(C + 524289) ≤ shiftI x k mode ∧ shiftI x k mode ≤ C + 524289 := by
  have hp := pow20 k hk
  have a := div_bounds x (2 ^ k) (by omega)
  have b := div_bounds (x + 2 ^ k / 2) (2 ^ k) (by omega)
  have c := Int.natAbs_tdiv_le_natAbs x (2 ^ k)
  unfold shiftI
  split
  · omega
  · split <;> omega


theorem absI_lt {r P : Int} (h1 : -P < r) (h2 : r < P) : absI r < P := by unfold absI; omega
/-- what is known of a shifted number, its rest and the number shifted down: mode 0, 1, 2 -/
theorem sh_facts (x : Int) (k : Nat) : ∃ P : Int, P = 2 ^ k ∧ 1 ≤ P ∧
    (shiftI x k 0 * P + (x - shiftI x k 0 * P) = x ∧ 0 ≤ x - shiftI x k 0 * P ∧ x - shiftI x k 0 * P < P) ∧
    ((shiftI x k 1 = shiftI x k 0 ∨ shiftI x k 1 = shiftI x k 0 + 1) ∧ -P ≤ 2 * (x - shiftI x k 1 * P) ∧ 2 * (x - shiftI x k 1 * P) < P + (if P = 1 then 1 else 0) ∧ (P = 1 → x - shiftI x k 1 * P = 0)) ∧
    ((shiftI x k 2 = shiftI x k 0 ∨ shiftI x k 2 = shiftI x k 0 + 1) ∧ (-P < x - shiftI x k 2 * P ∧ x - shiftI x k 2 * P < P) ∧ (0 < x → 0 ≤ x - shiftI x k 2 * P) ∧ (x < 0 → x - shiftI x k 2 * P ≤ 0) ∧ shiftI (-x) k 2 = -shiftI x k 2) := by
  have hP : (1 : Int) ≤ 2 ^ k := by have : (0 : Int) < 2 ^ k := Int.pow_pos (by decide)
                                    omega
  refine ⟨2 ^ k, rfl, hP, ?_, ?_, ?_⟩
  · rw [shift_down]
    obtain ⟨a, b, c⟩ := rest_is x (2 ^ k) hP
    omega
  · rw [shift_down]
    obtain ⟨a, b, c⟩ := rest_is x (2 ^ k) hP
    rcases pow_or k with h1 | ⟨h, h1, h0⟩
    · have hn : shiftI x k 1 = x / 2 ^ k := near_no x k (by rw [h1]; rw [h1] at c; omega)
      rw [hn, h1] at *
      simp only [Int.ediv_one, Int.mul_one] at *
      refine ⟨Or.inl trivial, by omega, by simp, by omega⟩
    · by_cases h2 : 2 * (x % 2 ^ k) < 2 ^ k
      · have hn := near_no x k h2
        rw [hn]
        refine ⟨Or.inl rfl, by omega, by split <;> omega, by omega⟩
      · have hn := near_yes x k (by omega) (by omega)
        rw [hn, Int.add_mul, Int.one_mul]
        refine ⟨Or.inr rfl, by omega, by split <;> omega, by omega⟩
  · rw [shift_down]
    obtain ⟨a, b, c⟩ := rest_is x (2 ^ k) hP
    have hneg : shiftI (-x) k 2 = -shiftI x k 2 := by
      show (-x).tdiv (2 ^ k) = -(x.tdiv (2 ^ k))
      exact Int.neg_tdiv ..
    rcases Int.lt_trichotomy x 0 with h | h | h
    · by_cases h2 : x % 2 ^ k = 0
      · have hn := shift_zero_exact x k h2
        rw [hneg, hn]
        refine ⟨Or.inl rfl, by omega, by omega, by omega, rfl⟩
      · have hn := shift_zero_neg x k h (by omega)
        rw [hneg, hn, Int.add_mul, Int.one_mul]
        refine ⟨Or.inr rfl, by omega, by omega, by omega, rfl⟩
    · have hn := shift_zero_pos x k (by omega)
      rw [hneg, hn]
      refine ⟨Or.inl rfl, by omega, by omega, by omega, rfl⟩
    · have hn := shift_zero_pos x k (by omega)
      rw [hneg, hn]
      refine ⟨Or.inl rfl, by omega, by omega, by omega, rfl⟩


set_option maxRecDepth 20000 in
set_option maxHeartbeats 40000000 in
theorem law_FnShiftsRound (u1 u2 : Option Addr) (n1 c1 n2 c2 : Nat) (w : World) (hby : By w.heap.size w u1 n1) (hl1 : n1 ≤ 1048576) (hl2 : n2 ≤ 1048576 - n1) :
    Calls Try.prog 4 #[.slice u1 n1 c1, .slice u2 n2 c2] w fun e w' => e = .returned (.bool true) ∧ Below w.heap.size w w' := by
  have HBY := hid hby
  clear hby
  go_enter Try.func4, Try.ntmps4
  go_wp2_with fail
  refine (big_any _ _ _ _ _ _ _ hl1 hl2).mono ?_
  rintro e w' ⟨rfl, rfl⟩
  go_wp2_with fail
  refine (DrawRoundShift_any u1 n1 c1 _ HBY.out hl1).mono ?_
  rintro e w1 ⟨⟨x, k, m, rfl, ⟨x1, x2⟩, ⟨k1, k2⟩, m1, m2⟩, hb⟩
  have HB := hid hb
  clear hb
  by_cases hx : -1000000000000 ≤ x ∧ x ≤ 1000000000000
  · by_cases hk : (0 ≤ k ∧ k ≤ 20) ∧ (0 ≤ m ∧ m ≤ 2)
    · obtain ⟨⟨k3, k4⟩, m3, m4⟩ := hk
      obtain ⟨h3, h4⟩ := hx
      obtain ⟨k, rfl⟩ : ∃ kk : Nat, k = kk := ⟨k.toNat, by omega⟩
      have hk20 : k ≤ 20 := by omega
      obtain ⟨P, hP, hP1, F0, F1, F2⟩ := sh_facts x k
      have hP2 : P ≤ 1048576 := by rw [hP]; exact (pow20 k hk20).2
      have hw : wrap64 ((2 : Int) ^ k) = P := by rw [← hP]; exact IntWalk.wrap64_in _ (by omega)
      have hw2 : wrap64 ((2 : Int) ^ min k 64) = P := by rw [Nat.min_eq_left (by omega)]; exact hw
      have C1 := fun (W : World) => impl_RoundShift_yes x k m W h3 h4 hk20 m3 m4
      have C2 := fun (W : World) => spec_RoundShift_yes x k m W h3 h4 hk20 m3 m4
      have C5 := fun (W : World) => impl_RestOfShift_yes x k m W h3 h4 hk20 m3 m4
      have C6 := fun (W : World) => spec_RestOfShift_yes x k m W h3 h4 hk20 m3 m4
      have C3 := fun (W : World) => impl_RoundShift_yes x k 0 W h3 h4 hk20 (by omega) (by omega)
      have hm : m = 0 ∨ m = 1 ∨ m = 2 := by omega
      clear HBY
      rcases hm with hm | hm | hm
      · obtain rfl : m = 0 := hm
        obtain ⟨f1, f2, f3⟩ := F0
        generalize hY : shiftI x k 0 = Y at *
        rw [← hP] at C5 C6
        obtain ⟨R, hR⟩ : ∃ R, R = x - Y * P := ⟨_, rfl⟩
        have hYP : Y * P = x - R := by omega
        have hrr : -1048576 ≤ R ∧ R ≤ 1048576 := by omega
        have q1 := (w64s (x := x - R) (by omega) (by omega)).2
        have q2 := (w64s (x := R) (by omega) (by omega)).2
        have e0 : wrap64 (x - wrap64 (Y * P)) = R := by rw [hYP, q1, show x - (x - R) = R from by omega]; exact q2
        rw [e0] at C5 C6
        rw [← hR] at f1 f2 f3
        have e1 : IntKind.i64.wrap (Y * P) = x - R := by rw [hYP]; exact IntWalk.i64_in _ (by omega)
        have e2 : IntKind.i64.wrap (x - R + R) = x := by rw [show x - R + R = x from by omega]; exact IntWalk.i64_in _ (by omega)
        have e3 : x - R + R = x := by omega
        have C1 := hid C1
        have C2 := hid C2
        have C3 := hid C3
        have C5 := hid C5
        have C6 := hid C6
        have f4 : 0 ≤ R := by omega
        have f5 : R < P := by omega
        have C4 := C3
        clear f1 f2 f3 hYP e0 hR F1 F2 hY hP
        go_wp2_with fail
        refine (C1.out _).mono ?_
        rintro e w' ⟨rfl, rfl⟩
        go_wp2_with fail
        refine (C2.out _).mono ?_
        rintro e w' ⟨rfl, rfl⟩
        go_wp2_with fail
        refine (C5.out _).mono ?_
        rintro e w' ⟨rfl, rfl⟩
        go_wp2_with fail
        refine (C6.out _).mono ?_
        rintro e w' ⟨rfl, rfl⟩
        go_wp2_with fail
        refine (C3.out _).mono ?_
        rintro e w' ⟨rfl, rfl⟩
        go_wp2
        go_ret
        exact ⟨rfl, HB.out⟩
      · obtain rfl : m = 1 := hm
        obtain ⟨g1, g2⟩ := shift_in x k 1 1000000000000 h3 h4 hk20
        obtain ⟨fy, f1, f2, f3⟩ := F1
        generalize hY : shiftI x k 1 = Y at *
        generalize hD : shiftI x k 0 = D at *
        rw [← hP] at C5 C6
        obtain ⟨R, hR⟩ : ∃ R, R = x - Y * P := ⟨_, rfl⟩
        have hYP : Y * P = x - R := by omega
        have hrr : -1048576 ≤ R ∧ R ≤ 1048576 := by (split at f2 <;> omega)
        have q1 := (w64s (x := x - R) (by omega) (by omega)).2
        have q2 := (w64s (x := R) (by omega) (by omega)).2
        have e0 : wrap64 (x - wrap64 (Y * P)) = R := by rw [hYP, q1, show x - (x - R) = R from by omega]; exact q2
        rw [e0] at C5 C6
        rw [← hR] at f1 f2 f3
        have e1 : IntKind.i64.wrap (Y * P) = x - R := by rw [hYP]; exact IntWalk.i64_in _ (by omega)
        have e2 : IntKind.i64.wrap (x - R + R) = x := by rw [show x - R + R = x from by omega]; exact IntWalk.i64_in _ (by omega)
        have e3 : x - R + R = x := by omega
        have C1 := hid C1
        have C2 := hid C2
        have C3 := hid C3
        have C5 := hid C5
        have C6 := hid C6
        have f6 : IntKind.i64.wrap (2 * R) = 2 * R := (w64s (by omega) (by omega)).1
        have f6' : wrap64 (2 * R) = 2 * R := (w64s (by omega) (by omega)).2
        have f7 : IntKind.i64.wrap (-P) = -P := (w64s (by omega) (by omega)).1
        have f7' : wrap64 (-P) = -P := (w64s (by omega) (by omega)).2
        clear hYP e0 hR hY hD hP q1 q2
        have C4 := C3
        clear F0 F2
        rcases fy with hyd | hyd
        · obtain rfl : Y = D := hyd
          by_cases hp1 : P = 1
          · have hr0 : R = 0 := f3 hp1
            have hb1 : (P == 1) = true := beq_iff_eq.2 hp1
            have hb2 : (R != 0) = false := bne_eq_false_iff_eq.2 hr0
            have f4 : 2 * R < P := by omega
            have hp2 : P ≤ 1 := by omega
            clear f2 f3 hp1 hr0
            go_wp2_with fail
            refine (C1.out _).mono ?_
            rintro e w' ⟨rfl, rfl⟩
            go_wp2_with fail
            refine (C2.out _).mono ?_
            rintro e w' ⟨rfl, rfl⟩
            go_wp2_with fail
            refine (C5.out _).mono ?_
            rintro e w' ⟨rfl, rfl⟩
            go_wp2_with fail
            refine (C6.out _).mono ?_
            rintro e w' ⟨rfl, rfl⟩
            go_wp2_with fail
            refine (C3.out _).mono ?_
            rintro e w' ⟨rfl, rfl⟩
            go_wp2
            go_ret
            exact ⟨rfl, HB.out⟩
          · have hb1 : (P == 1) = false := beq_eq_false_iff_ne.2 hp1
            have f4 : 2 * R < P := by rw [if_neg hp1] at f2; omega
            have hp2 : 1 < P := by omega
            clear f2 f3 hp1
            go_wp2_with fail
            refine (C1.out _).mono ?_
            rintro e w' ⟨rfl, rfl⟩
            go_wp2_with fail
            refine (C2.out _).mono ?_
            rintro e w' ⟨rfl, rfl⟩
            go_wp2_with fail
            refine (C5.out _).mono ?_
            rintro e w' ⟨rfl, rfl⟩
            go_wp2_with fail
            refine (C6.out _).mono ?_
            rintro e w' ⟨rfl, rfl⟩
            go_wp2_with fail
            refine (C3.out _).mono ?_
            rintro e w' ⟨rfl, rfl⟩
            go_wp2
            go_ret
            exact ⟨rfl, HB.out⟩
        · have hne1 : (Y != D) = true := bne_iff_ne.2 (by omega)
          have hne2 : (Y != D + 1) = false := bne_eq_false_iff_eq.2 hyd
          have e7 : IntKind.i64.wrap (D + 1) = Y := by rw [← hyd]; exact (w64s (by omega) (by omega)).1
          have e7' : wrap64 (D + 1) = Y := by rw [← hyd]; exact (w64s (by omega) (by omega)).2
          clear hyd
          by_cases hp1 : P = 1
          · have hr0 : R = 0 := f3 hp1
            have hb1 : (P == 1) = true := beq_iff_eq.2 hp1
            have hb2 : (R != 0) = false := bne_eq_false_iff_eq.2 hr0
            have f4 : 2 * R < P := by omega
            have hp2 : P ≤ 1 := by omega
            clear f2 f3 hp1 hr0
            go_wp2_with fail
            refine (C1.out _).mono ?_
            rintro e w' ⟨rfl, rfl⟩
            go_wp2_with fail
            refine (C2.out _).mono ?_
            rintro e w' ⟨rfl, rfl⟩
            go_wp2_with fail
            refine (C5.out _).mono ?_
            rintro e w' ⟨rfl, rfl⟩
            go_wp2_with fail
            refine (C6.out _).mono ?_
            rintro e w' ⟨rfl, rfl⟩
            go_wp2_with fail
            refine (C3.out _).mono ?_
            rintro e w' ⟨rfl, rfl⟩
            go_wp2
            go_ret
            exact ⟨rfl, HB.out⟩
          · have hb1 : (P == 1) = false := beq_eq_false_iff_ne.2 hp1
            have f4 : 2 * R < P := by rw [if_neg hp1] at f2; omega
            have hp2 : 1 < P := by omega
            clear f2 f3 hp1
            go_wp2_with fail
            refine (C1.out _).mono ?_
            rintro e w' ⟨rfl, rfl⟩
            go_wp2_with fail
            refine (C2.out _).mono ?_
            rintro e w' ⟨rfl, rfl⟩
            go_wp2_with fail
            refine (C5.out _).mono ?_
            rintro e w' ⟨rfl, rfl⟩
            go_wp2_with fail
            refine (C6.out _).mono ?_
            rintro e w' ⟨rfl, rfl⟩
            go_wp2_with fail
            refine (C3.out _).mono ?_
            rintro e w' ⟨rfl, rfl⟩
            go_wp2
            go_ret
            exact ⟨rfl, HB.out⟩
      · obtain rfl : m = 2 := hm
        obtain ⟨g1, g2⟩ := shift_in x k 2 1000000000000 h3 h4 hk20
        obtain ⟨fy, ⟨f1, f2⟩, f3, f4, f5⟩ := F2
        have C4 : -1000000000000 < x → ∀ W : World, _ := fun hxx (W : World) => impl_RoundShift_yes (-x) k 2 W (by omega) (by omega) hk20 (by omega) (by omega)
        rw [f5] at C4
        generalize hY : shiftI x k 2 = Y at *
        generalize hD : shiftI x k 0 = D at *
        rw [← hP] at C5 C6
        obtain ⟨R, hR⟩ : ∃ R, R = x - Y * P := ⟨_, rfl⟩
        have hYP : Y * P = x - R := by omega
        have hrr : -1048576 ≤ R ∧ R ≤ 1048576 := by omega
        have q1 := (w64s (x := x - R) (by omega) (by omega)).2
        have q2 := (w64s (x := R) (by omega) (by omega)).2
        have e0 : wrap64 (x - wrap64 (Y * P)) = R := by rw [hYP, q1, show x - (x - R) = R from by omega]; exact q2
        rw [e0] at C5 C6
        rw [← hR] at f1 f2 f3 f4
        have e1 : IntKind.i64.wrap (Y * P) = x - R := by rw [hYP]; exact IntWalk.i64_in _ (by omega)
        have e2 : IntKind.i64.wrap (x - R + R) = x := by rw [show x - R + R = x from by omega]; exact IntWalk.i64_in _ (by omega)
        have e3 : x - R + R = x := by omega
        have C1 := hid C1
        have C2 := hid C2
        have C3 := hid C3
        have C5 := hid C5
        have C6 := hid C6
        have f8 : absI R < P := absI_lt f1 f2
        clear hYP e0 hR hY hD hP q1 q2
        clear F0 F1 f5
        rcases fy with hyd | hyd
        · obtain rfl : Y = D := hyd
          rcases Int.lt_trichotomy x 0 with hs | hs | hs
          · have f9 : R ≤ 0 := f4 hs
            clear f3 f4
            by_cases hxx : -1000000000000 < x
            · have C4 := hid (C4 hxx)
              have f10 : wrap64 (-x) = -x := (w64s (by omega) (by omega)).2
              have f11 : wrap64 (-Y) = -Y := (w64s (by omega) (by omega)).2
              have f12 : IntKind.i64.wrap (-Y) = -Y := (w64s (by omega) (by omega)).1
              have f13 : IntKind.i64.wrap (-x) = -x := (w64s (by omega) (by omega)).1
              go_wp2_with fail
              refine (C1.out _).mono ?_
              rintro e w' ⟨rfl, rfl⟩
              go_wp2_with fail
              refine (C2.out _).mono ?_
              rintro e w' ⟨rfl, rfl⟩
              go_wp2_with fail
              refine (C5.out _).mono ?_
              rintro e w' ⟨rfl, rfl⟩
              go_wp2_with fail
              refine (C6.out _).mono ?_
              rintro e w' ⟨rfl, rfl⟩
              go_wp2_with fail
              refine (C3.out _).mono ?_
              rintro e w' ⟨rfl, rfl⟩
              go_wp2_with fail
              refine (iSize_any R _ (by omega) (by omega)).mono ?_
              rintro e w' ⟨rfl, rfl⟩
              go_wp2_with fail
              refine (C4.out _).mono ?_
              rintro e w' ⟨rfl, rfl⟩
              go_wp2
              go_ret
              exact ⟨rfl, HB.out⟩
            · have hxx' : x ≤ -1000000000000 := by omega
              clear hxx
              go_wp2_with fail
              refine (C1.out _).mono ?_
              rintro e w' ⟨rfl, rfl⟩
              go_wp2_with fail
              refine (C2.out _).mono ?_
              rintro e w' ⟨rfl, rfl⟩
              go_wp2_with fail
              refine (C5.out _).mono ?_
              rintro e w' ⟨rfl, rfl⟩
              go_wp2_with fail
              refine (C6.out _).mono ?_
              rintro e w' ⟨rfl, rfl⟩
              go_wp2_with fail
              refine (C3.out _).mono ?_
              rintro e w' ⟨rfl, rfl⟩
              go_wp2_with fail
              refine (iSize_any R _ (by omega) (by omega)).mono ?_
              rintro e w' ⟨rfl, rfl⟩
              go_wp2
              go_ret
              exact ⟨rfl, HB.out⟩
          · have f9 : 0 ≤ x := by omega
            have f9' : x ≤ 0 := by omega
            have hxx : -1000000000000 < x := by omega
            clear f3 f4 hs
            have C4 := hid (C4 hxx)
            have f10 : wrap64 (-x) = -x := (w64s (by omega) (by omega)).2
            have f11 : wrap64 (-Y) = -Y := (w64s (by omega) (by omega)).2
            have f12 : IntKind.i64.wrap (-Y) = -Y := (w64s (by omega) (by omega)).1
            have f13 : IntKind.i64.wrap (-x) = -x := (w64s (by omega) (by omega)).1
            go_wp2_with fail
            refine (C1.out _).mono ?_
            rintro e w' ⟨rfl, rfl⟩
            go_wp2_with fail
            refine (C2.out _).mono ?_
            rintro e w' ⟨rfl, rfl⟩
            go_wp2_with fail
            refine (C5.out _).mono ?_
            rintro e w' ⟨rfl, rfl⟩
            go_wp2_with fail
            refine (C6.out _).mono ?_
            rintro e w' ⟨rfl, rfl⟩
            go_wp2_with fail
            refine (C3.out _).mono ?_
            rintro e w' ⟨rfl, rfl⟩
            go_wp2_with fail
            refine (iSize_any R _ (by omega) (by omega)).mono ?_
            rintro e w' ⟨rfl, rfl⟩
            go_wp2_with fail
            refine (C4.out _).mono ?_
            rintro e w' ⟨rfl, rfl⟩
            go_wp2
            go_ret
            exact ⟨rfl, HB.out⟩
          · have f9 : 0 ≤ R := f3 hs
            have hxx : -1000000000000 < x := by omega
            clear f3 f4
            have C4 := hid (C4 hxx)
            have f10 : wrap64 (-x) = -x := (w64s (by omega) (by omega)).2
            have f11 : wrap64 (-Y) = -Y := (w64s (by omega) (by omega)).2
            have f12 : IntKind.i64.wrap (-Y) = -Y := (w64s (by omega) (by omega)).1
            have f13 : IntKind.i64.wrap (-x) = -x := (w64s (by omega) (by omega)).1
            go_wp2_with fail
            refine (C1.out _).mono ?_
            rintro e w' ⟨rfl, rfl⟩
            go_wp2_with fail
            refine (C2.out _).mono ?_
            rintro e w' ⟨rfl, rfl⟩
            go_wp2_with fail
            refine (C5.out _).mono ?_
            rintro e w' ⟨rfl, rfl⟩
            go_wp2_with fail
            refine (C6.out _).mono ?_
            rintro e w' ⟨rfl, rfl⟩
            go_wp2_with fail
            refine (C3.out _).mono ?_
            rintro e w' ⟨rfl, rfl⟩
            go_wp2_with fail
            refine (iSize_any R _ (by omega) (by omega)).mono ?_
            rintro e w' ⟨rfl, rfl⟩
            go_wp2_with fail
            refine (C4.out _).mono ?_
            rintro e w' ⟨rfl, rfl⟩
            go_wp2
            go_ret
            exact ⟨rfl, HB.out⟩
        · have hne1 : (Y != D) = true := bne_iff_ne.2 (by omega)
          have hne2 : (Y != D + 1) = false := bne_eq_false_iff_eq.2 hyd
          have e7 : IntKind.i64.wrap (D + 1) = Y := by rw [← hyd]; exact (w64s (by omega) (by omega)).1
          have e7' : wrap64 (D + 1) = Y := by rw [← hyd]; exact (w64s (by omega) (by omega)).2
          clear hyd
          rcases Int.lt_trichotomy x 0 with hs | hs | hs
          · have f9 : R ≤ 0 := f4 hs
            clear f3 f4
            by_cases hxx : -1000000000000 < x
            · have C4 := hid (C4 hxx)
              have f10 : wrap64 (-x) = -x := (w64s (by omega) (by omega)).2
              have f11 : wrap64 (-Y) = -Y := (w64s (by omega) (by omega)).2
              have f12 : IntKind.i64.wrap (-Y) = -Y := (w64s (by omega) (by omega)).1
              have f13 : IntKind.i64.wrap (-x) = -x := (w64s (by omega) (by omega)).1
              go_wp2_with fail
              refine (C1.out _).mono ?_
              rintro e w' ⟨rfl, rfl⟩
              go_wp2_with fail
              refine (C2.out _).mono ?_
              rintro e w' ⟨rfl, rfl⟩
              go_wp2_with fail
              refine (C5.out _).mono ?_
              rintro e w' ⟨rfl, rfl⟩
              go_wp2_with fail
              refine (C6.out _).mono ?_
              rintro e w' ⟨rfl, rfl⟩
              go_wp2_with fail
              refine (C3.out _).mono ?_
              rintro e w' ⟨rfl, rfl⟩
              go_wp2_with fail
              refine (iSize_any R _ (by omega) (by omega)).mono ?_
              rintro e w' ⟨rfl, rfl⟩
              go_wp2_with fail
              refine (C4.out _).mono ?_
              rintro e w' ⟨rfl, rfl⟩
              go_wp2
              go_ret
              exact ⟨rfl, HB.out⟩
            · have hxx' : x ≤ -1000000000000 := by omega
              clear hxx
              go_wp2_with fail
              refine (C1.out _).mono ?_
              rintro e w' ⟨rfl, rfl⟩
              go_wp2_with fail
              refine (C2.out _).mono ?_
              rintro e w' ⟨rfl, rfl⟩
              go_wp2_with fail
              refine (C5.out _).mono ?_
              rintro e w' ⟨rfl, rfl⟩
              go_wp2_with fail
              refine (C6.out _).mono ?_
              rintro e w' ⟨rfl, rfl⟩
              go_wp2_with fail
              refine (C3.out _).mono ?_
              rintro e w' ⟨rfl, rfl⟩
              go_wp2_with fail
              refine (iSize_any R _ (by omega) (by omega)).mono ?_
              rintro e w' ⟨rfl, rfl⟩
              go_wp2
              go_ret
              exact ⟨rfl, HB.out⟩
          · have f9 : 0 ≤ x := by omega
            have f9' : x ≤ 0 := by omega
            have hxx : -1000000000000 < x := by omega
            clear f3 f4 hs
            have C4 := hid (C4 hxx)
            have f10 : wrap64 (-x) = -x := (w64s (by omega) (by omega)).2
            have f11 : wrap64 (-Y) = -Y := (w64s (by omega) (by omega)).2
            have f12 : IntKind.i64.wrap (-Y) = -Y := (w64s (by omega) (by omega)).1
            have f13 : IntKind.i64.wrap (-x) = -x := (w64s (by omega) (by omega)).1
            go_wp2_with fail
            refine (C1.out _).mono ?_
            rintro e w' ⟨rfl, rfl⟩
            go_wp2_with fail
            refine (C2.out _).mono ?_
            rintro e w' ⟨rfl, rfl⟩
            go_wp2_with fail
            refine (C5.out _).mono ?_
            rintro e w' ⟨rfl, rfl⟩
            go_wp2_with fail
            refine (C6.out _).mono ?_
            rintro e w' ⟨rfl, rfl⟩
            go_wp2_with fail
            refine (C3.out _).mono ?_
            rintro e w' ⟨rfl, rfl⟩
            go_wp2_with fail
            refine (iSize_any R _ (by omega) (by omega)).mono ?_
            rintro e w' ⟨rfl, rfl⟩
            go_wp2_with fail
            refine (C4.out _).mono ?_
            rintro e w' ⟨rfl, rfl⟩
            go_wp2
            go_ret
            exact ⟨rfl, HB.out⟩
          · have f9 : 0 ≤ R := f3 hs
            have hxx : -1000000000000 < x := by omega
            clear f3 f4
            have C4 := hid (C4 hxx)
            have f10 : wrap64 (-x) = -x := (w64s (by omega) (by omega)).2
            have f11 : wrap64 (-Y) = -Y := (w64s (by omega) (by omega)).2
            have f12 : IntKind.i64.wrap (-Y) = -Y := (w64s (by omega) (by omega)).1
            have f13 : IntKind.i64.wrap (-x) = -x := (w64s (by omega) (by omega)).1
            go_wp2_with fail
            refine (C1.out _).mono ?_
            rintro e w' ⟨rfl, rfl⟩
            go_wp2_with fail
            refine (C2.out _).mono ?_
            rintro e w' ⟨rfl, rfl⟩
            go_wp2_with fail
            refine (C5.out _).mono ?_
            rintro e w' ⟨rfl, rfl⟩
            go_wp2_with fail
            refine (C6.out _).mono ?_
            rintro e w' ⟨rfl, rfl⟩
            go_wp2_with fail
            refine (C3.out _).mono ?_
            rintro e w' ⟨rfl, rfl⟩
            go_wp2_with fail
            refine (iSize_any R _ (by omega) (by omega)).mono ?_
            rintro e w' ⟨rfl, rfl⟩
            go_wp2_with fail
            refine (C4.out _).mono ?_
            rintro e w' ⟨rfl, rfl⟩
            go_wp2
            go_ret
            exact ⟨rfl, HB.out⟩
    · have C1 := hid (fun (W : World) => impl_RoundShift_no2 x k m W hx.1 hx.2 hk)
      have C2 := hid (fun (W : World) => spec_RoundShift_no2 x k m W hx.1 hx.2 hk)
      have C5 := hid (fun (W : World) => impl_RestOfShift_no2 x k m W hx.1 hx.2 hk)
      have C6 := hid (fun (W : World) => spec_RestOfShift_no2 x k m W hx.1 hx.2 hk)
      clear hk
      go_wp2_with (first | (go_at_call 21; (first | refine (C1.out _).mono ?_); rintro e w' ⟨rfl, rfl⟩) | (go_at_call 23; refine (C2.out _).mono ?_; rintro e w' ⟨rfl, rfl⟩) | (go_at_call 24; refine (C5.out _).mono ?_; rintro e w' ⟨rfl, rfl⟩) | (go_at_call 25; refine (C6.out _).mono ?_; rintro e w' ⟨rfl, rfl⟩) | (go_at_call 26; refine (iSize_any _ _ (by omega) (by omega)).mono ?_; rintro e w' ⟨rfl, rfl⟩))
      go_ret
      exact ⟨rfl, HB.out⟩
  · have C1 := hid (fun (W : World) => impl_RoundShift_no1 x k m W hx)
    have C2 := hid (fun (W : World) => spec_RoundShift_no1 x k m W hx)
    have C5 := hid (fun (W : World) => impl_RestOfShift_no1 x k m W hx)
    have C6 := hid (fun (W : World) => spec_RestOfShift_no1 x k m W hx)
    clear hx
    go_wp2_with (first | (go_at_call 21; (first | refine (C1.out _).mono ?_); rintro e w' ⟨rfl, rfl⟩) | (go_at_call 23; refine (C2.out _).mono ?_; rintro e w' ⟨rfl, rfl⟩) | (go_at_call 24; refine (C5.out _).mono ?_; rintro e w' ⟨rfl, rfl⟩) | (go_at_call 25; refine (C6.out _).mono ?_; rintro e w' ⟨rfl, rfl⟩) | (go_at_call 26; refine (iSize_any _ _ (by omega) (by omega)).mono ?_; rintro e w' ⟨rfl, rfl⟩))
    go_ret
    exact ⟨rfl, HB.out⟩

end Go.Proofs.Ytedhclicjkjlfaa
