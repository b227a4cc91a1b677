
import Derived.Test.YtfeihplfcbjigaaOa
import Derived.Test.YtfeihplfcbjigaaAb
import Derived.Deep.QuietTactic
import Derived.BigQuiet
namespace Go.Proofs.Ytfeihplfcbjigaa
open Go.RowKit BitX Go.MemX Go.ShX
set_option linter.unusedVariables false

theorem pow10 (k : Nat) (h : k ≤ 10) : (1 : Int) ≤ 2 ^ k ∧ (2 : Int) ^ k ≤ 1024 := by
  have h1 : (2 : Nat) ^ k ≤ 2 ^ 10 := Nat.pow_le_pow_right (by decide) h
  have h2 : (2 : Int) ^ k ≤ 2 ^ 10 := by exact_mod_cast h1
  have h3 : (0 : Int) < 2 ^ k := Int.pow_pos (by decide)
  omega

theorem ret_ii {i j k l : Int} (h1 : i = j) (h2 : k = l) : Ending.returned (.tuple #[.int .i64 i, .int .i64 k]) = .returned (.tuple #[.int .i64 j, .int .i64 l]) := by rw [h1, h2]

theorem i64_nat (q : Nat) (h : q ≤ 5000) : IntKind.i64.wrap (q : Int) = (q : Int) := IntWalk.i64_in _ (by omega)
theorem i64_neg (q : Nat) (h : q ≤ 5000) : IntKind.i64.wrap (-(q : Int)) = -(q : Int) := IntWalk.i64_in _ (by omega)
theorem w64_nat (q : Nat) (h : q ≤ 5000) : wrap64 (q : Int) = (q : Int) := IntWalk.wrap64_in _ (by omega)
theorem w64_neg (q : Nat) (h : q ≤ 5000) : wrap64 (-(q : Int)) = -(q : Int) := IntWalk.wrap64_in _ (by omega)


theorem tmod_nat (x y : Nat) : (x : Int).tmod (y : Int) = ((x % y : Nat) : Int) := by
  rw [Int.tmod_eq_emod_of_nonneg (by omega)]; rfl
theorem gcd_step (x y : Nat) : Nat.gcd y (x % y) = Nat.gcd x y := by
  rw [Nat.gcd_comm y, ← Nat.gcd_rec, Nat.gcd_comm]
set_option maxHeartbeats 1000000 in
theorem gcd_any (x y : Nat) (w : World) (hx : x ≤ 5000) (hy : y ≤ 5000) :
    Calls Try.prog 44 #[.int .i64 (x : Int), .int .i64 (y : Int)] w fun e w' => e = .returned (.int .i64 ((Nat.gcd x y : Nat) : Int)) ∧ Below w.heap.size w w' := by
  obtain ⟨G, hG⟩ : ∃ G, G = Nat.gcd x y := ⟨_, rfl⟩
  have HG := hid hG.symm
  rw [← hG]
  clear hG
  go_enter Try.func44, Try.ntmps44
  go_wp2_with fail
  go_loopw [0, 1] (fun aa bb wr => ∃ x' y' : Nat, aa = .int .i64 (x' : Int) ∧ bb = .int .i64 (y' : Int) ∧ Hid (Nat.gcd x' y' = G) ∧ x' ≤ 5000 ∧ y' ≤ 5000 ∧ Below w.heap.size w wr)
    (fun _ bb _ => (intOf bb).toNat)
  case atStart => exact ⟨x, y, rfl, rfl, HG, hx, hy, Below.refl _ _⟩
  case round =>
    clear HG hx hy
    obtain ⟨x, y, rfl, rfl, HG, hx, hy, hb⟩ := hrel
    by_cases h0 : y = 0
    · subst h0
      have hg : x = G := by rw [← HG.out, Nat.gcd_zero_right]
      have Hg := hid hg
      clear HG hg
      go_wp2
      go_ret
      exact ⟨ret_i (by rw [Hg.out]), hb⟩
    · have hy1 : (1 : Int) ≤ (y : Int) := by omega
      have hst := gcd_step x y
      rw [HG.out] at hst
      have hm := tmod_nat x y
      have hlt : x % y < y := Nat.mod_lt _ (by omega)
      generalize x % y = z at *
      have Hst := hid hst
      have e1 : IntKind.i64.wrap ((x : Int).tmod (y : Int)) = (z : Int) := by rw [hm]; exact IntWalk.i64_in _ (by omega)
      have e2 : IntKind.i64.wrap (z : Int) = (z : Int) := IntWalk.i64_in _ (by omega)
      have hy0 : (y : Int) ≠ 0 := by omega
      have hyb : ((y : Int) == 0) = false := by rw [beq_eq_false_iff_ne]; exact hy0
      clear hst h0
      go_wp2_with fail
      go_quiet (fail)
      go_wp2
      go_roundw
      case rel => exact ⟨y, z, rfl, rfl, Hst, by omega, by omega, below_drewN hb _⟩
      case measure => simp [intOf]; omega


set_option maxHeartbeats 2000000 in
theorem lowest_pos (N D : Nat) (w : World) (h1 : 1 ≤ N) (h2 : N ≤ 5000) (d1 : 1 ≤ D) (d2 : D ≤ 5000) :
    Calls Try.prog 34 #[.int .i64 (N : Int), .int .i64 ((D : Int))] w fun e w' => e = .returned (.tuple #[.int .i64 (((N / Nat.gcd N D : Nat) : Int)), .int .i64 ((D / Nat.gcd N D : Nat) : Int)]) ∧ Below w.heap.size w w' := by
  obtain ⟨G, hG⟩ : ∃ G, G = Nat.gcd N D := ⟨_, rfl⟩
  have hg1 : 1 ≤ G := by rw [hG]; exact Nat.gcd_pos_of_pos_left _ h1
  have hgle : G ≤ 5000 := by rw [hG]; exact Nat.le_trans (Nat.le_of_dvd (by omega) (Nat.gcd_dvd_left N D)) h2
  obtain ⟨q1, hq1⟩ : ∃ q, q = N / G := ⟨_, rfl⟩
  obtain ⟨q2, hq2⟩ : ∃ q, q = D / G := ⟨_, rfl⟩
  have hl1 : q1 ≤ 5000 := by rw [hq1]; exact Nat.le_trans (Nat.div_le_self _ _) h2
  have hl2 : q2 ≤ 5000 := by rw [hq2]; exact Nat.le_trans (Nat.div_le_self _ _) d2
  have ht1 : (N : Int).tdiv (G : Int) = (q1 : Int) := by rw [Int.tdiv_eq_ediv_of_nonneg (by omega), hq1]; rfl
  have ht2 : (D : Int).tdiv (G : Int) = (q2 : Int) := by rw [Int.tdiv_eq_ediv_of_nonneg (by omega), hq2]; rfl
  have HD : Hid ((N : Int) / (G : Int) = (q1 : Int) ∧ (D : Int) / (G : Int) = (q2 : Int)) := ⟨by rw [hq1]; rfl, by rw [hq2]; rfl⟩
  have ht3 : (-(N : Int)).tdiv (G : Int) = -(q1 : Int) := by rw [Int.neg_tdiv, ht1]
  have ht4 : (N : Int).tdiv (-(G : Int)) = -(q1 : Int) := by rw [Int.tdiv_neg, ht1]
  have ht5 : (-(D : Int)).tdiv (-(G : Int)) = (q2 : Int) := by rw [Int.neg_tdiv, Int.tdiv_neg, ht2]; omega
  have HG := hid hG.symm
  rw [← hG, ← hq1, ← hq2]
  clear hG hq1 hq2
  have hab : absI (N : Int) = (N : Int) := by unfold absI; omega
  have hab2 : absI ((D : Int)) = (D : Int) := by unfold absI; omega
  have hg0 : (G : Int) ≠ 0 := by omega
  have hgb : ((G : Int) == 0) = false := by rw [beq_eq_false_iff_ne]; exact hg0
  have hg0n : (-(G : Int)) ≠ 0 := by omega
  have hgbn : ((-(G : Int)) == 0) = false := by rw [beq_eq_false_iff_ne]; exact hg0n
  have e0a : IntKind.i64.wrap (((N : Int)).tdiv (G : Int)) = (q1 : Int) := by rw [ht1]; exact i64_nat q1 hl1
  have e0b : wrap64 (((N : Int)).tdiv (G : Int)) = (q1 : Int) := by rw [ht1]; exact w64_nat q1 hl1
  have e0c : IntKind.i64.wrap ((q1 : Int)) = (q1 : Int) := i64_nat q1 hl1
  have e1a : IntKind.i64.wrap (((D : Int)).tdiv (G : Int)) = (q2 : Int) := by rw [ht2]; exact i64_nat q2 hl2
  have e1b : wrap64 (((D : Int)).tdiv (G : Int)) = (q2 : Int) := by rw [ht2]; exact w64_nat q2 hl2
  have e1c : IntKind.i64.wrap ((q2 : Int)) = (q2 : Int) := i64_nat q2 hl2
  clear ht1 ht2 ht3 ht4 ht5
  go_enter Try.func34, Try.ntmps34
  go_wp2_with fail
  refine (sizeOf_any _ _ (by omega) (by omega)).mono ?_
  rintro e w' ⟨rfl, rfl⟩
  rw [hab]
  go_wp2_with fail
  refine (sizeOf_any _ _ (by omega) (by omega)).mono ?_
  rintro e w' ⟨rfl, rfl⟩
  rw [hab2]
  clear hab hab2
  go_wp2_with fail
  refine (gcd_any N D _ h2 d2).mono ?_
  rintro e w1 ⟨rfl, hb⟩
  rw [HG.out]
  go_wp2_with fail
  go_quiet (fail)
  go_wp2
  go_ret2
  exact ⟨ret_ii (by first | rfl | (rw [HD.out.1]; exact w64_nat q1 hl1) | (rw [HD.out.1]; exact w64_neg q1 hl1) | (rw [HD.out.2]; exact w64_nat q2 hl2)) (by first | rfl | (rw [HD.out.1]; exact w64_nat q1 hl1) | (rw [HD.out.1]; exact w64_neg q1 hl1) | (rw [HD.out.2]; exact w64_nat q2 hl2)), below_drewN hb _⟩


set_option maxHeartbeats 2000000 in
theorem lowest_neg (N D : Nat) (w : World) (h1 : 1 ≤ N) (h2 : N ≤ 5000) (d1 : 1 ≤ D) (d2 : D ≤ 5000) :
    Calls Try.prog 34 #[.int .i64 (N : Int), .int .i64 (-(D : Int))] w fun e w' => e = .returned (.tuple #[.int .i64 (-((N / Nat.gcd N D : Nat) : Int)), .int .i64 ((D / Nat.gcd N D : Nat) : Int)]) ∧ Below w.heap.size w w' := by
  obtain ⟨G, hG⟩ : ∃ G, G = Nat.gcd N D := ⟨_, rfl⟩
  have hg1 : 1 ≤ G := by rw [hG]; exact Nat.gcd_pos_of_pos_left _ h1
  have hgle : G ≤ 5000 := by rw [hG]; exact Nat.le_trans (Nat.le_of_dvd (by omega) (Nat.gcd_dvd_left N D)) h2
  obtain ⟨q1, hq1⟩ : ∃ q, q = N / G := ⟨_, rfl⟩
  obtain ⟨q2, hq2⟩ : ∃ q, q = D / G := ⟨_, rfl⟩
  have hl1 : q1 ≤ 5000 := by rw [hq1]; exact Nat.le_trans (Nat.div_le_self _ _) h2
  have hl2 : q2 ≤ 5000 := by rw [hq2]; exact Nat.le_trans (Nat.div_le_self _ _) d2
  have ht1 : (N : Int).tdiv (G : Int) = (q1 : Int) := by rw [Int.tdiv_eq_ediv_of_nonneg (by omega), hq1]; rfl
  have ht2 : (D : Int).tdiv (G : Int) = (q2 : Int) := by rw [Int.tdiv_eq_ediv_of_nonneg (by omega), hq2]; rfl
  have HD : Hid ((N : Int) / (G : Int) = (q1 : Int) ∧ (D : Int) / (G : Int) = (q2 : Int)) := ⟨by rw [hq1]; rfl, by rw [hq2]; rfl⟩
  have ht3 : (-(N : Int)).tdiv (G : Int) = -(q1 : Int) := by rw [Int.neg_tdiv, ht1]
  have ht4 : (N : Int).tdiv (-(G : Int)) = -(q1 : Int) := by rw [Int.tdiv_neg, ht1]
  have ht5 : (-(D : Int)).tdiv (-(G : Int)) = (q2 : Int) := by rw [Int.neg_tdiv, Int.tdiv_neg, ht2]; omega
  have HG := hid hG.symm
  rw [← hG, ← hq1, ← hq2]
  clear hG hq1 hq2
  have hab : absI (N : Int) = (N : Int) := by unfold absI; omega
  have hab2 : absI (-(D : Int)) = (D : Int) := by unfold absI; omega
  have hg0 : (G : Int) ≠ 0 := by omega
  have hgb : ((G : Int) == 0) = false := by rw [beq_eq_false_iff_ne]; exact hg0
  have hg0n : (-(G : Int)) ≠ 0 := by omega
  have hgbn : ((-(G : Int)) == 0) = false := by rw [beq_eq_false_iff_ne]; exact hg0n
  have e0a : IntKind.i64.wrap (((N : Int)).tdiv (-(G : Int))) = -(q1 : Int) := by rw [ht4]; exact i64_neg q1 hl1
  have e0b : wrap64 (((N : Int)).tdiv (-(G : Int))) = -(q1 : Int) := by rw [ht4]; exact w64_neg q1 hl1
  have e0c : IntKind.i64.wrap (-(q1 : Int)) = -(q1 : Int) := i64_neg q1 hl1
  have e1a : IntKind.i64.wrap (((-(D : Int))).tdiv (-(G : Int))) = (q2 : Int) := by rw [ht5]; exact i64_nat q2 hl2
  have e1b : wrap64 (((-(D : Int))).tdiv (-(G : Int))) = (q2 : Int) := by rw [ht5]; exact w64_nat q2 hl2
  have e1c : IntKind.i64.wrap ((q2 : Int)) = (q2 : Int) := i64_nat q2 hl2
  clear ht1 ht2 ht3 ht4 ht5
  go_enter Try.func34, Try.ntmps34
  go_wp2_with fail
  refine (sizeOf_any _ _ (by omega) (by omega)).mono ?_
  rintro e w' ⟨rfl, rfl⟩
  rw [hab]
  go_wp2_with fail
  refine (sizeOf_any _ _ (by omega) (by omega)).mono ?_
  rintro e w' ⟨rfl, rfl⟩
  rw [hab2]
  clear hab hab2
  go_wp2_with fail
  refine (gcd_any N D _ h2 d2).mono ?_
  rintro e w1 ⟨rfl, hb⟩
  rw [HG.out]
  go_wp2_with fail
  go_quiet (fail)
  go_wp2
  go_ret2
  exact ⟨ret_ii (by first | rfl | (rw [HD.out.1]; exact w64_nat q1 hl1) | (rw [HD.out.1]; exact w64_neg q1 hl1) | (rw [HD.out.2]; exact w64_nat q2 hl2)) (by first | rfl | (rw [HD.out.1]; exact w64_nat q1 hl1) | (rw [HD.out.1]; exact w64_neg q1 hl1) | (rw [HD.out.2]; exact w64_nat q2 hl2)), below_drewN hb _⟩

end Go.Proofs.Ytfeihplfcbjigaa
