
import Derived.Test.YtfeihplfcbjigaaUb
import Derived.Test.YtfeihplfcbjigaaOi
import Derived.Deep.QuietTactic
import Derived.BigQuiet
namespace Go.Proofs.Ytfeihplfcbjigaa
open Go.RowKit BitX Go.MemX Go.Ch6 Go.Ch8
set_option linter.unusedVariables false
theorem wz {x : Int} {z y : Nat} (h : x = (z : Int)) (hz : z ≤ 8000) (e : z = y) : wrap64 x = (y : Int) := by subst e; rw [h]; exact IntWalk.wrap64_in _ (by omega)
theorem nz {x : Int} {z y : Nat} (h : x = (z : Int)) (e : z = y) : x = (y : Int) := by rw [h, e]
def lrB (p q : Int) : Bool := ratB p q
theorem lr {p q : Int} {b : Bool} (h : ratB p q = b) : lrB p q = b := h
theorem onII_no {x y : Int} {b : Bool} (h : b = false) : Ending.returned (.tuple #[.int .i64 0, .int .i64 0, .bool false]) = .returned (.tuple #[.int .i64 (onI b x), .int .i64 (onI b y), .bool b]) := by subst h; rfl
theorem onII_yes {x y x' y' : Int} {b : Bool} (h : b = true) (e : x' = x) (e2 : y' = y) : Ending.returned (.tuple #[.int .i64 x', .int .i64 y', .bool true]) = .returned (.tuple #[.int .i64 (onI b x), .int .i64 (onI b y), .bool b]) := by subst h e e2; rfl


set_option maxHeartbeats 1000000 in
theorem spec_LengthAfter_any (n p q : Int) (w : World) :
    Calls Try.prog 9 #[.int .i64 n, .int .i64 p, .int .i64 q] w fun e w' => e = .returned (.tuple #[.int .i64 (onI (laB n p q) ((lenN n.toNat p.toNat q.toNat : Nat))), .bool (laB n p q)]) ∧ Below w.heap.size w w' := by
  cases h0 : lnB n
  · have HB0 := hid h0
    clear h0
    go_enter Try.func9, Try.ntmps9
    go_wp2_with fail
    refine (l1In_is _ _ _ false _ HB0.out).mono ?_
    rintro e w' ⟨rfl, rfl⟩
    go_wp2_with fail
    go_ret2
    exact ⟨onI_no (and_n1 HB0.out), Below.refl _ _⟩
  · have HB0 := hid h0
    clear h0
    cases h1 : ratB p q
    · have HB1 := hid h1
      clear h1
      go_enter Try.func9, Try.ntmps9
      go_wp2_with fail
      refine (l1In_is _ _ _ true _ HB0.out).mono ?_
      rintro e w' ⟨rfl, rfl⟩
      go_wp2_with fail
      refine (rsRatio_is _ _ false _ HB1.out).mono ?_
      rintro e w' ⟨rfl, rfl⟩
      go_wp2_with fail
      go_ret2
      exact ⟨onI_no (and_n2 HB1.out), Below.refl _ _⟩
    · have HB1 := hid h1
      clear h1
      obtain ⟨n0, n1⟩ := lnB_t HB0.out
      obtain ⟨N, rfl⟩ : ∃ N : Nat, n = N := ⟨n.toNat, by omega⟩
      obtain ⟨p1, p8, q1, q8⟩ : 1 ≤ p ∧ p ≤ 8 ∧ 1 ≤ q ∧ q ≤ 8 := by have := ratB_t HB1.out; omega
      obtain ⟨P, rfl⟩ : ∃ P : Nat, p = P := ⟨p.toNat, by omega⟩
      obtain ⟨Q, rfl⟩ : ∃ Q : Nat, q = Q := ⟨q.toNat, by omega⟩
      go_enter Try.func9, Try.ntmps9
      go_wp2_with fail
      refine (l1In_is _ _ _ true _ HB0.out).mono ?_
      rintro e w' ⟨rfl, rfl⟩
      go_wp2_with fail
      refine (rsRatio_is _ _ true _ HB1.out).mono ?_
      rintro e w' ⟨rfl, rfl⟩
      go_wp2_with fail
      refine (rsLength_any N P Q _ (by omega) (by omega) (by omega) (by omega)).mono ?_
      rintro e w' ⟨rfl, rfl⟩
      go_wp2
      go_ret2
      exact ⟨onI_yes (and_t HB0.out HB1.out) rfl, Below.refl _ _⟩


set_option maxHeartbeats 1000000 in
theorem impl_LengthAfter_any (n p q : Int) (w : World) :
    Calls Try.prog 10 #[.int .i64 n, .int .i64 p, .int .i64 q] w fun e w' => e = .returned (.tuple #[.int .i64 (onI (laB n p q) ((lenN n.toNat p.toNat q.toNat : Nat))), .bool (laB n p q)]) ∧ Below w.heap.size w w' := by
  cases h0 : lnB n
  · have HB0 := hid h0
    clear h0
    go_enter Try.func10, Try.ntmps10
    go_wp2_with fail
    refine (isLength_is _ false _ HB0.out).mono ?_
    rintro e w' ⟨rfl, rfl⟩
    go_wp2_with fail
    go_ret2
    exact ⟨onI_no (and_n1 HB0.out), Below.refl _ _⟩
  · have HB0 := hid h0
    clear h0
    cases h1 : ratB p q
    · have HB1 := hid h1
      clear h1
      go_enter Try.func10, Try.ntmps10
      go_wp2_with fail
      refine (isLength_is _ true _ HB0.out).mono ?_
      rintro e w' ⟨rfl, rfl⟩
      go_wp2_with fail
      refine (isRatio_is _ _ false _ HB1.out).mono ?_
      rintro e w' ⟨rfl, rfl⟩
      go_wp2_with fail
      go_ret2
      exact ⟨onI_no (and_n2 HB1.out), Below.refl _ _⟩
    · have HB1 := hid h1
      clear h1
      obtain ⟨n0, n1⟩ := lnB_t HB0.out
      obtain ⟨N, rfl⟩ : ∃ N : Nat, n = N := ⟨n.toNat, by omega⟩
      obtain ⟨p1, p8, q1, q8⟩ : 1 ≤ p ∧ p ≤ 8 ∧ 1 ≤ q ∧ q ≤ 8 := by have := ratB_t HB1.out; omega
      obtain ⟨P, rfl⟩ : ∃ P : Nat, p = P := ⟨p.toNat, by omega⟩
      obtain ⟨Q, rfl⟩ : ∃ Q : Nat, q = Q := ⟨q.toNat, by omega⟩
      go_enter Try.func10, Try.ntmps10
      go_wp2_with fail
      refine (isLength_is _ true _ HB0.out).mono ?_
      rintro e w' ⟨rfl, rfl⟩
      go_wp2_with fail
      refine (isRatio_is _ _ true _ HB1.out).mono ?_
      rintro e w' ⟨rfl, rfl⟩
      go_wp2_with fail
      refine (lengthAfter_any N P Q _ (by omega) (by omega) (by omega) (by omega)).mono ?_
      rintro e w' ⟨rfl, rfl⟩
      go_wp2
      go_ret2
      exact ⟨onI_yes (and_t HB0.out HB1.out) rfl, Below.refl _ _⟩


set_option maxHeartbeats 1000000 in
theorem sourceOf_any (N P Q : Nat) (w : World) (hn : N ≤ 1000) (p1 : 1 ≤ P) (p8 : P ≤ 8) (q1 : 1 ≤ Q) (q8 : Q ≤ 8) :
    Calls Try.prog 33 #[.int .i64 (N : Int), .int .i64 (P : Int), .int .i64 (Q : Int)] w fun e w' => e = .returned (.tuple #[.int .i64 (N * Q / P : Nat), .int .i64 (N * Q % P : Nat)]) ∧ Below w.heap.size w w' := by
  obtain ⟨m, hm⟩ : ∃ m, m = N * Q := ⟨_, rfl⟩
  have hm8 : m ≤ 8000 := by rw [hm]; exact src_le (p := 1) (n := 0) (by omega) (by omega) (by omega) (by omega)
  have hmi : (N : Int) * (Q : Int) = (m : Int) := by rw [hm]; exact (Int.natCast_mul N Q).symm
  have b1 : -9223372036854775808 ≤ (m : Int) ∧ (m : Int) ≤ 9223372036854775807 := by clear hmi hm; omega
  have e1 : wrap64 ((N : Int) * (Q : Int)) = (m : Int) := by rw [hmi]; exact IntWalk.wrap64_in _ b1
  have e2 : IntKind.i64.wrap ((N : Int) * (Q : Int)) = (m : Int) := by rw [hmi]; exact IntWalk.i64_in _ b1
  have hq0 : (P : Int) ≠ 0 := by clear hmi hm; omega
  have hqb : ((P : Int) == 0) = false := by rw [beq_eq_false_iff_ne]; exact hq0
  have hm0 : (0 : Int) ≤ (m : Int) := by clear hmi hm; omega
  have hd := tdiv_nat m P
  have ht := tmod_nat2 m P
  have hdl : m / P ≤ m := Nat.div_le_self _ _
  have htl : m % P ≤ m := Nat.mod_le _ _
  generalize hz1 : m / P = z1 at *
  generalize hz2 : m % P = z2 at *
  have HD := hid (show (m : Int) / (P : Int) = (z1 : Int) ∧ (m : Int) % (P : Int) = (z2 : Int) from ⟨by rw [← hz1]; rfl, by rw [← hz2]; rfl⟩)
  have HZ := hid (show z1 = N * Q / P ∧ z2 = N * Q % P from ⟨by rw [← hz1, hm], by rw [← hz2, hm]⟩)
  have b2 : z1 ≤ 8000 := by clear hmi hm hd ht hz1 hz2; omega
  have b3 : z2 ≤ 8000 := by clear hmi hm hd ht hz1 hz2; omega
  clear hmi hm b1 hz1 hz2
  have c1 : IntKind.i64.wrap ((m : Int).tdiv (P : Int)) = (z1 : Int) := by rw [hd]; exact IntWalk.i64_in _ (by clear hd ht e1 e2; omega)
  have c2 : wrap64 ((m : Int).tdiv (P : Int)) = (z1 : Int) := by rw [hd]; exact IntWalk.wrap64_in _ (by clear hd ht e1 e2 c1; omega)
  have c3 : IntKind.i64.wrap ((m : Int).tmod (P : Int)) = (z2 : Int) := by rw [ht]; exact IntWalk.i64_in _ (by clear hd ht e1 e2 c1 c2; omega)
  have c4 : wrap64 ((m : Int).tmod (P : Int)) = (z2 : Int) := by rw [ht]; exact IntWalk.wrap64_in _ (by clear hd ht e1 e2 c1 c2 c3; omega)
  clear hd ht hdl htl
  go_enter Try.func33, Try.ntmps33
  go_wp2_with fail
  go_quiet (fail)
  go_wp2
  go_ret2
  exact ⟨ret_ii (by first | rfl | exact wz HD.out.1 (by omega) HZ.out.1 | exact nz HD.out.1 HZ.out.1 | exact wz rfl (by omega) HZ.out.1 | exact nz rfl HZ.out.1) (by first | rfl | exact wz HD.out.2 (by omega) HZ.out.2 | exact nz HD.out.2 HZ.out.2 | exact wz rfl (by omega) HZ.out.2 | exact nz rfl HZ.out.2), below_drewN (Below.refl _ _) _⟩


set_option maxHeartbeats 1000000 in
theorem spec_SourceOf_any (i p q : Int) (w : World) :
    Calls Try.prog 11 #[.int .i64 i, .int .i64 p, .int .i64 q] w fun e w' => e = .returned (.tuple #[.int .i64 (onI (soB8 i p q) ((i.toNat * q.toNat / p.toNat : Nat))), .int .i64 (onI (soB8 i p q) ((i.toNat * q.toNat % p.toNat : Nat))), .bool (soB8 i p q)]) ∧ Below w.heap.size w w' := by
  cases h0 : decide (0 ≤ i ∧ i ≤ 1000)
  · have HB0 := hid h0
    clear h0
    go_enter Try.func11, Try.ntmps11
    go_wp2_with fail
    refine (l1In_is _ _ _ false _ HB0.out).mono ?_
    rintro e w' ⟨rfl, rfl⟩
    go_wp2_with fail
    go_ret3
    exact ⟨onII_no (and_n1 HB0.out), Below.refl _ _⟩
  · have HB0 := hid h0
    clear h0
    cases h1 : ratB p q
    · have HB1 := hid h1
      clear h1
      go_enter Try.func11, Try.ntmps11
      go_wp2_with fail
      refine (l1In_is _ _ _ true _ HB0.out).mono ?_
      rintro e w' ⟨rfl, rfl⟩
      go_wp2_with fail
      refine (rsRatio_is _ _ false _ HB1.out).mono ?_
      rintro e w' ⟨rfl, rfl⟩
      go_wp2_with fail
      go_ret3
      exact ⟨onII_no (and_n2 HB1.out), Below.refl _ _⟩
    · have HB1 := hid h1
      clear h1
      obtain ⟨n0, n1⟩ := of_decide_eq_true HB0.out
      obtain ⟨N, rfl⟩ : ∃ N : Nat, i = N := ⟨i.toNat, by omega⟩
      obtain ⟨p1, p8, q1, q8⟩ : 1 ≤ p ∧ p ≤ 8 ∧ 1 ≤ q ∧ q ≤ 8 := by have := ratB_t HB1.out; omega
      obtain ⟨P, rfl⟩ : ∃ P : Nat, p = P := ⟨p.toNat, by omega⟩
      obtain ⟨Q, rfl⟩ : ∃ Q : Nat, q = Q := ⟨q.toNat, by omega⟩
      obtain ⟨m, hm⟩ : ∃ m, m = N * Q := ⟨_, rfl⟩
      have hm8 : m ≤ 8000 := by rw [hm]; exact src_le (p := 1) (n := 0) (by omega) (by omega) (by omega) (by omega)
      have hmi : (N : Int) * (Q : Int) = (m : Int) := by rw [hm]; exact (Int.natCast_mul N Q).symm
      have b1 : -9223372036854775808 ≤ (m : Int) ∧ (m : Int) ≤ 9223372036854775807 := by clear hmi hm; omega
      have e1 : wrap64 ((N : Int) * (Q : Int)) = (m : Int) := by rw [hmi]; exact IntWalk.wrap64_in _ b1
      have e2 : IntKind.i64.wrap ((N : Int) * (Q : Int)) = (m : Int) := by rw [hmi]; exact IntWalk.i64_in _ b1
      have hq0 : (P : Int) ≠ 0 := by clear hmi hm; omega
      have hqb : ((P : Int) == 0) = false := by rw [beq_eq_false_iff_ne]; exact hq0
      have hm0 : (0 : Int) ≤ (m : Int) := by clear hmi hm; omega
      have hd := tdiv_nat m P
      have ht := tmod_nat2 m P
      have hdl : m / P ≤ m := Nat.div_le_self _ _
      have htl : m % P ≤ m := Nat.mod_le _ _
      generalize hz1 : m / P = z1 at *
      generalize hz2 : m % P = z2 at *
      have HD := hid (show (m : Int) / (P : Int) = (z1 : Int) ∧ (m : Int) % (P : Int) = (z2 : Int) from ⟨by rw [← hz1]; rfl, by rw [← hz2]; rfl⟩)
      have HZ := hid (show z1 = N * Q / P ∧ z2 = N * Q % P from ⟨by rw [← hz1, hm], by rw [← hz2, hm]⟩)
      have b2 : z1 ≤ 8000 := by clear hmi hm hd ht hz1 hz2; omega
      have b3 : z2 ≤ 8000 := by clear hmi hm hd ht hz1 hz2; omega
      clear hmi hm b1 hz1 hz2
      have c1 : IntKind.i64.wrap ((m : Int).tdiv (P : Int)) = (z1 : Int) := by rw [hd]; exact IntWalk.i64_in _ (by clear hd ht e1 e2; omega)
      have c2 : wrap64 ((m : Int).tdiv (P : Int)) = (z1 : Int) := by rw [hd]; exact IntWalk.wrap64_in _ (by clear hd ht e1 e2 c1; omega)
      have c3 : IntKind.i64.wrap ((m : Int).tmod (P : Int)) = (z2 : Int) := by rw [ht]; exact IntWalk.i64_in _ (by clear hd ht e1 e2 c1 c2; omega)
      have c4 : wrap64 ((m : Int).tmod (P : Int)) = (z2 : Int) := by rw [ht]; exact IntWalk.wrap64_in _ (by clear hd ht e1 e2 c1 c2 c3; omega)
      clear hd ht hdl htl
      go_enter Try.func11, Try.ntmps11
      go_wp2_with fail
      refine (l1In_is _ _ _ true _ HB0.out).mono ?_
      rintro e w' ⟨rfl, rfl⟩
      go_wp2_with fail
      refine (rsRatio_is _ _ true _ HB1.out).mono ?_
      rintro e w' ⟨rfl, rfl⟩
      go_wp2_with fail
      go_quiet (fail)
      go_wp2
      go_ret3
      exact ⟨onII_yes (and_t HB0.out HB1.out) (by first | rfl | exact wz HD.out.1 (by omega) HZ.out.1 | exact nz HD.out.1 HZ.out.1 | exact wz rfl (by omega) HZ.out.1 | exact nz rfl HZ.out.1) (by first | rfl | exact wz HD.out.2 (by omega) HZ.out.2 | exact nz HD.out.2 HZ.out.2 | exact wz rfl (by omega) HZ.out.2 | exact nz rfl HZ.out.2), below_drewN (Below.refl _ _) _⟩

theorem so_n1 {i p q : Int} (h : decide (0 ≤ i) = false) : soB8 i p q = false := by unfold soB8; rw [decide_eq_false (p := 0 ≤ i ∧ i ≤ 1000) (by have := of_decide_eq_false h; omega)]; rfl
theorem so_n2 {i p q : Int} (h : decide (i ≤ 1000) = false) : soB8 i p q = false := by unfold soB8; rw [decide_eq_false (p := 0 ≤ i ∧ i ≤ 1000) (by have := of_decide_eq_false h; omega)]; rfl
theorem so_y {i p q : Int} (h : decide (0 ≤ i) = true) (h1 : decide (i ≤ 1000) = true) (h2 : ratB p q = true) : soB8 i p q = true := by unfold soB8; rw [decide_eq_true (p := 0 ≤ i ∧ i ≤ 1000) ⟨of_decide_eq_true h, of_decide_eq_true h1⟩, h2]; rfl


set_option maxHeartbeats 1000000 in
theorem impl_SourceOf_any (i p q : Int) (w : World) :
    Calls Try.prog 12 #[.int .i64 i, .int .i64 p, .int .i64 q] w fun e w' => e = .returned (.tuple #[.int .i64 (onI (soB8 i p q) ((i.toNat * q.toNat / p.toNat : Nat))), .int .i64 (onI (soB8 i p q) ((i.toNat * q.toNat % p.toNat : Nat))), .bool (soB8 i p q)]) ∧ Below w.heap.size w w' := by
  cases h0 : decide (0 ≤ i)
  · have HB0 := hid h0
    clear h0
    have e0 := Int.not_le.1 (of_decide_eq_false HB0.out)
    go_enter Try.func12, Try.ntmps12
    go_wp2_with fail
    go_ret3
    exact ⟨onII_no (so_n1 HB0.out), Below.refl _ _⟩
  · have HB0 := hid h0
    clear h0
    have e0 := of_decide_eq_true HB0.out
    cases h1 : decide (i ≤ 1000)
    · have HB1 := hid h1
      clear h1
      have e2 := Int.not_le.1 (of_decide_eq_false HB1.out)
      go_enter Try.func12, Try.ntmps12
      go_wp2_with fail
      go_ret3
      exact ⟨onII_no (so_n2 HB1.out), Below.refl _ _⟩
    · have HB1 := hid h1
      clear h1
      have e2 := of_decide_eq_true HB1.out
      cases h2 : ratB p q
      · have HB2 := hid h2
        clear h2
        go_enter Try.func12, Try.ntmps12
        go_wp2_with fail
        refine (isRatio_is _ _ false _ HB2.out).mono ?_
        rintro e w' ⟨rfl, rfl⟩
        go_wp2_with fail
        go_ret3
        exact ⟨onII_no (and_n2 HB2.out), Below.refl _ _⟩
      · have HB2 := hid h2
        clear h2
        obtain ⟨N, rfl⟩ : ∃ N : Nat, i = N := ⟨i.toNat, by omega⟩
        obtain ⟨p1, p8, q1, q8⟩ : 1 ≤ p ∧ p ≤ 8 ∧ 1 ≤ q ∧ q ≤ 8 := by have := ratB_t HB2.out; omega
        obtain ⟨P, rfl⟩ : ∃ P : Nat, p = P := ⟨p.toNat, by omega⟩
        obtain ⟨Q, rfl⟩ : ∃ Q : Nat, q = Q := ⟨q.toNat, by omega⟩
        go_enter Try.func12, Try.ntmps12
        go_wp2_with fail
        refine (isRatio_is _ _ true _ HB2.out).mono ?_
        rintro e w' ⟨rfl, rfl⟩
        go_wp2_with fail
        refine (sourceOf_any N P Q _ (by omega) (by omega) (by omega) (by omega) (by omega)).mono ?_
        rintro e w1 ⟨rfl, hb⟩
        have B1 := hb
        go_wp2
        go_ret3
        exact ⟨onII_yes (so_y HB0.out HB1.out HB2.out) rfl rfl, B1⟩


set_option maxHeartbeats 1000000 in
theorem impl_LeastRatio_any (p q : Int) (w : World) :
    Calls Try.prog 14 #[.int .i64 p, .int .i64 q] w fun e w' => e = .returned (.tuple #[.int .i64 (onI (lrB p q) ((p.toNat / Nat.gcd p.toNat q.toNat : Nat))), .int .i64 (onI (lrB p q) ((q.toNat / Nat.gcd p.toNat q.toNat : Nat))), .bool (lrB p q)]) ∧ Below w.heap.size w w' := by
  cases h0 : ratB p q
  · have HB0 := hid h0
    clear h0
    go_enter Try.func14, Try.ntmps14
    go_wp2_with fail
    refine (isRatio_is _ _ false _ HB0.out).mono ?_
    rintro e w' ⟨rfl, rfl⟩
    go_wp2_with fail
    go_ret3
    exact ⟨onII_no (lr HB0.out), Below.refl _ _⟩
  · have HB0 := hid h0
    clear h0
    obtain ⟨p1, p8, q1, q8⟩ : 1 ≤ p ∧ p ≤ 8 ∧ 1 ≤ q ∧ q ≤ 8 := by have := ratB_t HB0.out; omega
    obtain ⟨P, rfl⟩ : ∃ P : Nat, p = P := ⟨p.toNat, by omega⟩
    obtain ⟨Q, rfl⟩ : ∃ Q : Nat, q = Q := ⟨q.toNat, by omega⟩
    go_enter Try.func14, Try.ntmps14
    go_wp2_with fail
    refine (isRatio_is _ _ true _ HB0.out).mono ?_
    rintro e w' ⟨rfl, rfl⟩
    go_wp2_with fail
    refine (lowest_pos P Q _ (by omega) (by omega) (by omega) (by omega)).mono ?_
    rintro e w1 ⟨rfl, hb⟩
    have B1 := hb
    go_wp2
    go_ret3
    exact ⟨onII_yes (lr HB0.out) rfl rfl, B1⟩


set_option maxHeartbeats 1000000 in
theorem spec_LeastRatio_any (p q : Int) (w : World) :
    Calls Try.prog 13 #[.int .i64 p, .int .i64 q] w fun e w' => e = .returned (.tuple #[.int .i64 (onI (lrB p q) ((p.toNat / Nat.gcd p.toNat q.toNat : Nat))), .int .i64 (onI (lrB p q) ((q.toNat / Nat.gcd p.toNat q.toNat : Nat))), .bool (lrB p q)]) ∧ Below w.heap.size w w' := by
  cases h0 : ratB p q
  · have HB0 := hid h0
    clear h0
    go_enter Try.func13, Try.ntmps13
    go_wp2_with fail
    refine (rsRatio_is _ _ false _ HB0.out).mono ?_
    rintro e w' ⟨rfl, rfl⟩
    go_wp2_with fail
    go_ret3
    exact ⟨onII_no (lr HB0.out), Below.refl _ _⟩
  · have HB0 := hid h0
    clear h0
    obtain ⟨p1, p8, q1, q8⟩ : 1 ≤ p ∧ p ≤ 8 ∧ 1 ≤ q ∧ q ≤ 8 := by have := ratB_t HB0.out; omega
    obtain ⟨P, rfl⟩ : ∃ P : Nat, p = P := ⟨p.toNat, by omega⟩
    obtain ⟨Q, rfl⟩ : ∃ Q : Nat, q = Q := ⟨q.toNat, by omega⟩
    obtain ⟨G, hG⟩ : ∃ G, G = Nat.gcd P Q := ⟨_, rfl⟩
    have hg1 : 1 ≤ G := by rw [hG]; exact Nat.gcd_pos_of_pos_left _ (by omega)
    have hgle : G ≤ 8 := by rw [hG]; exact Nat.le_trans (Nat.le_of_dvd (by omega) (Nat.gcd_dvd_left P Q)) (by omega)
    obtain ⟨z1, hq1⟩ : ∃ q, q = P / G := ⟨_, rfl⟩
    obtain ⟨z2, hq2⟩ : ∃ q, q = Q / G := ⟨_, rfl⟩
    have hl1 : z1 ≤ 5000 := by rw [hq1]; exact Nat.le_trans (Nat.div_le_self _ _) (by omega)
    have hl2 : z2 ≤ 5000 := by rw [hq2]; exact Nat.le_trans (Nat.div_le_self _ _) (by omega)
    have ht1 : (P : Int).tdiv (G : Int) = (z1 : Int) := by rw [Int.tdiv_eq_ediv_of_nonneg (by omega), hq1]; rfl
    have ht2 : (Q : Int).tdiv (G : Int) = (z2 : Int) := by rw [Int.tdiv_eq_ediv_of_nonneg (by omega), hq2]; rfl
    have HD := hid (show (P : Int) / (G : Int) = (z1 : Int) ∧ (Q : Int) / (G : Int) = (z2 : Int) from ⟨by rw [hq1]; rfl, by rw [hq2]; rfl⟩)
    have HZ := hid (show z1 = P / Nat.gcd P Q ∧ z2 = Q / Nat.gcd P Q from ⟨by rw [hq1, hG], by rw [hq2, hG]⟩)
    have HG := hid hG.symm
    have HH := hid (And.intro ht1 ht2)
    clear hG hq1 hq2 ht1 ht2
    go_enter Try.func13, Try.ntmps13
    go_wp2_with fail
    refine (rsRatio_is _ _ true _ HB0.out).mono ?_
    rintro e w' ⟨rfl, rfl⟩
    go_wp2_with fail
    go_loopw [7, 8] (fun aa bb wr => ∃ x' y' : Nat, aa = .int .i64 (x' : Int) ∧ bb = .int .i64 (y' : Int) ∧ Hid (Nat.gcd x' y' = G) ∧ x' ≤ 8 ∧ y' ≤ 8 ∧ Below w.heap.size w wr)
      (fun _ bb _ => (intOf bb).toNat)
    case atStart => exact ⟨P, Q, rfl, rfl, HG, by omega, by omega, Below.refl _ _⟩
    case round =>
      clear HG
      obtain ⟨x, y, rfl, rfl, HG, hx, hy, hb⟩ := hrel
      by_cases h0 : y = 0
      · subst h0
        have hg : G = x := by rw [← HG.out, Nat.gcd_zero_right]
        clear HG hx hy
        subst hg
        obtain ⟨ht1, ht2⟩ := HH.out
        have hg0 : (G : Int) ≠ 0 := by omega
        have hgb : ((G : Int) == 0) = false := by rw [beq_eq_false_iff_ne]; exact hg0
        have e0a : IntKind.i64.wrap (((P : Int)).tdiv (G : Int)) = (z1 : Int) := by rw [ht1]; exact i64_nat z1 hl1
        have e0b : wrap64 (((P : Int)).tdiv (G : Int)) = (z1 : Int) := by rw [ht1]; exact w64_nat z1 hl1
        have e0c : IntKind.i64.wrap ((z1 : Int)) = (z1 : Int) := i64_nat z1 hl1
        have e1a : IntKind.i64.wrap (((Q : Int)).tdiv (G : Int)) = (z2 : Int) := by rw [ht2]; exact i64_nat z2 hl2
        have e1b : wrap64 (((Q : Int)).tdiv (G : Int)) = (z2 : Int) := by rw [ht2]; exact w64_nat z2 hl2
        have e1c : IntKind.i64.wrap ((z2 : Int)) = (z2 : Int) := i64_nat z2 hl2
        clear ht1 ht2 HH
        go_wp2_with fail
        go_quiet (fail)
        go_wp2
        go_ret3
        exact ⟨onII_yes (lr HB0.out) (by first | rfl | exact wz HD.out.1 (by omega) HZ.out.1 | exact nz HD.out.1 HZ.out.1 | exact wz rfl (by omega) HZ.out.1 | exact nz rfl HZ.out.1) (by first | rfl | exact wz HD.out.2 (by omega) HZ.out.2 | exact nz HD.out.2 HZ.out.2 | exact wz rfl (by omega) HZ.out.2 | exact nz rfl HZ.out.2), below_drewN hb _⟩
      · have hy1 : (1 : Int) ≤ (y : Int) := by omega
        have hst := gcd_step x y
        rw [HG.out] at hst
        have hm := tmod_nat x y
        have hlt : x % y < y := Nat.mod_lt _ (by omega)
        generalize x % y = z at *
        have Hst := hid hst
        have e1 : IntKind.i64.wrap ((x : Int).tmod (y : Int)) = (z : Int) := by rw [hm]; exact IntWalk.i64_in _ (by omega)
        have e2 : IntKind.i64.wrap (z : Int) = (z : Int) := IntWalk.i64_in _ (by omega)
        have hy0 : (y : Int) ≠ 0 := by omega
        have hyb : ((y : Int) == 0) = false := by rw [beq_eq_false_iff_ne]; exact hy0
        clear hst h0
        go_wp2_with fail
        go_quiet (fail)
        go_wp2
        go_roundw
        case rel => exact ⟨y, z, rfl, rfl, Hst, by omega, by omega, below_drewN hb _⟩
        case measure => simp [intOf]; omega


set_option maxHeartbeats 1600000 in
theorem gen_FnExactLengthAfter (n : Int) (p : Int) (q : Int)  (r0 : Int) (r1 : Bool) (w : World)  (hspec : ∀ (w : World) , Calls Try.prog 9 #[.int .i64 n, .int .i64 p, .int .i64 q] w fun e w' => e = .returned (.tuple #[.int .i64 r0, .bool r1]) ∧ Below w.heap.size w w') (himpl : ∀ (w : World) , Calls Try.prog 10 #[.int .i64 n, .int .i64 p, .int .i64 q] w fun e w' => e = .returned (.tuple #[.int .i64 r0, .bool r1]) ∧ Below w.heap.size w w') :
    Calls Try.prog 3 #[.int .i64 n, .int .i64 p, .int .i64 q] w fun e w' => e = .returned (.bool true) ∧ Below w.heap.size w w' := by
  have HSP := hid hspec
  have HIM := hid himpl
  clear hspec himpl
  all_goals cases r1
  all_goals
    go_enter Try.func3, Try.ntmps3
    go_wp2_with fail
    refine (HSP.out _).mono ?_
    rintro e w1 ⟨rfl, hb⟩
    have B1 := hb
    have hz1 : w.heap.size ≤ w1.heap.size := by first | exact hb.size | (have := hb.size; simp at this; omega)
    go_wp2_with fail
    refine (HIM.out _).mono ?_
    rintro e w2 ⟨rfl, hb⟩
    have B2 := bel_step B1 hb
    have hz2 : w1.heap.size ≤ w2.heap.size := hb.size
    go_wp2_with fail
    go_ret
    exact ⟨rfl, B2⟩


set_option maxHeartbeats 1600000 in
theorem walk_FnExactLengthAfter (w : World) (n : Int) (w_n : (Lit.int .i64 n).wf = true) (p : Int) (w_p : (Lit.int .i64 p).wf = true) (q : Int) (w_q : (Lit.int .i64 q).wf = true) :
    Calls Try.prog 3 #[.int .i64 n, .int .i64 p, .int .i64 q] w fun e w' => e = .returned (.bool true) ∧ Below w.heap.size w w' := by
  obtain ⟨n_1, n_2⟩ := bounds_i64 w_n
  obtain ⟨p_1, p_2⟩ := bounds_i64 w_p
  obtain ⟨q_1, q_2⟩ := bounds_i64 w_q
  exact gen_FnExactLengthAfter n p q _ _ w  (fun w  => spec_LengthAfter_any n p q w) (fun w  => impl_LengthAfter_any n p q w)


set_option maxHeartbeats 1600000 in
theorem gen_FnExactSourceOf (i : Int) (p : Int) (q : Int)  (r0 : Int) (r1 : Int) (r2 : Bool) (w : World)  (hspec : ∀ (w : World) , Calls Try.prog 11 #[.int .i64 i, .int .i64 p, .int .i64 q] w fun e w' => e = .returned (.tuple #[.int .i64 r0, .int .i64 r1, .bool r2]) ∧ Below w.heap.size w w') (himpl : ∀ (w : World) , Calls Try.prog 12 #[.int .i64 i, .int .i64 p, .int .i64 q] w fun e w' => e = .returned (.tuple #[.int .i64 r0, .int .i64 r1, .bool r2]) ∧ Below w.heap.size w w') :
    Calls Try.prog 4 #[.int .i64 i, .int .i64 p, .int .i64 q] w fun e w' => e = .returned (.bool true) ∧ Below w.heap.size w w' := by
  have HSP := hid hspec
  have HIM := hid himpl
  clear hspec himpl
  all_goals cases r2
  all_goals
    go_enter Try.func4, Try.ntmps4
    go_wp2_with fail
    refine (HSP.out _).mono ?_
    rintro e w1 ⟨rfl, hb⟩
    have B1 := hb
    have hz1 : w.heap.size ≤ w1.heap.size := by first | exact hb.size | (have := hb.size; simp at this; omega)
    go_wp2_with fail
    refine (HIM.out _).mono ?_
    rintro e w2 ⟨rfl, hb⟩
    have B2 := bel_step B1 hb
    have hz2 : w1.heap.size ≤ w2.heap.size := hb.size
    go_wp2_with fail
    go_ret
    exact ⟨rfl, B2⟩


set_option maxHeartbeats 1600000 in
theorem walk_FnExactSourceOf (w : World) (i : Int) (w_i : (Lit.int .i64 i).wf = true) (p : Int) (w_p : (Lit.int .i64 p).wf = true) (q : Int) (w_q : (Lit.int .i64 q).wf = true) :
    Calls Try.prog 4 #[.int .i64 i, .int .i64 p, .int .i64 q] w fun e w' => e = .returned (.bool true) ∧ Below w.heap.size w w' := by
  obtain ⟨i_1, i_2⟩ := bounds_i64 w_i
  obtain ⟨p_1, p_2⟩ := bounds_i64 w_p
  obtain ⟨q_1, q_2⟩ := bounds_i64 w_q
  exact gen_FnExactSourceOf i p q _ _ _ w  (fun w  => spec_SourceOf_any i p q w) (fun w  => impl_SourceOf_any i p q w)


set_option maxHeartbeats 1600000 in
theorem gen_FnExactLeastRatio (p : Int) (q : Int)  (r0 : Int) (r1 : Int) (r2 : Bool) (w : World)  (hspec : ∀ (w : World) , Calls Try.prog 13 #[.int .i64 p, .int .i64 q] w fun e w' => e = .returned (.tuple #[.int .i64 r0, .int .i64 r1, .bool r2]) ∧ Below w.heap.size w w') (himpl : ∀ (w : World) , Calls Try.prog 14 #[.int .i64 p, .int .i64 q] w fun e w' => e = .returned (.tuple #[.int .i64 r0, .int .i64 r1, .bool r2]) ∧ Below w.heap.size w w') :
    Calls Try.prog 5 #[.int .i64 p, .int .i64 q] w fun e w' => e = .returned (.bool true) ∧ Below w.heap.size w w' := by
  have HSP := hid hspec
  have HIM := hid himpl
  clear hspec himpl
  all_goals cases r2
  all_goals
    go_enter Try.func5, Try.ntmps5
    go_wp2_with fail
    refine (HSP.out _).mono ?_
    rintro e w1 ⟨rfl, hb⟩
    have B1 := hb
    have hz1 : w.heap.size ≤ w1.heap.size := by first | exact hb.size | (have := hb.size; simp at this; omega)
    go_wp2_with fail
    refine (HIM.out _).mono ?_
    rintro e w2 ⟨rfl, hb⟩
    have B2 := bel_step B1 hb
    have hz2 : w1.heap.size ≤ w2.heap.size := hb.size
    go_wp2_with fail
    go_ret
    exact ⟨rfl, B2⟩


set_option maxHeartbeats 1600000 in
theorem walk_FnExactLeastRatio (w : World) (p : Int) (w_p : (Lit.int .i64 p).wf = true) (q : Int) (w_q : (Lit.int .i64 q).wf = true) :
    Calls Try.prog 5 #[.int .i64 p, .int .i64 q] w fun e w' => e = .returned (.bool true) ∧ Below w.heap.size w w' := by
  obtain ⟨p_1, p_2⟩ := bounds_i64 w_p
  obtain ⟨q_1, q_2⟩ := bounds_i64 w_q
  exact gen_FnExactLeastRatio p q _ _ _ w  (fun w  => spec_LeastRatio_any p q w) (fun w  => impl_LeastRatio_any p q w)

end Go.Proofs.Ytfeihplfcbjigaa
