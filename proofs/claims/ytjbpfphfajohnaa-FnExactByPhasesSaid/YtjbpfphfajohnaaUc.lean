
import Derived.Test.YtjbpfphfajohnaaUb
import Derived.Test.YtjbpfphfajohnaaOi
import Derived.Deep.QuietTactic
import Derived.BigQuiet
namespace Go.Proofs.Ytjbpfphfajohnaa
open Go.RowKit BitX Go.MemX Go.Ch6 Go.Ch8
set_option linter.unusedVariables false
theorem wz {x : Int} {z y : Nat} (h : x = (z : Int)) (hz : z ≤ 8000) (e : z = y) : wrap64 x = (y : Int) := by subst e; rw [h]; exact IntWalk.wrap64_in _ (by omega)
theorem nz {x : Int} {z y : Nat} (h : x = (z : Int)) (e : z = y) : x = (y : Int) := by rw [h, e]
def lrB (p q : Int) : Bool := ratB p q
theorem lr {p q : Int} {b : Bool} (h : ratB p q = b) : lrB p q = b := h
theorem onII_no {x y : Int} {b : Bool} (h : b = false) : Ending.returned (.tuple #[.int .i64 0, .int .i64 0, .bool false]) = .returned (.tuple #[.int .i64 (onI b x), .int .i64 (onI b y), .bool b]) := by subst h; rfl
theorem onII_yes {x y x' y' : Int} {b : Bool} (h : b = true) (e : x' = x) (e2 : y' = y) : Ending.returned (.tuple #[.int .i64 x', .int .i64 y', .bool true]) = .returned (.tuple #[.int .i64 (onI b x), .int .i64 (onI b y), .bool b]) := by subst h e e2; rfl


set_option maxHeartbeats 1000000 in
theorem sourceOf_any (N P Q : Nat) (w : World) (hn : N ≤ 1000) (p1 : 1 ≤ P) (p8 : P ≤ 8) (q1 : 1 ≤ Q) (q8 : Q ≤ 8) :
    Calls Try.prog 50 #[.int .i64 (N : Int), .int .i64 (P : Int), .int .i64 (Q : Int)] w fun e w' => e = .returned (.tuple #[.int .i64 (N * Q / P : Nat), .int .i64 (N * Q % P : Nat)]) ∧ Below w.heap.size w w' := by
  obtain ⟨m, hm⟩ : ∃ m, m = N * Q := ⟨_, rfl⟩
  have hm8 : m ≤ 8000 := by rw [hm]; exact src_le (p := 1) (n := 0) (by omega) (by omega) (by omega) (by omega)
  have hmi : (N : Int) * (Q : Int) = (m : Int) := by rw [hm]; exact (Int.natCast_mul N Q).symm
  have b1 : -9223372036854775808 ≤ (m : Int) ∧ (m : Int) ≤ 9223372036854775807 := by clear hmi hm; omega
  have e1 : wrap64 ((N : Int) * (Q : Int)) = (m : Int) := by rw [hmi]; exact IntWalk.wrap64_in _ b1
  have e2 : IntKind.i64.wrap ((N : Int) * (Q : Int)) = (m : Int) := by rw [hmi]; exact IntWalk.i64_in _ b1
  have hq0 : (P : Int) ≠ 0 := by clear hmi hm; omega
  have hqb : ((P : Int) == 0) = false := by rw [beq_eq_false_iff_ne]; exact hq0
  have hm0 : (0 : Int) ≤ (m : Int) := by clear hmi hm; omega
  have hd := tdiv_nat m P
  have ht := tmod_nat2 m P
  have hdl : m / P ≤ m := Nat.div_le_self _ _
  have htl : m % P ≤ m := Nat.mod_le _ _
  generalize hz1 : m / P = z1 at *
  generalize hz2 : m % P = z2 at *
  have HD := hid (show (m : Int) / (P : Int) = (z1 : Int) ∧ (m : Int) % (P : Int) = (z2 : Int) from ⟨by rw [← hz1]; rfl, by rw [← hz2]; rfl⟩)
  have HZ := hid (show z1 = N * Q / P ∧ z2 = N * Q % P from ⟨by rw [← hz1, hm], by rw [← hz2, hm]⟩)
  have b2 : z1 ≤ 8000 := by clear hmi hm hd ht hz1 hz2; omega
  have b3 : z2 ≤ 8000 := by clear hmi hm hd ht hz1 hz2; omega
  clear hmi hm b1 hz1 hz2
  have c1 : IntKind.i64.wrap ((m : Int).tdiv (P : Int)) = (z1 : Int) := by rw [hd]; exact IntWalk.i64_in _ (by clear hd ht e1 e2; omega)
  have c2 : wrap64 ((m : Int).tdiv (P : Int)) = (z1 : Int) := by rw [hd]; exact IntWalk.wrap64_in _ (by clear hd ht e1 e2 c1; omega)
  have c3 : IntKind.i64.wrap ((m : Int).tmod (P : Int)) = (z2 : Int) := by rw [ht]; exact IntWalk.i64_in _ (by clear hd ht e1 e2 c1 c2; omega)
  have c4 : wrap64 ((m : Int).tmod (P : Int)) = (z2 : Int) := by rw [ht]; exact IntWalk.wrap64_in _ (by clear hd ht e1 e2 c1 c2 c3; omega)
  clear hd ht hdl htl
  go_enter Try.func50, Try.ntmps50
  go_wp2_with fail
  go_quiet (fail)
  go_wp2
  go_ret2
  exact ⟨ret_ii (by first | rfl | exact wz HD.out.1 (by omega) HZ.out.1 | exact nz HD.out.1 HZ.out.1 | exact wz rfl (by omega) HZ.out.1 | exact nz rfl HZ.out.1) (by first | rfl | exact wz HD.out.2 (by omega) HZ.out.2 | exact nz HD.out.2 HZ.out.2 | exact wz rfl (by omega) HZ.out.2 | exact nz rfl HZ.out.2), below_drewN (Below.refl _ _) _⟩


theorem so_n1 {i p q : Int} (h : decide (0 ≤ i) = false) : soB8 i p q = false := by unfold soB8; rw [decide_eq_false (p := 0 ≤ i ∧ i ≤ 1000) (by have := of_decide_eq_false h; omega)]; rfl
theorem so_n2 {i p q : Int} (h : decide (i ≤ 1000) = false) : soB8 i p q = false := by unfold soB8; rw [decide_eq_false (p := 0 ≤ i ∧ i ≤ 1000) (by have := of_decide_eq_false h; omega)]; rfl
theorem so_y {i p q : Int} (h : decide (0 ≤ i) = true) (h1 : decide (i ≤ 1000) = true) (h2 : ratB p q = true) : soB8 i p q = true := by unfold soB8; rw [decide_eq_true (p := 0 ≤ i ∧ i ≤ 1000) ⟨of_decide_eq_true h, of_decide_eq_true h1⟩, h2]; rfl


end Go.Proofs.Ytjbpfphfajohnaa
