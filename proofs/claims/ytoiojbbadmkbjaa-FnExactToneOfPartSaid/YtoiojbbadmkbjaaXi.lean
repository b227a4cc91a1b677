
import Derived.Test.YtoiojbbadmkbjaaXt
import Derived.Test.YtoiojbbadmkbjaaEb
import Derived.Deep.QuietTactic
import Derived.BigQuiet
import Derived.WalkLawsBesides
namespace Go.Proofs.Ytoiojbbadmkbjaa
open Go.RowKit BitX Go.MemX Go.Ch6 Go.Ch9 FltX
set_option linter.unusedVariables false
/-- a tone of so many parts with these numbers -/
def Tone (p : Nat) (v : Value) (x y : Int) : Prop :=
  (p = 4 ∧ ∃ re im, v = .iface 51 (.complex .f64 re im) ∧ RepE Ieee.double re x 0 ∧ RepE Ieee.double im y 0) ∨ (p = 6 ∧ v = .iface 53 (.agg #[.int .i64 x, .int .i64 y]))
theorem run_store_complex9 (P : Program) (w : World) (a : Addr) (m : Mode) (k : FloatKind) (x y : Nat) : (store a (.complex k x y) m).run P w = stored P w a (.complex k x y) m := run_store P w a _ m rfl
attribute [local go_sem] run_store_complex9
theorem rep_one9 : RepE Ieee.double 4607182418800017408 1 0 := rep_one

theorem six_eq {x y x' y' : Int} (h1 : x = x') (h2 : y = y') : Ending.returned (.iface 53 (.agg #[.int .i64 x, .int .i64 y])) = .returned (.iface 53 (.agg #[.int .i64 x', .int .i64 y'])) := by rw [h1, h2]


set_option maxHeartbeats 1000000 in
theorem fwith_0 (re im : Nat) (x y n : Int) (w : World) (hre : RepE Ieee.double re x 0) (him : RepE Ieee.double im y 0) (x1 : -7000000 ≤ x) (x2 : x ≤ 7000000) (y1 : -7000000 ≤ y) (y2 : y ≤ 7000000) (n1 : -100000 ≤ n) (n2 : n ≤ 100000) :
    Calls Try.prog 49 #[.complex .f64 re im, .int .i64 n, .int .i64 0] w fun e w' => (∃ re' im', e = .returned (.iface 51 (.complex .f64 re' im')) ∧ RepE Ieee.double re' (x + n * (1)) 0 ∧ RepE Ieee.double im' (y + n * (0)) 0) ∧ Below w.heap.size w w' := by
  obtain ⟨a, b, hm, ra, rb⟩ := cmul_gen (rep64' n (by omega)) rep_0 rep_one9 rep_0 (by omega) (by omega) (by omega) (by omega)
  obtain ⟨c, d, hs, rc, rd⟩ := csum_gen hre him ra rb (by omega) (by omega)
  have hM := fun w => run_complex_mul (P := Try.prog) w 50 _ _ _ _ _ _ hm
  have hA := fun w => run_complex_sum (P := Try.prog) w .add (.inl rfl) 51 .f64 _ _ _ _ _ _ hs
  have HC := hid (show RepE Ieee.double c (x + n * (1)) 0 from by rw [show x + n * (1) = x + (n * (1) - 0 * (0)) from by omega]; exact rc)
  have HD := hid (show RepE Ieee.double d (y + n * (0)) 0 from by rw [show y + n * (0) = y + (n * (0) + 0 * (1)) from by omega]; exact rd)
  clear hm hs ra rb rc rd hre him
  go_enter Try.func49, Try.ntmps49
  go_wp2
  go_ret
  exact ⟨⟨c, d, rfl, HC.out, HD.out⟩, bel_alloc _ _⟩


set_option maxHeartbeats 1000000 in
theorem fwith_1 (re im : Nat) (x y n : Int) (w : World) (hre : RepE Ieee.double re x 0) (him : RepE Ieee.double im y 0) (x1 : -7000000 ≤ x) (x2 : x ≤ 7000000) (y1 : -7000000 ≤ y) (y2 : y ≤ 7000000) (n1 : -100000 ≤ n) (n2 : n ≤ 100000) :
    Calls Try.prog 49 #[.complex .f64 re im, .int .i64 n, .int .i64 1] w fun e w' => (∃ re' im', e = .returned (.iface 51 (.complex .f64 re' im')) ∧ RepE Ieee.double re' (x + n * (0)) 0 ∧ RepE Ieee.double im' (y + n * (1)) 0) ∧ Below w.heap.size w w' := by
  obtain ⟨a, b, hm, ra, rb⟩ := cmul_gen (rep64' n (by omega)) rep_0 rep_0 rep_one9 (by omega) (by omega) (by omega) (by omega)
  obtain ⟨c, d, hs, rc, rd⟩ := csum_gen hre him ra rb (by omega) (by omega)
  have hM := fun w => run_complex_mul (P := Try.prog) w 50 _ _ _ _ _ _ hm
  have hA := fun w => run_complex_sum (P := Try.prog) w .add (.inl rfl) 51 .f64 _ _ _ _ _ _ hs
  have HC := hid (show RepE Ieee.double c (x + n * (0)) 0 from by rw [show x + n * (0) = x + (n * (0) - 0 * (1)) from by omega]; exact rc)
  have HD := hid (show RepE Ieee.double d (y + n * (1)) 0 from by rw [show y + n * (1) = y + (n * (1) + 0 * (0)) from by omega]; exact rd)
  clear hm hs ra rb rc rd hre him
  go_enter Try.func49, Try.ntmps49
  go_wp2
  go_ret
  exact ⟨⟨c, d, rfl, HC.out, HD.out⟩, bel_alloc _ _⟩


set_option maxHeartbeats 1000000 in
theorem fwith_2 (re im : Nat) (x y n : Int) (w : World) (hre : RepE Ieee.double re x 0) (him : RepE Ieee.double im y 0) (x1 : -7000000 ≤ x) (x2 : x ≤ 7000000) (y1 : -7000000 ≤ y) (y2 : y ≤ 7000000) (n1 : -100000 ≤ n) (n2 : n ≤ 100000) :
    Calls Try.prog 49 #[.complex .f64 re im, .int .i64 n, .int .i64 2] w fun e w' => (∃ re' im', e = .returned (.iface 51 (.complex .f64 re' im')) ∧ RepE Ieee.double re' (x + n * (-1)) 0 ∧ RepE Ieee.double im' (y + n * (0)) 0) ∧ Below w.heap.size w w' := by
  obtain ⟨a, b, hm, ra, rb⟩ := cmul_gen (rep64' n (by omega)) rep_0 rep_m1 rep_0 (by omega) (by omega) (by omega) (by omega)
  obtain ⟨c, d, hs, rc, rd⟩ := csum_gen hre him ra rb (by omega) (by omega)
  have hM := fun w => run_complex_mul (P := Try.prog) w 50 _ _ _ _ _ _ hm
  have hA := fun w => run_complex_sum (P := Try.prog) w .add (.inl rfl) 51 .f64 _ _ _ _ _ _ hs
  have HC := hid (show RepE Ieee.double c (x + n * (-1)) 0 from by rw [show x + n * (-1) = x + (n * (-1) - 0 * (0)) from by omega]; exact rc)
  have HD := hid (show RepE Ieee.double d (y + n * (0)) 0 from by rw [show y + n * (0) = y + (n * (0) + 0 * (-1)) from by omega]; exact rd)
  clear hm hs ra rb rc rd hre him
  go_enter Try.func49, Try.ntmps49
  go_wp2
  go_ret
  exact ⟨⟨c, d, rfl, HC.out, HD.out⟩, bel_alloc _ _⟩


set_option maxHeartbeats 1000000 in
theorem fwith_3 (re im : Nat) (x y n : Int) (w : World) (hre : RepE Ieee.double re x 0) (him : RepE Ieee.double im y 0) (x1 : -7000000 ≤ x) (x2 : x ≤ 7000000) (y1 : -7000000 ≤ y) (y2 : y ≤ 7000000) (n1 : -100000 ≤ n) (n2 : n ≤ 100000) :
    Calls Try.prog 49 #[.complex .f64 re im, .int .i64 n, .int .i64 3] w fun e w' => (∃ re' im', e = .returned (.iface 51 (.complex .f64 re' im')) ∧ RepE Ieee.double re' (x + n * (0)) 0 ∧ RepE Ieee.double im' (y + n * (-1)) 0) ∧ Below w.heap.size w w' := by
  obtain ⟨a, b, hm, ra, rb⟩ := cmul_gen (rep64' n (by omega)) rep_0 rep_0 rep_m1 (by omega) (by omega) (by omega) (by omega)
  obtain ⟨c, d, hs, rc, rd⟩ := csum_gen hre him ra rb (by omega) (by omega)
  have hM := fun w => run_complex_mul (P := Try.prog) w 50 _ _ _ _ _ _ hm
  have hA := fun w => run_complex_sum (P := Try.prog) w .add (.inl rfl) 51 .f64 _ _ _ _ _ _ hs
  have HC := hid (show RepE Ieee.double c (x + n * (0)) 0 from by rw [show x + n * (0) = x + (n * (0) - 0 * (-1)) from by omega]; exact rc)
  have HD := hid (show RepE Ieee.double d (y + n * (-1)) 0 from by rw [show y + n * (-1) = y + (n * (-1) + 0 * (0)) from by omega]; exact rd)
  clear hm hs ra rb rc rd hre him
  go_enter Try.func49, Try.ntmps49
  go_wp2
  go_ret
  exact ⟨⟨c, d, rfl, HC.out, HD.out⟩, bel_alloc _ _⟩


set_option maxHeartbeats 2000000 in
theorem swith_0 (x y n : Int) (w : World) (x1 : -7000000 ≤ x) (x2 : x ≤ 7000000) (y1 : -7000000 ≤ y) (y2 : y ≤ 7000000) (n1 : -100000 ≤ n) (n2 : n ≤ 100000) :
    Calls Try.prog 53 #[.agg #[.int .i64 x, .int .i64 y], .int .i64 n, .int .i64 0] w fun e w' => e = .returned (.iface 53 (.agg #[.int .i64 (x + n * (1)), .int .i64 (y + n * (0))])) ∧ Below w.heap.size w w' := by
  go_enter Try.func53, Try.ntmps53
  go_wp2_with fail
  go_quiet (fail)
  go_wp2
  go_ret
  exact ⟨six_eq (by omega) (by omega), below_drewN (bel_step (bel_alloc _ _) (bel_alloc _ _)) _⟩


set_option maxHeartbeats 2000000 in
theorem swith_1 (x y n : Int) (w : World) (x1 : -7000000 ≤ x) (x2 : x ≤ 7000000) (y1 : -7000000 ≤ y) (y2 : y ≤ 7000000) (n1 : -100000 ≤ n) (n2 : n ≤ 100000) :
    Calls Try.prog 53 #[.agg #[.int .i64 x, .int .i64 y], .int .i64 n, .int .i64 1] w fun e w' => e = .returned (.iface 53 (.agg #[.int .i64 (x + n * (0)), .int .i64 (y + n * (1))])) ∧ Below w.heap.size w w' := by
  go_enter Try.func53, Try.ntmps53
  go_wp2_with fail
  go_quiet (fail)
  go_wp2
  go_ret
  exact ⟨six_eq (by omega) (by omega), below_drewN (bel_step (bel_alloc _ _) (bel_alloc _ _)) _⟩


set_option maxHeartbeats 2000000 in
theorem swith_2 (x y n : Int) (w : World) (x1 : -7000000 ≤ x) (x2 : x ≤ 7000000) (y1 : -7000000 ≤ y) (y2 : y ≤ 7000000) (n1 : -100000 ≤ n) (n2 : n ≤ 100000) :
    Calls Try.prog 53 #[.agg #[.int .i64 x, .int .i64 y], .int .i64 n, .int .i64 2] w fun e w' => e = .returned (.iface 53 (.agg #[.int .i64 (x + n * (-1)), .int .i64 (y + n * (1))])) ∧ Below w.heap.size w w' := by
  go_enter Try.func53, Try.ntmps53
  go_wp2_with fail
  go_quiet (fail)
  go_wp2
  go_ret
  exact ⟨six_eq (by omega) (by omega), below_drewN (bel_step (bel_alloc _ _) (bel_alloc _ _)) _⟩


set_option maxHeartbeats 2000000 in
theorem swith_3 (x y n : Int) (w : World) (x1 : -7000000 ≤ x) (x2 : x ≤ 7000000) (y1 : -7000000 ≤ y) (y2 : y ≤ 7000000) (n1 : -100000 ≤ n) (n2 : n ≤ 100000) :
    Calls Try.prog 53 #[.agg #[.int .i64 x, .int .i64 y], .int .i64 n, .int .i64 3] w fun e w' => e = .returned (.iface 53 (.agg #[.int .i64 (x + n * (-1)), .int .i64 (y + n * (0))])) ∧ Below w.heap.size w w' := by
  go_enter Try.func53, Try.ntmps53
  go_wp2_with fail
  go_quiet (fail)
  go_wp2
  go_ret
  exact ⟨six_eq (by omega) (by omega), below_drewN (bel_step (bel_alloc _ _) (bel_alloc _ _)) _⟩


set_option maxHeartbeats 2000000 in
theorem swith_4 (x y n : Int) (w : World) (x1 : -7000000 ≤ x) (x2 : x ≤ 7000000) (y1 : -7000000 ≤ y) (y2 : y ≤ 7000000) (n1 : -100000 ≤ n) (n2 : n ≤ 100000) :
    Calls Try.prog 53 #[.agg #[.int .i64 x, .int .i64 y], .int .i64 n, .int .i64 4] w fun e w' => e = .returned (.iface 53 (.agg #[.int .i64 (x + n * (0)), .int .i64 (y + n * (-1))])) ∧ Below w.heap.size w w' := by
  go_enter Try.func53, Try.ntmps53
  go_wp2_with fail
  go_quiet (fail)
  go_wp2
  go_ret
  exact ⟨six_eq (by omega) (by omega), below_drewN (bel_step (bel_alloc _ _) (bel_alloc _ _)) _⟩


set_option maxHeartbeats 2000000 in
theorem swith_5 (x y n : Int) (w : World) (x1 : -7000000 ≤ x) (x2 : x ≤ 7000000) (y1 : -7000000 ≤ y) (y2 : y ≤ 7000000) (n1 : -100000 ≤ n) (n2 : n ≤ 100000) :
    Calls Try.prog 53 #[.agg #[.int .i64 x, .int .i64 y], .int .i64 n, .int .i64 5] w fun e w' => e = .returned (.iface 53 (.agg #[.int .i64 (x + n * (1)), .int .i64 (y + n * (-1))])) ∧ Below w.heap.size w w' := by
  go_enter Try.func53, Try.ntmps53
  go_wp2_with fail
  go_quiet (fail)
  go_wp2
  go_ret
  exact ⟨six_eq (by omega) (by omega), below_drewN (bel_step (bel_alloc _ _) (bel_alloc _ _)) _⟩

end Go.Proofs.Ytoiojbbadmkbjaa
