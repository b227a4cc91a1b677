
import Derived.Test.YtoiojbbadmkbjaaXi
import Derived.Deep.RegionHeld3
namespace Go.Proofs.Ytoiojbbadmkbjaa
open Go.RowKit BitX Go.MemX Go.Ch6 Go.Ch9 FltX
set_option linter.unusedVariables false
theorem sig_at0 {s : List Int} (h : SigP s) (i : Nat) : -100000 ≤ at0 s i ∧ at0 s i ≤ 100000 := by
  by_cases hi : i < s.length
  · obtain ⟨x, hx⟩ := get_lt s i hi
    rw [at0_of hx]; exact h.2 x (List.mem_of_getElem? hx)
  · rw [at0_out (by omega)]; omega
theorem fwith_any (re im : Nat) (x y n : Int) (j : Nat) (w : World) (hj : j < 4) (hre : RepE Ieee.double re x 0) (him : RepE Ieee.double im y 0) (x1 : -7000000 ≤ x) (x2 : x ≤ 7000000) (y1 : -7000000 ≤ y) (y2 : y ≤ 7000000) (n1 : -100000 ≤ n) (n2 : n ≤ 100000) :
    Calls Try.prog 49 #[.complex .f64 re im, .int .i64 n, .int .i64 (j : Int)] w fun e w' => (∃ re' im', e = .returned (.iface 51 (.complex .f64 re' im')) ∧ RepE Ieee.double re' (x + n * t4X j) 0 ∧ RepE Ieee.double im' (y + n * t4Y j) 0) ∧ Below w.heap.size w w' := by
  match j, hj with
  | 0, _ => exact fwith_0 re im x y n w hre him x1 x2 y1 y2 n1 n2
  | 1, _ => exact fwith_1 re im x y n w hre him x1 x2 y1 y2 n1 n2
  | 2, _ => exact fwith_2 re im x y n w hre him x1 x2 y1 y2 n1 n2
  | 3, _ => exact fwith_3 re im x y n w hre him x1 x2 y1 y2 n1 n2
theorem swith_any (x y n : Int) (j : Nat) (w : World) (hj : j < 6) (x1 : -7000000 ≤ x) (x2 : x ≤ 7000000) (y1 : -7000000 ≤ y) (y2 : y ≤ 7000000) (n1 : -100000 ≤ n) (n2 : n ≤ 100000) :
    Calls Try.prog 53 #[.agg #[.int .i64 x, .int .i64 y], .int .i64 n, .int .i64 (j : Int)] w fun e w' => e = .returned (.iface 53 (.agg #[.int .i64 (x + n * t6X j), .int .i64 (y + n * t6Y j)])) ∧ Below w.heap.size w w' := by
  match j, hj with
  | 0, _ => exact swith_0 x y n w x1 x2 y1 y2 n1 n2
  | 1, _ => exact swith_1 x y n w x1 x2 y1 y2 n1 n2
  | 2, _ => exact swith_2 x y n w x1 x2 y1 y2 n1 n2
  | 3, _ => exact swith_3 x y n w x1 x2 y1 y2 n1 n2
  | 4, _ => exact swith_4 x y n w x1 x2 y1 y2 n1 n2
  | 5, _ => exact swith_5 x y n w x1 x2 y1 y2 n1 n2
theorem silence_4 (w : World) : Calls Try.prog 27 #[.int .i64 4] w fun e w' => e = .returned (.iface 51 (.complex .f64 0 0)) ∧ w = w' := by
  go_enter Try.func27, Try.ntmps27
  go_wp2
  go_ret
  exact ⟨rfl, rfl⟩
theorem silence_6 (w : World) : Calls Try.prog 27 #[.int .i64 6] w fun e w' => e = .returned (.iface 53 (.agg #[.int .i64 0, .int .i64 0])) ∧ w = w' := by
  go_enter Try.func27, Try.ntmps27
  go_wp2
  go_ret
  exact ⟨rfl, rfl⟩
theorem na4 (re im : Nat) (w : World) : (nilAhead 174 51 (.complex .f64 re im) "loop.example/g01198/impl.with").run Try.prog w = .ok (some false) w := by kernel_rfl
theorem na6 (x y : Int) (w : World) : (nilAhead 174 53 (.agg #[.int .i64 x, .int .i64 y]) "loop.example/g01198/impl.with").run Try.prog w = .ok (some false) w := by kernel_rfl
theorem me4 (re im : Nat) (w : World) : (method 174 51 (.complex .f64 re im) "loop.example/g01198/impl.with").run Try.prog w = .ok (49, .complex .f64 re im) w := by kernel_rfl
theorem me6 (x y : Int) (w : World) : (method 174 53 (.agg #[.int .i64 x, .int .i64 y]) "loop.example/g01198/impl.with").run Try.prog w = .ok (53, .agg #[.int .i64 x, .int .i64 y]) w := by kernel_rfl
def toneB (k : Int) (p : Int) : Bool := decide ((p = 4 ∨ p = 6) ∧ 0 ≤ k ∧ k < p)
theorem tone_t {k p : Int} (h : toneB k p = true) : (p = 4 ∨ p = 6) ∧ 0 ≤ k ∧ k < p := of_decide_eq_true h
set_option maxHeartbeats 400000 in
theorem hasTones_is (p : Int) (b : Bool) (w : World) (h : decide (p = 4 ∨ p = 6) = b) : Calls Try.prog 30 #[.int .i64 p] w fun e w' => e = .returned (.bool (b)) ∧ w = w' := by
  by_cases h4 : p = 4
  · subst h4
    obtain rfl : b = true := h.symm
    clear h
    go_enter Try.func30, Try.ntmps30
    go_wp2
    go_ret
    exact ⟨rfl, rfl⟩
  · by_cases h6 : p = 6
    · subst h6
      obtain rfl : b = true := h.symm
      clear h h4
      go_enter Try.func30, Try.ntmps30
      go_wp2
      go_ret
      exact ⟨rfl, rfl⟩
    · obtain rfl : b = false := by rw [← h]; exact decide_eq_false (by omega)
      have q4 : (p == 4) = false := by rw [beq_eq_false_iff_ne]; exact h4
      have q6 : (p == 6) = false := by rw [beq_eq_false_iff_ne]; exact h6
      clear h h4 h6
      go_enter Try.func30, Try.ntmps30
      go_wp2
      go_ret
      exact ⟨by first | rfl | simp [q4, q6], rfl⟩
set_option maxHeartbeats 400000 in
theorem isTone_is (k p : Int) (b : Bool) (w : World) (h : toneB k p = b) : Calls Try.prog 25 #[.int .i64 k, .int .i64 p] w fun e w' => e = .returned (.bool (b)) ∧ w = w' := by
  cases hp : decide (p = 4 ∨ p = 6)
  · have HP := hid hp
    obtain rfl : b = false := by rw [← h]; exact decide_eq_false fun hh => of_decide_eq_false hp hh.1
    clear hp h
    go_enter Try.func25, Try.ntmps25
    go_wp2_with fail
    refine (hasTones_is p false _ HP.out).mono ?_
    rintro e w' ⟨rfl, rfl⟩
    go_wp2
    go_ret
    exact ⟨rfl, rfl⟩
  · have HP := hid hp
    have hh := of_decide_eq_true hp
    by_cases h0 : 0 ≤ k
    · by_cases h1 : k < p
      · obtain rfl : b = true := by rw [← h]; exact decide_eq_true ⟨hh, h0, h1⟩
        clear hp h hh
        go_enter Try.func25, Try.ntmps25
        go_wp2_with fail
        refine (hasTones_is p true _ HP.out).mono ?_
        rintro e w' ⟨rfl, rfl⟩
        go_wp2
        go_ret
        exact ⟨by first | rfl | exact ret_b (decide_eq_true (by omega)), rfl⟩
      · obtain rfl : b = false := by rw [← h]; exact decide_eq_false fun q => h1 q.2.2
        have h2 : p ≤ k := by omega
        clear hp h hh h1
        go_enter Try.func25, Try.ntmps25
        go_wp2_with fail
        refine (hasTones_is p true _ HP.out).mono ?_
        rintro e w' ⟨rfl, rfl⟩
        go_wp2
        go_ret
        exact ⟨by first | rfl | exact ret_b (decide_eq_false (by omega)), rfl⟩
    · obtain rfl : b = false := by rw [← h]; exact decide_eq_false fun q => h0 q.2.1
      have h2 : k < 0 := by omega
      clear hp h hh h0
      go_enter Try.func25, Try.ntmps25
      go_wp2_with fail
      refine (hasTones_is p true _ HP.out).mono ?_
      rintro e w' ⟨rfl, rfl⟩
      go_wp2
      go_ret
      exact ⟨by first | rfl | exact ret_b (decide_eq_false (by omega)), rfl⟩


end Go.Proofs.Ytoiojbbadmkbjaa
