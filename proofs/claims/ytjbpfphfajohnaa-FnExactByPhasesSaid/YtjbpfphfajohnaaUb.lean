
import Derived.Test.YtjbpfphfajohnaaUa
import Derived.Test.YtjbpfphfajohnaaEb
namespace Go.Proofs.Ytjbpfphfajohnaa
open Go.RowKit BitX Go.MemX Go.Ch6 Go.Ch8
set_option linter.unusedVariables false
/-- the guards as values -/
def ratB (p q : Int) : Bool := decide (1 ≤ p ∧ p ≤ 8) && decide (1 ≤ q ∧ q ≤ 8)
def lnB (n : Int) : Bool := decide (0 ≤ n ∧ n ≤ 64)
def laB (n p q : Int) : Bool := lnB n && ratB p q
def soB8 (i p q : Int) : Bool := decide (0 ≤ i ∧ i ≤ 1000) && ratB p q
def rsB (s : List Int) (p q : Int) : Bool := sigB s && ratB p q
def fits (n p : Int) : Bool := decide (n * p ≤ 64)
def cfB (h : List Int) (n p q : Int) : Bool := wgtB h && (lnB n && (ratB p q && fits n p))
theorem ratB_t {p q : Int} (h : ratB p q = true) : (1 ≤ p ∧ p ≤ 8) ∧ (1 ≤ q ∧ q ≤ 8) := by
  unfold ratB at h
  simp only [Bool.and_eq_true, decide_eq_true_eq] at h; exact h
theorem ratB_of {p q : Int} (h1 : 1 ≤ p) (h2 : p ≤ 8) (h3 : 1 ≤ q) (h4 : q ≤ 8) : ratB p q = true := by
  unfold ratB
  simp only [Bool.and_eq_true, decide_eq_true_eq]; omega
theorem ratB_n1 {p q : Int} (h : p < 1) : ratB p q = false := by unfold ratB; rw [decide_eq_false (by omega)]; rfl
theorem ratB_n2 {p q : Int} (h : 8 < p) : ratB p q = false := by unfold ratB; rw [decide_eq_false (by omega)]; rfl
theorem ratB_n3 {p q : Int} (h : q < 1) : ratB p q = false := by unfold ratB; rw [decide_eq_false (p := 1 ≤ q ∧ q ≤ 8) (by omega), Bool.and_false]
theorem ratB_n4 {p q : Int} (h : 8 < q) : ratB p q = false := by unfold ratB; rw [decide_eq_false (p := 1 ≤ q ∧ q ≤ 8) (by omega), Bool.and_false]
theorem lnB_t {n : Int} (h : lnB n = true) : 0 ≤ n ∧ n ≤ 64 := of_decide_eq_true h
theorem and_n1 {a b : Bool} (h : a = false) : (a && b) = false := by rw [h]; rfl
theorem and_n2 {a b : Bool} (h : b = false) : (a && b) = false := by rw [h, Bool.and_false]
theorem and_t {a b : Bool} (h : a = true) (h2 : b = true) : (a && b) = true := by rw [h, h2]; rfl


set_option maxHeartbeats 1000000 in
theorem isRatio_any (p q : Int) (w : World) :
    Calls Try.prog 43 #[.int .i64 p, .int .i64 q] w fun e w' => e = .returned (.bool (ratB p q)) ∧ w = w' := by
  cases h0 : decide (1 ≤ p)
  · have HB0 := hid h0
    clear h0
    have e0 := Int.not_le.1 (of_decide_eq_false HB0.out)
    go_enter Try.func43, Try.ntmps43
    go_wp2_with fail
    go_ret
    exact ⟨ret_b (ratB_n1 (Int.not_le.1 (of_decide_eq_false HB0.out))).symm, rfl⟩
  · have HB0 := hid h0
    clear h0
    have e0 := of_decide_eq_true HB0.out
    cases h1 : decide (p ≤ 8)
    · have HB1 := hid h1
      clear h1
      have e1 := Int.not_le.1 (of_decide_eq_false HB1.out)
      go_enter Try.func43, Try.ntmps43
      go_wp2_with fail
      go_ret
      exact ⟨ret_b (ratB_n2 (Int.not_le.1 (of_decide_eq_false HB1.out))).symm, rfl⟩
    · have HB1 := hid h1
      clear h1
      have e1 := of_decide_eq_true HB1.out
      cases h2 : decide (1 ≤ q)
      · have HB2 := hid h2
        clear h2
        have e2 := Int.not_le.1 (of_decide_eq_false HB2.out)
        go_enter Try.func43, Try.ntmps43
        go_wp2_with fail
        go_ret
        exact ⟨ret_b (ratB_n3 (Int.not_le.1 (of_decide_eq_false HB2.out))).symm, rfl⟩
      · have HB2 := hid h2
        clear h2
        have e2 := of_decide_eq_true HB2.out
        cases h3 : decide (q ≤ 8)
        · have HB3 := hid h3
          clear h3
          have e3 := Int.not_le.1 (of_decide_eq_false HB3.out)
          go_enter Try.func43, Try.ntmps43
          go_wp2_with fail
          go_ret
          exact ⟨ret_b ((ratB_n4 (Int.not_le.1 (of_decide_eq_false HB3.out))).trans HB3.out.symm).symm, rfl⟩
        · have HB3 := hid h3
          clear h3
          have e3 := of_decide_eq_true HB3.out
          go_enter Try.func43, Try.ntmps43
          go_wp2
          go_ret
          exact ⟨ret_b (ratB_of (of_decide_eq_true HB0.out) (of_decide_eq_true HB1.out) (of_decide_eq_true HB2.out) (of_decide_eq_true HB3.out)).symm, rfl⟩


set_option maxHeartbeats 1000000 in
theorem rsRatio_any (p q : Int) (w : World) :
    Calls Try.prog 53 #[.int .i64 p, .int .i64 q] w fun e w' => e = .returned (.bool (ratB p q)) ∧ w = w' := by
  cases h0 : decide (1 ≤ p ∧ p ≤ 8)
  · have HB0 := hid h0
    clear h0
    go_enter Try.func53, Try.ntmps53
    go_wp2_with fail
    refine (l1In_is _ _ _ false _ HB0.out).mono ?_
    rintro e w' ⟨rfl, rfl⟩
    go_wp2_with fail
    go_ret
    exact ⟨ret_b (and_n1 HB0.out).symm, rfl⟩
  · have HB0 := hid h0
    clear h0
    cases h1 : decide (1 ≤ q ∧ q ≤ 8)
    · have HB1 := hid h1
      clear h1
      go_enter Try.func53, Try.ntmps53
      go_wp2_with fail
      refine (l1In_is _ _ _ true _ HB0.out).mono ?_
      rintro e w' ⟨rfl, rfl⟩
      go_wp2_with fail
      refine (l1In_is _ _ _ false _ HB1.out).mono ?_
      rintro e w' ⟨rfl, rfl⟩
      go_wp2_with fail
      go_ret
      exact ⟨ret_b (and_n2 HB1.out).symm, rfl⟩
    · have HB1 := hid h1
      clear h1
      go_enter Try.func53, Try.ntmps53
      go_wp2_with fail
      refine (l1In_is _ _ _ true _ HB0.out).mono ?_
      rintro e w' ⟨rfl, rfl⟩
      go_wp2_with fail
      refine (l1In_is _ _ _ true _ HB1.out).mono ?_
      rintro e w' ⟨rfl, rfl⟩
      go_wp2
      go_ret
      exact ⟨ret_b (and_t HB0.out HB1.out).symm, rfl⟩

theorem isRatio_is (p q : Int) (b : Bool) (w : World) (h : ratB p q = b) :
    Calls Try.prog 43 #[.int .i64 p, .int .i64 q] w fun e w' => e = .returned (.bool (b)) ∧ w = w' := by subst h; exact isRatio_any p q w

theorem rsRatio_is (p q : Int) (b : Bool) (w : World) (h : ratB p q = b) :
    Calls Try.prog 53 #[.int .i64 p, .int .i64 q] w fun e w' => e = .returned (.bool (b)) ∧ w = w' := by subst h; exact rsRatio_any p q w


set_option maxHeartbeats 400000 in
theorem isLength_is (x : Int) (q : Bool) (w : World) (h : lnB x = q) :
    Calls Try.prog 42 #[.int .i64 x] w fun e w' => e = .returned (.bool (q)) ∧ w = w' := by
  cases q
  · have h := of_decide_eq_false h
    by_cases h1 : x < 0
    · clear h
      go_enter Try.func42, Try.ntmps42
      go_wp2
      go_ret
      exact ⟨by first | rfl | exact ret_b (decide_eq_false (by omega)) | exact ret_b (decide_eq_true (by omega)), rfl⟩
    · have h2 : 64 < x := by omega
      have h3 : 0 ≤ x := by omega
      clear h h1
      go_enter Try.func42, Try.ntmps42
      go_wp2
      go_ret
      exact ⟨by first | rfl | exact ret_b (decide_eq_false (by omega)) | exact ret_b (decide_eq_true (by omega)), rfl⟩
  · have h := of_decide_eq_true h
    obtain ⟨h1, h2⟩ := h
    go_enter Try.func42, Try.ntmps42
    go_wp2
    go_ret
    exact ⟨by first | rfl | exact ret_b (decide_eq_false (by omega)) | exact ret_b (decide_eq_true (by omega)), rfl⟩


set_option maxHeartbeats 1000000 in
theorem rsLength_any (n p q : Nat) (w : World) (hn : n ≤ 64) (hp : p ≤ 8) (hq : 1 ≤ q) (hq8 : q ≤ 8) :
    Calls Try.prog 46 #[.int .i64 (n : Int), .int .i64 (p : Int), .int .i64 (q : Int)] w fun e w' => e = .returned (.int .i64 (lenN n p q : Nat)) ∧ w = w' := by
  obtain ⟨m, k, z, hm5, hkm, hz5, hmi, hd, hz⟩ := len_parts hn hp hq
  rw [← hz]
  have hki : (m : Int) + (q : Int) - 1 = (k : Int) := by clear hmi hd hz; omega
  have hd2 : ((m : Int) + (q : Int) - 1) / (q : Int) = (z : Int) := by rw [hki, ← hd]; exact (Int.tdiv_eq_ediv_of_nonneg (by omega)).symm
  have HD := hid hd2
  have b1 : -9223372036854775808 ≤ (m : Int) ∧ (m : Int) ≤ 9223372036854775807 := by clear hmi hd hz; omega
  have e1 : wrap64 ((n : Int) * (p : Int)) = (m : Int) := by rw [hmi]; exact IntWalk.wrap64_in _ b1
  have e2 : IntKind.i64.wrap ((n : Int) * (p : Int)) = (m : Int) := by rw [hmi]; exact IntWalk.i64_in _ b1
  clear hkm hki hmi hd hd2 hz b1
  go_enter Try.func46, Try.ntmps46
  go_wp2
  go_ret
  exact ⟨ret_i HD.out, rfl⟩


set_option maxHeartbeats 1000000 in
theorem lengthAfter_any (n p q : Nat) (w : World) (hn : n ≤ 64) (hp : p ≤ 8) (hq : 1 ≤ q) (hq8 : q ≤ 8) :
    Calls Try.prog 48 #[.int .i64 (n : Int), .int .i64 (p : Int), .int .i64 (q : Int)] w fun e w' => e = .returned (.int .i64 (lenN n p q : Nat)) ∧ w = w' := by
  obtain ⟨m, k, z, hm5, hkm, hz5, hmi, hd, hz⟩ := len_parts hn hp hq
  rw [← hz]
  have hki : (m : Int) + (q : Int) - 1 = (k : Int) := by clear hmi hd hz; omega
  have hd2 : ((m : Int) + (q : Int) - 1) / (q : Int) = (z : Int) := by rw [hki, ← hd]; exact (Int.tdiv_eq_ediv_of_nonneg (by omega)).symm
  have HD := hid hd2
  have b1 : -9223372036854775808 ≤ (m : Int) ∧ (m : Int) ≤ 9223372036854775807 := by clear hmi hd hz; omega
  have e1 : wrap64 ((n : Int) * (p : Int)) = (m : Int) := by rw [hmi]; exact IntWalk.wrap64_in _ b1
  have e2 : IntKind.i64.wrap ((n : Int) * (p : Int)) = (m : Int) := by rw [hmi]; exact IntWalk.i64_in _ b1
  clear hkm hki hmi hd hd2 hz b1
  go_enter Try.func48, Try.ntmps48
  go_wp2
  go_ret
  exact ⟨ret_i HD.out, rfl⟩

end Go.Proofs.Ytjbpfphfajohnaa
