
import Derived.Test.YtiibkkndjalodaaUa
import Derived.Test.YtiibkkndjalodaaEb
namespace Go.Proofs.Ytiibkkndjalodaa
open Go.RowKit BitX Go.MemX Go.Ch6 Go.Ch8
set_option linter.unusedVariables false
/-- the guards as values -/
def ratB (p q : Int) : Bool := decide (1 ≤ p ∧ p ≤ 8) && decide (1 ≤ q ∧ q ≤ 8)
def lnB (n : Int) : Bool := decide (0 ≤ n ∧ n ≤ 64)
def laB (n p q : Int) : Bool := lnB n && ratB p q
def soB8 (i p q : Int) : Bool := decide (0 ≤ i ∧ i ≤ 1000) && ratB p q
def rsB (s : List Int) (p q : Int) : Bool := sigB s && ratB p q
def fits (n p : Int) : Bool := decide (n * p ≤ 64)
def cfB (h : List Int) (n p q : Int) : Bool := wgtB h && (lnB n && (ratB p q && fits n p))
theorem ratB_t {p q : Int} (h : ratB p q = true) : (1 ≤ p ∧ p ≤ 8) ∧ (1 ≤ q ∧ q ≤ 8) := by
  unfold ratB at h
  simp only [Bool.and_eq_true, decide_eq_true_eq] at h; exact h
theorem ratB_of {p q : Int} (h1 : 1 ≤ p) (h2 : p ≤ 8) (h3 : 1 ≤ q) (h4 : q ≤ 8) : ratB p q = true := by
  unfold ratB
  simp only [Bool.and_eq_true, decide_eq_true_eq]; omega
theorem ratB_n1 {p q : Int} (h : p < 1) : ratB p q = false := by unfold ratB; rw [decide_eq_false (by omega)]; rfl
theorem ratB_n2 {p q : Int} (h : 8 < p) : ratB p q = false := by unfold ratB; rw [decide_eq_false (by omega)]; rfl
theorem ratB_n3 {p q : Int} (h : q < 1) : ratB p q = false := by unfold ratB; rw [decide_eq_false (p := 1 ≤ q ∧ q ≤ 8) (by omega), Bool.and_false]
theorem ratB_n4 {p q : Int} (h : 8 < q) : ratB p q = false := by unfold ratB; rw [decide_eq_false (p := 1 ≤ q ∧ q ≤ 8) (by omega), Bool.and_false]
theorem lnB_t {n : Int} (h : lnB n = true) : 0 ≤ n ∧ n ≤ 64 := of_decide_eq_true h
theorem and_n1 {a b : Bool} (h : a = false) : (a && b) = false := by rw [h]; rfl
theorem and_n2 {a b : Bool} (h : b = false) : (a && b) = false := by rw [h, Bool.and_false]
theorem and_t {a b : Bool} (h : a = true) (h2 : b = true) : (a && b) = true := by rw [h, h2]; rfl


set_option maxHeartbeats 1000000 in
theorem isRatio_any (p q : Int) (w : World) :
    Calls Try.prog 17 #[.int .i64 p, .int .i64 q] w fun e w' => e = .returned (.bool (ratB p q)) ∧ w = w' := by
  cases h0 : decide (1 ≤ p)
  · have HB0 := hid h0
    clear h0
    have e0 := Int.not_le.1 (of_decide_eq_false HB0.out)
    go_enter Try.func17, Try.ntmps17
    go_wp2_with fail
    go_ret
    exact ⟨ret_b (ratB_n1 (Int.not_le.1 (of_decide_eq_false HB0.out))).symm, rfl⟩
  · have HB0 := hid h0
    clear h0
    have e0 := of_decide_eq_true HB0.out
    cases h1 : decide (p ≤ 8)
    · have HB1 := hid h1
      clear h1
      have e1 := Int.not_le.1 (of_decide_eq_false HB1.out)
      go_enter Try.func17, Try.ntmps17
      go_wp2_with fail
      go_ret
      exact ⟨ret_b (ratB_n2 (Int.not_le.1 (of_decide_eq_false HB1.out))).symm, rfl⟩
    · have HB1 := hid h1
      clear h1
      have e1 := of_decide_eq_true HB1.out
      cases h2 : decide (1 ≤ q)
      · have HB2 := hid h2
        clear h2
        have e2 := Int.not_le.1 (of_decide_eq_false HB2.out)
        go_enter Try.func17, Try.ntmps17
        go_wp2_with fail
        go_ret
        exact ⟨ret_b (ratB_n3 (Int.not_le.1 (of_decide_eq_false HB2.out))).symm, rfl⟩
      · have HB2 := hid h2
        clear h2
        have e2 := of_decide_eq_true HB2.out
        cases h3 : decide (q ≤ 8)
        · have HB3 := hid h3
          clear h3
          have e3 := Int.not_le.1 (of_decide_eq_false HB3.out)
          go_enter Try.func17, Try.ntmps17
          go_wp2_with fail
          go_ret
          exact ⟨ret_b ((ratB_n4 (Int.not_le.1 (of_decide_eq_false HB3.out))).trans HB3.out.symm).symm, rfl⟩
        · have HB3 := hid h3
          clear h3
          have e3 := of_decide_eq_true HB3.out
          go_enter Try.func17, Try.ntmps17
          go_wp2
          go_ret
          exact ⟨ret_b (ratB_of (of_decide_eq_true HB0.out) (of_decide_eq_true HB1.out) (of_decide_eq_true HB2.out) (of_decide_eq_true HB3.out)).symm, rfl⟩


theorem isRatio_is (p q : Int) (b : Bool) (w : World) (h : ratB p q = b) :
    Calls Try.prog 17 #[.int .i64 p, .int .i64 q] w fun e w' => e = .returned (.bool (b)) ∧ w = w' := by subst h; exact isRatio_any p q w

end Go.Proofs.Ytiibkkndjalodaa
