
import Derived.Test.YtnagpfkchkdiiaaUa
import Derived.Test.YtnagpfkchkdiiaaEb
namespace Go.Proofs.Ytnagpfkchkdiiaa
open Go.RowKit BitX Go.MemX Go.Ch6 Go.Ch8
set_option linter.unusedVariables false
/-- the guards as values -/
def ratB (p q : Int) : Bool := decide (1 ≤ p ∧ p ≤ 8) && decide (1 ≤ q ∧ q ≤ 8)
def lnB (n : Int) : Bool := decide (0 ≤ n ∧ n ≤ 64)
def laB (n p q : Int) : Bool := lnB n && ratB p q
def soB8 (i p q : Int) : Bool := decide (0 ≤ i ∧ i ≤ 1000) && ratB p q
def rsB (s : List Int) (p q : Int) : Bool := sigB s && ratB p q
def fits (n p : Int) : Bool := decide (n * p ≤ 64)
def cfB (h : List Int) (n p q : Int) : Bool := wgtB h && (lnB n && (ratB p q && fits n p))
theorem ratB_t {p q : Int} (h : ratB p q = true) : (1 ≤ p ∧ p ≤ 8) ∧ (1 ≤ q ∧ q ≤ 8) := by
  unfold ratB at h
  simp only [Bool.and_eq_true, decide_eq_true_eq] at h; exact h
theorem ratB_of {p q : Int} (h1 : 1 ≤ p) (h2 : p ≤ 8) (h3 : 1 ≤ q) (h4 : q ≤ 8) : ratB p q = true := by
  unfold ratB
  simp only [Bool.and_eq_true, decide_eq_true_eq]; omega
theorem ratB_n1 {p q : Int} (h : p < 1) : ratB p q = false := by unfold ratB; rw [decide_eq_false (by omega)]; rfl
theorem ratB_n2 {p q : Int} (h : 8 < p) : ratB p q = false := by unfold ratB; rw [decide_eq_false (by omega)]; rfl
theorem ratB_n3 {p q : Int} (h : q < 1) : ratB p q = false := by unfold ratB; rw [decide_eq_false (p := 1 ≤ q ∧ q ≤ 8) (by omega), Bool.and_false]
theorem ratB_n4 {p q : Int} (h : 8 < q) : ratB p q = false := by unfold ratB; rw [decide_eq_false (p := 1 ≤ q ∧ q ≤ 8) (by omega), Bool.and_false]
theorem lnB_t {n : Int} (h : lnB n = true) : 0 ≤ n ∧ n ≤ 64 := of_decide_eq_true h
theorem and_n1 {a b : Bool} (h : a = false) : (a && b) = false := by rw [h]; rfl
theorem and_n2 {a b : Bool} (h : b = false) : (a && b) = false := by rw [h, Bool.and_false]
theorem and_t {a b : Bool} (h : a = true) (h2 : b = true) : (a && b) = true := by rw [h, h2]; rfl


end Go.Proofs.Ytnagpfkchkdiiaa
