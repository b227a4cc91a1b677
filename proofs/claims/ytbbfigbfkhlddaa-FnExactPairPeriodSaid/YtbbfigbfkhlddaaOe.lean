
import Derived.Test.YtbbfigbfkhlddaaOd
namespace Go.Proofs.Ytbbfigbfkhlddaa
open Go.RowKit BitX Go.MemX Go.ShX
set_option linter.unusedVariables false


theorem foB_n {a k mode b : Int} (h : foB a k mode b = true) : ∃ kk n : Nat, k = kk ∧ b = n ∧ FoOk a kk mode n := by
  obtain ⟨h1, h2, h3, h4⟩ := foB_t h
  exact ⟨k.toNat, b.toNat, by omega, by omega, h1, by omega, h3, by omega, by omega⟩
theorem inW_t {n : Nat} {y : Int} (n1 : 2 ≤ n) (n2 : n ≤ 16) (h : inW n y = true) : -32768 ≤ y ∧ y ≤ 32767 := by
  have := of_decide_eq_true h
  have hp := pow_small n (by omega) n2
  simp only [Int.toNat_natCast] at this
  omega
theorem asB_n {a k mode b y x : Int} (h : asB a k mode b y x = true) : ∃ kk n : Nat, k = kk ∧ b = n ∧ FoOk a kk mode n ∧ (inW n y = true ∧ -32768 ≤ y ∧ y ≤ 32767) ∧ -100000 ≤ x ∧ x ≤ 100000 := by
  unfold asB at h
  simp only [Bool.and_eq_true] at h
  obtain ⟨h1, h2, h3⟩ := h
  obtain ⟨kk, n, rfl, rfl, ho⟩ := foB_n h1
  exact ⟨kk, n, rfl, rfl, ho, ⟨h2, inW_t ho.2.2.2.1 ho.2.2.2.2 h2⟩, of_decide_eq_true h3⟩
def fsR (a k mode b : Int) (wr : Bool) (y x : Int) : Int := onB (asB a k mode b y x) (stepI a k.toNat mode b.toNat wr x y) 0
theorem ret_ib2 {i j : Int} {b c : Bool} (h1 : i = j) (h2 : b = c) : Ending.returned (.tuple #[.int .i64 i, .bool b]) = .returned (.tuple #[.int .i64 j, .bool c]) := by rw [h1, h2]


end Go.Proofs.Ytbbfigbfkhlddaa
