
import Derived.Test.YthkfjoonkkmgiaaOa
import Derived.Test.YthkfjoonkkmgiaaQb
import Derived.Test.YthkfjoonkkmgiaaQb
namespace Go.Proofs.Ythkfjoonkkmgiaa
open Go.RowKit BitX Go.MemX Go.ChV
set_option linter.unusedVariables false
def scB (m : Int) : Bool := decide (1 ≤ m ∧ m ≤ 1000)
def nuB (m x : Int) : Bool := scB m && decide (-m ≤ x ∧ x ≤ m)
theorem scB_t {m : Int} (h : scB m = true) : 1 ≤ m ∧ m ≤ 1000 := of_decide_eq_true h
theorem nuB_t {m x : Int} (h : nuB m x = true) : (1 ≤ m ∧ m ≤ 1000) ∧ (-m ≤ x ∧ x ≤ m) := by
  unfold nuB scB at h
  rw [Bool.and_eq_true] at h
  exact ⟨of_decide_eq_true h.1, of_decide_eq_true h.2⟩
theorem nuB_f {m x : Int} (h1 : scB m = true) (h : nuB m x = false) : ¬ (-m ≤ x ∧ x ≤ m) := by
  unfold nuB at h
  rw [h1, Bool.true_and] at h
  exact of_decide_eq_false h
theorem nuB_s {m x : Int} (h1 : scB m = false) : nuB m x = false := by unfold nuB; rw [h1]; rfl
theorem ret_ib' {a b : Int} {c d : Bool} (h1 : a = b) (h2 : c = d) : Ending.returned (.tuple #[.int .i64 a, .bool c]) = .returned (.tuple #[.int .i64 b, .bool d]) := by rw [h1, h2]
theorem ret_ii' {a b c d : Int} (h1 : a = b) (h2 : c = d) : Ending.returned (.tuple #[.int .i64 a, .int .i64 c]) = .returned (.tuple #[.int .i64 b, .int .i64 d]) := by rw [h1, h2]


end Go.Proofs.Ythkfjoonkkmgiaa
