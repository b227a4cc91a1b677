
import Derived.Test.YtbbfigbfkhlddaaNb
import Derived.Test.YtbbfigbfkhlddaaOe
namespace Go.Proofs.Ytbbfigbfkhlddaa
open Go.RowKit BitX Go.MemX Go.ShX
set_option linter.unusedVariables false


theorem upair : Try.prog.underlying 48 = some (.array 2 3) := by kernel_rfl
theorem ixPair : ∀ (x y : Int) (w : World), (Instr.index 48 (.agg #[.int .i64 x, .int .i64 y]) (.int .i64 0)).run Try.prog w = .ok (.int .i64 x) w := by
  intro x y w
  have hs : ∀ w : World, (sizeOf 3).run Try.prog w = .ok 1 w := fun w => rfl
  have uE : Try.prog.underlying 3 = some (.int .i64) := by kernel_rfl
  simp only [Instr.index, asIntOf, Sem.run_bind, Sem.run_pure, Result.andThen_ok, run_underlying upair]
  simp [part, isAgg, run_underlying uE, hs]
theorem soB_n {a d k mode b : Int} (h : soB a d k mode b = true) : ∃ kk n : Nat, k = kk ∧ b = n ∧ SoOk a d kk mode n := by
  obtain ⟨kk, n, rfl, rfl, ho⟩ := foB_n (soB_f h)
  exact ⟨kk, n, rfl, rfl, ho, soB_d h⟩
theorem atB_n {a d k mode b y z x : Int} (h : atB a d k mode b y z x = true) : ∃ kk n : Nat, k = kk ∧ b = n ∧ SoOk a d kk mode n ∧ (inW n y = true ∧ -32768 ≤ y ∧ y ≤ 32767) ∧ (inW n z = true ∧ -32768 ≤ z ∧ z ≤ 32767) ∧ -100000 ≤ x ∧ x ≤ 100000 := by
  unfold atB at h
  simp only [Bool.and_eq_true] at h
  obtain ⟨h1, h2, h3, h4⟩ := h
  obtain ⟨kk, n, rfl, rfl, ho⟩ := soB_n h1
  exact ⟨kk, n, rfl, rfl, ho, ⟨h2, inW_t ho.1.2.2.2.1 ho.1.2.2.2.2 h2⟩, ⟨h3, inW_t ho.1.2.2.2.1 ho.1.2.2.2.2 h3⟩, of_decide_eq_true h4⟩
def ssR (a d k mode b : Int) (wr : Bool) (y z x : Int) : Int := onB (atB a d k mode b y z x) (stepS a d k.toNat mode b.toNat wr x y z) 0


end Go.Proofs.Ytbbfigbfkhlddaa
