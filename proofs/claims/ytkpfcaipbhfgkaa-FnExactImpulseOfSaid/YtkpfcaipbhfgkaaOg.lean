
import Derived.Test.YtkpfcaipbhfgkaaOf
namespace Go.Proofs.Ytkpfcaipbhfgkaa
open Go.RowKit BitX Go.MemX Go.ShX
set_option linter.unusedVariables false


theorem crB_as (a k mode b y : Int) (s : List Int) : crB a k mode b y s = (asB a k mode b y 0 && sigB s) := by
  have h0 : smB 0 = true := by decide
  simp [crB, asB, h0, Bool.and_assoc]
theorem crB_n {a k mode b y : Int} {s : List Int} (h : crB a k mode b y s = true) : ∃ kk n : Nat, k = kk ∧ b = n ∧ FoOk a kk mode n ∧ (inW n y = true ∧ -32768 ≤ y ∧ y ≤ 32767) ∧ SigP s := by
  rw [crB_as, Bool.and_eq_true] at h
  obtain ⟨kk, n, rfl, rfl, ho, hy, _⟩ := asB_n h.1
  exact ⟨kk, n, rfl, rfl, ho, hy, of_decide_eq_true h.2⟩
def cfR (a k mode b : Int) (wd : Bool) (y : Int) (s : List Int) : Int := onB (crB a k mode b y s) (fitC a k.toNat mode b.toNat wd s y s.length) 0


end Go.Proofs.Ytkpfcaipbhfgkaa
