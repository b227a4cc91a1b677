
import Derived.Test.YtdedifgpbehpoaaEe
import Derived.Test.YtdedifgpbehpoaaEo
namespace Go.Proofs.Ytdedifgpbehpoaa
open Go.RowKit BitX Go.MemX Go.Ch6
set_option linter.unusedVariables false


def wsB (s : List Int) (b st : Int) : Bool := sigB s && (lonB b && decide (1 ≤ st ∧ st ≤ 4))
theorem wsB_g {s : List Int} {b st : Int} (h1 : (sigB s && askB st 1) = true) (h2 : lonB b = true) : wsB s b st = true := by
  simp only [askB, Bool.and_eq_true] at h1
  unfold wsB; rw [h1.1, h2, h1.2.1]; rfl
theorem wsB_n1 {s : List Int} {b st : Int} (h1 : (sigB s && askB st 1) = false) : wsB s b st = false := by
  unfold wsB
  unfold askB at h1
  cases h : sigB s
  · rfl
  · rw [h] at h1
    have : decide (1 ≤ st ∧ st ≤ 4) = false := by simpa using h1
    rw [this]; simp
theorem wsB_n2 {s : List Int} {b st : Int} (h1 : lonB b = false) : wsB s b st = false := by unfold wsB; rw [h1]; simp
theorem wsB_t {s : List Int} {b st : Int} (h : wsB s b st = true) : SigP s ∧ (2 ≤ b ∧ b ≤ 40) ∧ (1 ≤ st ∧ st ≤ 4) := by
  unfold wsB at h
  simp only [Bool.and_eq_true] at h
  exact ⟨sigB_t h.1, lonB_t h.2.1, of_decide_eq_true h.2.2⟩
theorem sig_39 {s : List Int} (h : SigP s) : InP (-549755813888) 549755813888 s := fun x hx => by have := h.2 x hx; omega


theorem ws_len {s ys : List Int} {b st : Int} (h : ys.length = s.length) (hl : s.length ≤ 1048576) : (onL (wsB s b st) ys).length ≤ 2000000 := onL_len fun _ => by omega


end Go.Proofs.Ytdedifgpbehpoaa
