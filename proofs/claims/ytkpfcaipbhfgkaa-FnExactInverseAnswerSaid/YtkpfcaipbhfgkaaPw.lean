
import Derived.Test.YtkpfcaipbhfgkaaFq
namespace Go.Proofs.Ytkpfcaipbhfgkaa
open Go.RowKit BitX Go.MemX
set_option linter.unusedVariables false


/-- the product of k times the same weights, if all of them are weights -/
def pow (h : List Int) : Nat → Option (List Int)
  | 0 => some [1]
  | k + 1 => match pow h k with
    | some p => if wgtB (ans h p) then some (ans h p) else none
    | none => none
theorem pow_zero (h : List Int) : pow h 0 = some [1] := rfl
theorem pow_yes {h p : List Int} {k : Nat} (hp : pow h k = some p) (hb : wgtB (ans h p) = true) : pow h (k + 1) = some (ans h p) := by rw [pow, hp]; simp [hb]
theorem pow_no {h p : List Int} {k : Nat} (hp : pow h k = some p) (hb : wgtB (ans h p) = false) : ∀ K, k + 1 ≤ K → pow h K = none := by
  intro K hK
  induction K with
  | zero => omega
  | succ K ih =>
    by_cases e : k = K
    · subst e; rw [pow, hp]; simp [hb]
    · rw [pow, ih (by omega)]
def powOk (h : List Int) (k : Nat) : Bool := (pow h k).isSome
def powL (h : List Int) (k : Nat) : List Int := (pow h k).getD []
theorem powOk_t {h p : List Int} {k : Nat} (hp : pow h k = some p) : powOk h k = true ∧ powL h k = p := by simp [powOk, powL, hp]
theorem powOk_f {h : List Int} {k : Nat} (hp : pow h k = none) : powOk h k = false ∧ powL h k = [] := by simp [powOk, powL, hp]
theorem gives_of {w w2 : World} {ys zs : List Int} {b c : Bool} {e : Ending} (h1 : b = c) (h2 : ys = zs) (h : Gives w zs c e w2) : Gives w ys b e w2 := by subst h1 h2; exact h
theorem wgt_one : WgtP [1] := ⟨by simp, fun x hx => by simp at hx; subst hx; omega⟩
theorem wgt_ne {h : List Int} (hw : WgtP h) : h ≠ [] := fun e => by have := hw.1.1; rw [e] at this; simp at this
def powA (h : List Int) (k : Int) : Bool := wgtB h && (decide (0 ≤ k ∧ k ≤ 8) && powOk h k.toNat)


theorem onB_powL (h : List Int) (K : Nat) : onB (powOk h K) (powL h K) [] = powL h K := by
  unfold powOk powL
  cases pow h K <;> rfl


theorem pow_wgt {h p : List Int} : ∀ {k : Nat}, pow h k = some p → WgtP p
  | 0, e => by cases e; exact wgt_one
  | k + 1, e => by
    rw [pow] at e
    split at e
    · split at e
      · rename_i hb; cases e; exact wgtB_t hb
      · cases e
    · cases e
theorem powA_len {h : List Int} {k : Int} (hb : powA h k = true) : (powL h k.toNat).length ≤ 2000000 := by
  unfold powL
  cases hp : pow h k.toNat with
  | none => simp
  | some p => have := (pow_wgt hp).1.2; simp; omega


end Go.Proofs.Ytkpfcaipbhfgkaa
