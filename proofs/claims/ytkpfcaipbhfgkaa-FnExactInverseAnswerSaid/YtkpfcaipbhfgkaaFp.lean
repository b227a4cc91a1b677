
import Derived.Test.YtkpfcaipbhfgkaaFo
namespace Go.Proofs.Ytkpfcaipbhfgkaa
open Go.RowKit BitX Go.MemX
set_option linter.unusedVariables false


theorem and_t {a b : Bool} (h : (a && b) = true) : a = true ∧ b = true := by simpa using h
def filB (h s : List Int) : Bool := (wgtB h && sigB s) && sigB (ans h s)
def shoB (h s : List Int) : Bool := (wgtB h && sigB s) && sigB (tab s.length (conv h s))
def timB (h s : List Int) : Bool := (wgtB h && wgtB s) && wgtB (ans h s)
theorem filB_len {h s : List Int} (hb : filB h s = true) : (ans h s).length ≤ 2000000 := Nat.le_trans (sigB_t (and_t hb).2).1 (by omega)
theorem shoB_len {h s : List Int} (hb : shoB h s = true) : (tab s.length (conv h s)).length ≤ 2000000 := Nat.le_trans (sigB_t (and_t hb).2).1 (by omega)
theorem timB_len {h s : List Int} (hb : timB h s = true) : (ans h s).length ≤ 2000000 := Nat.le_trans (wgtB_t (and_t hb).2).1.2 (by omega)
theorem Res.form {E : TypeId} {B : Nat} {w : World} {v : Value} {xs : List Int} (h : Res E B w v xs) : (xs = [] ∧ v = .slice none 0 0) ∨ ∃ g L cap, v = .slice (some ⟨g, 0, none⟩) L cap ∧ L = xs.length ∧ L ≤ cap ∧ B ≤ g := by
  rcases h with h | ⟨g, cap, hv, hB, hr⟩
  · exact .inl h
  · exact .inr ⟨g, xs.length, cap, hv, rfl, by obtain ⟨_, _, _, h3, _⟩ := hr; exact h3, hB⟩
theorem wgt_sig {s : List Int} (h : WgtP s) : s.length ≤ 64 ∧ InP (-100000) 100000 s := ⟨Nat.le_trans h.1.2 (by omega), fun x hx => by have := h.2 x hx; omega⟩


end Go.Proofs.Ytkpfcaipbhfgkaa
