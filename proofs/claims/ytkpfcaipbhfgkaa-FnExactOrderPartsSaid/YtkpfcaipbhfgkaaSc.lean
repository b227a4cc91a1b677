
import Derived.Test.YtkpfcaipbhfgkaaWg
import Derived.Test.YtkpfcaipbhfgkaaShelf
import Derived.Laws.IdiomCopy
namespace Go.Proofs.Ytkpfcaipbhfgkaa
open Go.RowKit BitX Go.MemX
set_option linter.unusedVariables false

theorem sl_cells {w : World} {b off n cap : Nat} {xs : List Int} (hx : ∀ i x, xs[i]? = some x → w.cell? ⟨b, off + i, none⟩ = some (.int .i64 x)) : ∀ j, j < xs.length → w.cell? ⟨b, off + j, none⟩ = some (.int .i64 (xs.getD j 0)) := fun j hj => by
  rw [hx j xs[j] (List.getElem?_eq_getElem hj)]; simp [List.getD_eq_getElem?_getD, hj]

theorem slContains_is (v : Value) (xs : List Int) (x : Int) (b : Bool) (w : World) (hs : Sl w v xs) (hl : xs.length ≤ 2000000) (h : decide (x ∈ xs) = b) :
    Calls Try.prog 53 #[v, .int .i64 x] w fun e w' => e = .returned (.bool b) ∧ w = w' := by
  rcases hs with ⟨rfl, a, cap, rfl⟩ | ⟨b1, o1, n, c, rfl, hn, h0, hc, hlt, hx⟩
  · refine (Try.slices_Contains_int_empty a cap x w).mono fun e w' ⟨h1, h2⟩ => ⟨?_, h2.symm⟩
    rw [h1, ← h]; simp
  · refine (Try.slices_Contains_int b1 o1 n c xs x w (by omega) (by omega) (sl_cells (n := n) (cap := c) hx)).mono fun e w' ⟨h1, h2⟩ => ⟨?_, h2.symm⟩
    rw [h1, ← h, List.take_of_length_le (by omega)]
    congr 2
    rw [Bool.eq_iff_iff]; simp

/-- the numbers laid into a list from place o on -/
def laid (xs : List Int) (o : Nat) : List Int → List Int
  | [] => xs
  | y :: ys => laid (xs.set o y) (o + 1) ys
theorem laid_eq (ys : List Int) : ∀ (xs : List Int) (o : Nat), o + ys.length ≤ xs.length → laid xs o ys = xs.take o ++ ys ++ xs.drop (o + ys.length) := by
  induction ys with
  | nil => intro xs o h; simp [laid]
  | cons y ys ih =>
    intro xs o h
    simp only [List.length_cons] at h
    rw [laid, ih _ _ (by simp; omega)]
    have e1 : (xs.set o y).take (o + 1) = xs.take o ++ [y] := by
      rw [List.take_add_one, List.getElem?_set_self (by omega), List.take_set_of_le (by omega)]; rfl
    have e2 : (xs.set o y).drop (o + 1 + ys.length) = xs.drop (o + (ys.length + 1)) := by
      rw [List.drop_set_of_lt (by omega)]; congr 1; omega
    rw [e1, e2]; simp
theorem row_setCells {E : TypeId} {g cap : Nat} (ys : List Int) : ∀ (o : Nat) (w : World) (xs : List Int), RowB E w g cap xs → RowB E (w.setCells g o (ys.map (Value.int .i64))) g cap (laid xs o ys) := by
  induction ys with
  | nil => intro o w xs h; exact h
  | cons y ys ih =>
    intro o w xs h
    exact ih (o + 1) _ _ (h.set o y)
theorem only_setCells {g n cap : Nat} {w : World} (vs : List Value) : ∀ (o : Nat) (w' : World), OnlyV (.slice (some ⟨g, 0, none⟩) n cap) w w' → OnlyV (.slice (some ⟨g, 0, none⟩) n cap) w (w'.setCells g o vs) := by
  induction vs with
  | nil => intro o w' h; exact h
  | cons v vs ih =>
    intro o w' h
    exact ih (o + 1) _ (h.set o v)

end Go.Proofs.Ytkpfcaipbhfgkaa
