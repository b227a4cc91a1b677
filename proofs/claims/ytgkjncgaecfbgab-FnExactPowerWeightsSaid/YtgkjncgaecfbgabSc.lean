
import Derived.Test.YtgkjncgaecfbgabWg
import Derived.Test.YtgkjncgaecfbgabShelf
import Derived.Laws.IdiomCopy
namespace Go.Proofs.Ytgkjncgaecfbgab
open Go.RowKit BitX Go.MemX
set_option linter.unusedVariables false

theorem sl_cells {w : World} {b off n cap : Nat} {xs : List Int} (hx : ∀ i x, xs[i]? = some x → w.cell? ⟨b, off + i, none⟩ = some (.int .i64 x)) : ∀ j, j < xs.length → w.cell? ⟨b, off + j, none⟩ = some (.int .i64 (xs.getD j 0)) := fun j hj => by
  rw [hx j xs[j] (List.getElem?_eq_getElem hj)]; simp [List.getD_eq_getElem?_getD, hj]

theorem slEqual_is (u v : Value) (xs ys : List Int) (b : Bool) (w : World) (hu : Sl w u xs) (hv : Sl w v ys) (hl : xs.length ≤ 2000000) (hl2 : ys.length ≤ 2000000) (h : decide (xs = ys) = b) :
    Calls Try.prog 44 #[u, v] w fun e w' => e = .returned (.bool b) ∧ Below w.heap.size w w' := by
  rcases hu with ⟨rfl, a, cap, rfl⟩ | ⟨b1, o1, n, c, rfl, hn, h0, hc, hlt, hx⟩
  · obtain ⟨a2, m, d, rfl, hm, _⟩ := hv.rd
    refine (Try.slices_Equal_int_empty a a2 cap m d w (by omega)).mono fun e w' ⟨h1, h2⟩ => ⟨?_, by rw [h2]; exact Below.refl _ _⟩
    rw [h1, ← h]
    congr 2
    cases ys with
    | nil => simp at hm; subst hm; simp
    | cons y ys => simp at hm; subst hm; simp
  · rcases hv with ⟨rfl, a, cap, rfl⟩ | ⟨b2, o2, m, d, rfl, hm, h02, hc2, hlt2, hx2⟩
    · refine (Try.slices_Equal_int_lens _ _ n c 0 cap w (by omega)).mono fun e w' ⟨h1, h2⟩ => ⟨?_, by rw [h2]; exact Below.refl _ _⟩
      rw [h1, ← h]
      congr 2
      symm; apply decide_eq_false; intro e; subst e; simp at hn; omega
    · refine (Try.slices_Equal_int b1 o1 n c b2 o2 m d xs ys w (by omega) (by omega) (by omega) (by omega) (sl_cells (n := n) (cap := c) hx) (sl_cells (n := m) (cap := d) hx2)).mono fun e w' ⟨h1, q, h2⟩ => ⟨?_, by rw [h2]; exact bel_drewN _ _⟩
      rw [h1, ← h, List.take_of_length_le (by omega), List.take_of_length_le (by omega)]
      congr 2
      rw [Bool.eq_iff_iff]; simp

/-- the numbers laid into a list from place o on -/
def laid (xs : List Int) (o : Nat) : List Int → List Int
  | [] => xs
  | y :: ys => laid (xs.set o y) (o + 1) ys
theorem laid_eq (ys : List Int) : ∀ (xs : List Int) (o : Nat), o + ys.length ≤ xs.length → laid xs o ys = xs.take o ++ ys ++ xs.drop (o + ys.length) := by
  induction ys with
  | nil => intro xs o h; simp [laid]
  | cons y ys ih =>
    intro xs o h
    simp only [List.length_cons] at h
    rw [laid, ih _ _ (by simp; omega)]
    have e1 : (xs.set o y).take (o + 1) = xs.take o ++ [y] := by
      rw [List.take_add_one, List.getElem?_set_self (by omega), List.take_set_of_le (by omega)]; rfl
    have e2 : (xs.set o y).drop (o + 1 + ys.length) = xs.drop (o + (ys.length + 1)) := by
      rw [List.drop_set_of_lt (by omega)]; congr 1; omega
    rw [e1, e2]; simp
theorem row_setCells {E : TypeId} {g cap : Nat} (ys : List Int) : ∀ (o : Nat) (w : World) (xs : List Int), RowB E w g cap xs → RowB E (w.setCells g o (ys.map (Value.int .i64))) g cap (laid xs o ys) := by
  induction ys with
  | nil => intro o w xs h; exact h
  | cons y ys ih =>
    intro o w xs h
    exact ih (o + 1) _ _ (h.set o y)
theorem only_setCells {g n cap : Nat} {w : World} (vs : List Value) : ∀ (o : Nat) (w' : World), OnlyV (.slice (some ⟨g, 0, none⟩) n cap) w w' → OnlyV (.slice (some ⟨g, 0, none⟩) n cap) w (w'.setCells g o vs) := by
  induction vs with
  | nil => intro o w' h; exact h
  | cons v vs ih =>
    intro o w' h
    exact ih (o + 1) _ (h.set o v)

end Go.Proofs.Ytgkjncgaecfbgab
