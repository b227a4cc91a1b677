
import Derived.Test.YtbhlailnefappaaMs
namespace Go.MemX
open Go Go.RowKit

/-- block g begins with the numbers; it has cap cells -/
def RowB (E : TypeId) (w : World) (g cap : Nat) (xs : List Int) : Prop :=
  ∃ cur, w.heap[g]? = some (.cells cur E (0, 0)) ∧ cur.size = cap ∧ xs.length ≤ cap ∧ cur.toList.take xs.length = xs.map (Value.int .i64)
section
variable {E : TypeId} {w w' : World} {g cap : Nat} {xs : List Int}
theorem Blk.row (h : Blk E w g xs) : RowB E w g xs.length xs := ⟨_, h, intsA_size xs, Nat.le_refl _, by simp only [intsA]; exact List.take_of_length_le (by simp)⟩
theorem RowB.lt (h : RowB E w g cap xs) : g < w.heap.size := by obtain ⟨_, h, _⟩ := h; exact lt_of_block h
theorem RowB.cell (h : RowB E w g cap xs) {i : Nat} {x : Int} (hi : xs[i]? = some x) : w.cell? ⟨g, i, none⟩ = some (.int .i64 x) := by
  obtain ⟨cur, h1, h2, h3, h4⟩ := h
  rw [cell_of_row w g i _ _ _ h1]
  have hil : i < xs.length := (List.getElem?_eq_some_iff.1 hi).1
  have a : (cur.toList.take xs.length)[i]? = some (.int .i64 x) := by rw [h4]; simp [hi]
  rw [List.getElem?_take_of_lt hil] at a
  simpa using a
theorem RowB.free (h : RowB E w g cap xs) (i : Nat) : w.frozen? ⟨g, i, none⟩ = false := by obtain ⟨_, h, _⟩ := h; exact frozen_of_row w g i _ _ h
theorem RowB.same (h : RowB E w g cap xs) (hb : w'.heap[g]? = w.heap[g]?) : RowB E w' g cap xs := by
  obtain ⟨cur, h1, h⟩ := h; exact ⟨cur, by rw [hb]; exact h1, h⟩
theorem RowB.set (h : RowB E w g cap xs) (i : Nat) (x : Int) : RowB E (w.setCell ⟨g, i, none⟩ (.int .i64 x)) g cap (xs.set i x) := by
  obtain ⟨cur, h1, h2, h3, h4⟩ := h
  refine ⟨_, heap_setCell_same _ _ _ _ _ _ h1, by simpa using h2, by simpa using h3, ?_⟩
  rw [Array.toList_setIfInBounds, List.length_set, List.take_set, h4, List.map_set]
theorem RowB.sl (h : RowB E w g cap xs) : Sl w (.slice (some ⟨g, 0, none⟩) xs.length cap) xs := by
  by_cases h0 : xs = []
  · subst h0; exact .inl ⟨rfl, _, cap, rfl⟩
  · refine .inr ⟨g, 0, xs.length, cap, rfl, rfl, by have := List.length_pos_iff.2 h0; omega, by obtain ⟨_, _, _, h, _⟩ := h; exact h, h.lt, fun i x hi => ?_⟩
    rw [Nat.zero_add]; exact h.cell hi

/-- v is a list of the call's own, made from block B on, that holds the numbers -/
def Res (E : TypeId) (B : Nat) (w : World) (v : Value) (xs : List Int) : Prop :=
  (xs = [] ∧ v = .slice none 0 0) ∨ ∃ g cap, v = .slice (some ⟨g, 0, none⟩) xs.length cap ∧ B ≤ g ∧ RowB E w g cap xs
theorem Res.nil (E : TypeId) (B : Nat) (w : World) : Res E B w (.slice none 0 0) [] := .inl ⟨rfl, rfl⟩
variable {B : Nat} {v u : Value}
theorem Res.sl (h : Res E B w v xs) : Sl w v xs := by
  rcases h with ⟨rfl, rfl⟩ | ⟨g, cap, rfl, _, h⟩
  · exact .inl ⟨rfl, none, 0, rfl⟩
  · exact h.sl
theorem Res.lt (h : Res E B w v xs) {g : Nat} (hg : v.ownBlock = some g) : g < w.heap.size := by
  rcases h with ⟨rfl, rfl⟩ | ⟨g, cap, rfl, _, h⟩
  · cases hg
  · cases hg; exact h.lt
theorem Res.ge (h : Res E B w v xs) {g : Nat} (hg : v.ownBlock = some g) : B ≤ g := by
  rcases h with ⟨rfl, rfl⟩ | ⟨g, cap, rfl, hB, h⟩
  · cases hg
  · cases hg; exact hB
theorem Res.same (h : Res E B w v xs) (hb : ∀ g, v.ownBlock = some g → w'.heap[g]? = w.heap[g]?) : Res E B w' v xs := by
  rcases h with h | ⟨g, cap, rfl, hB, h⟩
  · exact .inl h
  · exact .inr ⟨g, cap, rfl, hB, h.same (hb g rfl)⟩
theorem Res.kept (h : Res E B w v xs) (hb : Below w.heap.size w w') : Res E B w' v xs := h.same fun g hg => hb.block g (h.lt hg)
theorem Res.mono (h : Res E B w v xs) {C : Nat} (hC : C ≤ B) : Res E C w v xs := by
  rcases h with h | ⟨g, cap, rfl, hB, h⟩
  · exact .inl h
  · exact .inr ⟨g, cap, rfl, Nat.le_trans hC hB, h⟩
theorem Blk.res (h : Blk E w g xs) (hB : B ≤ g) : Res E B w (.slice (some ⟨g, 0, none⟩) xs.length xs.length) xs := .inr ⟨g, _, rfl, hB, h.row⟩
theorem Res.owns (h : w.ownsRow B E 1 v xs.length (xs.map (Value.int .i64))) : Res E B w v xs := by
  obtain ⟨_, h | ⟨g, cap, cur, hv, hB, hh, hn, _, hs, ht⟩⟩ := h
  · exact .inl ⟨List.length_eq_zero_iff.1 h.2, h.1⟩
  · exact .inr ⟨g, cap, hv, hB, cur, hh, by simpa using hs, hn, by simpa using ht⟩

/-- the own block of v alone may have turned; no block is new -/
structure OnlyV (v : Value) (w w' : World) : Prop where
  os : w'.os = w.os
  tape : w'.tape = w.tape
  output : w'.output = w.output
  size : w'.heap.size = w.heap.size
  block : ∀ k, v.ownBlock ≠ some k → w'.heap[k]? = w.heap[k]?
theorem OnlyV.refl (v : Value) (w : World) : OnlyV v w w := ⟨rfl, rfl, rfl, rfl, fun _ _ => rfl⟩
theorem OnlyV.set {n cap : Nat} (h : OnlyV (.slice (some ⟨g, 0, none⟩) n cap) w w') (i : Nat) (x : Value) : OnlyV (.slice (some ⟨g, 0, none⟩) n cap) w (w'.setCell ⟨g, i, none⟩ x) :=
  ⟨h.os, h.tape, h.output, by rw [← h.size]; simp [World.setCell], fun k hk => by rw [Below.heap_setCell _ _ _ _ (by intro e; exact hk (by rw [e]; rfl))]; exact h.block k hk⟩
theorem OnlyV.below (h : OnlyV v w w') (hg : ∀ g, v.ownBlock = some g → B ≤ g) : Below B w w' :=
  ⟨h.os, h.tape, h.output, by rw [h.size]; exact Nat.le_refl _, fun k hk => h.block k (fun e => by have := hg k e; omega)⟩
theorem Res.only (h : Res E B w v xs) (o : OnlyV u w w') (hne : ∀ g, v.ownBlock = some g → u.ownBlock ≠ some g) : Res E B w' v xs := h.same fun g hg => o.block g (hne g hg)

/-- the marks from k on, n of them -/
def marks (k n : Nat) : List Int := (List.range n).map fun i => ((k + i : Nat) : Int)
theorem marks_len (k n : Nat) : (marks k n).length = n := by simp [marks]
theorem marks_get (k n i : Nat) (h : i < n) : (marks k n)[i]? = some ((k + i : Nat) : Int) := by simp [marks, h]
/-- marked up to i, the old numbers behind -/
def marked (xs : List Int) (k i : Nat) : List Int := marks k i ++ xs.drop i
theorem marked_zero (xs : List Int) (k : Nat) : marked xs k 0 = xs := by simp [marked, marks]
theorem marked_full (xs : List Int) (k : Nat) : marked xs k xs.length = marks k xs.length := by simp [marked]
theorem marked_len (xs : List Int) (k i : Nat) (h : i ≤ xs.length) : (marked xs k i).length = xs.length := by simp [marked, marks_len]; omega
theorem marked_step (xs : List Int) (k i : Nat) (h : i < xs.length) : (marked xs k i).set i ((k + i : Nat) : Int) = marked xs k (i + 1) := by
  unfold marked
  rw [List.set_append_right _ _ (by simp [marks_len]), marks_len, Nat.sub_self]
  have e : marks k (i + 1) = marks k i ++ [((k + i : Nat) : Int)] := by simp [marks, List.range_succ]
  rw [e, List.append_assoc]
  congr 1
  rw [List.drop_eq_getElem_cons h]; rfl
theorem marked_get (xs : List Int) (k i : Nat) (h : i < xs.length) : ∃ x, (marked xs k i)[i]? = some x := get_lt _ _ (by rw [marked_len xs k i (by omega)]; exact h)
end
end Go.MemX
