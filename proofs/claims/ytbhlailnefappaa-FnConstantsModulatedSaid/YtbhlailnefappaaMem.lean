
import Derived.WalkKit
import Derived.WalkSpells
import Derived.WalkLawsBesides
import Derived.Test.YtbhlailnefappaaFlt
namespace Go.MemX
open Go Go.RowKit
theorem hid {p : Prop} (h : p) : Hid p := h

def sumL : List Int → Int
  | [] => 0
  | x :: xs => x + sumL xs
theorem sumL_append (a b : List Int) : sumL (a ++ b) = sumL a + sumL b := by
  induction a with
  | nil => simp [sumL]
  | cons x a ih => simp only [List.cons_append, sumL, ih]; omega
theorem take_step {α : Type} (xs : List α) (k : Nat) (x : α) (h : xs[k]? = some x) : xs.take (k + 1) = xs.take k ++ [x] := by
  rw [List.take_add_one, h]; rfl
theorem sumL_step (xs : List Int) (k : Nat) (x : Int) (h : xs[k]? = some x) : sumL (xs.take (k + 1)) = sumL (xs.take k) + x := by
  rw [take_step xs k x h, sumL_append]; simp [sumL]
theorem get_lt {α : Type} (xs : List α) (k : Nat) (h : k < xs.length) : ∃ x, xs[k]? = some x := ⟨xs[k], by simp [h]⟩

/-- the slice value reads as the numbers -/
def Sl (w : World) (v : Value) (xs : List Int) : Prop :=
  (xs = [] ∧ ∃ a cap, v = .slice a 0 cap) ∨
  (∃ b off n cap, v = .slice (some ⟨b, off, none⟩) n cap ∧ n = xs.length ∧ 0 < n ∧ n ≤ cap ∧ b < w.heap.size ∧ ∀ i x, xs[i]? = some x → w.cell? ⟨b, off + i, none⟩ = some (.int .i64 x))

theorem Sl.kept {w w' : World} {v : Value} {xs : List Int} (h : Sl w v xs) (hb : Below w.heap.size w w') : Sl w' v xs := by
  rcases h with h | ⟨b, off, n, cap, hv, hn, h0, hc, hlt, hx⟩
  · exact .inl h
  · exact .inr ⟨b, off, n, cap, hv, hn, h0, hc, Nat.lt_of_lt_of_le hlt hb.size, fun i x hi => by rw [hb.cell (by exact hlt)]; exact hx i x hi⟩
theorem Sl.drew {w : World} {v : Value} {xs : List Int} (h : Sl w v xs) : Sl w.drew v xs := h

/-- two numbers handed over as a list -/
theorem Sl.two (w : World) (x y : Int) (t : TypeId) : Sl (w.alloc (.cells #[.int .i64 x, .int .i64 y] t)) (.slice (some ⟨w.heap.size, 0, none⟩) 2 2) [x, y] := by
  refine .inr ⟨_, 0, 2, 2, rfl, rfl, by omega, by omega, by simp, fun i u hi => ?_⟩
  rw [World.cell?_alloc_at _ _ _ _ rfl]
  match i, hi with
  | 0, hi => simp at hi; subst hi; simp
  | 1, hi => simp at hi; subst hi; simp
  | i + 2, hi => simp at hi

theorem float_add {P : Program} (t : TypeId) {a : Nat} {s x : Int} (ha : FltX.Rep Ieee.single a s) (hx : x.natAbs < 16777216) (hs : (s + x).natAbs < 16777216) :
    ∃ c, (∀ w : World, (binOp .add t (.float .f32 a) (.float .f32 (floatOfInt .f32 x))).run P w = .ok (.float .f32 c) w) ∧ FltX.Rep Ieee.single c (s + x) := by
  obtain ⟨c, hc, hr⟩ := FltX.rep_add Ieee.single FltX.ok_single ha (FltX.rep_int Ieee.single FltX.ok_single x hx) hs
  exact ⟨c, fun w => run_float_arith w .add t .f32 _ _ _ hc, hr⟩
theorem float_back {P : Program} (src dst : TypeId) {a : Nat} {s : Int} (ha : FltX.Rep Ieee.single a s) (hs : s.natAbs < 16777216) (h1 : (P.underlying src).isSome = true) (h2 : P.underlying dst = some (.int .i64)) :
    ∀ w : World, (convert src dst (.float .f32 a)).run P w = .ok (.int .i64 s) w := fun w =>
  run_convert_float_int w src dst .f32 .i64 a s h1 h2 (by
    unfold floatToIntVal
    have := FltX.rep_toInt Ieee.single ha
    simp only [FloatKind.decode, FloatKind.format, this]
    rw [if_pos]
    simp [IntKind.min, IntKind.max, IntKind.bits, IntKind.signed]; omega)
theorem rep_zero : FltX.Rep Ieee.single 0 0 := by
  have := FltX.rep_int Ieee.single FltX.ok_single 0 (by decide)
  simpa [Ieee.Format.nearest, Ieee.Format.word] using this
end Go.MemX
