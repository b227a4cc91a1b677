
import Derived.Test.YtdgoenpkiakilaaOe
namespace Go.Proofs.Ytdgoenpkiakilaa
open Go.RowKit BitX Go.MemX Go.ShX
set_option linter.unusedVariables false

theorem gives_of {w w2 : World} {ys zs : List Int} {b c : Bool} {e : Ending} (h1 : b = c) (h2 : ys = zs) (h : Gives w zs c e w2) : Gives w ys b e w2 := by subst h1 h2; exact h
/-- the number of a run behind so many samples -/
def runY (a : Int) (k : Nat) (mode : Int) (n : Nat) (wd : Bool) (s : List Int) (y : Int) : Nat → Int
  | 0 => y
  | i + 1 => stepI a k mode n wd (at0 s i) (runY a k mode n wd s y i)
theorem runY_succ (a : Int) (k : Nat) (mode : Int) (n : Nat) (wd : Bool) (s : List Int) (y : Int) (i : Nat) : runY a k mode n wd s y (i + 1) = stepI a k mode n wd (at0 s i) (runY a k mode n wd s y i) := rfl
def neI (a b : Int) : Int := if a = b then 0 else 1
theorem neI_lt {a b : Int} (h : a < b) : neI a b = 1 := if_neg (by omega)
theorem neI_gt {a b : Int} (h : b < a) : neI a b = 1 := if_neg (by omega)
theorem neI_eq {a b : Int} (h1 : a ≤ b) (h2 : b ≤ a) : neI a b = 0 := if_pos (by omega)
/-- at how many of the first steps fitting changes the number -/
def fitC (a : Int) (k : Nat) (mode : Int) (n : Nat) (wd : Bool) (s : List Int) (y : Int) : Nat → Int
  | 0 => 0
  | i + 1 => fitC a k mode n wd s y i + neI (fitI n wd (rawI a k mode (runY a k mode n wd s y i) (at0 s i))) (rawI a k mode (runY a k mode n wd s y i) (at0 s i))
theorem fitC_succ (a : Int) (k : Nat) (mode : Int) (n : Nat) (wd : Bool) (s : List Int) (y : Int) (i : Nat) : fitC a k mode n wd s y (i + 1) = fitC a k mode n wd s y i + neI (fitI n wd (rawI a k mode (runY a k mode n wd s y i) (at0 s i))) (rawI a k mode (runY a k mode n wd s y i) (at0 s i)) := rfl
theorem fitC_in (a : Int) (k : Nat) (mode : Int) (n : Nat) (wd : Bool) (s : List Int) (y : Int) (i : Nat) : 0 ≤ fitC a k mode n wd s y i ∧ fitC a k mode n wd s y i ≤ i := by
  induction i with
  | zero => simp [fitC]
  | succ i ih => rw [fitC_succ]; unfold neI; split <;> omega
theorem runY_in {a : Int} {k : Nat} {mode : Int} {n : Nat} {wd : Bool} {s : List Int} {y : Int} (h : FoOk a k mode n) (y1 : -100000 ≤ y) (y2 : y ≤ 100000) (i : Nat) : -100000 ≤ runY a k mode n wd s y i ∧ runY a k mode n wd s y i ≤ 100000 := by
  cases i with
  | zero => exact ⟨y1, y2⟩
  | succ i => exact step_in h
def runL (a : Int) (k : Nat) (mode : Int) (n : Nat) (wd : Bool) (s : List Int) (y : Int) : List Int := tab s.length fun i => runY a k mode n wd s y (i + 1)
theorem ret_vc {v : Value} {i j : Int} (h1 : i = j) : Ending.returned (.tuple #[v, .int .i64 i]) = .returned (.tuple #[v, .int .i64 j]) := by rw [h1]
/-- what a call leaves that hands back a new list and a number -/
def GivesC (w : World) (xs : List Int) (c : Int) (e : Ending) (w' : World) : Prop :=
  ∃ v, e = .returned (.tuple #[v, .int .i64 c]) ∧ Res 3 w.heap.size w' v xs ∧ Below w.heap.size w w'


theorem _root_.Go.RowKit.Below.cells5q {w W : World} {g : Nat} {a0 a1 a2 a3 a4 : Value} (hb : Below w.heap.size w W) (h : w.cell? ⟨g, 0, none⟩ = some a0 ∧ w.cell? ⟨g, 1, none⟩ = some a1 ∧ w.cell? ⟨g, 2, none⟩ = some a2 ∧ w.cell? ⟨g, 3, none⟩ = some a3 ∧ w.cell? ⟨g, 4, none⟩ = some a4) :
    W.cell? ⟨g, 0, none⟩ = some a0 ∧ W.cell? ⟨g, 1, none⟩ = some a1 ∧ W.cell? ⟨g, 2, none⟩ = some a2 ∧ W.cell? ⟨g, 3, none⟩ = some a3 ∧ W.cell? ⟨g, 4, none⟩ = some a4 :=
  ⟨by rw [hb.cell (by exact block_lt_of_cell h.1)]; exact h.1, by rw [hb.cell (by exact block_lt_of_cell h.2.1)]; exact h.2.1, by rw [hb.cell (by exact block_lt_of_cell h.2.2.1)]; exact h.2.2.1, by rw [hb.cell (by exact block_lt_of_cell h.2.2.2.1)]; exact h.2.2.2.1, by rw [hb.cell (by exact block_lt_of_cell h.2.2.2.2)]; exact h.2.2.2.2⟩


end Go.Proofs.Ytdgoenpkiakilaa
