
import Derived.Test.YtbhlailnefappaaRe
import Derived.Test.YtbhlailnefappaaAns
namespace Go.MemX
open Go Go.RowKit
set_option linter.unusedVariables false

/-- what a slice with this address reads as -/
def Rd (w : World) (a : Option Addr) (xs : List Int) : Prop :=
  ∀ i x, xs[i]? = some x → ∃ b off, a = some ⟨b, off, none⟩ ∧ b < w.heap.size ∧ w.cell? ⟨b, off + i, none⟩ = some (.int .i64 x)
theorem Sl.rd {w : World} {v : Value} {xs : List Int} (h : Sl w v xs) : ∃ a n cap, v = .slice a n cap ∧ n = xs.length ∧ Rd w a xs := by
  rcases h with ⟨rfl, a, cap, rfl⟩ | ⟨b, off, n, cap, rfl, hn, h0, hc, hlt, hx⟩
  · exact ⟨a, 0, cap, rfl, rfl, fun i x h => by simp at h⟩
  · exact ⟨some ⟨b, off, none⟩, n, cap, rfl, hn, fun i x hi => ⟨b, off, rfl, hlt, hx i x hi⟩⟩
theorem Rd.kept {w w' : World} {a : Option Addr} {xs : List Int} (h : Rd w a xs) (hb : Below w.heap.size w w') : Rd w' a xs := fun i x hi => by
  obtain ⟨b, off, ha, hlt, hc⟩ := h i x hi
  exact ⟨b, off, ha, Nat.lt_of_lt_of_le hlt hb.size, by rw [hb.cell (by exact hlt)]; exact hc⟩
/-- the place and the cell of an index that lies in the list -/
theorem Rd.at {P : Program} {T : TypeId} {w : World} {a : Option Addr} {xs : List Int} (h : Rd w a xs) (n cap : Nat) (hT : P.underlying T = some (.slice (P.elem T))) (hE : ∀ w : World, (sizeOf (P.elem T)).run P w = .ok 1 w) {k : Nat} {x : Int} (hk : xs[k]? = some x) (hn : k < n) :
    ∃ b off, (∀ w : World, (Instr.indexAt T (.slice a n cap) (.int .i64 (k : Int))).run P w = .ok (.pointer (some ⟨b, off, none⟩)) w) ∧ b < w.heap.size ∧ w.cell? ⟨b, off, none⟩ = some (.int .i64 x) := by
  obtain ⟨b, off, rfl, hlt, hc⟩ := h k x hk
  refine ⟨b, off + k, fun w => ?_, hlt, hc⟩
  rw [run_indexAt_slice _ _ _ _ _ _ _ hT, if_pos (by omega), hE]
  simp [Addr.add]
end Go.MemX
