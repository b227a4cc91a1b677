
import Derived.Test.YtbhlailnefappaaMem
import Derived.OpenShut
namespace Go.MemX
open Go Go.RowKit

/-- WHAT IS KNOWN OF A SLICE OF INTEGERS THAT CAME IN: nil, or a row of cap cells -/
def IsRow (k : IntKind) (w : World) (a : Option Addr) (len cap : Nat) (zs : List Int) : Prop :=
  (a = none ∧ len = 0 ∧ cap = 0 ∧ zs = []) ∨
  ∃ x, a = some x ∧ len ≤ cap ∧ cap ≤ maxLen ∧ zs.length = cap ∧ (∀ i, i < zs.length → w.cell? (x.add i) = some (.int k (zs.getD i 0))) ∧ ∀ n ∈ zs, (Lit.int k n).wf = true

theorem IsRow.sl {w : World} {a : Option Addr} {len cap : Nat} {zs : List Int} (h : IsRow .i64 w a len cap zs) : Sl w (.slice a len cap) (zs.take len) ∧ (zs.take len).length = len ∧ ∀ x ∈ zs.take len, -9223372036854775808 ≤ x ∧ x ≤ 9223372036854775807 := by
  rcases h with ⟨rfl, rfl, rfl, rfl⟩ | ⟨x, rfl, hl, hm, hz, hcell, hw⟩
  · exact ⟨.inl ⟨rfl, none, 0, rfl⟩, rfl, by simp⟩
  · refine ⟨?_, by simp; omega, fun x hx => bounds_i64 (hw x (List.mem_of_mem_take hx))⟩
    by_cases h0 : len = 0
    · subst h0; exact .inl ⟨by simp, some x, cap, rfl⟩
    · obtain ⟨b, off, rfl, hc⟩ := ints_at hcell (by omega)
      refine .inr ⟨b, off, len, cap, rfl, by simp; omega, by omega, hl, ?_, fun i u hi => ?_⟩
      · have := hc 0 (by omega)
        exact block_lt_of_cell this
      · have hil : i < len := by
          by_cases hh : i < len
          · exact hh
          · rw [List.getElem?_take_eq_none (by omega)] at hi; cases hi
        rw [List.getElem?_take_of_lt hil] at hi
        rw [hc i (by omega)]
        simp [List.getD_eq_getElem?_getD, hi]

def intsA (xs : List Int) : Array Value := (xs.map (Value.int .i64)).toArray
theorem intsA_size (xs : List Int) : (intsA xs).size = xs.length := by simp [intsA]
theorem intsA_get (xs : List Int) (i : Nat) (x : Int) (h : xs[i]? = some x) : (intsA xs)[i]? = some (.int .i64 x) := by simp [intsA, h]
theorem intsA_set (xs : List Int) (i : Nat) (x : Int) : (intsA xs).setIfInBounds i (.int .i64 x) = intsA (xs.set i x) := by
  simp [intsA, List.map_set]
/-- block g holds just the numbers -/
def Blk (E : TypeId) (w : World) (g : Nat) (xs : List Int) : Prop := w.heap[g]? = some (.cells (intsA xs) E (0, 0))
theorem Blk.lt {E : TypeId} {w : World} {g : Nat} {xs : List Int} (h : Blk E w g xs) : g < w.heap.size := lt_of_block h
theorem Blk.cell {E : TypeId} {w : World} {g : Nat} {xs : List Int} (h : Blk E w g xs) {i : Nat} {x : Int} (hi : xs[i]? = some x) : w.cell? ⟨g, i, none⟩ = some (.int .i64 x) := by
  rw [cell_of_row w g i _ _ _ h]; exact intsA_get xs i x hi
theorem Blk.free {E : TypeId} {w : World} {g : Nat} {xs : List Int} (h : Blk E w g xs) (i : Nat) : w.frozen? ⟨g, i, none⟩ = false := frozen_of_row w g i _ _ h
theorem Blk.kept {E : TypeId} {w w' : World} {g : Nat} {xs : List Int} {B : Nat} (h : Blk E w g xs) (hb : Below B w w') (hg : g < B) : Blk E w' g xs := by
  unfold Blk; rw [hb.block g hg]; exact h
theorem Blk.set {E : TypeId} {w : World} {g : Nat} {xs : List Int} (h : Blk E w g xs) (i : Nat) (x : Int) : Blk E (w.setCell ⟨g, i, none⟩ (.int .i64 x)) g (xs.set i x) := by
  unfold Blk; rw [heap_setCell_same _ _ _ _ _ _ h, intsA_set]
theorem Blk.sl {E : TypeId} {w : World} {g : Nat} {xs : List Int} (h : Blk E w g xs) : Sl w (.slice (some ⟨g, 0, none⟩) xs.length xs.length) xs := by
  by_cases h0 : xs = []
  · subst h0; exact .inl ⟨rfl, _, 0, rfl⟩
  · refine .inr ⟨g, 0, xs.length, xs.length, rfl, rfl, by have := List.length_pos_iff.2 h0; omega, Nat.le_refl _, h.lt, fun i x hi => ?_⟩
    rw [Nat.zero_add]; exact h.cell hi

theorem madeCells_ints (n : Nat) : madeCells #[.int .i64 0] n = intsA (List.replicate n 0) := by
  apply Array.toList_inj.1
  rw [toList_madeCells_one]; simp [intsA]
theorem run_make_ints {P : Program} (T E : TypeId) (hT : P.underlying T = some (.slice E)) (hi : (P.info? E).map (fun i => (i.zero, i.size, i.bytes)) = some (some (.int .i64 0), 1, 8)) (n : Nat) (hn : n ≤ 1000000000000) (w : World) :
    (Instr.makeSlice T (.int .i64 (n : Int)) (.int .i64 (n : Int))).run P w = .ok (.slice (some ⟨w.heap.size, 0, none⟩) n n) (w.alloc (.cells (intsA (List.replicate n 0)) E)) := by
  obtain ⟨i0, hi0, hz0, hz1, hz2⟩ := info_parts hi
  have hr := run_make (P := P) w T E i0 _ hT hi0 hz0 .i64 .i64 n n (by omega) (Int.le_refl _) (by rw [hz2]; omega) (by omega)
  rw [hr, hz1]
  simp only [Int.toNat_natCast, Nat.mul_one, Value.cells, madeCells_ints]

/-- copied up to k, nought behind -/
def upTo (xs : List Int) (k : Nat) : List Int := xs.take k ++ List.replicate (xs.length - k) 0
theorem upTo_zero (xs : List Int) : upTo xs 0 = List.replicate xs.length 0 := by simp [upTo]
theorem upTo_full (xs : List Int) : upTo xs xs.length = xs := by simp [upTo]
theorem upTo_step (xs : List Int) (k : Nat) (x : Int) (h : xs[k]? = some x) : (upTo xs k).set k x = upTo xs (k + 1) := by
  have hk : k < xs.length := (List.getElem?_eq_some_iff.1 h).1
  unfold upTo
  rw [take_step xs k x h, List.set_append_right _ _ (by simp; omega)]
  have e : k - (xs.take k).length = 0 := by simp; omega
  rw [e, show xs.length - k = (xs.length - (k + 1)) + 1 from by omega, List.replicate_succ]
  simp
theorem upTo_get (xs : List Int) (k : Nat) (hk : k < xs.length) : (upTo xs k)[k]? = some 0 := by
  unfold upTo
  rw [List.getElem?_append_right (by simp; omega)]
  have e : k - (xs.take k).length = 0 := by simp; omega
  rw [e, show xs.length - k = (xs.length - (k + 1)) + 1 from by omega, List.replicate_succ]; rfl
end Go.MemX
