
import Derived.Test.YtkpfcaipbhfgkaaRm
namespace Go.Proofs.Ytkpfcaipbhfgkaa
open Go.RowKit BitX Go.MemX
set_option linter.unusedVariables false


theorem bel_undrew2 {X w : World} (h : Below X.drew.heap.size X.drew w) : Below X.heap.size X w := (Below.refl _ X).drew.trans h
/-- x and noughts behind it -/
def impS (n : Nat) (x : Int) : List Int := (List.replicate n 0).set 0 x
theorem impS_len (n : Nat) (x : Int) : (impS n x).length = n := by simp [impS]


set_option maxHeartbeats 400000 in
theorem impulse_any (x : Int) (m : Nat) (w : World) (hm : m ≤ 64) :
    Calls Try.prog 42 #[.int .i64 x, .int .i64 (m : Int)] w (GivesL w (impS m x)) := by
  have hmk := run_make_ints (P := Try.prog) 31 3 uslice iint m (by omega)
  by_cases h0 : m = 0
  · have hz0 : ¬ (0 : Int) < (m : Int) := by omega
    have e : impS m x = List.replicate m 0 := by rw [h0]; rfl
    have He := hid e
    clear h0 e
    go_enter Try.func42, Try.ntmps42
    go_wp2
    go_ret
    refine ⟨_, rfl, .inr ⟨w.heap.size, m, by rw [impS_len]; rfl, Nat.le_refl _, ?_⟩, bel_alloc _ _⟩
    have := (show Blk 3 (w.alloc (.cells (intsA (List.replicate m 0)) 3)) w.heap.size (List.replicate m 0) from heap_alloc_new _ _).row
    rw [List.length_replicate] at this
    rw [He.out]; exact this
  · have hz0 : (0 : Int) < (m : Int) := by omega
    have hx0 : (intsA (List.replicate m 0))[0]? = some (.int .i64 0) := intsA_get _ 0 0 (by rw [List.getElem?_replicate, if_pos (by omega)])
    have hx1 : (intsA (List.replicate m 0)).setIfInBounds 0 (.int .i64 x) = intsA (impS m x) := intsA_set _ 0 x
    clear h0
    go_enter Try.func42, Try.ntmps42
    go_wp2
    go_ret
    refine ⟨_, rfl, .inr ⟨w.heap.size, m, by rw [impS_len]; rfl, Nat.le_refl _, ?_⟩, bel_alloc _ _⟩
    have := (show Blk 3 (w.alloc (.cells (intsA (impS m x)) 3)) w.heap.size (impS m x) from heap_alloc_new _ _).row
    rw [impS_len] at this
    exact this

end Go.Proofs.Ytkpfcaipbhfgkaa
