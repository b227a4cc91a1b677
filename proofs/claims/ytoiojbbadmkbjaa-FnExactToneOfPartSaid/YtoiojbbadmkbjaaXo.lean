
import Derived.Test.YtoiojbbadmkbjaaXi
import Derived.Deep.RegionHeld3
namespace Go.Proofs.Ytoiojbbadmkbjaa
open Go.RowKit BitX Go.MemX Go.Ch6 Go.Ch9
set_option linter.unusedVariables false
def Pair9 (g : Nat) (x y : Int) (w : World) : Prop := w.heap[g]? = some (.cells #[.int .i64 x, .int .i64 y] 41 (0, 0))
theorem Pair9.cells {g : Nat} {x y : Int} {w : World} (h : Pair9 g x y w) : w.cell? ⟨g, 0, none⟩ = some (.int .i64 x) ∧ w.cell? ⟨g, 1, none⟩ = some (.int .i64 y) :=
  ⟨by rw [cell_of_row w g 0 _ _ _ h]; rfl, by rw [cell_of_row w g 1 _ _ _ h]; rfl⟩
theorem Pair9.free {g : Nat} {x y : Int} {w : World} (h : Pair9 g x y w) (i : Nat) : w.frozen? ⟨g, i, none⟩ = false := frozen_of_row w g i _ _ h
theorem Pair9.lt {g : Nat} {x y : Int} {w : World} (h : Pair9 g x y w) : g < w.heap.size := lt_of_block h
theorem Pair9.same {g : Nat} {x y : Int} {w w' : World} (h : Pair9 g x y w) (hb : w'.heap[g]? = w.heap[g]?) : Pair9 g x y w' := by unfold Pair9; rw [hb]; exact h
theorem Pair9.kept {g : Nat} {x y : Int} {w w' : World} (h : Pair9 g x y w) (hb : Below w.heap.size w w') : Pair9 g x y w' := h.same (hb.block g h.lt)
theorem Pair9.set0 {g : Nat} {x y z : Int} {w : World} (h : Pair9 g x y w) : Pair9 g z y (w.setCell ⟨g, 0, none⟩ (.int .i64 z)) := by unfold Pair9; rw [heap_setCell_same _ _ _ _ _ _ h]; rfl
theorem Pair9.set1 {g : Nat} {x y z : Int} {w : World} (h : Pair9 g x y w) : Pair9 g x z (w.setCell ⟨g, 1, none⟩ (.int .i64 z)) := by unfold Pair9; rw [heap_setCell_same _ _ _ _ _ _ h]; rfl
theorem Pair9.new (x y : Int) (w : World) : Pair9 w.heap.size x y (w.alloc (.cells #[.int .i64 x, .int .i64 y] 41)) := by
  show (w.heap.push _)[w.heap.size]? = some _
  simp
theorem pair_eq {x y x' y' : Int} (h1 : x = x') (h2 : y = y') : Ending.returned (.agg #[.int .i64 x, .int .i64 y]) = .returned (.agg #[.int .i64 x', .int .i64 y']) := by rw [h1, h2]


set_option maxHeartbeats 1000000 in
theorem tnTurn_40 (j : Nat) (w : World) (hj : j ≤ 1000) (hr : j % 4 = 0) :
    Calls Try.prog 24 #[.int .i64 4, .int .i64 (j : Int)] w fun e w' => e = .returned (.agg #[.int .i64 (1), .int .i64 (0)]) ∧ Below w.heap.size w w' := by
  have e2 : ∀ [Inhabited Unit], (j : Int).tmod 4 = 0 := by rw [Int.tmod_eq_emod_of_nonneg (by omega)]; omega
  clear hr
  go_enter Try.func24, Try.ntmps24
  go_wp2
  refine bodyPost_ret (v := .agg #[.int .i64 (1), .int .i64 (0)]) (by simp [results, Try.results24, go_sem]) rfl ⟨rfl, ?_⟩
  repeat (first | exact Below.refl _ _ | refine Below.setCell ?_ (by simp <;> omega) _ | refine Below.alloc ?_ (by simp <;> omega) _)


set_option maxHeartbeats 1000000 in
theorem tnTurn_41 (j : Nat) (w : World) (hj : j ≤ 1000) (hr : j % 4 = 1) :
    Calls Try.prog 24 #[.int .i64 4, .int .i64 (j : Int)] w fun e w' => e = .returned (.agg #[.int .i64 (0), .int .i64 (1)]) ∧ Below w.heap.size w w' := by
  have e2 : ∀ [Inhabited Unit], (j : Int).tmod 4 = 1 := by rw [Int.tmod_eq_emod_of_nonneg (by omega)]; omega
  clear hr
  go_enter Try.func24, Try.ntmps24
  go_wp2
  refine bodyPost_ret (v := .agg #[.int .i64 (0), .int .i64 (1)]) (by simp [results, Try.results24, go_sem]) rfl ⟨rfl, ?_⟩
  repeat (first | exact Below.refl _ _ | refine Below.setCell ?_ (by simp <;> omega) _ | refine Below.alloc ?_ (by simp <;> omega) _)


set_option maxHeartbeats 1000000 in
theorem tnTurn_42 (j : Nat) (w : World) (hj : j ≤ 1000) (hr : j % 4 = 2) :
    Calls Try.prog 24 #[.int .i64 4, .int .i64 (j : Int)] w fun e w' => e = .returned (.agg #[.int .i64 (-1), .int .i64 (0)]) ∧ Below w.heap.size w w' := by
  have e2 : ∀ [Inhabited Unit], (j : Int).tmod 4 = 2 := by rw [Int.tmod_eq_emod_of_nonneg (by omega)]; omega
  clear hr
  go_enter Try.func24, Try.ntmps24
  go_wp2
  refine bodyPost_ret (v := .agg #[.int .i64 (-1), .int .i64 (0)]) (by simp [results, Try.results24, go_sem]) rfl ⟨rfl, ?_⟩
  repeat (first | exact Below.refl _ _ | refine Below.setCell ?_ (by simp <;> omega) _ | refine Below.alloc ?_ (by simp <;> omega) _)


set_option maxHeartbeats 1000000 in
theorem tnTurn_43 (j : Nat) (w : World) (hj : j ≤ 1000) (hr : j % 4 = 3) :
    Calls Try.prog 24 #[.int .i64 4, .int .i64 (j : Int)] w fun e w' => e = .returned (.agg #[.int .i64 (0), .int .i64 (-1)]) ∧ Below w.heap.size w w' := by
  have e2 : ∀ [Inhabited Unit], (j : Int).tmod 4 = 3 := by rw [Int.tmod_eq_emod_of_nonneg (by omega)]; omega
  clear hr
  go_enter Try.func24, Try.ntmps24
  go_wp2
  refine bodyPost_ret (v := .agg #[.int .i64 (0), .int .i64 (-1)]) (by simp [results, Try.results24, go_sem]) rfl ⟨rfl, ?_⟩
  repeat (first | exact Below.refl _ _ | refine Below.setCell ?_ (by simp <;> omega) _ | refine Below.alloc ?_ (by simp <;> omega) _)


theorem tnTurn_4 (j : Nat) (w : World) (hj : j ≤ 1000) :
    Calls Try.prog 24 #[.int .i64 4, .int .i64 (j : Int)] w fun e w' => e = .returned (.agg #[.int .i64 (tuX 4 j), .int .i64 (tuY 4 j)]) ∧ Below w.heap.size w w' := by
  have hlt : j % 4 < 4 := Nat.mod_lt _ (by omega)
  have hx : tuX 4 j = t4X (j % 4) := rfl
  have hy : tuY 4 j = t4Y (j % 4) := rfl
  rw [hx, hy]
  generalize hm : j % 4 = m at *
  match m, hlt with
  | 0, _ => exact tnTurn_40 j w hj hm
  | 1, _ => exact tnTurn_41 j w hj hm
  | 2, _ => exact tnTurn_42 j w hj hm
  | 3, _ => exact tnTurn_43 j w hj hm


set_option maxHeartbeats 1000000 in
theorem tnTurn_60 (j : Nat) (w : World) (hj : j ≤ 1000) (hr : j % 6 = 0) :
    Calls Try.prog 24 #[.int .i64 6, .int .i64 (j : Int)] w fun e w' => e = .returned (.agg #[.int .i64 (1), .int .i64 (0)]) ∧ Below w.heap.size w w' := by
  have e2 : ∀ [Inhabited Unit], (j : Int).tmod 6 = 0 := by rw [Int.tmod_eq_emod_of_nonneg (by omega)]; omega
  clear hr
  go_enter Try.func24, Try.ntmps24
  go_wp2
  refine bodyPost_ret (v := .agg #[.int .i64 (1), .int .i64 (0)]) (by simp [results, Try.results24, go_sem]) rfl ⟨rfl, ?_⟩
  repeat (first | exact Below.refl _ _ | refine Below.setCell ?_ (by simp <;> omega) _ | refine Below.alloc ?_ (by simp <;> omega) _)


set_option maxHeartbeats 1000000 in
theorem tnTurn_61 (j : Nat) (w : World) (hj : j ≤ 1000) (hr : j % 6 = 1) :
    Calls Try.prog 24 #[.int .i64 6, .int .i64 (j : Int)] w fun e w' => e = .returned (.agg #[.int .i64 (0), .int .i64 (1)]) ∧ Below w.heap.size w w' := by
  have e2 : ∀ [Inhabited Unit], (j : Int).tmod 6 = 1 := by rw [Int.tmod_eq_emod_of_nonneg (by omega)]; omega
  clear hr
  go_enter Try.func24, Try.ntmps24
  go_wp2
  refine bodyPost_ret (v := .agg #[.int .i64 (0), .int .i64 (1)]) (by simp [results, Try.results24, go_sem]) rfl ⟨rfl, ?_⟩
  repeat (first | exact Below.refl _ _ | refine Below.setCell ?_ (by simp <;> omega) _ | refine Below.alloc ?_ (by simp <;> omega) _)


set_option maxHeartbeats 1000000 in
theorem tnTurn_62 (j : Nat) (w : World) (hj : j ≤ 1000) (hr : j % 6 = 2) :
    Calls Try.prog 24 #[.int .i64 6, .int .i64 (j : Int)] w fun e w' => e = .returned (.agg #[.int .i64 (-1), .int .i64 (1)]) ∧ Below w.heap.size w w' := by
  have e2 : ∀ [Inhabited Unit], (j : Int).tmod 6 = 2 := by rw [Int.tmod_eq_emod_of_nonneg (by omega)]; omega
  clear hr
  go_enter Try.func24, Try.ntmps24
  go_wp2
  refine bodyPost_ret (v := .agg #[.int .i64 (-1), .int .i64 (1)]) (by simp [results, Try.results24, go_sem]) rfl ⟨rfl, ?_⟩
  repeat (first | exact Below.refl _ _ | refine Below.setCell ?_ (by simp <;> omega) _ | refine Below.alloc ?_ (by simp <;> omega) _)


set_option maxHeartbeats 1000000 in
theorem tnTurn_63 (j : Nat) (w : World) (hj : j ≤ 1000) (hr : j % 6 = 3) :
    Calls Try.prog 24 #[.int .i64 6, .int .i64 (j : Int)] w fun e w' => e = .returned (.agg #[.int .i64 (-1), .int .i64 (0)]) ∧ Below w.heap.size w w' := by
  have e2 : ∀ [Inhabited Unit], (j : Int).tmod 6 = 3 := by rw [Int.tmod_eq_emod_of_nonneg (by omega)]; omega
  clear hr
  go_enter Try.func24, Try.ntmps24
  go_wp2
  refine bodyPost_ret (v := .agg #[.int .i64 (-1), .int .i64 (0)]) (by simp [results, Try.results24, go_sem]) rfl ⟨rfl, ?_⟩
  repeat (first | exact Below.refl _ _ | refine Below.setCell ?_ (by simp <;> omega) _ | refine Below.alloc ?_ (by simp <;> omega) _)


set_option maxHeartbeats 1000000 in
theorem tnTurn_64 (j : Nat) (w : World) (hj : j ≤ 1000) (hr : j % 6 = 4) :
    Calls Try.prog 24 #[.int .i64 6, .int .i64 (j : Int)] w fun e w' => e = .returned (.agg #[.int .i64 (0), .int .i64 (-1)]) ∧ Below w.heap.size w w' := by
  have e2 : ∀ [Inhabited Unit], (j : Int).tmod 6 = 4 := by rw [Int.tmod_eq_emod_of_nonneg (by omega)]; omega
  clear hr
  go_enter Try.func24, Try.ntmps24
  go_wp2
  refine bodyPost_ret (v := .agg #[.int .i64 (0), .int .i64 (-1)]) (by simp [results, Try.results24, go_sem]) rfl ⟨rfl, ?_⟩
  repeat (first | exact Below.refl _ _ | refine Below.setCell ?_ (by simp <;> omega) _ | refine Below.alloc ?_ (by simp <;> omega) _)


set_option maxHeartbeats 1000000 in
theorem tnTurn_65 (j : Nat) (w : World) (hj : j ≤ 1000) (hr : j % 6 = 5) :
    Calls Try.prog 24 #[.int .i64 6, .int .i64 (j : Int)] w fun e w' => e = .returned (.agg #[.int .i64 (1), .int .i64 (-1)]) ∧ Below w.heap.size w w' := by
  have e2 : ∀ [Inhabited Unit], (j : Int).tmod 6 = 5 := by rw [Int.tmod_eq_emod_of_nonneg (by omega)]; omega
  clear hr
  go_enter Try.func24, Try.ntmps24
  go_wp2
  refine bodyPost_ret (v := .agg #[.int .i64 (1), .int .i64 (-1)]) (by simp [results, Try.results24, go_sem]) rfl ⟨rfl, ?_⟩
  repeat (first | exact Below.refl _ _ | refine Below.setCell ?_ (by simp <;> omega) _ | refine Below.alloc ?_ (by simp <;> omega) _)


theorem tnTurn_6 (j : Nat) (w : World) (hj : j ≤ 1000) :
    Calls Try.prog 24 #[.int .i64 6, .int .i64 (j : Int)] w fun e w' => e = .returned (.agg #[.int .i64 (tuX 6 j), .int .i64 (tuY 6 j)]) ∧ Below w.heap.size w w' := by
  have hlt : j % 6 < 6 := Nat.mod_lt _ (by omega)
  have hx : tuX 6 j = t6X (j % 6) := rfl
  have hy : tuY 6 j = t6Y (j % 6) := rfl
  rw [hx, hy]
  generalize hm : j % 6 = m at *
  match m, hlt with
  | 0, _ => exact tnTurn_60 j w hj hm
  | 1, _ => exact tnTurn_61 j w hj hm
  | 2, _ => exact tnTurn_62 j w hj hm
  | 3, _ => exact tnTurn_63 j w hj hm
  | 4, _ => exact tnTurn_64 j w hj hm
  | 5, _ => exact tnTurn_65 j w hj hm

theorem sig9_at0 {s : List Int} (h : SigP s) (i : Nat) : -100000 ≤ at0 s i ∧ at0 s i ≤ 100000 := by
  by_cases hi : i < s.length
  · obtain ⟨x, hx⟩ := get_lt s i hi
    rw [at0_of hx]; exact h.2 x (List.mem_of_getElem? hx)
  · rw [at0_out (by omega)]; omega


end Go.Proofs.Ytoiojbbadmkbjaa
