
import Derived.Test.YtaihopcmckkpbaaXi
import Derived.Deep.RegionHeld3
namespace Go.Proofs.Ytaihopcmckkpbaa
open Go.RowKit BitX Go.MemX Go.Ch6 Go.Ch9
set_option linter.unusedVariables false
def Pair9 (g : Nat) (x y : Int) (w : World) : Prop := w.heap[g]? = some (.cells #[.int .i64 x, .int .i64 y] 36 (0, 0))
theorem Pair9.cells {g : Nat} {x y : Int} {w : World} (h : Pair9 g x y w) : w.cell? ⟨g, 0, none⟩ = some (.int .i64 x) ∧ w.cell? ⟨g, 1, none⟩ = some (.int .i64 y) :=
  ⟨by rw [cell_of_row w g 0 _ _ _ h]; rfl, by rw [cell_of_row w g 1 _ _ _ h]; rfl⟩
theorem Pair9.free {g : Nat} {x y : Int} {w : World} (h : Pair9 g x y w) (i : Nat) : w.frozen? ⟨g, i, none⟩ = false := frozen_of_row w g i _ _ h
theorem Pair9.lt {g : Nat} {x y : Int} {w : World} (h : Pair9 g x y w) : g < w.heap.size := lt_of_block h
theorem Pair9.same {g : Nat} {x y : Int} {w w' : World} (h : Pair9 g x y w) (hb : w'.heap[g]? = w.heap[g]?) : Pair9 g x y w' := by unfold Pair9; rw [hb]; exact h
theorem Pair9.kept {g : Nat} {x y : Int} {w w' : World} (h : Pair9 g x y w) (hb : Below w.heap.size w w') : Pair9 g x y w' := h.same (hb.block g h.lt)
theorem Pair9.set0 {g : Nat} {x y z : Int} {w : World} (h : Pair9 g x y w) : Pair9 g z y (w.setCell ⟨g, 0, none⟩ (.int .i64 z)) := by unfold Pair9; rw [heap_setCell_same _ _ _ _ _ _ h]; rfl
theorem Pair9.set1 {g : Nat} {x y z : Int} {w : World} (h : Pair9 g x y w) : Pair9 g x z (w.setCell ⟨g, 1, none⟩ (.int .i64 z)) := by unfold Pair9; rw [heap_setCell_same _ _ _ _ _ _ h]; rfl
theorem Pair9.new (x y : Int) (w : World) : Pair9 w.heap.size x y (w.alloc (.cells #[.int .i64 x, .int .i64 y] 36)) := by
  show (w.heap.push _)[w.heap.size]? = some _
  simp
theorem pair_eq {x y x' y' : Int} (h1 : x = x') (h2 : y = y') : Ending.returned (.agg #[.int .i64 x, .int .i64 y]) = .returned (.agg #[.int .i64 x', .int .i64 y']) := by rw [h1, h2]


set_option maxHeartbeats 1000000 in
theorem tnTurn_40 (j : Nat) (w : World) (hj : j ≤ 1000) (hr : j % 4 = 0) :
    Calls Try.prog 32 #[.int .i64 4, .int .i64 (j : Int)] w fun e w' => e = .returned (.agg #[.int .i64 (1), .int .i64 (0)]) ∧ Below w.heap.size w w' := by
  have e2 : ∀ [Inhabited Unit], (j : Int).tmod 4 = 0 := by rw [Int.tmod_eq_emod_of_nonneg (by omega)]; omega
  clear hr
  go_enter Try.func32, Try.ntmps32
  go_wp2
  refine bodyPost_ret (v := .agg #[.int .i64 (1), .int .i64 (0)]) (by simp [results, Try.results32, go_sem]) rfl ⟨rfl, ?_⟩
  repeat (first | exact Below.refl _ _ | refine Below.setCell ?_ (by simp <;> omega) _ | refine Below.alloc ?_ (by simp <;> omega) _)


set_option maxHeartbeats 1000000 in
theorem tnTurn_41 (j : Nat) (w : World) (hj : j ≤ 1000) (hr : j % 4 = 1) :
    Calls Try.prog 32 #[.int .i64 4, .int .i64 (j : Int)] w fun e w' => e = .returned (.agg #[.int .i64 (0), .int .i64 (1)]) ∧ Below w.heap.size w w' := by
  have e2 : ∀ [Inhabited Unit], (j : Int).tmod 4 = 1 := by rw [Int.tmod_eq_emod_of_nonneg (by omega)]; omega
  clear hr
  go_enter Try.func32, Try.ntmps32
  go_wp2
  refine bodyPost_ret (v := .agg #[.int .i64 (0), .int .i64 (1)]) (by simp [results, Try.results32, go_sem]) rfl ⟨rfl, ?_⟩
  repeat (first | exact Below.refl _ _ | refine Below.setCell ?_ (by simp <;> omega) _ | refine Below.alloc ?_ (by simp <;> omega) _)


set_option maxHeartbeats 1000000 in
theorem tnTurn_42 (j : Nat) (w : World) (hj : j ≤ 1000) (hr : j % 4 = 2) :
    Calls Try.prog 32 #[.int .i64 4, .int .i64 (j : Int)] w fun e w' => e = .returned (.agg #[.int .i64 (-1), .int .i64 (0)]) ∧ Below w.heap.size w w' := by
  have e2 : ∀ [Inhabited Unit], (j : Int).tmod 4 = 2 := by rw [Int.tmod_eq_emod_of_nonneg (by omega)]; omega
  clear hr
  go_enter Try.func32, Try.ntmps32
  go_wp2
  refine bodyPost_ret (v := .agg #[.int .i64 (-1), .int .i64 (0)]) (by simp [results, Try.results32, go_sem]) rfl ⟨rfl, ?_⟩
  repeat (first | exact Below.refl _ _ | refine Below.setCell ?_ (by simp <;> omega) _ | refine Below.alloc ?_ (by simp <;> omega) _)


set_option maxHeartbeats 1000000 in
theorem tnTurn_43 (j : Nat) (w : World) (hj : j ≤ 1000) (hr : j % 4 = 3) :
    Calls Try.prog 32 #[.int .i64 4, .int .i64 (j : Int)] w fun e w' => e = .returned (.agg #[.int .i64 (0), .int .i64 (-1)]) ∧ Below w.heap.size w w' := by
  have e2 : ∀ [Inhabited Unit], (j : Int).tmod 4 = 3 := by rw [Int.tmod_eq_emod_of_nonneg (by omega)]; omega
  clear hr
  go_enter Try.func32, Try.ntmps32
  go_wp2
  refine bodyPost_ret (v := .agg #[.int .i64 (0), .int .i64 (-1)]) (by simp [results, Try.results32, go_sem]) rfl ⟨rfl, ?_⟩
  repeat (first | exact Below.refl _ _ | refine Below.setCell ?_ (by simp <;> omega) _ | refine Below.alloc ?_ (by simp <;> omega) _)


theorem tnTurn_4 (j : Nat) (w : World) (hj : j ≤ 1000) :
    Calls Try.prog 32 #[.int .i64 4, .int .i64 (j : Int)] w fun e w' => e = .returned (.agg #[.int .i64 (tuX 4 j), .int .i64 (tuY 4 j)]) ∧ Below w.heap.size w w' := by
  have hlt : j % 4 < 4 := Nat.mod_lt _ (by omega)
  have hx : tuX 4 j = t4X (j % 4) := rfl
  have hy : tuY 4 j = t4Y (j % 4) := rfl
  rw [hx, hy]
  generalize hm : j % 4 = m at *
  match m, hlt with
  | 0, _ => exact tnTurn_40 j w hj hm
  | 1, _ => exact tnTurn_41 j w hj hm
  | 2, _ => exact tnTurn_42 j w hj hm
  | 3, _ => exact tnTurn_43 j w hj hm


set_option maxHeartbeats 1000000 in
theorem tnTurn_60 (j : Nat) (w : World) (hj : j ≤ 1000) (hr : j % 6 = 0) :
    Calls Try.prog 32 #[.int .i64 6, .int .i64 (j : Int)] w fun e w' => e = .returned (.agg #[.int .i64 (1), .int .i64 (0)]) ∧ Below w.heap.size w w' := by
  have e2 : ∀ [Inhabited Unit], (j : Int).tmod 6 = 0 := by rw [Int.tmod_eq_emod_of_nonneg (by omega)]; omega
  clear hr
  go_enter Try.func32, Try.ntmps32
  go_wp2
  refine bodyPost_ret (v := .agg #[.int .i64 (1), .int .i64 (0)]) (by simp [results, Try.results32, go_sem]) rfl ⟨rfl, ?_⟩
  repeat (first | exact Below.refl _ _ | refine Below.setCell ?_ (by simp <;> omega) _ | refine Below.alloc ?_ (by simp <;> omega) _)


set_option maxHeartbeats 1000000 in
theorem tnTurn_61 (j : Nat) (w : World) (hj : j ≤ 1000) (hr : j % 6 = 1) :
    Calls Try.prog 32 #[.int .i64 6, .int .i64 (j : Int)] w fun e w' => e = .returned (.agg #[.int .i64 (0), .int .i64 (1)]) ∧ Below w.heap.size w w' := by
  have e2 : ∀ [Inhabited Unit], (j : Int).tmod 6 = 1 := by rw [Int.tmod_eq_emod_of_nonneg (by omega)]; omega
  clear hr
  go_enter Try.func32, Try.ntmps32
  go_wp2
  refine bodyPost_ret (v := .agg #[.int .i64 (0), .int .i64 (1)]) (by simp [results, Try.results32, go_sem]) rfl ⟨rfl, ?_⟩
  repeat (first | exact Below.refl _ _ | refine Below.setCell ?_ (by simp <;> omega) _ | refine Below.alloc ?_ (by simp <;> omega) _)


set_option maxHeartbeats 1000000 in
theorem tnTurn_62 (j : Nat) (w : World) (hj : j ≤ 1000) (hr : j % 6 = 2) :
    Calls Try.prog 32 #[.int .i64 6, .int .i64 (j : Int)] w fun e w' => e = .returned (.agg #[.int .i64 (-1), .int .i64 (1)]) ∧ Below w.heap.size w w' := by
  have e2 : ∀ [Inhabited Unit], (j : Int).tmod 6 = 2 := by rw [Int.tmod_eq_emod_of_nonneg (by omega)]; omega
  clear hr
  go_enter Try.func32, Try.ntmps32
  go_wp2
  refine bodyPost_ret (v := .agg #[.int .i64 (-1), .int .i64 (1)]) (by simp [results, Try.results32, go_sem]) rfl ⟨rfl, ?_⟩
  repeat (first | exact Below.refl _ _ | refine Below.setCell ?_ (by simp <;> omega) _ | refine Below.alloc ?_ (by simp <;> omega) _)


set_option maxHeartbeats 1000000 in
theorem tnTurn_63 (j : Nat) (w : World) (hj : j ≤ 1000) (hr : j % 6 = 3) :
    Calls Try.prog 32 #[.int .i64 6, .int .i64 (j : Int)] w fun e w' => e = .returned (.agg #[.int .i64 (-1), .int .i64 (0)]) ∧ Below w.heap.size w w' := by
  have e2 : ∀ [Inhabited Unit], (j : Int).tmod 6 = 3 := by rw [Int.tmod_eq_emod_of_nonneg (by omega)]; omega
  clear hr
  go_enter Try.func32, Try.ntmps32
  go_wp2
  refine bodyPost_ret (v := .agg #[.int .i64 (-1), .int .i64 (0)]) (by simp [results, Try.results32, go_sem]) rfl ⟨rfl, ?_⟩
  repeat (first | exact Below.refl _ _ | refine Below.setCell ?_ (by simp <;> omega) _ | refine Below.alloc ?_ (by simp <;> omega) _)


set_option maxHeartbeats 1000000 in
theorem tnTurn_64 (j : Nat) (w : World) (hj : j ≤ 1000) (hr : j % 6 = 4) :
    Calls Try.prog 32 #[.int .i64 6, .int .i64 (j : Int)] w fun e w' => e = .returned (.agg #[.int .i64 (0), .int .i64 (-1)]) ∧ Below w.heap.size w w' := by
  have e2 : ∀ [Inhabited Unit], (j : Int).tmod 6 = 4 := by rw [Int.tmod_eq_emod_of_nonneg (by omega)]; omega
  clear hr
  go_enter Try.func32, Try.ntmps32
  go_wp2
  refine bodyPost_ret (v := .agg #[.int .i64 (0), .int .i64 (-1)]) (by simp [results, Try.results32, go_sem]) rfl ⟨rfl, ?_⟩
  repeat (first | exact Below.refl _ _ | refine Below.setCell ?_ (by simp <;> omega) _ | refine Below.alloc ?_ (by simp <;> omega) _)


set_option maxHeartbeats 1000000 in
theorem tnTurn_65 (j : Nat) (w : World) (hj : j ≤ 1000) (hr : j % 6 = 5) :
    Calls Try.prog 32 #[.int .i64 6, .int .i64 (j : Int)] w fun e w' => e = .returned (.agg #[.int .i64 (1), .int .i64 (-1)]) ∧ Below w.heap.size w w' := by
  have e2 : ∀ [Inhabited Unit], (j : Int).tmod 6 = 5 := by rw [Int.tmod_eq_emod_of_nonneg (by omega)]; omega
  clear hr
  go_enter Try.func32, Try.ntmps32
  go_wp2
  refine bodyPost_ret (v := .agg #[.int .i64 (1), .int .i64 (-1)]) (by simp [results, Try.results32, go_sem]) rfl ⟨rfl, ?_⟩
  repeat (first | exact Below.refl _ _ | refine Below.setCell ?_ (by simp <;> omega) _ | refine Below.alloc ?_ (by simp <;> omega) _)


theorem tnTurn_6 (j : Nat) (w : World) (hj : j ≤ 1000) :
    Calls Try.prog 32 #[.int .i64 6, .int .i64 (j : Int)] w fun e w' => e = .returned (.agg #[.int .i64 (tuX 6 j), .int .i64 (tuY 6 j)]) ∧ Below w.heap.size w w' := by
  have hlt : j % 6 < 6 := Nat.mod_lt _ (by omega)
  have hx : tuX 6 j = t6X (j % 6) := rfl
  have hy : tuY 6 j = t6Y (j % 6) := rfl
  rw [hx, hy]
  generalize hm : j % 6 = m at *
  match m, hlt with
  | 0, _ => exact tnTurn_60 j w hj hm
  | 1, _ => exact tnTurn_61 j w hj hm
  | 2, _ => exact tnTurn_62 j w hj hm
  | 3, _ => exact tnTurn_63 j w hj hm
  | 4, _ => exact tnTurn_64 j w hj hm
  | 5, _ => exact tnTurn_65 j w hj hm

theorem sig9_at0 {s : List Int} (h : SigP s) (i : Nat) : -100000 ≤ at0 s i ∧ at0 s i ≤ 100000 := by
  by_cases hi : i < s.length
  · obtain ⟨x, hx⟩ := get_lt s i hi
    rw [at0_of hx]; exact h.2 x (List.mem_of_getElem? hx)
  · rw [at0_out (by omega)]; omega


set_option maxHeartbeats 4000000 in
theorem tnTone_4 (v : Value) (s : List Int) (K : Nat) (w : World) (hs : Sl w v s) (hg : SigP s) (hK : K < 4) :
    Calls Try.prog 24 #[v, .int .i64 4, .int .i64 (K : Int)] w fun e w' => e = .returned (.agg #[.int .i64 (toX s 4 K s.length), .int .i64 (toY s 4 K s.length)]) ∧ Below w.heap.size w w' := by
  obtain ⟨a, n, cap, rfl, hn, hrd⟩ := hs.rd
  have Hn := hid hn
  have Hrd := hid hrd
  have hl' : n ≤ 64 := by rw [hn]; exact hg.1
  have HS := hid (sig9_at0 hg)
  clear hs hn hrd hg
  go_enter Try.func24, Try.ntmps24
  go_wp2_with fail
  go_loopw [14] (fun i wr => ∃ k : Nat, k ≤ n ∧ i = .int .i64 k ∧ Pair9 (w.heap.size + 1) (toX s 4 K k) (toY s 4 K k) wr ∧ Pair9 w.heap.size 0 0 wr ∧ Below w.heap.size w wr)
    (fun i _ => n - (intOf i).toNat)
  case atStart => exact ⟨0, by omega, rfl, by have := Pair9.new 0 0 (w.alloc (.cells #[.int .i64 0, .int .i64 0] 36)); rw [show (w.alloc (.cells #[.int .i64 0, .int .i64 0] 36)).heap.size = w.heap.size + 1 from by simp] at this; exact this, (Pair9.new 0 0 w).kept (bel_alloc _ _), bel_step (bel_alloc _ _) (bel_alloc _ _)⟩
  case round =>
    obtain ⟨k, hk, rfl, hp, hq, hb⟩ := hrel
    have hsz : w.heap.size + 1 < wr.heap.size := hp.lt
    by_cases hlk : k < n
    · obtain ⟨x, hkx⟩ := get_lt s k (by rw [← Hn.out]; exact hlk)
      obtain ⟨bb, oo, hix, hbb, hce⟩ := (Hrd.out.kept hb).at (P := Try.prog) (T := 22) n cap uslice sone hkx hlk
      obtain ⟨⟨X1, X2⟩, ⟨Y1, Y2⟩⟩ := to_in HS.out 4 K k
      obtain ⟨x1, x2⟩ := HS.out k
      have hst := And.intro (toX_succ s 4 K k) (toY_succ s 4 K k)
      rw [at0_of hkx] at x1 x2 hst
      obtain ⟨m, hm⟩ : ∃ m, m = (4 - K) * k := ⟨_, rfl⟩
      have hm4 : m ≤ 400 := by rw [hm]; exact Nat.le_trans (Nat.mul_le_mul (show 4 - K ≤ 4 by omega) (show k ≤ 64 by omega)) (by omega)
      have hmi : ((4 : Int) - (K : Int)) * (k : Int) = (m : Int) := by rw [hm, show ((4 : Int) - (K : Int)) = ((4 - K : Nat) : Int) from by omega]; exact (Int.natCast_mul _ _).symm
      rw [← hm] at hst
      have HE := hid (show wrap64 (((4 : Int) - (K : Int)) * (k : Int)) = (m : Int) from by rw [hmi]; exact IntWalk.wrap64_in _ (by clear hm hmi; omega))
      have e1 : ∀ [Inhabited Unit], wrap64 (((4 : Int) - (K : Int)) * (k : Int)) = (m : Int) := HE.out
      have e1b : ∀ [Inhabited Unit], ((4 : Int) - (K : Int)) * (k : Int) = (m : Int) := hmi
      obtain ⟨u1, u2⟩ := tuX_in 4 m
      obtain ⟨v1, v2⟩ := tuY_in 4 m
      have b1 := unit_in x1 x2 u1 u2
      have b2 := unit_in x1 x2 v1 v2
      generalize toX s 4 K k = X at *
      generalize toY s 4 K k = Y at *
      generalize htx : tuX 4 m = tx at *
      generalize hty : tuY 4 m = ty at *
      have e4 : ∀ [Inhabited Unit], wrap64 (x * tx) = x * tx := IntWalk.wrap64_in _ (by clear hm hmi; omega)
      have e5 : ∀ [Inhabited Unit], wrap64 (x * ty) = x * ty := IntWalk.wrap64_in _ (by clear hm hmi; omega)
      have Hst := hid hst
      have Hp := hid hp
      have Hq := hid hq
      have Hxy := hid (And.intro htx hty)
      clear hkx hst hm hmi hp hq htx hty
      go_wp2_with fail
      refine (tnTurn_4 m _ (by omega)).mono ?_
      rintro e w2 ⟨rfl, hb2⟩
      rw [Hxy.out.1, Hxy.out.2]
      have hb3 : Below w.heap.size w (w2.alloc (.cells #[.int .i64 tx, .int .i64 ty] 36)) := (hb.trans (hb2.mono (by omega))).alloc (Nat.le_trans (by omega) hb2.size) _
      have hp3 := (Hp.out.kept hb2).kept (bel_alloc w2 (.cells #[.int .i64 tx, .int .i64 ty] 36))
      have hq3 := (Hq.out.kept hb2).kept (bel_alloc w2 (.cells #[.int .i64 tx, .int .i64 ty] 36))
      obtain ⟨c0, c1⟩ := hp3.cells
      obtain ⟨d0, d1⟩ := (Pair9.new tx ty w2).cells
      have f0 := hp3.free 0
      have f1 := hp3.free 1
      have hz := hb2.size
      have hne : w.heap.size + 1 ≠ w2.heap.size := by omega
      have hne2 : w2.heap.size ≠ w.heap.size + 1 := by omega
      have Hb3 := hid hb3
      have Hp3 := hid hp3
      have Hq3 := hid hq3
      clear hb3 hp3 hq3 hb2 hz
      go_wp2
      go_roundw
      case rel => exact ⟨k + 1, by omega, by go_num, by rw [Hst.out.1, Hst.out.2]; exact Hp3.out.set0.set1, (Hq3.out.same (heap_setCell_other _ _ _ _ (by simp))).same (heap_setCell_other _ _ _ _ (by simp)), (Hb3.out.setCell (by show w.heap.size ≤ w.heap.size + 1; omega) _).setCell (by show w.heap.size ≤ w.heap.size + 1; omega) _⟩
      case measure => simp [intOf]; omega
    · have hge : (n : Int) ≤ (k : Int) := by omega
      have hkn : k = s.length := by rw [← Hn.out]; omega
      obtain ⟨c0, c1⟩ := hp.cells
      obtain ⟨q0, q1⟩ := hq.cells
      obtain ⟨r0, r1⟩ := ((hq.set0 (z := toX s 4 K k)).set1 (z := toY s 4 K k)).cells
      have f0 := hq.free 0
      have f1 := hq.free 1
      have hzz : w.heap.size < wr.heap.size := hq.lt
      have Hk := hid hkn
      clear hkn hlk hp hq
      go_wp2
      refine bodyPost_ret (v := .agg #[.int .i64 (toX s 4 K k), .int .i64 (toY s 4 K k)]) (by simp [results, Try.results24, go_sem, r0, r1]) rfl ⟨pair_eq (by rw [Hk.out]) (by rw [Hk.out]), ?_⟩
      exact (hb.setCell (by exact Nat.le_refl _) _).setCell (by exact Nat.le_refl _) _


set_option maxHeartbeats 4000000 in
theorem tnTone_6 (v : Value) (s : List Int) (K : Nat) (w : World) (hs : Sl w v s) (hg : SigP s) (hK : K < 6) :
    Calls Try.prog 24 #[v, .int .i64 6, .int .i64 (K : Int)] w fun e w' => e = .returned (.agg #[.int .i64 (toX s 6 K s.length), .int .i64 (toY s 6 K s.length)]) ∧ Below w.heap.size w w' := by
  obtain ⟨a, n, cap, rfl, hn, hrd⟩ := hs.rd
  have Hn := hid hn
  have Hrd := hid hrd
  have hl' : n ≤ 64 := by rw [hn]; exact hg.1
  have HS := hid (sig9_at0 hg)
  clear hs hn hrd hg
  go_enter Try.func24, Try.ntmps24
  go_wp2_with fail
  go_loopw [14] (fun i wr => ∃ k : Nat, k ≤ n ∧ i = .int .i64 k ∧ Pair9 (w.heap.size + 1) (toX s 6 K k) (toY s 6 K k) wr ∧ Pair9 w.heap.size 0 0 wr ∧ Below w.heap.size w wr)
    (fun i _ => n - (intOf i).toNat)
  case atStart => exact ⟨0, by omega, rfl, by have := Pair9.new 0 0 (w.alloc (.cells #[.int .i64 0, .int .i64 0] 36)); rw [show (w.alloc (.cells #[.int .i64 0, .int .i64 0] 36)).heap.size = w.heap.size + 1 from by simp] at this; exact this, (Pair9.new 0 0 w).kept (bel_alloc _ _), bel_step (bel_alloc _ _) (bel_alloc _ _)⟩
  case round =>
    obtain ⟨k, hk, rfl, hp, hq, hb⟩ := hrel
    have hsz : w.heap.size + 1 < wr.heap.size := hp.lt
    by_cases hlk : k < n
    · obtain ⟨x, hkx⟩ := get_lt s k (by rw [← Hn.out]; exact hlk)
      obtain ⟨bb, oo, hix, hbb, hce⟩ := (Hrd.out.kept hb).at (P := Try.prog) (T := 22) n cap uslice sone hkx hlk
      obtain ⟨⟨X1, X2⟩, ⟨Y1, Y2⟩⟩ := to_in HS.out 6 K k
      obtain ⟨x1, x2⟩ := HS.out k
      have hst := And.intro (toX_succ s 6 K k) (toY_succ s 6 K k)
      rw [at0_of hkx] at x1 x2 hst
      obtain ⟨m, hm⟩ : ∃ m, m = (6 - K) * k := ⟨_, rfl⟩
      have hm4 : m ≤ 400 := by rw [hm]; exact Nat.le_trans (Nat.mul_le_mul (show 6 - K ≤ 6 by omega) (show k ≤ 64 by omega)) (by omega)
      have hmi : ((6 : Int) - (K : Int)) * (k : Int) = (m : Int) := by rw [hm, show ((6 : Int) - (K : Int)) = ((6 - K : Nat) : Int) from by omega]; exact (Int.natCast_mul _ _).symm
      rw [← hm] at hst
      have HE := hid (show wrap64 (((6 : Int) - (K : Int)) * (k : Int)) = (m : Int) from by rw [hmi]; exact IntWalk.wrap64_in _ (by clear hm hmi; omega))
      have e1 : ∀ [Inhabited Unit], wrap64 (((6 : Int) - (K : Int)) * (k : Int)) = (m : Int) := HE.out
      have e1b : ∀ [Inhabited Unit], ((6 : Int) - (K : Int)) * (k : Int) = (m : Int) := hmi
      obtain ⟨u1, u2⟩ := tuX_in 6 m
      obtain ⟨v1, v2⟩ := tuY_in 6 m
      have b1 := unit_in x1 x2 u1 u2
      have b2 := unit_in x1 x2 v1 v2
      generalize toX s 6 K k = X at *
      generalize toY s 6 K k = Y at *
      generalize htx : tuX 6 m = tx at *
      generalize hty : tuY 6 m = ty at *
      have e4 : ∀ [Inhabited Unit], wrap64 (x * tx) = x * tx := IntWalk.wrap64_in _ (by clear hm hmi; omega)
      have e5 : ∀ [Inhabited Unit], wrap64 (x * ty) = x * ty := IntWalk.wrap64_in _ (by clear hm hmi; omega)
      have Hst := hid hst
      have Hp := hid hp
      have Hq := hid hq
      have Hxy := hid (And.intro htx hty)
      clear hkx hst hm hmi hp hq htx hty
      go_wp2_with fail
      refine (tnTurn_6 m _ (by omega)).mono ?_
      rintro e w2 ⟨rfl, hb2⟩
      rw [Hxy.out.1, Hxy.out.2]
      have hb3 : Below w.heap.size w (w2.alloc (.cells #[.int .i64 tx, .int .i64 ty] 36)) := (hb.trans (hb2.mono (by omega))).alloc (Nat.le_trans (by omega) hb2.size) _
      have hp3 := (Hp.out.kept hb2).kept (bel_alloc w2 (.cells #[.int .i64 tx, .int .i64 ty] 36))
      have hq3 := (Hq.out.kept hb2).kept (bel_alloc w2 (.cells #[.int .i64 tx, .int .i64 ty] 36))
      obtain ⟨c0, c1⟩ := hp3.cells
      obtain ⟨d0, d1⟩ := (Pair9.new tx ty w2).cells
      have f0 := hp3.free 0
      have f1 := hp3.free 1
      have hz := hb2.size
      have hne : w.heap.size + 1 ≠ w2.heap.size := by omega
      have hne2 : w2.heap.size ≠ w.heap.size + 1 := by omega
      have Hb3 := hid hb3
      have Hp3 := hid hp3
      have Hq3 := hid hq3
      clear hb3 hp3 hq3 hb2 hz
      go_wp2
      go_roundw
      case rel => exact ⟨k + 1, by omega, by go_num, by rw [Hst.out.1, Hst.out.2]; exact Hp3.out.set0.set1, (Hq3.out.same (heap_setCell_other _ _ _ _ (by simp))).same (heap_setCell_other _ _ _ _ (by simp)), (Hb3.out.setCell (by show w.heap.size ≤ w.heap.size + 1; omega) _).setCell (by show w.heap.size ≤ w.heap.size + 1; omega) _⟩
      case measure => simp [intOf]; omega
    · have hge : (n : Int) ≤ (k : Int) := by omega
      have hkn : k = s.length := by rw [← Hn.out]; omega
      obtain ⟨c0, c1⟩ := hp.cells
      obtain ⟨q0, q1⟩ := hq.cells
      obtain ⟨r0, r1⟩ := ((hq.set0 (z := toX s 6 K k)).set1 (z := toY s 6 K k)).cells
      have f0 := hq.free 0
      have f1 := hq.free 1
      have hzz : w.heap.size < wr.heap.size := hq.lt
      have Hk := hid hkn
      clear hkn hlk hp hq
      go_wp2
      refine bodyPost_ret (v := .agg #[.int .i64 (toX s 6 K k), .int .i64 (toY s 6 K k)]) (by simp [results, Try.results24, go_sem, r0, r1]) rfl ⟨pair_eq (by rw [Hk.out]) (by rw [Hk.out]), ?_⟩
      exact (hb.setCell (by exact Nat.le_refl _) _).setCell (by exact Nat.le_refl _) _


set_option maxHeartbeats 1000000 in
theorem tnPower_4 (x y : Int) (w : World) (x1 : -6400000 ≤ x) (x2 : x ≤ 6400000) (y1 : -6400000 ≤ y) (y2 : y ≤ 6400000) :
    Calls Try.prog 36 #[.agg #[.int .i64 x, .int .i64 y], .int .i64 4] w fun e w' => e = .returned (.int .i64 (poI 4 x y)) ∧ Below w.heap.size w w' := by
  obtain ⟨p1, p2, p3⟩ := prods_in x1 x2 y1 y2
  have e1 : ∀ [Inhabited Unit], wrap64 (x * x) = x * x := IntWalk.wrap64_in _ (by omega)
  have e2 : ∀ [Inhabited Unit], wrap64 (y * y) = y * y := IntWalk.wrap64_in _ (by omega)
  have e3 : ∀ [Inhabited Unit], wrap64 (x * y) = x * y := IntWalk.wrap64_in _ (by omega)
  have e4 : ∀ [Inhabited Unit], wrap64 (x * x + y * y) = x * x + y * y := IntWalk.wrap64_in _ (by omega)
  have e5 : ∀ [Inhabited Unit], wrap64 (x * x + x * y) = x * x + x * y := IntWalk.wrap64_in _ (by omega)
  have e6 : ∀ [Inhabited Unit], wrap64 (x * x + x * y + y * y) = x * x + x * y + y * y := IntWalk.wrap64_in _ (by omega)
  have HP := hid (show wrap64 (x * x + y * y) = poI 4 x y from IntWalk.wrap64_in _ (by omega))
  clear p1 p2 p3
  go_enter Try.func36, Try.ntmps36
  go_wp2
  go_ret
  exact ⟨by first | exact ret_i HP.out | rfl, bel_alloc _ _⟩


set_option maxHeartbeats 1000000 in
theorem tnPower_6 (x y : Int) (w : World) (x1 : -6400000 ≤ x) (x2 : x ≤ 6400000) (y1 : -6400000 ≤ y) (y2 : y ≤ 6400000) :
    Calls Try.prog 36 #[.agg #[.int .i64 x, .int .i64 y], .int .i64 6] w fun e w' => e = .returned (.int .i64 (poI 6 x y)) ∧ Below w.heap.size w w' := by
  obtain ⟨p1, p2, p3⟩ := prods_in x1 x2 y1 y2
  have e1 : ∀ [Inhabited Unit], wrap64 (x * x) = x * x := IntWalk.wrap64_in _ (by omega)
  have e2 : ∀ [Inhabited Unit], wrap64 (y * y) = y * y := IntWalk.wrap64_in _ (by omega)
  have e3 : ∀ [Inhabited Unit], wrap64 (x * y) = x * y := IntWalk.wrap64_in _ (by omega)
  have e4 : ∀ [Inhabited Unit], wrap64 (x * x + y * y) = x * x + y * y := IntWalk.wrap64_in _ (by omega)
  have e5 : ∀ [Inhabited Unit], wrap64 (x * x + x * y) = x * x + x * y := IntWalk.wrap64_in _ (by omega)
  have e6 : ∀ [Inhabited Unit], wrap64 (x * x + x * y + y * y) = x * x + x * y + y * y := IntWalk.wrap64_in _ (by omega)
  have HP := hid (show wrap64 (x * x + x * y + y * y) = poI 6 x y from IntWalk.wrap64_in _ (by omega))
  clear p1 p2 p3
  go_enter Try.func36, Try.ntmps36
  go_wp2
  go_ret
  exact ⟨by first | exact ret_i HP.out | rfl, bel_alloc _ _⟩

end Go.Proofs.Ytaihopcmckkpbaa
