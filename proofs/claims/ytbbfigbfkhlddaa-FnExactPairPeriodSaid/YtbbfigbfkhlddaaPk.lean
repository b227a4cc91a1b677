
import Derived.Test.YtbbfigbfkhlddaaPm
import Derived.Test.YtbbfigbfkhlddaaPi
namespace Go.Proofs.Ytbbfigbfkhlddaa
open Go.RowKit BitX Go.MemX Go.ShX
set_option linter.unusedVariables false


set_option maxHeartbeats 2000000 in
theorem spec_PairPeriod_is (a d k mode b : Int) (wr : Bool) (y z x : Int) (w : World) :
    Calls Try.prog 5 #[.agg #[.int .i64 a, .int .i64 d, .int .i64 k, .int .i64 mode, .int .i64 b, .bool wr], .int .i64 y, .int .i64 z, .int .i64 x] w fun e w' => e = .returned (.tuple #[.int .i64 ((((ppR a d k mode b wr y z x)).1 : Nat) : Int), .int .i64 ((((ppR a d k mode b wr y z x)).2 : Nat) : Int), .bool (decide (((ppR a d k mode b wr y z x)).2 ≠ 0))]) ∧ Below w.heap.size w w' := by
  cases hq : atB a d k mode b y z x
  · have HQ := hid hq
    have HR := hid (show ppR a d k mode b wr y z x = (0, 0) by unfold ppR; rw [hq]; rfl)
    clear hq
    go_enter Try.func5, Try.ntmps5
    go_wp2_with fail
    refine (sdAsked_q _ _ _ _ _ _ _ _ _ false _ HQ.out).mono ?_
    rintro e w1 ⟨rfl, hb⟩
    have B1 := hb
    obtain ⟨c0, c1, c2, c3, c4, c5⟩ := box6_cells B1
    go_wp2_with fail
    go_ret3
    exact ⟨ret_iib9 (by rw [HR.out]; rfl) (by rw [HR.out]; rfl) (by rw [HR.out]; rfl), bel_step (bel_alloc _ _) B1⟩
  · have hr0 : ppR a d k mode b wr y z x = perR (orb2 (nxP (stepS a d k.toNat mode b.toNat wr x)) (y, z)) := by unfold ppR; rw [if_pos hq]
    obtain ⟨k, n, rfl, rfl, ho, ⟨_, yy1, yy2⟩, ⟨_, zz1, zz2⟩, x1, x2⟩ := atB_n hq
    simp only [Int.toNat_natCast] at hr0
    have HR := hid hr0
    have HQ := hid hq
    have HO := hid ho
    have h0 := perR_zero (orb2 (nxP (stepS a d k mode n wr x)) (y, z))
    have hle := perR_le (orb2 (nxP (stepS a d k mode n wr x)) (y, z))
    have KM := fun (W : World) => sdMeet_any a d k mode n wr y z x W HO.out (by omega) (by omega) (by omega) (by omega) (by omega) (by omega)
    unfold mtV at KM
    generalize hP : orb2 (nxP (stepS a d k mode n wr x)) (y, z) (perR (orb2 (nxP (stepS a d k mode n wr x)) (y, z))).1 = P at KM
    obtain ⟨R, hRd⟩ : ∃ R, R = perR (orb2 (nxP (stepS a d k mode n wr x)) (y, z)) := ⟨_, rfl⟩
    rw [← hRd] at h0 hle KM
    have HRd := hid hRd
    obtain ⟨m, l⟩ := R
    simp only at h0 hle KM
    have H0 := hid h0
    have KM := hid KM
    clear hq ho hr0 h0 hRd hP
    go_enter Try.func5, Try.ntmps5
    go_wp2_with fail
    refine (sdAsked_q _ _ _ _ _ _ _ _ _ true _ HQ.out).mono ?_
    rintro e w1 ⟨rfl, hb⟩
    have B1 := hb
    obtain ⟨c0, c1, c2, c3, c4, c5⟩ := box6_cells B1
    go_wp2_with fail
    refine (KM.out _).mono ?_
    rintro e w2 ⟨rfl, hb⟩
    have B2 := bel_step B1 hb
    by_cases hl : l = 0
    · have hm := H0.out hl
      simp only [Prod.mk.injEq] at hm
      obtain ⟨rfl, rfl⟩ := hm
      go_wp2_with fail
      go_ret3
      exact ⟨ret_iib9 (by rw [HR.out, ← HRd.out]; rfl) (by rw [HR.out, ← HRd.out]; rfl) (by rw [HR.out, ← HRd.out]; rfl), bel_step (bel_alloc _ _) (bel_step B2 (bel_alloc _ _))⟩
    · have hl2 : ((l : Int) == 0) = false := beq_eq_false_iff_ne.2 (by omega)
      have hd : decide (l ≠ 0) = true := decide_eq_true hl
      have Hd := hid hd
      clear hl hd
      go_wp2_with fail
      go_ret3
      exact ⟨ret_iib9 (by rw [HR.out, ← HRd.out]) (by rw [HR.out, ← HRd.out]) (by rw [HR.out, ← HRd.out]; exact Hd.out.symm), bel_step (bel_alloc _ _) (bel_step B2 (bel_alloc _ _))⟩


set_option maxHeartbeats 1600000 in
theorem gen_FnExactPairPeriod (a d k mode b : Int) (wr : Bool) (y : Int) (z : Int) (x : Int)  (r0 : Int) (r1 : Int) (r2 : Bool) (w : World)  (hspec : ∀ (w : World) , Calls Try.prog 5 #[.agg #[.int .i64 a, .int .i64 d, .int .i64 k, .int .i64 mode, .int .i64 b, .bool wr], .int .i64 y, .int .i64 z, .int .i64 x] w fun e w' => e = .returned (.tuple #[.int .i64 r0, .int .i64 r1, .bool r2]) ∧ Below w.heap.size w w') (himpl : ∀ (w : World) , Calls Try.prog 7 #[.agg #[.int .i64 a, .int .i64 d, .int .i64 k, .int .i64 mode, .int .i64 b, .bool wr], .int .i64 y, .int .i64 z, .int .i64 x] w fun e w' => e = .returned (.tuple #[.int .i64 r0, .int .i64 r1, .bool r2]) ∧ Below w.heap.size w w') :
    Calls Try.prog 3 #[.agg #[.int .i64 a, .int .i64 d, .int .i64 k, .int .i64 mode, .int .i64 b, .bool wr], .int .i64 y, .int .i64 z, .int .i64 x] w fun e w' => e = .returned (.bool true) ∧ Below w.heap.size w w' := by
  have HSP := hid hspec
  have HIM := hid himpl
  clear hspec himpl
  all_goals cases r2
  all_goals
    go_enter Try.func3, Try.ntmps3
    go_wp2_with fail
    refine (toSecond_any _ _ _ _ _ _ _).mono ?_
    rintro e w1 ⟨rfl, hb⟩
    have B1 := hb
    have hz1 : w.heap.size ≤ w1.heap.size := by first | exact hb.size | (have := hb.size; simp at this; omega)
    obtain ⟨ca1, cb1, cc1, cd1, ce1, cf1⟩ := box6_cells B1
    go_wp2_with fail
    refine (HSP.out _).mono ?_
    rintro e w2 ⟨rfl, hb⟩
    have B2 := bel_step B1 hb
    have hz2 : w1.heap.size ≤ w2.heap.size := hb.size
    obtain ⟨ca2, cb2, cc2, cd2, ce2, cf2⟩ := box6_cells B2
    go_wp2_with fail
    refine (toSecond_any _ _ _ _ _ _ _).mono ?_
    rintro e w3 ⟨rfl, hb⟩
    have B3 := bel_step B2 hb
    have hz3 : w2.heap.size ≤ w3.heap.size := hb.size
    obtain ⟨ca3, cb3, cc3, cd3, ce3, cf3⟩ := box6_cells B3
    go_wp2_with fail
    refine (HIM.out _).mono ?_
    rintro e w4 ⟨rfl, hb⟩
    have B4 := bel_step B3 hb
    have hz4 : w3.heap.size ≤ w4.heap.size := hb.size
    obtain ⟨ca4, cb4, cc4, cd4, ce4, cf4⟩ := box6_cells B4
    go_wp2_with fail
    go_ret
    exact ⟨rfl, bel_step (bel_alloc _ _) B4⟩

theorem walk_FnExactPairPeriod (w : World) (a d k mode b : Int) (wr : Bool) (wa : (Lit.int .i64 a).wf = true) (wd : (Lit.int .i64 d).wf = true) (wk : (Lit.int .i64 k).wf = true) (wm : (Lit.int .i64 mode).wf = true) (wb : (Lit.int .i64 b).wf = true) (y : Int) (wy : (Lit.int .i64 y).wf = true) (z : Int) (wz : (Lit.int .i64 z).wf = true) (x : Int) (wx : (Lit.int .i64 x).wf = true) :
    Calls Try.prog 3 #[.agg #[.int .i64 a, .int .i64 d, .int .i64 k, .int .i64 mode, .int .i64 b, .bool wr], .int .i64 y, .int .i64 z, .int .i64 x] w fun e w' => e = .returned (.bool true) ∧ Below w.heap.size w w' := by
  obtain ⟨y1, y2⟩ := bounds_i64 wy
  obtain ⟨z1, z2⟩ := bounds_i64 wz
  exact gen_FnExactPairPeriod a d k mode b wr y z x _ _ _ w (fun w => spec_PairPeriod_is _ _ _ _ _ _ _ _ _ _) (fun w => impl_PairPeriod_is _ _ _ _ _ _ _ _ _ _ y1 y2 z1 z2)

end Go.Proofs.Ytbbfigbfkhlddaa
