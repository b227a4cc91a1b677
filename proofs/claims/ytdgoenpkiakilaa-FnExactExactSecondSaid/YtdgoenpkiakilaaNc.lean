
import Derived.Test.YtdgoenpkiakilaaNb
import Derived.Test.YtdgoenpkiakilaaOe
namespace Go.Proofs.Ytdgoenpkiakilaa
open Go.RowKit BitX Go.MemX Go.ShX
set_option linter.unusedVariables false


theorem upair : Try.prog.underlying 62 = some (.array 2 3) := by kernel_rfl
theorem ixPair : ∀ (x y : Int) (w : World), (Instr.index 62 (.agg #[.int .i64 x, .int .i64 y]) (.int .i64 0)).run Try.prog w = .ok (.int .i64 x) w := by
  intro x y w
  have hs : ∀ w : World, (sizeOf 3).run Try.prog w = .ok 1 w := fun w => rfl
  have uE : Try.prog.underlying 3 = some (.int .i64) := by kernel_rfl
  simp only [Instr.index, asIntOf, Sem.run_bind, Sem.run_pure, Result.andThen_ok, run_underlying upair]
  simp [part, isAgg, run_underlying uE, hs]
theorem soB_n {a d k mode b : Int} (h : soB a d k mode b = true) : ∃ kk n : Nat, k = kk ∧ b = n ∧ SoOk a d kk mode n := by
  obtain ⟨kk, n, rfl, rfl, ho⟩ := foB_n (soB_f h)
  exact ⟨kk, n, rfl, rfl, ho, soB_d h⟩
theorem atB_n {a d k mode b y z x : Int} (h : atB a d k mode b y z x = true) : ∃ kk n : Nat, k = kk ∧ b = n ∧ SoOk a d kk mode n ∧ (inW n y = true ∧ -32768 ≤ y ∧ y ≤ 32767) ∧ (inW n z = true ∧ -32768 ≤ z ∧ z ≤ 32767) ∧ -100000 ≤ x ∧ x ≤ 100000 := by
  unfold atB at h
  simp only [Bool.and_eq_true] at h
  obtain ⟨h1, h2, h3, h4⟩ := h
  obtain ⟨kk, n, rfl, rfl, ho⟩ := soB_n h1
  exact ⟨kk, n, rfl, rfl, ho, ⟨h2, inW_t ho.1.2.2.2.1 ho.1.2.2.2.2 h2⟩, ⟨h3, inW_t ho.1.2.2.2.1 ho.1.2.2.2.2 h3⟩, of_decide_eq_true h4⟩
def ssR (a d k mode b : Int) (wr : Bool) (y z x : Int) : Int := onB (atB a d k mode b y z x) (stepS a d k.toNat mode b.toNat wr x y z) 0


set_option maxHeartbeats 1000000 in
theorem spec_SecondStep_is (a d k mode b : Int) (wr : Bool) (y z x : Int) (w : World) (y1 : -9223372036854775808 ≤ y) (y2 : y ≤ 9223372036854775807) (z1 : -9223372036854775808 ≤ z) (z2 : z ≤ 9223372036854775807) :
    Calls Try.prog 20 #[.agg #[.int .i64 a, .int .i64 d, .int .i64 k, .int .i64 mode, .int .i64 b, .bool wr], .int .i64 y, .int .i64 z, .int .i64 x] w fun e w' => e = .returned (.tuple #[.int .i64 (ssR a d k mode b wr y z x), .bool (atB a d k mode b y z x)]) ∧ Below w.heap.size w w' := by
  cases hq : atB a d k mode b y z x
  · have HQ := hid hq
    have HR := hid (show ssR a d k mode b wr y z x = 0 by unfold ssR; rw [hq]; rfl)
    clear hq
    go_enter Try.func20, Try.ntmps20
    go_wp2_with fail
    refine (sdAsked_q _ _ _ _ _ _ _ _ _ false _ HQ.out).mono ?_
    rintro e w1 ⟨rfl, hb⟩
    have B1 := hb
    obtain ⟨c0, c1, c2, c3, c4, c5⟩ := box6_cells B1
    go_wp2_with fail
    go_ret2
    exact ⟨ret_ib2 HR.out.symm rfl, bel_step (bel_alloc _ _) B1⟩
  · have hr0 : ssR a d k mode b wr y z x = stepS a d k.toNat mode b.toNat wr x y z := by unfold ssR; rw [hq]; rfl
    obtain ⟨k, n, rfl, rfl, ho, ⟨_, yy1, yy2⟩, ⟨_, zz1, zz2⟩, x1, x2⟩ := atB_n hq
    have HR := hid (show stepS a d k mode n wr x y z = ssR a d k mode n wr y z x from by rw [hr0]; rfl)
    have HQ := hid hq
    have HO := hid ho
    clear hq ho hr0
    go_enter Try.func20, Try.ntmps20
    go_wp2_with fail
    refine (sdAsked_q _ _ _ _ _ _ _ _ _ true _ HQ.out).mono ?_
    rintro e w1 ⟨rfl, hb⟩
    have B1 := hb
    obtain ⟨c0, c1, c2, c3, c4, c5⟩ := box6_cells B1
    go_wp2_with fail
    refine (sdStep_any a d k mode n wr y z x _ HO.out (by omega) (by omega) (by omega) (by omega) (by omega) (by omega)).mono ?_
    rintro e w2 ⟨rfl, hb⟩
    have B2 := bel_step B1 hb
    go_wp2_with fail
    go_ret2
    exact ⟨ret_ib2 HR.out rfl, bel_step (bel_alloc _ _) B2⟩


set_option maxHeartbeats 1000000 in
theorem impl_SecondStep_is (a d k mode b : Int) (wr : Bool) (y z x : Int) (w : World) (y1 : -9223372036854775808 ≤ y) (y2 : y ≤ 9223372036854775807) (z1 : -9223372036854775808 ≤ z) (z2 : z ≤ 9223372036854775807) :
    Calls Try.prog 21 #[.agg #[.int .i64 a, .int .i64 d, .int .i64 k, .int .i64 mode, .int .i64 b, .bool wr], .int .i64 y, .int .i64 z, .int .i64 x] w fun e w' => e = .returned (.tuple #[.int .i64 (ssR a d k mode b wr y z x), .bool (atB a d k mode b y z x)]) ∧ Below w.heap.size w w' := by
  cases hq : atB a d k mode b y z x
  · have HQ := hid hq
    have HR := hid (show ssR a d k mode b wr y z x = 0 by unfold ssR; rw [hq]; rfl)
    clear hq
    go_enter Try.func21, Try.ntmps21
    go_wp2_with fail
    refine (canStepPair_q _ _ _ _ _ _ _ _ _ false _ y1 y2 z1 z2 HQ.out).mono ?_
    rintro e w1 ⟨rfl, hb⟩
    have B1 := hb
    obtain ⟨c0, c1, c2, c3, c4, c5⟩ := box6_cells B1
    go_wp2_with fail
    go_ret2
    exact ⟨ret_ib2 HR.out.symm rfl, bel_step (bel_alloc _ _) B1⟩
  · have hr0 : ssR a d k mode b wr y z x = stepS a d k.toNat mode b.toNat wr x y z := by unfold ssR; rw [hq]; rfl
    obtain ⟨k, n, rfl, rfl, ho, ⟨_, yy1, yy2⟩, ⟨_, zz1, zz2⟩, x1, x2⟩ := atB_n hq
    have HR := hid (show stepS a d k mode n wr x y z = ssR a d k mode n wr y z x from by rw [hr0]; rfl)
    have HQ := hid hq
    have HO := hid ho
    clear hq ho hr0
    go_enter Try.func21, Try.ntmps21
    go_wp2_with fail
    refine (canStepPair_q _ _ _ _ _ _ _ _ _ true _ y1 y2 z1 z2 HQ.out).mono ?_
    rintro e w1 ⟨rfl, hb⟩
    have B1 := hb
    obtain ⟨c0, c1, c2, c3, c4, c5⟩ := box6_cells B1
    go_wp2_with fail
    refine (pairStepWith_any a d k mode n wr x _ HO.out (by omega) (by omega)).mono ?_
    rintro e w2 ⟨⟨lb, rfl, hn⟩, hb⟩
    have B2 := bel_step B1 hb
    have Hn := hid hn
    have eg : ∀ (args : Array Value) (w : World), (callFunc 56 args).run Try.prog w = .ok (.enter 56 args) w := enterT2
    clear hn
    have hix := ixPair
    go_wp2_with (go_at_fn 56; refine (Hn.out _ y z (Below.refl _ _) (by omega) (by omega) (by omega) (by omega)).mono ?_; rintro e w3 ⟨rfl, hb⟩; have B3 := bel_step B2 hb)
    go_ret2
    exact ⟨ret_ib2 HR.out rfl, bel_step (bel_alloc _ _) B3⟩


set_option maxHeartbeats 1600000 in
theorem gen_FnExactSecondStep (a d k mode b : Int) (wr : Bool) (y : Int) (z : Int) (x : Int)  (r0 : Int) (r1 : Bool) (w : World)  (hspec : ∀ (w : World) , Calls Try.prog 20 #[.agg #[.int .i64 a, .int .i64 d, .int .i64 k, .int .i64 mode, .int .i64 b, .bool wr], .int .i64 y, .int .i64 z, .int .i64 x] w fun e w' => e = .returned (.tuple #[.int .i64 r0, .bool r1]) ∧ Below w.heap.size w w') (himpl : ∀ (w : World) , Calls Try.prog 21 #[.agg #[.int .i64 a, .int .i64 d, .int .i64 k, .int .i64 mode, .int .i64 b, .bool wr], .int .i64 y, .int .i64 z, .int .i64 x] w fun e w' => e = .returned (.tuple #[.int .i64 r0, .bool r1]) ∧ Below w.heap.size w w') :
    Calls Try.prog 7 #[.agg #[.int .i64 a, .int .i64 d, .int .i64 k, .int .i64 mode, .int .i64 b, .bool wr], .int .i64 y, .int .i64 z, .int .i64 x] w fun e w' => e = .returned (.bool true) ∧ Below w.heap.size w w' := by
  have HSP := hid hspec
  have HIM := hid himpl
  clear hspec himpl
  all_goals cases r1
  all_goals
    go_enter Try.func7, Try.ntmps7
    go_wp2_with fail
    refine (toSecond_any _ _ _ _ _ _ _).mono ?_
    rintro e w1 ⟨rfl, hb⟩
    have B1 := hb
    have hz1 : w.heap.size ≤ w1.heap.size := by first | exact hb.size | (have := hb.size; simp at this; omega)
    obtain ⟨ca1, cb1, cc1, cd1, ce1, cf1⟩ := box6_cells B1
    go_wp2_with fail
    refine (HSP.out _).mono ?_
    rintro e w2 ⟨rfl, hb⟩
    have B2 := bel_step B1 hb
    have hz2 : w1.heap.size ≤ w2.heap.size := hb.size
    obtain ⟨ca2, cb2, cc2, cd2, ce2, cf2⟩ := box6_cells B2
    go_wp2_with fail
    refine (toSecond_any _ _ _ _ _ _ _).mono ?_
    rintro e w3 ⟨rfl, hb⟩
    have B3 := bel_step B2 hb
    have hz3 : w2.heap.size ≤ w3.heap.size := hb.size
    obtain ⟨ca3, cb3, cc3, cd3, ce3, cf3⟩ := box6_cells B3
    go_wp2_with fail
    refine (HIM.out _).mono ?_
    rintro e w4 ⟨rfl, hb⟩
    have B4 := bel_step B3 hb
    have hz4 : w3.heap.size ≤ w4.heap.size := hb.size
    obtain ⟨ca4, cb4, cc4, cd4, ce4, cf4⟩ := box6_cells B4
    go_wp2_with fail
    go_ret
    exact ⟨rfl, bel_step (bel_alloc _ _) B4⟩


set_option maxHeartbeats 1600000 in
theorem walk_FnExactSecondStep (w : World) (a d k mode b : Int) (wr : Bool) (wa : (Lit.int .i64 a).wf = true) (wd : (Lit.int .i64 d).wf = true) (wk : (Lit.int .i64 k).wf = true) (wm : (Lit.int .i64 mode).wf = true) (wb : (Lit.int .i64 b).wf = true) (y : Int) (w_y : (Lit.int .i64 y).wf = true) (z : Int) (w_z : (Lit.int .i64 z).wf = true) (x : Int) (w_x : (Lit.int .i64 x).wf = true) :
    Calls Try.prog 7 #[.agg #[.int .i64 a, .int .i64 d, .int .i64 k, .int .i64 mode, .int .i64 b, .bool wr], .int .i64 y, .int .i64 z, .int .i64 x] w fun e w' => e = .returned (.bool true) ∧ Below w.heap.size w w' := by
  obtain ⟨y_1, y_2⟩ := bounds_i64 w_y
  obtain ⟨z_1, z_2⟩ := bounds_i64 w_z
  obtain ⟨x_1, x_2⟩ := bounds_i64 w_x
  exact gen_FnExactSecondStep a d k mode b wr y z x (ssR a d k mode b wr y z x) (atB a d k mode b y z x) w  (fun w  => spec_SecondStep_is _ _ _ _ _ _ _ _ _ _ y_1 y_2 z_1 z_2) (fun w  => impl_SecondStep_is _ _ _ _ _ _ _ _ _ _ y_1 y_2 z_1 z_2)

end Go.Proofs.Ytdgoenpkiakilaa
