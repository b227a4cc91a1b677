
import Derived.Test.YtcaoomcmfckhcaaOd
namespace Go.Proofs.Ytcaoomcmfckhcaa
open Go.RowKit BitX Go.MemX Go.ShX
set_option linter.unusedVariables false


theorem foB_n {a k mode b : Int} (h : foB a k mode b = true) : ∃ kk n : Nat, k = kk ∧ b = n ∧ FoOk a kk mode n := by
  obtain ⟨h1, h2, h3, h4⟩ := foB_t h
  exact ⟨k.toNat, b.toNat, by omega, by omega, h1, by omega, h3, by omega, by omega⟩
theorem inW_t {n : Nat} {y : Int} (n1 : 2 ≤ n) (n2 : n ≤ 16) (h : inW n y = true) : -32768 ≤ y ∧ y ≤ 32767 := by
  have := of_decide_eq_true h
  have hp := pow_small n (by omega) n2
  simp only [Int.toNat_natCast] at this
  omega
theorem asB_n {a k mode b y x : Int} (h : asB a k mode b y x = true) : ∃ kk n : Nat, k = kk ∧ b = n ∧ FoOk a kk mode n ∧ (inW n y = true ∧ -32768 ≤ y ∧ y ≤ 32767) ∧ -100000 ≤ x ∧ x ≤ 100000 := by
  unfold asB at h
  simp only [Bool.and_eq_true] at h
  obtain ⟨h1, h2, h3⟩ := h
  obtain ⟨kk, n, rfl, rfl, ho⟩ := foB_n h1
  exact ⟨kk, n, rfl, rfl, ho, ⟨h2, inW_t ho.2.2.2.1 ho.2.2.2.2 h2⟩, of_decide_eq_true h3⟩
def fsR (a k mode b : Int) (wr : Bool) (y x : Int) : Int := onB (asB a k mode b y x) (stepI a k.toNat mode b.toNat wr x y) 0
theorem ret_ib2 {i j : Int} {b c : Bool} (h1 : i = j) (h2 : b = c) : Ending.returned (.tuple #[.int .i64 i, .bool b]) = .returned (.tuple #[.int .i64 j, .bool c]) := by rw [h1, h2]


set_option maxHeartbeats 1000000 in
theorem spec_FirstStep_is (a k mode b : Int) (wr : Bool) (y x : Int) (w : World) (y1 : -9223372036854775808 ≤ y) (y2 : y ≤ 9223372036854775807) :
    Calls Try.prog 19 #[.agg #[.int .i64 a, .int .i64 k, .int .i64 mode, .int .i64 b, .bool wr], .int .i64 y, .int .i64 x] w fun e w' => e = .returned (.tuple #[.int .i64 (fsR a k mode b wr y x), .bool (asB a k mode b y x)]) ∧ Below w.heap.size w w' := by
  cases hq : asB a k mode b y x
  · have HQ := hid hq
    have HR := hid (show fsR a k mode b wr y x = 0 by unfold fsR; rw [hq]; rfl)
    clear hq
    go_enter Try.func19, Try.ntmps19
    go_wp2_with fail
    refine (foAsked_q _ _ _ _ _ _ _ false _ HQ.out).mono ?_
    rintro e w1 ⟨rfl, hb⟩
    have B1 := hb
    obtain ⟨c0, c1, c2, c3, c4⟩ := box5_cells B1
    go_wp2_with fail
    go_ret2
    exact ⟨ret_ib2 HR.out.symm rfl, bel_step (bel_alloc _ _) B1⟩
  · have hr0 : fsR a k mode b wr y x = stepI a k.toNat mode b.toNat wr x y := by unfold fsR; rw [hq]; rfl
    obtain ⟨k, n, rfl, rfl, ho, ⟨_, yy1, yy2⟩, x1, x2⟩ := asB_n hq
    have HR := hid (show stepI a k mode n wr x y = fsR a k mode n wr y x from by rw [hr0]; rfl)
    have HQ := hid hq
    have HO := hid ho
    clear hq ho hr0
    go_enter Try.func19, Try.ntmps19
    go_wp2_with fail
    refine (foAsked_q _ _ _ _ _ _ _ true _ HQ.out).mono ?_
    rintro e w1 ⟨rfl, hb⟩
    have B1 := hb
    obtain ⟨c0, c1, c2, c3, c4⟩ := box5_cells B1
    go_wp2_with fail
    refine (foStep_any a k mode n wr y x _ HO.out (by omega) (by omega) (by omega) (by omega)).mono ?_
    rintro e w2 ⟨rfl, hb⟩
    have B2 := bel_step B1 hb
    go_wp2_with fail
    go_ret2
    exact ⟨ret_ib2 HR.out rfl, bel_step (bel_alloc _ _) B2⟩


set_option maxHeartbeats 1000000 in
theorem impl_FirstStep_is (a k mode b : Int) (wr : Bool) (y x : Int) (w : World) (y1 : -9223372036854775808 ≤ y) (y2 : y ≤ 9223372036854775807) :
    Calls Try.prog 20 #[.agg #[.int .i64 a, .int .i64 k, .int .i64 mode, .int .i64 b, .bool wr], .int .i64 y, .int .i64 x] w fun e w' => e = .returned (.tuple #[.int .i64 (fsR a k mode b wr y x), .bool (asB a k mode b y x)]) ∧ Below w.heap.size w w' := by
  cases hq : asB a k mode b y x
  · have HQ := hid hq
    have HR := hid (show fsR a k mode b wr y x = 0 by unfold fsR; rw [hq]; rfl)
    clear hq
    go_enter Try.func20, Try.ntmps20
    go_wp2_with fail
    refine (canStep_q _ _ _ _ _ _ _ false _ y1 y2 HQ.out).mono ?_
    rintro e w1 ⟨rfl, hb⟩
    have B1 := hb
    obtain ⟨c0, c1, c2, c3, c4⟩ := box5_cells B1
    go_wp2_with fail
    go_ret2
    exact ⟨ret_ib2 HR.out.symm rfl, bel_step (bel_alloc _ _) B1⟩
  · have hr0 : fsR a k mode b wr y x = stepI a k.toNat mode b.toNat wr x y := by unfold fsR; rw [hq]; rfl
    obtain ⟨k, n, rfl, rfl, ho, ⟨_, yy1, yy2⟩, x1, x2⟩ := asB_n hq
    have HR := hid (show stepI a k mode n wr x y = fsR a k mode n wr y x from by rw [hr0]; rfl)
    have HQ := hid hq
    have HO := hid ho
    clear hq ho hr0
    go_enter Try.func20, Try.ntmps20
    go_wp2_with fail
    refine (canStep_q _ _ _ _ _ _ _ true _ y1 y2 HQ.out).mono ?_
    rintro e w1 ⟨rfl, hb⟩
    have B1 := hb
    obtain ⟨c0, c1, c2, c3, c4⟩ := box5_cells B1
    go_wp2_with fail
    refine (stepWith_any a k mode n wr x _ HO.out (by omega) (by omega)).mono ?_
    rintro e w2 ⟨⟨lb, rfl, hn⟩, hb⟩
    have B2 := bel_step B1 hb
    have Hn := hid hn
    have eg : ∀ (args : Array Value) (w : World), (callFunc 58 args).run Try.prog w = .ok (.enter 58 args) w := enterT1
    clear hn
    go_wp2_with (go_at_fn 58; refine (Hn.out _ y (Below.refl _ _) (by omega) (by omega)).mono ?_; rintro e w3 ⟨rfl, hb⟩; have B3 := bel_step B2 hb)
    go_ret2
    exact ⟨ret_ib2 HR.out rfl, bel_step (bel_alloc _ _) B3⟩


set_option maxHeartbeats 1600000 in
theorem gen_FnExactFirstStep (a k mode b : Int) (wr : Bool) (y : Int) (x : Int)  (r0 : Int) (r1 : Bool) (w : World)  (hspec : ∀ (w : World) , Calls Try.prog 19 #[.agg #[.int .i64 a, .int .i64 k, .int .i64 mode, .int .i64 b, .bool wr], .int .i64 y, .int .i64 x] w fun e w' => e = .returned (.tuple #[.int .i64 r0, .bool r1]) ∧ Below w.heap.size w w') (himpl : ∀ (w : World) , Calls Try.prog 20 #[.agg #[.int .i64 a, .int .i64 k, .int .i64 mode, .int .i64 b, .bool wr], .int .i64 y, .int .i64 x] w fun e w' => e = .returned (.tuple #[.int .i64 r0, .bool r1]) ∧ Below w.heap.size w w') :
    Calls Try.prog 7 #[.agg #[.int .i64 a, .int .i64 k, .int .i64 mode, .int .i64 b, .bool wr], .int .i64 y, .int .i64 x] w fun e w' => e = .returned (.bool true) ∧ Below w.heap.size w w' := by
  have HSP := hid hspec
  have HIM := hid himpl
  clear hspec himpl
  all_goals cases r1
  all_goals
    go_enter Try.func7, Try.ntmps7
    go_wp2_with fail
    refine (toFirst_any _ _ _ _ _ _).mono ?_
    rintro e w1 ⟨rfl, hb⟩
    have B1 := hb
    have hz1 : w.heap.size ≤ w1.heap.size := by first | exact hb.size | (have := hb.size; simp at this; omega)
    obtain ⟨ca1, cb1, cc1, cd1, ce1⟩ := box5_cells B1
    go_wp2_with fail
    refine (HSP.out _).mono ?_
    rintro e w2 ⟨rfl, hb⟩
    have B2 := bel_step B1 hb
    have hz2 : w1.heap.size ≤ w2.heap.size := hb.size
    obtain ⟨ca2, cb2, cc2, cd2, ce2⟩ := box5_cells B2
    go_wp2_with fail
    refine (toFirst_any _ _ _ _ _ _).mono ?_
    rintro e w3 ⟨rfl, hb⟩
    have B3 := bel_step B2 hb
    have hz3 : w2.heap.size ≤ w3.heap.size := hb.size
    obtain ⟨ca3, cb3, cc3, cd3, ce3⟩ := box5_cells B3
    go_wp2_with fail
    refine (HIM.out _).mono ?_
    rintro e w4 ⟨rfl, hb⟩
    have B4 := bel_step B3 hb
    have hz4 : w3.heap.size ≤ w4.heap.size := hb.size
    obtain ⟨ca4, cb4, cc4, cd4, ce4⟩ := box5_cells B4
    go_wp2_with fail
    go_ret
    exact ⟨rfl, bel_step (bel_alloc _ _) B4⟩


set_option maxHeartbeats 1600000 in
theorem walk_FnExactFirstStep (w : World) (a k mode b : Int) (wr : Bool) (wa : (Lit.int .i64 a).wf = true) (wk : (Lit.int .i64 k).wf = true) (wm : (Lit.int .i64 mode).wf = true) (wb : (Lit.int .i64 b).wf = true) (y : Int) (w_y : (Lit.int .i64 y).wf = true) (x : Int) (w_x : (Lit.int .i64 x).wf = true) :
    Calls Try.prog 7 #[.agg #[.int .i64 a, .int .i64 k, .int .i64 mode, .int .i64 b, .bool wr], .int .i64 y, .int .i64 x] w fun e w' => e = .returned (.bool true) ∧ Below w.heap.size w w' := by
  obtain ⟨y_1, y_2⟩ := bounds_i64 w_y
  obtain ⟨x_1, x_2⟩ := bounds_i64 w_x
  exact gen_FnExactFirstStep a k mode b wr y x (fsR a k mode b wr y x) (asB a k mode b y x) w  (fun w  => spec_FirstStep_is _ _ _ _ _ _ _ _ y_1 y_2) (fun w  => impl_FirstStep_is _ _ _ _ _ _ _ _ y_1 y_2)

end Go.Proofs.Ytcaoomcmfckhcaa
