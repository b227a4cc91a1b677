
import Derived.Test.YthbbceaaphfhnaaEj
namespace Go.Proofs.Ythbbceaaphfhnaa
open Go.RowKit BitX Go.MemX Go.Ch6
set_option linter.unusedVariables false
/-- the guard, hidden -/
def caB (st r : Int) : Bool := askB st r
theorem caB_of {st r : Int} {b : Bool} (h : askB st r = b) : caB st r = b := h
theorem cbW_len {st r : Int} : (onL (caB st r) (cbW r.toNat st.toNat)).length ≤ 2000000 := onL_len fun h => by
  obtain ⟨⟨a, b⟩, ⟨c, d⟩⟩ := askB_t (show askB st r = true from h)
  have := (cbW_q (r := r.toNat) (st := st.toNat) (by omega) (by omega) (by omega)).1.2
  omega


set_option maxHeartbeats 1000000 in
theorem spec_CombGain_any (st r : Int) (w : World) :
    Calls Try.prog 9 #[.int .i64 st, .int .i64 r] w fun e w' => e = .returned (.tuple #[.int .i64 (onI (caB st r) (cbG r.toNat st.toNat)), .bool (caB st r)]) ∧ Below w.heap.size w w' := by
  cases h0 : askB st r
  · have HB0 := hid h0
    clear h0
    go_enter Try.func9, Try.ntmps9
    go_wp2_with fail
    refine (cbAsked_is _ _ false _ HB0.out).mono ?_
    rintro e w' ⟨rfl, rfl⟩
    go_wp2_with fail
    go_ret2
    exact ⟨onI_no (caB_of HB0.out), Below.refl _ _⟩
  · have HB0 := hid h0
    clear h0
    have HT := hid (caB_of HB0.out)
    obtain ⟨⟨a1, a2⟩, ⟨a3, a4⟩⟩ := askB_t HB0.out
    obtain ⟨t, rfl⟩ : ∃ t : Nat, st = t := ⟨st.toNat, by omega⟩
    obtain ⟨q, rfl⟩ : ∃ q : Nat, r = q := ⟨r.toNat, by omega⟩
    have s1 : 1 ≤ t := by omega
    have s2 : t ≤ 4 := by omega
    have r1 : 1 ≤ q := by omega
    have r2 : q ≤ 8 := by omega
    clear a1 a2 a3 a4
    go_enter Try.func9, Try.ntmps9
    go_wp2_with fail
    refine (cbAsked_is _ _ true _ HB0.out).mono ?_
    rintro e w' ⟨rfl, rfl⟩
    go_wp2_with fail
    refine (cbGain_any t q _ s1 s2 r1 r2).mono ?_
    rintro e w' ⟨rfl, rfl⟩
    go_wp2_with fail
    go_ret2
    exact ⟨onI_yes HT.out rfl, Below.refl _ _⟩


set_option maxHeartbeats 1000000 in
theorem spec_BoxAnswer_any (st r : Int) (w : World) :
    Calls Try.prog 11 #[.int .i64 st, .int .i64 r] w (Gives w (onL (caB st r) (cbW r.toNat st.toNat)) (caB st r)) := by
  cases h0 : askB st r
  · have HB0 := hid h0
    clear h0
    go_enter Try.func11, Try.ntmps11
    go_wp2_with fail
    refine (cbAsked_is _ _ false _ HB0.out).mono ?_
    rintro e w' ⟨rfl, rfl⟩
    go_wp2_with fail
    go_ret2
    exact gives_no (caB_of HB0.out) (Below.refl _ _)
  · have HB0 := hid h0
    clear h0
    have HT := hid (caB_of HB0.out)
    obtain ⟨⟨a1, a2⟩, ⟨a3, a4⟩⟩ := askB_t HB0.out
    obtain ⟨t, rfl⟩ : ∃ t : Nat, st = t := ⟨st.toNat, by omega⟩
    obtain ⟨q, rfl⟩ : ∃ q : Nat, r = q := ⟨r.toNat, by omega⟩
    have s1 : 1 ≤ t := by omega
    have s2 : t ≤ 4 := by omega
    have r1 : 1 ≤ q := by omega
    have r2 : q ≤ 8 := by omega
    clear a1 a2 a3 a4
    go_enter Try.func11, Try.ntmps11
    go_wp2_with fail
    refine (cbAsked_is _ _ true _ HB0.out).mono ?_
    rintro e w' ⟨rfl, rfl⟩
    go_wp2_with fail
    refine (cbBox_any t q _ s1 s2 r1 r2).mono ?_
    rintro e w1 ⟨v_R, rfl, R, hb⟩
    have B1 := hb
    go_wp2_with fail
    go_ret2
    exact gives_yes HT.out R B1


set_option maxHeartbeats 1000000 in
theorem impl_CombGain_any (st r : Int) (w : World) :
    Calls Try.prog 10 #[.int .i64 st, .int .i64 r] w fun e w' => e = .returned (.tuple #[.int .i64 (onI (caB st r) (cbG r.toNat st.toNat)), .bool (caB st r)]) ∧ Below w.heap.size w w' := by
  cases h0 : askB st r
  · have HB0 := hid h0
    clear h0
    go_enter Try.func10, Try.ntmps10
    go_wp2_with fail
    refine (isComb_is _ _ false _ HB0.out).mono ?_
    rintro e w' ⟨rfl, rfl⟩
    go_wp2_with fail
    go_ret2
    exact ⟨onI_no (caB_of HB0.out), Below.refl _ _⟩
  · have HB0 := hid h0
    clear h0
    have HT := hid (caB_of HB0.out)
    obtain ⟨⟨a1, a2⟩, ⟨a3, a4⟩⟩ := askB_t HB0.out
    obtain ⟨t, rfl⟩ : ∃ t : Nat, st = t := ⟨st.toNat, by omega⟩
    obtain ⟨q, rfl⟩ : ∃ q : Nat, r = q := ⟨r.toNat, by omega⟩
    have s1 : 1 ≤ t := by omega
    have s2 : t ≤ 4 := by omega
    have r1 : 1 ≤ q := by omega
    have r2 : q ≤ 8 := by omega
    clear a1 a2 a3 a4
    go_enter Try.func10, Try.ntmps10
    go_wp2_with fail
    refine (isComb_is _ _ true _ HB0.out).mono ?_
    rintro e w' ⟨rfl, rfl⟩
    go_wp2_with fail
    refine (combGain_any t q _ s1 s2 r1 r2).mono ?_
    rintro e w' ⟨rfl, rfl⟩
    go_wp2_with fail
    go_ret2
    exact ⟨onI_yes HT.out rfl, Below.refl _ _⟩


set_option maxHeartbeats 1000000 in
theorem impl_BoxAnswer_any (st r : Int) (w : World) :
    Calls Try.prog 12 #[.int .i64 st, .int .i64 r] w (Gives w (onL (caB st r) (cbW r.toNat st.toNat)) (caB st r)) := by
  cases h0 : askB st r
  · have HB0 := hid h0
    clear h0
    go_enter Try.func12, Try.ntmps12
    go_wp2_with fail
    refine (isComb_is _ _ false _ HB0.out).mono ?_
    rintro e w' ⟨rfl, rfl⟩
    go_wp2_with fail
    go_ret2
    exact gives_no (caB_of HB0.out) (Below.refl _ _)
  · have HB0 := hid h0
    clear h0
    have HT := hid (caB_of HB0.out)
    obtain ⟨⟨a1, a2⟩, ⟨a3, a4⟩⟩ := askB_t HB0.out
    obtain ⟨t, rfl⟩ : ∃ t : Nat, st = t := ⟨st.toNat, by omega⟩
    obtain ⟨q, rfl⟩ : ∃ q : Nat, r = q := ⟨r.toNat, by omega⟩
    have s1 : 1 ≤ t := by omega
    have s2 : t ≤ 4 := by omega
    have r1 : 1 ≤ q := by omega
    have r2 : q ≤ 8 := by omega
    clear a1 a2 a3 a4
    go_enter Try.func12, Try.ntmps12
    go_wp2_with fail
    refine (isComb_is _ _ true _ HB0.out).mono ?_
    rintro e w' ⟨rfl, rfl⟩
    go_wp2_with fail
    refine (combWeights_any t q _ s1 s2 r1 r2).mono ?_
    rintro e w1 ⟨v_R, rfl, R, hb⟩
    have B1 := hb
    go_wp2_with fail
    go_ret2
    exact gives_yes HT.out R B1


set_option maxHeartbeats 1600000 in
theorem gen_FnExactCombGain (st : Int) (r : Int)  (r0 : Int) (r1 : Bool) (w : World)  (hspec : ∀ (w : World) , Calls Try.prog 9 #[.int .i64 st, .int .i64 r] w fun e w' => e = .returned (.tuple #[.int .i64 r0, .bool r1]) ∧ Below w.heap.size w w') (himpl : ∀ (w : World) , Calls Try.prog 10 #[.int .i64 st, .int .i64 r] w fun e w' => e = .returned (.tuple #[.int .i64 r0, .bool r1]) ∧ Below w.heap.size w w') :
    Calls Try.prog 3 #[.int .i64 st, .int .i64 r] w fun e w' => e = .returned (.bool true) ∧ Below w.heap.size w w' := by
  have HSP := hid hspec
  have HIM := hid himpl
  clear hspec himpl
  all_goals cases r1
  all_goals
    go_enter Try.func3, Try.ntmps3
    go_wp2_with fail
    refine (HSP.out _).mono ?_
    rintro e w1 ⟨rfl, hb⟩
    have B1 := hb
    have hz1 : w.heap.size ≤ w1.heap.size := by first | exact hb.size | (have := hb.size; simp at this; omega)
    go_wp2_with fail
    refine (HIM.out _).mono ?_
    rintro e w2 ⟨rfl, hb⟩
    have B2 := bel_step B1 hb
    have hz2 : w1.heap.size ≤ w2.heap.size := hb.size
    go_wp2_with fail
    go_ret
    exact ⟨rfl, B2⟩


set_option maxHeartbeats 1600000 in
theorem walk_FnExactCombGain (w : World) (st : Int) (w_st : (Lit.int .i64 st).wf = true) (r : Int) (w_r : (Lit.int .i64 r).wf = true) :
    Calls Try.prog 3 #[.int .i64 st, .int .i64 r] w fun e w' => e = .returned (.bool true) ∧ Below w.heap.size w w' := by
  obtain ⟨st_1, st_2⟩ := bounds_i64 w_st
  obtain ⟨r_1, r_2⟩ := bounds_i64 w_r
  exact gen_FnExactCombGain st r _ _ w  (fun w  => spec_CombGain_any st r w) (fun w  => impl_CombGain_any st r w)


set_option maxHeartbeats 1600000 in
theorem gen_FnExactBoxAnswer (st : Int) (r : Int)  (ys : List Int) (ok : Bool) (w : World)  (hy : ys.length ≤ 2000000) (hspec : ∀ (w : World) , Calls Try.prog 11 #[.int .i64 st, .int .i64 r] w (Gives w ys ok)) (himpl : ∀ (w : World) , Calls Try.prog 12 #[.int .i64 st, .int .i64 r] w (Gives w ys ok)) :
    Calls Try.prog 4 #[.int .i64 st, .int .i64 r] w fun e w' => e = .returned (.bool true) ∧ Below w.heap.size w w' := by
  have HSP := hid hspec
  have HIM := hid himpl
  clear hspec himpl
  all_goals cases ok
  all_goals
    go_enter Try.func4, Try.ntmps4
    go_wp2_with fail
    refine (HSP.out _).mono ?_
    rintro e w1 ⟨v_R0, rfl, R0, hb⟩
    have B1 := hb
    have hz1 : w.heap.size ≤ w1.heap.size := by first | exact hb.size | (have := hb.size; simp at this; omega)
    have hlt0 : ∀ g, v_R0.ownBlock = some g → g < w1.heap.size := fun g hg => R0.lt hg
    have Hlt0 := hid hlt0
    clear hlt0
    go_wp2_with fail
    refine (HIM.out _).mono ?_
    rintro e w2 ⟨v_R1, rfl, R1, hb⟩
    have B2 := bel_step B1 hb
    have hz2 : w1.heap.size ≤ w2.heap.size := hb.size
    have R0_2 := R0.kept hb
    have hne01 : ∀ g, v_R0.ownBlock = some g → v_R1.ownBlock ≠ some g := fun g hg e => by have a1 := R1.ge e; have a2 := Hlt0.out g hg; omega
    have Hne01 := hid hne01
    clear hne01
    have hge1 : ∀ g, v_R1.ownBlock = some g → w1.heap.size ≤ g := fun g hg => R1.ge hg
    have Hge1 := hid hge1
    clear hge1
    go_wp2_with fail
    refine (eqIntS_same _ _ ys _ R1.sl R0_2.sl hy).mono ?_
    rintro e w3 ⟨rfl, hb⟩
    have B3 := bel_step B2 hb
    have hz3 : w2.heap.size ≤ w3.heap.size := hb.size
    have R0_3 := R0_2.kept hb
    have R1_3 := R1.kept hb
    go_wp2_with fail
    refine (markIntS_one _ ys _ _ R1_3 hy).mono ?_
    rintro e w4 ⟨rfl, ho, M⟩
    have B4 := B3.trans (ho.below fun g hg => Nat.le_trans B1.size (Hge1.out g hg))
    have hz4 : w3.heap.size ≤ w4.heap.size := Nat.le_of_eq ho.size.symm
    have R0_4 := R0_3.only ho Hne01.out
    go_wp2_with fail
    refine (heldIntS_one _ ys.length _ _ M hy).mono ?_
    rintro e w' ⟨rfl, rfl⟩
    go_wp2_with fail
    refine (HIM.out _).mono ?_
    rintro e w5 ⟨v_R2, rfl, R2, hb⟩
    have B5 := bel_step B4 hb
    have hz5 : w4.heap.size ≤ w5.heap.size := hb.size
    have R0_5 := R0_4.kept hb
    have M_5 := M.kept hb
    go_wp2_with fail
    refine (eqIntS_same _ _ ys _ R2.sl R0_5.sl hy).mono ?_
    rintro e w6 ⟨rfl, hb⟩
    have B6 := bel_step B5 hb
    have hz6 : w5.heap.size ≤ w6.heap.size := hb.size
    have R0_6 := R0_5.kept hb
    have M_6 := M_5.kept hb
    have R2_6 := R2.kept hb
    go_wp2_with fail
    refine (heldIntS_one _ ys.length _ _ M_6 hy).mono ?_
    rintro e w' ⟨rfl, rfl⟩
    go_wp2_with fail
    go_ret
    exact ⟨rfl, B6⟩


set_option maxHeartbeats 1600000 in
theorem walk_FnExactBoxAnswer (w : World) (st : Int) (w_st : (Lit.int .i64 st).wf = true) (r : Int) (w_r : (Lit.int .i64 r).wf = true) :
    Calls Try.prog 4 #[.int .i64 st, .int .i64 r] w fun e w' => e = .returned (.bool true) ∧ Below w.heap.size w w' := by
  obtain ⟨st_1, st_2⟩ := bounds_i64 w_st
  obtain ⟨r_1, r_2⟩ := bounds_i64 w_r
  exact gen_FnExactBoxAnswer st r _ _ w cbW_len (fun w  => spec_BoxAnswer_any st r w) (fun w  => impl_BoxAnswer_any st r w)

end Go.Proofs.Ythbbceaaphfhnaa
