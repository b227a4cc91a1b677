
import Derived.Test.YtgkjncgaecfbgacBm
namespace Go.Proofs.Ytgkjncgaecfbgac
open Go.RowKit BitX Go.MemX
set_option linter.unusedVariables false


theorem rev_len9 {xs : List Int} : (onB (wgtB xs) xs.reverse []).length ≤ 2000000 := by
  cases h : wgtB xs
  · simp [onB]
  · have := (wgtB_t h).1.2
    simp [onB]; omega


set_option maxHeartbeats 1600000 in
theorem gen_FnExactBackWeights (xs : List Int) (u_xs : Option Addr) (l_xs c_xs : Nat) (ys : List Int) (ok : Bool) (w : World) (hs_xs : Sl w (.slice u_xs l_xs c_xs) xs) (ll_xs : l_xs ≤ 1048576) (hl_xs : xs.length ≤ 1048576) (hy : ys.length ≤ 2000000) (hspec : ∀ (w : World) (v_xs : Value), Sl w v_xs xs → Calls Try.prog 22 #[v_xs] w (Gives w ys ok)) (himpl : ∀ (w : World) (v_xs : Value), Sl w v_xs xs → Calls Try.prog 23 #[v_xs] w (Gives w ys ok)) :
    Calls Try.prog 8 #[.slice u_xs l_xs c_xs] w fun e w' => e = .returned (.bool true) ∧ Below w.heap.size w w' := by
  have HSxs := hid hs_xs
  clear hs_xs
  have HSP := hid hspec
  have HIM := hid himpl
  clear hspec himpl
  all_goals cases ok
  all_goals
    go_enter Try.func8, Try.ntmps8
    go_wp2_with fail
    refine (toIntS_any _ xs _ HSxs.out (by omega)).mono ?_
    rintro e w1 ⟨g_Axs0, hg_Axs0, rfl, K_Axs0, hb⟩
    have B1 := hb
    have hz1 : w.heap.size ≤ w1.heap.size := by first | exact hb.size | (have := hb.size; simp at this; omega)
    have Axs0 := K_Axs0.res hg_Axs0
    go_wp2_with fail
    refine (HSP.out _ _ Axs0.sl).mono ?_
    rintro e w2 ⟨v_R0, rfl, R0, hb⟩
    have B2 := bel_step B1 hb
    have hz2 : w1.heap.size ≤ w2.heap.size := hb.size
    have Axs0_2 := Axs0.kept hb
    have hlt0 : ∀ g, v_R0.ownBlock = some g → g < w2.heap.size := fun g hg => R0.lt hg
    have Hlt0 := hid hlt0
    clear hlt0
    go_wp2_with fail
    refine (toIntS_any _ xs _ (HSxs.out.kept B2) (by omega)).mono ?_
    rintro e w3 ⟨g_Xxs, hg_Xxs, rfl, K_Xxs, hb⟩
    have B3 := bel_step B2 hb
    have hz3 : w2.heap.size ≤ w3.heap.size := hb.size
    have R0_3 := R0.kept hb
    have Xxs := K_Xxs.res hg_Xxs
    have hne_Xxs : ∀ g, v_R0.ownBlock = some g → g ≠ g_Xxs := fun g hg => by have a1 := Hlt0.out g hg; omega
    have Hne_Xxs := hid hne_Xxs
    clear hne_Xxs
    have hxl_Xxs : g_Xxs < w3.heap.size := Xxs.lt rfl
    go_wp2_with fail
    refine (HIM.out _ _ Xxs.sl).mono ?_
    rintro e w4 ⟨v_R1, rfl, R1, hb⟩
    have B4 := bel_step B3 hb
    have hz4 : w3.heap.size ≤ w4.heap.size := hb.size
    have R0_4 := R0_3.kept hb
    have Xxs_4 := Xxs.kept hb
    have hne1_Xxs : ∀ g, v_R1.ownBlock = some g → g ≠ g_Xxs := fun g hg => by have a1 := R1.ge hg; omega
    have Hne1_Xxs := hid hne1_Xxs
    clear hne1_Xxs
    have hne01 : ∀ g, v_R0.ownBlock = some g → v_R1.ownBlock ≠ some g := fun g hg e => by have a1 := R1.ge e; have a2 := Hlt0.out g hg; omega
    have Hne01 := hid hne01
    clear hne01
    have hge1 : ∀ g, v_R1.ownBlock = some g → w3.heap.size ≤ g := fun g hg => R1.ge hg
    have Hge1 := hid hge1
    clear hge1
    go_wp2_with fail
    refine (eqIntS_same _ _ ys _ R1.sl R0_4.sl hy).mono ?_
    rintro e w5 ⟨rfl, hb⟩
    have B5 := bel_step B4 hb
    have hz5 : w4.heap.size ≤ w5.heap.size := hb.size
    have R0_5 := R0_4.kept hb
    have Xxs_5 := Xxs_4.kept hb
    have R1_5 := R1.kept hb
    go_wp2_with fail
    refine (toIntS_any _ xs _ (HSxs.out.kept B5) (by omega)).mono ?_
    rintro e w6 ⟨g_TXxs, hg_TXxs, rfl, K_TXxs, hb⟩
    have B6 := bel_step B5 hb
    have hz6 : w5.heap.size ≤ w6.heap.size := hb.size
    have R0_6 := R0_5.kept hb
    have Xxs_6 := Xxs_5.kept hb
    have R1_6 := R1_5.kept hb
    have TXxs := K_TXxs.res hg_TXxs
    go_wp2_with fail
    refine (eqIntS_same _ _ xs _ Xxs_6.sl TXxs.sl (by omega)).mono ?_
    rintro e w7 ⟨rfl, hb⟩
    have B7 := bel_step B6 hb
    have hz7 : w6.heap.size ≤ w7.heap.size := hb.size
    have R0_7 := R0_6.kept hb
    have Xxs_7 := Xxs_6.kept hb
    have R1_7 := R1_6.kept hb
    have TXxs_7 := TXxs.kept hb
    go_wp2_with fail
    refine (markIntS_one _ xs _ _ Xxs_7 (by omega)).mono ?_
    rintro e w8 ⟨rfl, ho, _⟩
    have B8 := B7.trans (ho.below fun g hg => by cases hg; exact Nat.le_trans B2.size hg_Xxs)
    have hz8 : w7.heap.size ≤ w8.heap.size := Nat.le_of_eq ho.size.symm
    have R0_8 := R0_7.only ho fun g hg e => by cases e; exact Hne_Xxs.out _ hg rfl
    have R1_8 := R1_7.only ho fun g hg e => by cases e; exact Hne1_Xxs.out _ hg rfl
    go_wp2_with fail
    refine (eqIntS_same _ _ ys _ R1_8.sl R0_8.sl hy).mono ?_
    rintro e w9 ⟨rfl, hb⟩
    have B9 := bel_step B8 hb
    have hz9 : w8.heap.size ≤ w9.heap.size := hb.size
    have R0_9 := R0_8.kept hb
    have R1_9 := R1_8.kept hb
    go_wp2_with fail
    refine (markIntS_one _ ys _ _ R1_9 hy).mono ?_
    rintro e w10 ⟨rfl, ho, M⟩
    have B10 := B9.trans (ho.below fun g hg => Nat.le_trans B3.size (Hge1.out g hg))
    have hz10 : w9.heap.size ≤ w10.heap.size := Nat.le_of_eq ho.size.symm
    have R0_10 := R0_9.only ho Hne01.out
    go_wp2_with fail
    refine (heldIntS_one _ ys.length _ _ M hy).mono ?_
    rintro e w' ⟨rfl, rfl⟩
    go_wp2_with fail
    refine (toIntS_any _ xs _ (HSxs.out.kept B10) (by omega)).mono ?_
    rintro e w11 ⟨g_Axs10, hg_Axs10, rfl, K_Axs10, hb⟩
    have B11 := bel_step B10 hb
    have hz11 : w10.heap.size ≤ w11.heap.size := hb.size
    have R0_11 := R0_10.kept hb
    have M_11 := M.kept hb
    have Axs10 := K_Axs10.res hg_Axs10
    go_wp2_with fail
    refine (HIM.out _ _ Axs10.sl).mono ?_
    rintro e w12 ⟨v_R2, rfl, R2, hb⟩
    have B12 := bel_step B11 hb
    have hz12 : w11.heap.size ≤ w12.heap.size := hb.size
    have R0_12 := R0_11.kept hb
    have M_12 := M_11.kept hb
    have Axs10_12 := Axs10.kept hb
    go_wp2_with fail
    refine (eqIntS_same _ _ ys _ R2.sl R0_12.sl hy).mono ?_
    rintro e w13 ⟨rfl, hb⟩
    have B13 := bel_step B12 hb
    have hz13 : w12.heap.size ≤ w13.heap.size := hb.size
    have R0_13 := R0_12.kept hb
    have M_13 := M_12.kept hb
    have R2_13 := R2.kept hb
    go_wp2_with fail
    refine (heldIntS_one _ ys.length _ _ M_13 hy).mono ?_
    rintro e w' ⟨rfl, rfl⟩
    go_wp2_with fail
    go_ret
    exact ⟨rfl, B13⟩


set_option maxHeartbeats 1600000 in
theorem walk_FnExactBackWeights (w : World) (u_xs : Option Addr) (l_xs c_xs : Nat) (z_xs : List Int) (hr_xs : IsRow .i64 w u_xs l_xs c_xs z_xs) :
    Calls Try.prog 8 #[.slice u_xs l_xs c_xs] w fun e w' => e = .returned (.bool true) ∧ Below w.heap.size w w' := by
  obtain ⟨hs_xs, hlen_xs, hin_xs⟩ := hr_xs.sl
  generalize z_xs.take l_xs = xs at hs_xs hlen_xs hin_xs
  clear hr_xs
  by_cases hbig_xs : 1048576 < l_xs
  · clear hs_xs hlen_xs hin_xs
    go_enter Try.func8, Try.ntmps8
    go_wp2
    go_ret
    exact ⟨rfl, Below.refl _ _⟩
  · have hq_xs : l_xs ≤ 1048576 := by omega
    exact gen_FnExactBackWeights xs _ _ _ _ _ w hs_xs (by omega) (by omega) rev_len9 (fun w v_xs h_xs => spec_BackWeights_any v_xs xs w h_xs) (fun w v_xs h_xs => impl_BackWeights_any v_xs xs w h_xs)


set_option maxHeartbeats 1600000 in
theorem gen_FnExactIsSymmetric (xs : List Int) (u_xs : Option Addr) (l_xs c_xs : Nat) (r0 : Bool) (r1 : Bool) (w : World) (hs_xs : Sl w (.slice u_xs l_xs c_xs) xs) (ll_xs : l_xs ≤ 1048576) (hl_xs : xs.length ≤ 1048576) (hspec : ∀ (w : World) (v_xs : Value), Sl w v_xs xs → Calls Try.prog 18 #[v_xs] w fun e w' => e = .returned (.tuple #[.bool r0, .bool r1]) ∧ Below w.heap.size w w') (himpl : ∀ (w : World) (v_xs : Value), Sl w v_xs xs → Calls Try.prog 19 #[v_xs] w fun e w' => e = .returned (.tuple #[.bool r0, .bool r1]) ∧ Below w.heap.size w w') :
    Calls Try.prog 6 #[.slice u_xs l_xs c_xs] w fun e w' => e = .returned (.bool true) ∧ Below w.heap.size w w' := by
  have HSxs := hid hs_xs
  clear hs_xs
  have HSP := hid hspec
  have HIM := hid himpl
  clear hspec himpl
  all_goals cases r0
  all_goals cases r1
  all_goals
    go_enter Try.func6, Try.ntmps6
    go_wp2_with fail
    refine (toIntS_any _ xs _ HSxs.out (by omega)).mono ?_
    rintro e w1 ⟨g_Axs0, hg_Axs0, rfl, K_Axs0, hb⟩
    have B1 := hb
    have hz1 : w.heap.size ≤ w1.heap.size := by first | exact hb.size | (have := hb.size; simp at this; omega)
    have Axs0 := K_Axs0.res hg_Axs0
    go_wp2_with fail
    refine (HSP.out _ _ Axs0.sl).mono ?_
    rintro e w2 ⟨rfl, hb⟩
    have B2 := bel_step B1 hb
    have hz2 : w1.heap.size ≤ w2.heap.size := hb.size
    have Axs0_2 := Axs0.kept hb
    go_wp2_with fail
    refine (toIntS_any _ xs _ (HSxs.out.kept B2) (by omega)).mono ?_
    rintro e w3 ⟨g_Xxs, hg_Xxs, rfl, K_Xxs, hb⟩
    have B3 := bel_step B2 hb
    have hz3 : w2.heap.size ≤ w3.heap.size := hb.size
    have Xxs := K_Xxs.res hg_Xxs
    have hxl_Xxs : g_Xxs < w3.heap.size := Xxs.lt rfl
    go_wp2_with fail
    refine (HIM.out _ _ Xxs.sl).mono ?_
    rintro e w4 ⟨rfl, hb⟩
    have B4 := bel_step B3 hb
    have hz4 : w3.heap.size ≤ w4.heap.size := hb.size
    have Xxs_4 := Xxs.kept hb
    go_wp2_with fail
    refine (toIntS_any _ xs _ (HSxs.out.kept B4) (by omega)).mono ?_
    rintro e w5 ⟨g_TXxs, hg_TXxs, rfl, K_TXxs, hb⟩
    have B5 := bel_step B4 hb
    have hz5 : w4.heap.size ≤ w5.heap.size := hb.size
    have Xxs_5 := Xxs_4.kept hb
    have TXxs := K_TXxs.res hg_TXxs
    go_wp2_with fail
    refine (eqIntS_same _ _ xs _ Xxs_5.sl TXxs.sl (by omega)).mono ?_
    rintro e w6 ⟨rfl, hb⟩
    have B6 := bel_step B5 hb
    have hz6 : w5.heap.size ≤ w6.heap.size := hb.size
    have Xxs_6 := Xxs_5.kept hb
    have TXxs_6 := TXxs.kept hb
    go_wp2_with fail
    go_ret
    exact ⟨rfl, B6⟩


set_option maxHeartbeats 1600000 in
theorem walk_FnExactIsSymmetric (w : World) (u_xs : Option Addr) (l_xs c_xs : Nat) (z_xs : List Int) (hr_xs : IsRow .i64 w u_xs l_xs c_xs z_xs) :
    Calls Try.prog 6 #[.slice u_xs l_xs c_xs] w fun e w' => e = .returned (.bool true) ∧ Below w.heap.size w w' := by
  obtain ⟨hs_xs, hlen_xs, hin_xs⟩ := hr_xs.sl
  generalize z_xs.take l_xs = xs at hs_xs hlen_xs hin_xs
  clear hr_xs
  by_cases hbig_xs : 1048576 < l_xs
  · clear hs_xs hlen_xs hin_xs
    go_enter Try.func6, Try.ntmps6
    go_wp2
    go_ret
    exact ⟨rfl, Below.refl _ _⟩
  · have hq_xs : l_xs ≤ 1048576 := by omega
    exact gen_FnExactIsSymmetric xs _ _ _ _ _ w hs_xs (by omega) (by omega)  (fun w v_xs h_xs => spec_IsSymmetric_any v_xs xs w h_xs) (fun w v_xs h_xs => impl_IsSymmetric_any v_xs xs w h_xs)


set_option maxHeartbeats 1600000 in
theorem gen_FnExactIsMirrored (xs : List Int) (u_xs : Option Addr) (l_xs c_xs : Nat) (r0 : Bool) (r1 : Bool) (w : World) (hs_xs : Sl w (.slice u_xs l_xs c_xs) xs) (ll_xs : l_xs ≤ 1048576) (hl_xs : xs.length ≤ 1048576) (hspec : ∀ (w : World) (v_xs : Value), Sl w v_xs xs → Calls Try.prog 20 #[v_xs] w fun e w' => e = .returned (.tuple #[.bool r0, .bool r1]) ∧ Below w.heap.size w w') (himpl : ∀ (w : World) (v_xs : Value), Sl w v_xs xs → Calls Try.prog 21 #[v_xs] w fun e w' => e = .returned (.tuple #[.bool r0, .bool r1]) ∧ Below w.heap.size w w') :
    Calls Try.prog 7 #[.slice u_xs l_xs c_xs] w fun e w' => e = .returned (.bool true) ∧ Below w.heap.size w w' := by
  have HSxs := hid hs_xs
  clear hs_xs
  have HSP := hid hspec
  have HIM := hid himpl
  clear hspec himpl
  all_goals cases r0
  all_goals cases r1
  all_goals
    go_enter Try.func7, Try.ntmps7
    go_wp2_with fail
    refine (toIntS_any _ xs _ HSxs.out (by omega)).mono ?_
    rintro e w1 ⟨g_Axs0, hg_Axs0, rfl, K_Axs0, hb⟩
    have B1 := hb
    have hz1 : w.heap.size ≤ w1.heap.size := by first | exact hb.size | (have := hb.size; simp at this; omega)
    have Axs0 := K_Axs0.res hg_Axs0
    go_wp2_with fail
    refine (HSP.out _ _ Axs0.sl).mono ?_
    rintro e w2 ⟨rfl, hb⟩
    have B2 := bel_step B1 hb
    have hz2 : w1.heap.size ≤ w2.heap.size := hb.size
    have Axs0_2 := Axs0.kept hb
    go_wp2_with fail
    refine (toIntS_any _ xs _ (HSxs.out.kept B2) (by omega)).mono ?_
    rintro e w3 ⟨g_Xxs, hg_Xxs, rfl, K_Xxs, hb⟩
    have B3 := bel_step B2 hb
    have hz3 : w2.heap.size ≤ w3.heap.size := hb.size
    have Xxs := K_Xxs.res hg_Xxs
    have hxl_Xxs : g_Xxs < w3.heap.size := Xxs.lt rfl
    go_wp2_with fail
    refine (HIM.out _ _ Xxs.sl).mono ?_
    rintro e w4 ⟨rfl, hb⟩
    have B4 := bel_step B3 hb
    have hz4 : w3.heap.size ≤ w4.heap.size := hb.size
    have Xxs_4 := Xxs.kept hb
    go_wp2_with fail
    refine (toIntS_any _ xs _ (HSxs.out.kept B4) (by omega)).mono ?_
    rintro e w5 ⟨g_TXxs, hg_TXxs, rfl, K_TXxs, hb⟩
    have B5 := bel_step B4 hb
    have hz5 : w4.heap.size ≤ w5.heap.size := hb.size
    have Xxs_5 := Xxs_4.kept hb
    have TXxs := K_TXxs.res hg_TXxs
    go_wp2_with fail
    refine (eqIntS_same _ _ xs _ Xxs_5.sl TXxs.sl (by omega)).mono ?_
    rintro e w6 ⟨rfl, hb⟩
    have B6 := bel_step B5 hb
    have hz6 : w5.heap.size ≤ w6.heap.size := hb.size
    have Xxs_6 := Xxs_5.kept hb
    have TXxs_6 := TXxs.kept hb
    go_wp2_with fail
    go_ret
    exact ⟨rfl, B6⟩


set_option maxHeartbeats 1600000 in
theorem walk_FnExactIsMirrored (w : World) (u_xs : Option Addr) (l_xs c_xs : Nat) (z_xs : List Int) (hr_xs : IsRow .i64 w u_xs l_xs c_xs z_xs) :
    Calls Try.prog 7 #[.slice u_xs l_xs c_xs] w fun e w' => e = .returned (.bool true) ∧ Below w.heap.size w w' := by
  obtain ⟨hs_xs, hlen_xs, hin_xs⟩ := hr_xs.sl
  generalize z_xs.take l_xs = xs at hs_xs hlen_xs hin_xs
  clear hr_xs
  by_cases hbig_xs : 1048576 < l_xs
  · clear hs_xs hlen_xs hin_xs
    go_enter Try.func7, Try.ntmps7
    go_wp2
    go_ret
    exact ⟨rfl, Below.refl _ _⟩
  · have hq_xs : l_xs ≤ 1048576 := by omega
    exact gen_FnExactIsMirrored xs _ _ _ _ _ w hs_xs (by omega) (by omega)  (fun w v_xs h_xs => spec_IsMirrored_any v_xs xs w h_xs) (fun w v_xs h_xs => impl_IsMirrored_any v_xs xs w h_xs)


set_option maxHeartbeats 1600000 in
theorem gen_FnExactFoldedProducts (xs : List Int) (u_xs : Option Addr) (l_xs c_xs : Nat) (r0 : Int) (r1 : Bool) (w : World) (hs_xs : Sl w (.slice u_xs l_xs c_xs) xs) (ll_xs : l_xs ≤ 1048576) (hl_xs : xs.length ≤ 1048576) (hspec : ∀ (w : World) (v_xs : Value), Sl w v_xs xs → Calls Try.prog 26 #[v_xs] w fun e w' => e = .returned (.tuple #[.int .i64 r0, .bool r1]) ∧ Below w.heap.size w w') (himpl : ∀ (w : World) (v_xs : Value), Sl w v_xs xs → Calls Try.prog 27 #[v_xs] w fun e w' => e = .returned (.tuple #[.int .i64 r0, .bool r1]) ∧ Below w.heap.size w w') :
    Calls Try.prog 9 #[.slice u_xs l_xs c_xs] w fun e w' => e = .returned (.bool true) ∧ Below w.heap.size w w' := by
  have HSxs := hid hs_xs
  clear hs_xs
  have HSP := hid hspec
  have HIM := hid himpl
  clear hspec himpl
  all_goals cases r1
  all_goals
    go_enter Try.func9, Try.ntmps9
    go_wp2_with fail
    refine (toIntS_any _ xs _ HSxs.out (by omega)).mono ?_
    rintro e w1 ⟨g_Axs0, hg_Axs0, rfl, K_Axs0, hb⟩
    have B1 := hb
    have hz1 : w.heap.size ≤ w1.heap.size := by first | exact hb.size | (have := hb.size; simp at this; omega)
    have Axs0 := K_Axs0.res hg_Axs0
    go_wp2_with fail
    refine (HSP.out _ _ Axs0.sl).mono ?_
    rintro e w2 ⟨rfl, hb⟩
    have B2 := bel_step B1 hb
    have hz2 : w1.heap.size ≤ w2.heap.size := hb.size
    have Axs0_2 := Axs0.kept hb
    go_wp2_with fail
    refine (toIntS_any _ xs _ (HSxs.out.kept B2) (by omega)).mono ?_
    rintro e w3 ⟨g_Xxs, hg_Xxs, rfl, K_Xxs, hb⟩
    have B3 := bel_step B2 hb
    have hz3 : w2.heap.size ≤ w3.heap.size := hb.size
    have Xxs := K_Xxs.res hg_Xxs
    have hxl_Xxs : g_Xxs < w3.heap.size := Xxs.lt rfl
    go_wp2_with fail
    refine (HIM.out _ _ Xxs.sl).mono ?_
    rintro e w4 ⟨rfl, hb⟩
    have B4 := bel_step B3 hb
    have hz4 : w3.heap.size ≤ w4.heap.size := hb.size
    have Xxs_4 := Xxs.kept hb
    go_wp2_with fail
    refine (toIntS_any _ xs _ (HSxs.out.kept B4) (by omega)).mono ?_
    rintro e w5 ⟨g_TXxs, hg_TXxs, rfl, K_TXxs, hb⟩
    have B5 := bel_step B4 hb
    have hz5 : w4.heap.size ≤ w5.heap.size := hb.size
    have Xxs_5 := Xxs_4.kept hb
    have TXxs := K_TXxs.res hg_TXxs
    go_wp2_with fail
    refine (eqIntS_same _ _ xs _ Xxs_5.sl TXxs.sl (by omega)).mono ?_
    rintro e w6 ⟨rfl, hb⟩
    have B6 := bel_step B5 hb
    have hz6 : w5.heap.size ≤ w6.heap.size := hb.size
    have Xxs_6 := Xxs_5.kept hb
    have TXxs_6 := TXxs.kept hb
    go_wp2_with fail
    go_ret
    exact ⟨rfl, B6⟩


set_option maxHeartbeats 1600000 in
theorem walk_FnExactFoldedProducts (w : World) (u_xs : Option Addr) (l_xs c_xs : Nat) (z_xs : List Int) (hr_xs : IsRow .i64 w u_xs l_xs c_xs z_xs) :
    Calls Try.prog 9 #[.slice u_xs l_xs c_xs] w fun e w' => e = .returned (.bool true) ∧ Below w.heap.size w w' := by
  obtain ⟨hs_xs, hlen_xs, hin_xs⟩ := hr_xs.sl
  generalize z_xs.take l_xs = xs at hs_xs hlen_xs hin_xs
  clear hr_xs
  by_cases hbig_xs : 1048576 < l_xs
  · clear hs_xs hlen_xs hin_xs
    go_enter Try.func9, Try.ntmps9
    go_wp2
    go_ret
    exact ⟨rfl, Below.refl _ _⟩
  · have hq_xs : l_xs ≤ 1048576 := by omega
    exact gen_FnExactFoldedProducts xs _ _ _ _ _ w hs_xs (by omega) (by omega)  (fun w v_xs h_xs => spec_FoldedProducts_any v_xs xs w h_xs) (fun w v_xs h_xs => impl_FoldedProducts_any v_xs xs w h_xs)

end Go.Proofs.Ytgkjncgaecfbgac
