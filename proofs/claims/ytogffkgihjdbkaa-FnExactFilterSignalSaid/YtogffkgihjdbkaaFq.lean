
import Derived.Test.YtogffkgihjdbkaaFp
import Derived.Test.YtogffkgihjdbkaaMp
namespace Go.Proofs.Ytogffkgihjdbkaa
open Go.RowKit BitX Go.MemX
set_option linter.unusedVariables false


set_option maxHeartbeats 1600000 in
theorem gen_FnExactFilterSignal (h : List Int) (s : List Int) (u_h : Option Addr) (l_h c_h : Nat) (u_s : Option Addr) (l_s c_s : Nat) (ys : List Int) (ok : Bool) (w : World) (hs_h : Sl w (.slice u_h l_h c_h) h) (ll_h : l_h ≤ 1048576) (hl_h : h.length ≤ 1048576) (hs_s : Sl w (.slice u_s l_s c_s) s) (ll_s : l_s ≤ 1048576) (hl_s : s.length ≤ 1048576) (hy : ys.length ≤ 2000000) (hspec : ∀ (w : World) (v_h : Value) (v_s : Value), Sl w v_h h → Sl w v_s s → Calls Try.prog 7 #[v_h, v_s] w (Gives w ys ok)) (himpl : ∀ (w : World) (v_h : Value) (v_s : Value), Sl w v_h h → Sl w v_s s → Calls Try.prog 9 #[v_h, v_s] w (Gives w ys ok)) :
    Calls Try.prog 3 #[.slice u_h l_h c_h, .slice u_s l_s c_s] w fun e w' => e = .returned (.bool true) ∧ Below w.heap.size w w' := by
  have HSh := hid hs_h
  clear hs_h
  have HSs := hid hs_s
  clear hs_s
  have HSP := hid hspec
  have HIM := hid himpl
  clear hspec himpl
  all_goals cases ok
  all_goals
    go_enter Try.func3, Try.ntmps3
    go_wp2_with fail
    refine (toIntS_any _ h _ HSh.out (by omega)).mono ?_
    rintro e w1 ⟨g_Ah0, hg_Ah0, rfl, K_Ah0, hb⟩
    have B1 := hb
    have hz1 : w.heap.size ≤ w1.heap.size := by first | exact hb.size | (have := hb.size; simp at this; omega)
    have Ah0 := K_Ah0.res hg_Ah0
    go_wp2_with fail
    refine (toIntS_any _ s _ (HSs.out.kept B1) (by omega)).mono ?_
    rintro e w2 ⟨g_As1, hg_As1, rfl, K_As1, hb⟩
    have B2 := bel_step B1 hb
    have hz2 : w1.heap.size ≤ w2.heap.size := hb.size
    have Ah0_2 := Ah0.kept hb
    have As1 := K_As1.res hg_As1
    go_wp2_with fail
    refine (HSP.out _ _ _ Ah0_2.sl As1.sl).mono ?_
    rintro e w3 ⟨v_R0, rfl, R0, hb⟩
    have B3 := bel_step B2 hb
    have hz3 : w2.heap.size ≤ w3.heap.size := hb.size
    have Ah0_3 := Ah0_2.kept hb
    have As1_3 := As1.kept hb
    have hlt0 : ∀ g, v_R0.ownBlock = some g → g < w3.heap.size := fun g hg => R0.lt hg
    have Hlt0 := hid hlt0
    clear hlt0
    go_wp2_with fail
    refine (toIntS_any _ h _ (HSh.out.kept B3) (by omega)).mono ?_
    rintro e w4 ⟨g_Xh, hg_Xh, rfl, K_Xh, hb⟩
    have B4 := bel_step B3 hb
    have hz4 : w3.heap.size ≤ w4.heap.size := hb.size
    have R0_4 := R0.kept hb
    have Xh := K_Xh.res hg_Xh
    have hlt_Xh := K_Xh.lt
    have hne_Xh : ∀ g, v_R0.ownBlock = some g → g ≠ g_Xh := fun g hg => by have a1 := Hlt0.out g hg; omega
    have Hne_Xh := hid hne_Xh
    clear hne_Xh
    go_wp2_with fail
    refine (toIntS_any _ s _ (HSs.out.kept B4) (by omega)).mono ?_
    rintro e w5 ⟨g_Xs, hg_Xs, rfl, K_Xs, hb⟩
    have B5 := bel_step B4 hb
    have hz5 : w4.heap.size ≤ w5.heap.size := hb.size
    have R0_5 := R0_4.kept hb
    have Xh_5 := Xh.kept hb
    have Xs := K_Xs.res hg_Xs
    have hlt_Xs := K_Xs.lt
    have hne_Xs : ∀ g, v_R0.ownBlock = some g → g ≠ g_Xs := fun g hg => by have a1 := Hlt0.out g hg; omega
    have Hne_Xs := hid hne_Xs
    clear hne_Xs
    have hxl_Xh : g_Xh < w5.heap.size := Xh_5.lt rfl
    have hxl_Xs : g_Xs < w5.heap.size := Xs.lt rfl
    go_wp2_with fail
    refine (HIM.out _ _ _ Xh_5.sl Xs.sl).mono ?_
    rintro e w6 ⟨v_R1, rfl, R1, hb⟩
    have B6 := bel_step B5 hb
    have hz6 : w5.heap.size ≤ w6.heap.size := hb.size
    have R0_6 := R0_5.kept hb
    have Xh_6 := Xh_5.kept hb
    have Xs_6 := Xs.kept hb
    have hne1_Xh : ∀ g, v_R1.ownBlock = some g → g ≠ g_Xh := fun g hg => by have a1 := R1.ge hg; omega
    have Hne1_Xh := hid hne1_Xh
    clear hne1_Xh
    have hne1_Xs : ∀ g, v_R1.ownBlock = some g → g ≠ g_Xs := fun g hg => by have a1 := R1.ge hg; omega
    have Hne1_Xs := hid hne1_Xs
    clear hne1_Xs
    have hne01 : ∀ g, v_R0.ownBlock = some g → v_R1.ownBlock ≠ some g := fun g hg e => by have a1 := R1.ge e; have a2 := Hlt0.out g hg; omega
    have Hne01 := hid hne01
    clear hne01
    have hge1 : ∀ g, v_R1.ownBlock = some g → w5.heap.size ≤ g := fun g hg => R1.ge hg
    have Hge1 := hid hge1
    clear hge1
    go_wp2_with fail
    refine (eqIntS_same _ _ ys _ R1.sl R0_6.sl hy).mono ?_
    rintro e w7 ⟨rfl, hb⟩
    have B7 := bel_step B6 hb
    have hz7 : w6.heap.size ≤ w7.heap.size := hb.size
    have R0_7 := R0_6.kept hb
    have Xh_7 := Xh_6.kept hb
    have Xs_7 := Xs_6.kept hb
    have R1_7 := R1.kept hb
    go_wp2_with fail
    refine (toIntS_any _ h _ (HSh.out.kept B7) (by omega)).mono ?_
    rintro e w8 ⟨g_TXh, hg_TXh, rfl, K_TXh, hb⟩
    have B8 := bel_step B7 hb
    have hz8 : w7.heap.size ≤ w8.heap.size := hb.size
    have R0_8 := R0_7.kept hb
    have Xh_8 := Xh_7.kept hb
    have Xs_8 := Xs_7.kept hb
    have R1_8 := R1_7.kept hb
    have TXh := K_TXh.res hg_TXh
    go_wp2_with fail
    refine (eqIntS_same _ _ h _ Xh_8.sl TXh.sl (by omega)).mono ?_
    rintro e w9 ⟨rfl, hb⟩
    have B9 := bel_step B8 hb
    have hz9 : w8.heap.size ≤ w9.heap.size := hb.size
    have R0_9 := R0_8.kept hb
    have Xh_9 := Xh_8.kept hb
    have Xs_9 := Xs_8.kept hb
    have R1_9 := R1_8.kept hb
    have TXh_9 := TXh.kept hb
    go_wp2_with fail
    refine (toIntS_any _ s _ (HSs.out.kept B9) (by omega)).mono ?_
    rintro e w10 ⟨g_TXs, hg_TXs, rfl, K_TXs, hb⟩
    have B10 := bel_step B9 hb
    have hz10 : w9.heap.size ≤ w10.heap.size := hb.size
    have R0_10 := R0_9.kept hb
    have Xh_10 := Xh_9.kept hb
    have Xs_10 := Xs_9.kept hb
    have R1_10 := R1_9.kept hb
    have TXs := K_TXs.res hg_TXs
    go_wp2_with fail
    refine (eqIntS_same _ _ s _ Xs_10.sl TXs.sl (by omega)).mono ?_
    rintro e w11 ⟨rfl, hb⟩
    have B11 := bel_step B10 hb
    have hz11 : w10.heap.size ≤ w11.heap.size := hb.size
    have R0_11 := R0_10.kept hb
    have Xh_11 := Xh_10.kept hb
    have Xs_11 := Xs_10.kept hb
    have R1_11 := R1_10.kept hb
    have TXs_11 := TXs.kept hb
    go_wp2_with fail
    refine (markIntS_one _ h _ _ Xh_11 (by omega)).mono ?_
    rintro e w12 ⟨rfl, ho, _⟩
    have B12 := B11.trans (ho.below fun g hg => by cases hg; exact Nat.le_trans B3.size hg_Xh)
    have hz12 : w11.heap.size ≤ w12.heap.size := Nat.le_of_eq ho.size.symm
    have R0_12 := R0_11.only ho fun g hg e => by cases e; exact Hne_Xh.out _ hg rfl
    have R1_12 := R1_11.only ho fun g hg e => by cases e; exact Hne1_Xh.out _ hg rfl
    have Xs_12 := Xs_11.only ho fun g hg e => by cases hg; cases e; omega
    go_wp2_with fail
    refine (markIntS_plus _ s h.length _ _ Xs_12 (by omega) (by omega)).mono ?_
    rintro e w13 ⟨rfl, ho, _⟩
    have B13 := B12.trans (ho.below fun g hg => by cases hg; exact Nat.le_trans B4.size hg_Xs)
    have hz13 : w12.heap.size ≤ w13.heap.size := Nat.le_of_eq ho.size.symm
    have R0_13 := R0_12.only ho fun g hg e => by cases e; exact Hne_Xs.out _ hg rfl
    have R1_13 := R1_12.only ho fun g hg e => by cases e; exact Hne1_Xs.out _ hg rfl
    go_wp2_with fail
    refine (eqIntS_same _ _ ys _ R1_13.sl R0_13.sl hy).mono ?_
    rintro e w14 ⟨rfl, hb⟩
    have B14 := bel_step B13 hb
    have hz14 : w13.heap.size ≤ w14.heap.size := hb.size
    have R0_14 := R0_13.kept hb
    have R1_14 := R1_13.kept hb
    go_wp2_with fail
    refine (markIntS_one _ ys _ _ R1_14 hy).mono ?_
    rintro e w15 ⟨rfl, ho, M⟩
    have B15 := B14.trans (ho.below fun g hg => Nat.le_trans B5.size (Hge1.out g hg))
    have hz15 : w14.heap.size ≤ w15.heap.size := Nat.le_of_eq ho.size.symm
    have R0_15 := R0_14.only ho Hne01.out
    go_wp2_with fail
    refine (heldIntS_one _ ys.length _ _ M hy).mono ?_
    rintro e w' ⟨rfl, rfl⟩
    go_wp2_with fail
    refine (toIntS_any _ h _ (HSh.out.kept B15) (by omega)).mono ?_
    rintro e w16 ⟨g_Ah15, hg_Ah15, rfl, K_Ah15, hb⟩
    have B16 := bel_step B15 hb
    have hz16 : w15.heap.size ≤ w16.heap.size := hb.size
    have R0_16 := R0_15.kept hb
    have M_16 := M.kept hb
    have Ah15 := K_Ah15.res hg_Ah15
    go_wp2_with fail
    refine (toIntS_any _ s _ (HSs.out.kept B16) (by omega)).mono ?_
    rintro e w17 ⟨g_As16, hg_As16, rfl, K_As16, hb⟩
    have B17 := bel_step B16 hb
    have hz17 : w16.heap.size ≤ w17.heap.size := hb.size
    have R0_17 := R0_16.kept hb
    have M_17 := M_16.kept hb
    have Ah15_17 := Ah15.kept hb
    have As16 := K_As16.res hg_As16
    go_wp2_with fail
    refine (HIM.out _ _ _ Ah15_17.sl As16.sl).mono ?_
    rintro e w18 ⟨v_R2, rfl, R2, hb⟩
    have B18 := bel_step B17 hb
    have hz18 : w17.heap.size ≤ w18.heap.size := hb.size
    have R0_18 := R0_17.kept hb
    have M_18 := M_17.kept hb
    have Ah15_18 := Ah15_17.kept hb
    have As16_18 := As16.kept hb
    go_wp2_with fail
    refine (eqIntS_same _ _ ys _ R2.sl R0_18.sl hy).mono ?_
    rintro e w19 ⟨rfl, hb⟩
    have B19 := bel_step B18 hb
    have hz19 : w18.heap.size ≤ w19.heap.size := hb.size
    have R0_19 := R0_18.kept hb
    have M_19 := M_18.kept hb
    have R2_19 := R2.kept hb
    go_wp2_with fail
    refine (heldIntS_one _ ys.length _ _ M_19 hy).mono ?_
    rintro e w' ⟨rfl, rfl⟩
    go_wp2_with fail
    go_ret
    exact ⟨rfl, B19⟩


set_option maxHeartbeats 1600000 in
theorem walk_FnExactFilterSignal (w : World) (u_h : Option Addr) (l_h c_h : Nat) (z_h : List Int) (hr_h : IsRow .i64 w u_h l_h c_h z_h) (u_s : Option Addr) (l_s c_s : Nat) (z_s : List Int) (hr_s : IsRow .i64 w u_s l_s c_s z_s) :
    Calls Try.prog 3 #[.slice u_h l_h c_h, .slice u_s l_s c_s] w fun e w' => e = .returned (.bool true) ∧ Below w.heap.size w w' := by
  obtain ⟨hs_h, hlen_h, hin_h⟩ := hr_h.sl
  generalize z_h.take l_h = h at hs_h hlen_h hin_h
  clear hr_h
  obtain ⟨hs_s, hlen_s, hin_s⟩ := hr_s.sl
  generalize z_s.take l_s = s at hs_s hlen_s hin_s
  clear hr_s
  by_cases hbig_h : 1048576 < l_h
  · clear hs_h hlen_h hin_h hs_s hlen_s hin_s
    go_enter Try.func3, Try.ntmps3
    go_wp2
    go_ret
    exact ⟨rfl, Below.refl _ _⟩
  · have hq_h : l_h ≤ 1048576 := by omega
    by_cases hbig_s : 1048576 < l_s
    · clear hs_s hlen_s hin_s
      go_enter Try.func3, Try.ntmps3
      go_wp2
      go_ret
      exact ⟨rfl, Below.refl _ _⟩
    · have hq_s : l_s ≤ 1048576 := by omega
      exact gen_FnExactFilterSignal h s _ _ _ _ _ _ (onB (filB h s) (ans h s) []) (filB h s) w hs_h (by omega) (by omega) hs_s (by omega) (by omega) (onB_len filB_len) (fun w v_h v_s h_h h_s => spec_FilterSignal_in v_h v_s h s w h_h h_s) (fun w v_h v_s h_h h_s => impl_FilterSignal_in v_h v_s h s w h_h h_s)


set_option maxHeartbeats 1600000 in
theorem gen_FnExactFilterShort (h : List Int) (s : List Int) (u_h : Option Addr) (l_h c_h : Nat) (u_s : Option Addr) (l_s c_s : Nat) (ys : List Int) (ok : Bool) (w : World) (hs_h : Sl w (.slice u_h l_h c_h) h) (ll_h : l_h ≤ 1048576) (hl_h : h.length ≤ 1048576) (hs_s : Sl w (.slice u_s l_s c_s) s) (ll_s : l_s ≤ 1048576) (hl_s : s.length ≤ 1048576) (hy : ys.length ≤ 2000000) (hspec : ∀ (w : World) (v_h : Value) (v_s : Value), Sl w v_h h → Sl w v_s s → Calls Try.prog 13 #[v_h, v_s] w (Gives w ys ok)) (himpl : ∀ (w : World) (v_h : Value) (v_s : Value), Sl w v_h h → Sl w v_s s → Calls Try.prog 14 #[v_h, v_s] w (Gives w ys ok)) :
    Calls Try.prog 4 #[.slice u_h l_h c_h, .slice u_s l_s c_s] w fun e w' => e = .returned (.bool true) ∧ Below w.heap.size w w' := by
  have HSh := hid hs_h
  clear hs_h
  have HSs := hid hs_s
  clear hs_s
  have HSP := hid hspec
  have HIM := hid himpl
  clear hspec himpl
  all_goals cases ok
  all_goals
    go_enter Try.func4, Try.ntmps4
    go_wp2_with fail
    refine (toIntS_any _ h _ HSh.out (by omega)).mono ?_
    rintro e w1 ⟨g_Ah0, hg_Ah0, rfl, K_Ah0, hb⟩
    have B1 := hb
    have hz1 : w.heap.size ≤ w1.heap.size := by first | exact hb.size | (have := hb.size; simp at this; omega)
    have Ah0 := K_Ah0.res hg_Ah0
    go_wp2_with fail
    refine (toIntS_any _ s _ (HSs.out.kept B1) (by omega)).mono ?_
    rintro e w2 ⟨g_As1, hg_As1, rfl, K_As1, hb⟩
    have B2 := bel_step B1 hb
    have hz2 : w1.heap.size ≤ w2.heap.size := hb.size
    have Ah0_2 := Ah0.kept hb
    have As1 := K_As1.res hg_As1
    go_wp2_with fail
    refine (HSP.out _ _ _ Ah0_2.sl As1.sl).mono ?_
    rintro e w3 ⟨v_R0, rfl, R0, hb⟩
    have B3 := bel_step B2 hb
    have hz3 : w2.heap.size ≤ w3.heap.size := hb.size
    have Ah0_3 := Ah0_2.kept hb
    have As1_3 := As1.kept hb
    have hlt0 : ∀ g, v_R0.ownBlock = some g → g < w3.heap.size := fun g hg => R0.lt hg
    have Hlt0 := hid hlt0
    clear hlt0
    go_wp2_with fail
    refine (toIntS_any _ h _ (HSh.out.kept B3) (by omega)).mono ?_
    rintro e w4 ⟨g_Xh, hg_Xh, rfl, K_Xh, hb⟩
    have B4 := bel_step B3 hb
    have hz4 : w3.heap.size ≤ w4.heap.size := hb.size
    have R0_4 := R0.kept hb
    have Xh := K_Xh.res hg_Xh
    have hlt_Xh := K_Xh.lt
    have hne_Xh : ∀ g, v_R0.ownBlock = some g → g ≠ g_Xh := fun g hg => by have a1 := Hlt0.out g hg; omega
    have Hne_Xh := hid hne_Xh
    clear hne_Xh
    go_wp2_with fail
    refine (toIntS_any _ s _ (HSs.out.kept B4) (by omega)).mono ?_
    rintro e w5 ⟨g_Xs, hg_Xs, rfl, K_Xs, hb⟩
    have B5 := bel_step B4 hb
    have hz5 : w4.heap.size ≤ w5.heap.size := hb.size
    have R0_5 := R0_4.kept hb
    have Xh_5 := Xh.kept hb
    have Xs := K_Xs.res hg_Xs
    have hlt_Xs := K_Xs.lt
    have hne_Xs : ∀ g, v_R0.ownBlock = some g → g ≠ g_Xs := fun g hg => by have a1 := Hlt0.out g hg; omega
    have Hne_Xs := hid hne_Xs
    clear hne_Xs
    have hxl_Xh : g_Xh < w5.heap.size := Xh_5.lt rfl
    have hxl_Xs : g_Xs < w5.heap.size := Xs.lt rfl
    go_wp2_with fail
    refine (HIM.out _ _ _ Xh_5.sl Xs.sl).mono ?_
    rintro e w6 ⟨v_R1, rfl, R1, hb⟩
    have B6 := bel_step B5 hb
    have hz6 : w5.heap.size ≤ w6.heap.size := hb.size
    have R0_6 := R0_5.kept hb
    have Xh_6 := Xh_5.kept hb
    have Xs_6 := Xs.kept hb
    have hne1_Xh : ∀ g, v_R1.ownBlock = some g → g ≠ g_Xh := fun g hg => by have a1 := R1.ge hg; omega
    have Hne1_Xh := hid hne1_Xh
    clear hne1_Xh
    have hne1_Xs : ∀ g, v_R1.ownBlock = some g → g ≠ g_Xs := fun g hg => by have a1 := R1.ge hg; omega
    have Hne1_Xs := hid hne1_Xs
    clear hne1_Xs
    have hne01 : ∀ g, v_R0.ownBlock = some g → v_R1.ownBlock ≠ some g := fun g hg e => by have a1 := R1.ge e; have a2 := Hlt0.out g hg; omega
    have Hne01 := hid hne01
    clear hne01
    have hge1 : ∀ g, v_R1.ownBlock = some g → w5.heap.size ≤ g := fun g hg => R1.ge hg
    have Hge1 := hid hge1
    clear hge1
    go_wp2_with fail
    refine (eqIntS_same _ _ ys _ R1.sl R0_6.sl hy).mono ?_
    rintro e w7 ⟨rfl, hb⟩
    have B7 := bel_step B6 hb
    have hz7 : w6.heap.size ≤ w7.heap.size := hb.size
    have R0_7 := R0_6.kept hb
    have Xh_7 := Xh_6.kept hb
    have Xs_7 := Xs_6.kept hb
    have R1_7 := R1.kept hb
    go_wp2_with fail
    refine (toIntS_any _ h _ (HSh.out.kept B7) (by omega)).mono ?_
    rintro e w8 ⟨g_TXh, hg_TXh, rfl, K_TXh, hb⟩
    have B8 := bel_step B7 hb
    have hz8 : w7.heap.size ≤ w8.heap.size := hb.size
    have R0_8 := R0_7.kept hb
    have Xh_8 := Xh_7.kept hb
    have Xs_8 := Xs_7.kept hb
    have R1_8 := R1_7.kept hb
    have TXh := K_TXh.res hg_TXh
    go_wp2_with fail
    refine (eqIntS_same _ _ h _ Xh_8.sl TXh.sl (by omega)).mono ?_
    rintro e w9 ⟨rfl, hb⟩
    have B9 := bel_step B8 hb
    have hz9 : w8.heap.size ≤ w9.heap.size := hb.size
    have R0_9 := R0_8.kept hb
    have Xh_9 := Xh_8.kept hb
    have Xs_9 := Xs_8.kept hb
    have R1_9 := R1_8.kept hb
    have TXh_9 := TXh.kept hb
    go_wp2_with fail
    refine (toIntS_any _ s _ (HSs.out.kept B9) (by omega)).mono ?_
    rintro e w10 ⟨g_TXs, hg_TXs, rfl, K_TXs, hb⟩
    have B10 := bel_step B9 hb
    have hz10 : w9.heap.size ≤ w10.heap.size := hb.size
    have R0_10 := R0_9.kept hb
    have Xh_10 := Xh_9.kept hb
    have Xs_10 := Xs_9.kept hb
    have R1_10 := R1_9.kept hb
    have TXs := K_TXs.res hg_TXs
    go_wp2_with fail
    refine (eqIntS_same _ _ s _ Xs_10.sl TXs.sl (by omega)).mono ?_
    rintro e w11 ⟨rfl, hb⟩
    have B11 := bel_step B10 hb
    have hz11 : w10.heap.size ≤ w11.heap.size := hb.size
    have R0_11 := R0_10.kept hb
    have Xh_11 := Xh_10.kept hb
    have Xs_11 := Xs_10.kept hb
    have R1_11 := R1_10.kept hb
    have TXs_11 := TXs.kept hb
    go_wp2_with fail
    refine (markIntS_one _ h _ _ Xh_11 (by omega)).mono ?_
    rintro e w12 ⟨rfl, ho, _⟩
    have B12 := B11.trans (ho.below fun g hg => by cases hg; exact Nat.le_trans B3.size hg_Xh)
    have hz12 : w11.heap.size ≤ w12.heap.size := Nat.le_of_eq ho.size.symm
    have R0_12 := R0_11.only ho fun g hg e => by cases e; exact Hne_Xh.out _ hg rfl
    have R1_12 := R1_11.only ho fun g hg e => by cases e; exact Hne1_Xh.out _ hg rfl
    have Xs_12 := Xs_11.only ho fun g hg e => by cases hg; cases e; omega
    go_wp2_with fail
    refine (markIntS_plus _ s h.length _ _ Xs_12 (by omega) (by omega)).mono ?_
    rintro e w13 ⟨rfl, ho, _⟩
    have B13 := B12.trans (ho.below fun g hg => by cases hg; exact Nat.le_trans B4.size hg_Xs)
    have hz13 : w12.heap.size ≤ w13.heap.size := Nat.le_of_eq ho.size.symm
    have R0_13 := R0_12.only ho fun g hg e => by cases e; exact Hne_Xs.out _ hg rfl
    have R1_13 := R1_12.only ho fun g hg e => by cases e; exact Hne1_Xs.out _ hg rfl
    go_wp2_with fail
    refine (eqIntS_same _ _ ys _ R1_13.sl R0_13.sl hy).mono ?_
    rintro e w14 ⟨rfl, hb⟩
    have B14 := bel_step B13 hb
    have hz14 : w13.heap.size ≤ w14.heap.size := hb.size
    have R0_14 := R0_13.kept hb
    have R1_14 := R1_13.kept hb
    go_wp2_with fail
    refine (markIntS_one _ ys _ _ R1_14 hy).mono ?_
    rintro e w15 ⟨rfl, ho, M⟩
    have B15 := B14.trans (ho.below fun g hg => Nat.le_trans B5.size (Hge1.out g hg))
    have hz15 : w14.heap.size ≤ w15.heap.size := Nat.le_of_eq ho.size.symm
    have R0_15 := R0_14.only ho Hne01.out
    go_wp2_with fail
    refine (heldIntS_one _ ys.length _ _ M hy).mono ?_
    rintro e w' ⟨rfl, rfl⟩
    go_wp2_with fail
    refine (toIntS_any _ h _ (HSh.out.kept B15) (by omega)).mono ?_
    rintro e w16 ⟨g_Ah15, hg_Ah15, rfl, K_Ah15, hb⟩
    have B16 := bel_step B15 hb
    have hz16 : w15.heap.size ≤ w16.heap.size := hb.size
    have R0_16 := R0_15.kept hb
    have M_16 := M.kept hb
    have Ah15 := K_Ah15.res hg_Ah15
    go_wp2_with fail
    refine (toIntS_any _ s _ (HSs.out.kept B16) (by omega)).mono ?_
    rintro e w17 ⟨g_As16, hg_As16, rfl, K_As16, hb⟩
    have B17 := bel_step B16 hb
    have hz17 : w16.heap.size ≤ w17.heap.size := hb.size
    have R0_17 := R0_16.kept hb
    have M_17 := M_16.kept hb
    have Ah15_17 := Ah15.kept hb
    have As16 := K_As16.res hg_As16
    go_wp2_with fail
    refine (HIM.out _ _ _ Ah15_17.sl As16.sl).mono ?_
    rintro e w18 ⟨v_R2, rfl, R2, hb⟩
    have B18 := bel_step B17 hb
    have hz18 : w17.heap.size ≤ w18.heap.size := hb.size
    have R0_18 := R0_17.kept hb
    have M_18 := M_17.kept hb
    have Ah15_18 := Ah15_17.kept hb
    have As16_18 := As16.kept hb
    go_wp2_with fail
    refine (eqIntS_same _ _ ys _ R2.sl R0_18.sl hy).mono ?_
    rintro e w19 ⟨rfl, hb⟩
    have B19 := bel_step B18 hb
    have hz19 : w18.heap.size ≤ w19.heap.size := hb.size
    have R0_19 := R0_18.kept hb
    have M_19 := M_18.kept hb
    have R2_19 := R2.kept hb
    go_wp2_with fail
    refine (heldIntS_one _ ys.length _ _ M_19 hy).mono ?_
    rintro e w' ⟨rfl, rfl⟩
    go_wp2_with fail
    go_ret
    exact ⟨rfl, B19⟩


set_option maxHeartbeats 1600000 in
theorem walk_FnExactFilterShort (w : World) (u_h : Option Addr) (l_h c_h : Nat) (z_h : List Int) (hr_h : IsRow .i64 w u_h l_h c_h z_h) (u_s : Option Addr) (l_s c_s : Nat) (z_s : List Int) (hr_s : IsRow .i64 w u_s l_s c_s z_s) :
    Calls Try.prog 4 #[.slice u_h l_h c_h, .slice u_s l_s c_s] w fun e w' => e = .returned (.bool true) ∧ Below w.heap.size w w' := by
  obtain ⟨hs_h, hlen_h, hin_h⟩ := hr_h.sl
  generalize z_h.take l_h = h at hs_h hlen_h hin_h
  clear hr_h
  obtain ⟨hs_s, hlen_s, hin_s⟩ := hr_s.sl
  generalize z_s.take l_s = s at hs_s hlen_s hin_s
  clear hr_s
  by_cases hbig_h : 1048576 < l_h
  · clear hs_h hlen_h hin_h hs_s hlen_s hin_s
    go_enter Try.func4, Try.ntmps4
    go_wp2
    go_ret
    exact ⟨rfl, Below.refl _ _⟩
  · have hq_h : l_h ≤ 1048576 := by omega
    by_cases hbig_s : 1048576 < l_s
    · clear hs_s hlen_s hin_s
      go_enter Try.func4, Try.ntmps4
      go_wp2
      go_ret
      exact ⟨rfl, Below.refl _ _⟩
    · have hq_s : l_s ≤ 1048576 := by omega
      exact gen_FnExactFilterShort h s _ _ _ _ _ _ (onB (shoB h s) (tab s.length (conv h s)) []) (shoB h s) w hs_h (by omega) (by omega) hs_s (by omega) (by omega) (onB_len shoB_len) (fun w v_h v_s h_h h_s => spec_FilterShort_in v_h v_s h s w h_h h_s) (fun w v_h v_s h_h h_s => impl_FilterShort_in v_h v_s h s w h_h h_s)


end Go.Proofs.Ytogffkgihjdbkaa
