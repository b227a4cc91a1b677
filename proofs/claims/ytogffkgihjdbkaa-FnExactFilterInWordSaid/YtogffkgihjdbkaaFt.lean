
import Derived.Test.YtogffkgihjdbkaaFv
import Derived.Test.YtogffkgihjdbkaaMp
namespace Go.Proofs.Ytogffkgihjdbkaa
open Go.RowKit BitX Go.MemX
set_option linter.unusedVariables false


set_option maxHeartbeats 1000000 in
theorem spec_FilterInWord_any (u v : Value) (h s : List Int) (b k mode : Int) (wd : Bool) (w : World) (hu : Sl w u h) (hv : Sl w v s) (hl : h.length ≤ 2000000) (hls : s.length ≤ 2000000) :
    Calls Try.prog 15 #[.agg #[.int .i64 b, .bool wd], u, v, .int .i64 k, .int .i64 mode] w (Gives w (fwY b wd h s k mode) (fiB b h s k mode)) := by
  cases hq : fiB b h s k mode
  · have HU := hid hu
    have HV := hid hv
    have HQ := hid hq
    clear hu hv hq
    go_enter Try.func15, Try.ntmps15
    go_wp2_with fail
    refine (weInWord_is _ _ h s _ _ _ _ _ (HU.out.kept (bel_alloc _ _)) (HV.out.kept (bel_alloc _ _)) hl hls).mono ?_
    rintro e w1 ⟨rfl, hb⟩
    rw [HQ.out]
    have B1 := bel_step (bel_alloc _ _) hb
    go_wp2_with fail
    go_ret2
    exact gives_of rfl (show fwY b wd h s k mode = [] from by unfold fwY; rw [HQ.out]; rfl) ⟨_, rfl, .inl ⟨rfl, rfl⟩, B1⟩
  · have := spec_FilterInWord_in u v h s b k mode wd w hu hv hl hls hq
    rw [hq] at this
    exact this
theorem fwY_len {b k mode : Int} {wd : Bool} {h s : List Int} (hs : s.length ≤ 1048576) : (fwY b wd h s k mode).length ≤ 2000000 := by
  unfold fwY
  cases fiB b h s k mode
  · simp [onB]
  · simp only [onB, tab_len]; omega


set_option maxHeartbeats 1600000 in
theorem gen_FnExactFilterInWord (b : Int) (wr : Bool) (h : List Int) (s : List Int) (k : Int) (mode : Int) (u_h : Option Addr) (l_h c_h : Nat) (u_s : Option Addr) (l_s c_s : Nat) (ys : List Int) (ok : Bool) (w : World) (hs_h : Sl w (.slice u_h l_h c_h) h) (ll_h : l_h ≤ 1048576) (hl_h : h.length ≤ 1048576) (hs_s : Sl w (.slice u_s l_s c_s) s) (ll_s : l_s ≤ 1048576) (hl_s : s.length ≤ 1048576) (hy : ys.length ≤ 2000000) (hspec : ∀ (w : World) (v_h : Value) (v_s : Value), Sl w v_h h → Sl w v_s s → Calls Try.prog 15 #[.agg #[.int .i64 b, .bool wr], v_h, v_s, .int .i64 k, .int .i64 mode] w (Gives w ys ok)) (himpl : ∀ (w : World) (v_h : Value) (v_s : Value), Sl w v_h h → Sl w v_s s → Calls Try.prog 17 #[.agg #[.int .i64 b, .bool wr], v_h, v_s, .int .i64 k, .int .i64 mode] w (Gives w ys ok)) :
    Calls Try.prog 5 #[.agg #[.int .i64 b, .bool wr], .slice u_h l_h c_h, .slice u_s l_s c_s, .int .i64 k, .int .i64 mode] w fun e w' => e = .returned (.bool true) ∧ Below w.heap.size w w' := by
  have HSh := hid hs_h
  clear hs_h
  have HSs := hid hs_s
  clear hs_s
  have HSP := hid hspec
  have HIM := hid himpl
  clear hspec himpl
  all_goals cases ok
  all_goals
    go_enter Try.func5, Try.ntmps5
    go_wp2_with fail
    refine (toWord_any _ _ _).mono ?_
    rintro e w1 ⟨rfl, hb⟩
    have B1 := hb
    have hz1 : w.heap.size ≤ w1.heap.size := by first | exact hb.size | (have := hb.size; simp at this; omega)
    obtain ⟨ca1, cb1⟩ := box2_cells B1
    go_wp2_with fail
    refine (toIntS_any _ h _ (HSh.out.kept (bel_step (bel_alloc w _) B1)) (by omega)).mono ?_
    rintro e w2 ⟨g_Ah1, hg_Ah1, rfl, K_Ah1, hb⟩
    have B2 := bel_step B1 hb
    have hz2 : w1.heap.size ≤ w2.heap.size := hb.size
    have Ah1 := K_Ah1.res hg_Ah1
    obtain ⟨ca2, cb2⟩ := box2_cells B2
    go_wp2_with fail
    refine (toIntS_any _ s _ (HSs.out.kept (bel_step (bel_alloc w _) B2)) (by omega)).mono ?_
    rintro e w3 ⟨g_As2, hg_As2, rfl, K_As2, hb⟩
    have B3 := bel_step B2 hb
    have hz3 : w2.heap.size ≤ w3.heap.size := hb.size
    have Ah1_3 := Ah1.kept hb
    have As2 := K_As2.res hg_As2
    obtain ⟨ca3, cb3⟩ := box2_cells B3
    go_wp2_with fail
    refine (HSP.out _ _ _ Ah1_3.sl As2.sl).mono ?_
    rintro e w4 ⟨v_R0, rfl, R0, hb⟩
    have B4 := bel_step B3 hb
    have hz4 : w3.heap.size ≤ w4.heap.size := hb.size
    have Ah1_4 := Ah1_3.kept hb
    have As2_4 := As2.kept hb
    obtain ⟨ca4, cb4⟩ := box2_cells B4
    have hlt0 : ∀ g, v_R0.ownBlock = some g → g < w4.heap.size := fun g hg => R0.lt hg
    have Hlt0 := hid hlt0
    clear hlt0
    go_wp2_with fail
    refine (toIntS_any _ h _ (HSh.out.kept (bel_step (bel_alloc w _) B4)) (by omega)).mono ?_
    rintro e w5 ⟨g_Xh, hg_Xh, rfl, K_Xh, hb⟩
    have B5 := bel_step B4 hb
    have hz5 : w4.heap.size ≤ w5.heap.size := hb.size
    have R0_5 := R0.kept hb
    have Xh := K_Xh.res hg_Xh
    obtain ⟨ca5, cb5⟩ := box2_cells B5
    have hlt_Xh := K_Xh.lt
    have hne_Xh : ∀ g, v_R0.ownBlock = some g → g ≠ g_Xh := fun g hg => by have a1 := Hlt0.out g hg; omega
    have Hne_Xh := hid hne_Xh
    clear hne_Xh
    go_wp2_with fail
    refine (toIntS_any _ s _ (HSs.out.kept (bel_step (bel_alloc w _) B5)) (by omega)).mono ?_
    rintro e w6 ⟨g_Xs, hg_Xs, rfl, K_Xs, hb⟩
    have B6 := bel_step B5 hb
    have hz6 : w5.heap.size ≤ w6.heap.size := hb.size
    have R0_6 := R0_5.kept hb
    have Xh_6 := Xh.kept hb
    have Xs := K_Xs.res hg_Xs
    obtain ⟨ca6, cb6⟩ := box2_cells B6
    have hlt_Xs := K_Xs.lt
    have hne_Xs : ∀ g, v_R0.ownBlock = some g → g ≠ g_Xs := fun g hg => by have a1 := Hlt0.out g hg; omega
    have Hne_Xs := hid hne_Xs
    clear hne_Xs
    go_wp2_with fail
    refine (toWord_any _ _ _).mono ?_
    rintro e w7 ⟨rfl, hb⟩
    have B7 := bel_step B6 hb
    have hz7 : w6.heap.size ≤ w7.heap.size := hb.size
    have R0_7 := R0_6.kept hb
    have Xh_7 := Xh_6.kept hb
    have Xs_7 := Xs.kept hb
    obtain ⟨ca7, cb7⟩ := box2_cells B7
    have hxl_Xh : g_Xh < w7.heap.size := Xh_7.lt rfl
    have hxl_Xs : g_Xs < w7.heap.size := Xs_7.lt rfl
    go_wp2_with fail
    refine (HIM.out _ _ _ Xh_7.sl Xs_7.sl).mono ?_
    rintro e w8 ⟨v_R1, rfl, R1, hb⟩
    have B8 := bel_step B7 hb
    have hz8 : w7.heap.size ≤ w8.heap.size := hb.size
    have R0_8 := R0_7.kept hb
    have Xh_8 := Xh_7.kept hb
    have Xs_8 := Xs_7.kept hb
    obtain ⟨ca8, cb8⟩ := box2_cells B8
    have hne1_Xh : ∀ g, v_R1.ownBlock = some g → g ≠ g_Xh := fun g hg => by have a1 := R1.ge hg; omega
    have Hne1_Xh := hid hne1_Xh
    clear hne1_Xh
    have hne1_Xs : ∀ g, v_R1.ownBlock = some g → g ≠ g_Xs := fun g hg => by have a1 := R1.ge hg; omega
    have Hne1_Xs := hid hne1_Xs
    clear hne1_Xs
    have hne01 : ∀ g, v_R0.ownBlock = some g → v_R1.ownBlock ≠ some g := fun g hg e => by have a1 := R1.ge e; have a2 := Hlt0.out g hg; omega
    have Hne01 := hid hne01
    clear hne01
    have hge1 : ∀ g, v_R1.ownBlock = some g → w7.heap.size ≤ g := fun g hg => R1.ge hg
    have Hge1 := hid hge1
    clear hge1
    go_wp2_with fail
    refine (eqIntS_same _ _ ys _ R1.sl R0_8.sl hy).mono ?_
    rintro e w9 ⟨rfl, hb⟩
    have B9 := bel_step B8 hb
    have hz9 : w8.heap.size ≤ w9.heap.size := hb.size
    have R0_9 := R0_8.kept hb
    have Xh_9 := Xh_8.kept hb
    have Xs_9 := Xs_8.kept hb
    have R1_9 := R1.kept hb
    obtain ⟨ca9, cb9⟩ := box2_cells B9
    go_wp2_with fail
    refine (toIntS_any _ h _ (HSh.out.kept (bel_step (bel_alloc w _) B9)) (by omega)).mono ?_
    rintro e w10 ⟨g_TXh, hg_TXh, rfl, K_TXh, hb⟩
    have B10 := bel_step B9 hb
    have hz10 : w9.heap.size ≤ w10.heap.size := hb.size
    have R0_10 := R0_9.kept hb
    have Xh_10 := Xh_9.kept hb
    have Xs_10 := Xs_9.kept hb
    have R1_10 := R1_9.kept hb
    have TXh := K_TXh.res hg_TXh
    obtain ⟨ca10, cb10⟩ := box2_cells B10
    go_wp2_with fail
    refine (eqIntS_same _ _ h _ Xh_10.sl TXh.sl (by omega)).mono ?_
    rintro e w11 ⟨rfl, hb⟩
    have B11 := bel_step B10 hb
    have hz11 : w10.heap.size ≤ w11.heap.size := hb.size
    have R0_11 := R0_10.kept hb
    have Xh_11 := Xh_10.kept hb
    have Xs_11 := Xs_10.kept hb
    have R1_11 := R1_10.kept hb
    have TXh_11 := TXh.kept hb
    obtain ⟨ca11, cb11⟩ := box2_cells B11
    go_wp2_with fail
    refine (toIntS_any _ s _ (HSs.out.kept (bel_step (bel_alloc w _) B11)) (by omega)).mono ?_
    rintro e w12 ⟨g_TXs, hg_TXs, rfl, K_TXs, hb⟩
    have B12 := bel_step B11 hb
    have hz12 : w11.heap.size ≤ w12.heap.size := hb.size
    have R0_12 := R0_11.kept hb
    have Xh_12 := Xh_11.kept hb
    have Xs_12 := Xs_11.kept hb
    have R1_12 := R1_11.kept hb
    have TXs := K_TXs.res hg_TXs
    obtain ⟨ca12, cb12⟩ := box2_cells B12
    go_wp2_with fail
    refine (eqIntS_same _ _ s _ Xs_12.sl TXs.sl (by omega)).mono ?_
    rintro e w13 ⟨rfl, hb⟩
    have B13 := bel_step B12 hb
    have hz13 : w12.heap.size ≤ w13.heap.size := hb.size
    have R0_13 := R0_12.kept hb
    have Xh_13 := Xh_12.kept hb
    have Xs_13 := Xs_12.kept hb
    have R1_13 := R1_12.kept hb
    have TXs_13 := TXs.kept hb
    obtain ⟨ca13, cb13⟩ := box2_cells B13
    go_wp2_with fail
    refine (markIntS_one _ h _ _ Xh_13 (by omega)).mono ?_
    rintro e w14 ⟨rfl, ho, _⟩
    have B14 := B13.trans (ho.below fun g hg => by cases hg; exact Nat.le_trans B4.size hg_Xh)
    have hz14 : w13.heap.size ≤ w14.heap.size := Nat.le_of_eq ho.size.symm
    have R0_14 := R0_13.only ho fun g hg e => by cases e; exact Hne_Xh.out _ hg rfl
    have R1_14 := R1_13.only ho fun g hg e => by cases e; exact Hne1_Xh.out _ hg rfl
    have Xs_14 := Xs_13.only ho fun g hg e => by cases hg; cases e; omega
    obtain ⟨ca14, cb14⟩ := box2_cells B14
    go_wp2_with fail
    refine (markIntS_plus _ s h.length _ _ Xs_14 (by omega) (by omega)).mono ?_
    rintro e w15 ⟨rfl, ho, _⟩
    have B15 := B14.trans (ho.below fun g hg => by cases hg; exact Nat.le_trans B5.size hg_Xs)
    have hz15 : w14.heap.size ≤ w15.heap.size := Nat.le_of_eq ho.size.symm
    have R0_15 := R0_14.only ho fun g hg e => by cases e; exact Hne_Xs.out _ hg rfl
    have R1_15 := R1_14.only ho fun g hg e => by cases e; exact Hne1_Xs.out _ hg rfl
    obtain ⟨ca15, cb15⟩ := box2_cells B15
    go_wp2_with fail
    refine (eqIntS_same _ _ ys _ R1_15.sl R0_15.sl hy).mono ?_
    rintro e w16 ⟨rfl, hb⟩
    have B16 := bel_step B15 hb
    have hz16 : w15.heap.size ≤ w16.heap.size := hb.size
    have R0_16 := R0_15.kept hb
    have R1_16 := R1_15.kept hb
    obtain ⟨ca16, cb16⟩ := box2_cells B16
    go_wp2_with fail
    refine (markIntS_one _ ys _ _ R1_16 hy).mono ?_
    rintro e w17 ⟨rfl, ho, M⟩
    have B17 := B16.trans (ho.below fun g hg => Nat.le_trans B7.size (Hge1.out g hg))
    have hz17 : w16.heap.size ≤ w17.heap.size := Nat.le_of_eq ho.size.symm
    have R0_17 := R0_16.only ho Hne01.out
    obtain ⟨ca17, cb17⟩ := box2_cells B17
    go_wp2_with fail
    refine (heldIntS_one _ ys.length _ _ M hy).mono ?_
    rintro e w' ⟨rfl, rfl⟩
    go_wp2_with fail
    refine (toWord_any _ _ _).mono ?_
    rintro e w18 ⟨rfl, hb⟩
    have B18 := bel_step B17 hb
    have hz18 : w17.heap.size ≤ w18.heap.size := hb.size
    have R0_18 := R0_17.kept hb
    have M_18 := M.kept hb
    obtain ⟨ca18, cb18⟩ := box2_cells B18
    go_wp2_with fail
    refine (toIntS_any _ h _ (HSh.out.kept (bel_step (bel_alloc w _) B18)) (by omega)).mono ?_
    rintro e w19 ⟨g_Ah18, hg_Ah18, rfl, K_Ah18, hb⟩
    have B19 := bel_step B18 hb
    have hz19 : w18.heap.size ≤ w19.heap.size := hb.size
    have R0_19 := R0_18.kept hb
    have M_19 := M_18.kept hb
    have Ah18 := K_Ah18.res hg_Ah18
    obtain ⟨ca19, cb19⟩ := box2_cells B19
    go_wp2_with fail
    refine (toIntS_any _ s _ (HSs.out.kept (bel_step (bel_alloc w _) B19)) (by omega)).mono ?_
    rintro e w20 ⟨g_As19, hg_As19, rfl, K_As19, hb⟩
    have B20 := bel_step B19 hb
    have hz20 : w19.heap.size ≤ w20.heap.size := hb.size
    have R0_20 := R0_19.kept hb
    have M_20 := M_19.kept hb
    have Ah18_20 := Ah18.kept hb
    have As19 := K_As19.res hg_As19
    obtain ⟨ca20, cb20⟩ := box2_cells B20
    go_wp2_with fail
    refine (HIM.out _ _ _ Ah18_20.sl As19.sl).mono ?_
    rintro e w21 ⟨v_R2, rfl, R2, hb⟩
    have B21 := bel_step B20 hb
    have hz21 : w20.heap.size ≤ w21.heap.size := hb.size
    have R0_21 := R0_20.kept hb
    have M_21 := M_20.kept hb
    have Ah18_21 := Ah18_20.kept hb
    have As19_21 := As19.kept hb
    obtain ⟨ca21, cb21⟩ := box2_cells B21
    go_wp2_with fail
    refine (eqIntS_same _ _ ys _ R2.sl R0_21.sl hy).mono ?_
    rintro e w22 ⟨rfl, hb⟩
    have B22 := bel_step B21 hb
    have hz22 : w21.heap.size ≤ w22.heap.size := hb.size
    have R0_22 := R0_21.kept hb
    have M_22 := M_21.kept hb
    have R2_22 := R2.kept hb
    obtain ⟨ca22, cb22⟩ := box2_cells B22
    go_wp2_with fail
    refine (heldIntS_one _ ys.length _ _ M_22 hy).mono ?_
    rintro e w' ⟨rfl, rfl⟩
    go_wp2_with fail
    go_ret
    exact ⟨rfl, bel_step (bel_alloc _ _) B22⟩


set_option maxHeartbeats 1600000 in
theorem walk_FnExactFilterInWord (w : World) (b : Int) (wr : Bool) (wb : (Lit.int .i64 b).wf = true) (u_h : Option Addr) (l_h c_h : Nat) (z_h : List Int) (hr_h : IsRow .i64 w u_h l_h c_h z_h) (u_s : Option Addr) (l_s c_s : Nat) (z_s : List Int) (hr_s : IsRow .i64 w u_s l_s c_s z_s) (k : Int) (w_k : (Lit.int .i64 k).wf = true) (mode : Int) (w_mode : (Lit.int .i64 mode).wf = true) :
    Calls Try.prog 5 #[.agg #[.int .i64 b, .bool wr], .slice u_h l_h c_h, .slice u_s l_s c_s, .int .i64 k, .int .i64 mode] w fun e w' => e = .returned (.bool true) ∧ Below w.heap.size w w' := by
  obtain ⟨hs_h, hlen_h, hin_h⟩ := hr_h.sl
  generalize z_h.take l_h = h at hs_h hlen_h hin_h
  clear hr_h
  obtain ⟨hs_s, hlen_s, hin_s⟩ := hr_s.sl
  generalize z_s.take l_s = s at hs_s hlen_s hin_s
  clear hr_s
  obtain ⟨b_1, b_2⟩ := bounds_i64 wb
  obtain ⟨k_1, k_2⟩ := bounds_i64 w_k
  obtain ⟨mode_1, mode_2⟩ := bounds_i64 w_mode
  by_cases hbig_h : 1048576 < l_h
  · clear hs_h hlen_h hin_h hs_s hlen_s hin_s
    go_enter Try.func5, Try.ntmps5
    go_wp2
    go_ret
    exact ⟨rfl, bel_alloc _ _⟩
  · have hq_h : l_h ≤ 1048576 := by omega
    by_cases hbig_s : 1048576 < l_s
    · clear hs_s hlen_s hin_s
      go_enter Try.func5, Try.ntmps5
      go_wp2
      go_ret
      exact ⟨rfl, bel_alloc _ _⟩
    · have hq_s : l_s ≤ 1048576 := by omega
      exact gen_FnExactFilterInWord b wr h s k mode _ _ _ _ _ _ (fwY b wr h s k mode) (fiB b h s k mode) w hs_h (by omega) (by omega) hs_s (by omega) (by omega) (fwY_len (by omega)) (fun w v_h v_s h_h h_s => spec_FilterInWord_any v_h v_s h s b k mode wr w h_h h_s (by omega) (by omega)) (fun w v_h v_s h_h h_s => impl_FilterInWord_any v_h v_s h s b k mode wr w h_h h_s (by omega) (by omega))

end Go.Proofs.Ytogffkgihjdbkaa
