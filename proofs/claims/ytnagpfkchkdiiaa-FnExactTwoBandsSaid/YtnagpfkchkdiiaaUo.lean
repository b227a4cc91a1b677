
import Derived.Test.YtnagpfkchkdiiaaUn
namespace Go.Proofs.Ytnagpfkchkdiiaa
open Go.RowKit BitX Go.MemX Go.Ch6 Go.Ch8
set_option linter.unusedVariables false
theorem heldIntS_plus (v : Value) (n j B : Nat) (w : World) (hv : Res 3 B w v (marks (1 + j) n)) (hl : n ≤ 2000000) (hj : j ≤ 4000000) :
    Calls Try.prog 10 #[v, .int .i64 (1 + (j : Int))] w fun e w' => e = .returned (.int .i64 ((1 + j + n : Nat) : Int)) ∧ w = w' := by
  have := heldIntS_res v n (1 + j) B w hv hl (by omega)
  rw [Int.natCast_add] at this
  exact this
theorem tl_len {s : List Int} : (onL (tbO s) (tlL s)).length ≤ 2000000 := onL_len fun h => by
  unfold tbO tbB at h
  simp only [Bool.and_eq_true] at h
  have := (sigB_t h.1.1).1
  unfold tlL; rw [tab_len]; omega
theorem th_len {s : List Int} : (onL (tbO s) (thL s)).length ≤ 2000000 := onL_len fun h => by
  unfold tbO at h
  rw [Bool.and_eq_true] at h
  have := (sigB_t h.2).1; omega


set_option maxHeartbeats 1600000 in
theorem gen_FnExactTwoBands (s : List Int) (u_s : Option Addr) (l_s c_s : Nat) (ys zs : List Int) (ok : Bool) (w : World) (hs_s : Sl w (.slice u_s l_s c_s) s) (ll_s : l_s ≤ 1048576) (hl_s : s.length ≤ 1048576) (hy : ys.length ≤ 2000000) (hz : zs.length ≤ 2000000) (hspec : ∀ (w : World) (v_s : Value), Sl w v_s s → Calls Try.prog 5 #[v_s] w (GivesLL w ys zs ok)) (himpl : ∀ (w : World) (v_s : Value), Sl w v_s s → Calls Try.prog 7 #[v_s] w (GivesLL w ys zs ok)) :
    Calls Try.prog 3 #[.slice u_s l_s c_s] w fun e w' => e = .returned (.bool true) ∧ Below w.heap.size w w' := by
  have HSs := hid hs_s
  clear hs_s
  have HSP := hid hspec
  have HIM := hid himpl
  clear hspec himpl
  have HY := hid hy
  have HZ := hid hz
  clear hy hz
  all_goals cases ok
  all_goals
    go_enter Try.func3, Try.ntmps3
    go_wp2_with fail
    refine (toIntS_any _ s _ HSs.out (by omega)).mono ?_
    rintro e w1 ⟨g_As0, hg_As0, rfl, K_As0, hb⟩
    have B1 := hb
    have hz1 : w.heap.size ≤ w1.heap.size := by first | exact hb.size | (have := hb.size; simp at this; omega)
    have As0 := K_As0.res hg_As0
    go_wp2_with fail
    refine (HSP.out _ _ As0.sl).mono ?_
    rintro e w2 ⟨va_R0, vb_R0, rfl, R0a, R0b, ap_R0, hb⟩
    have B2 := bel_step B1 hb
    have hz2 : w1.heap.size ≤ w2.heap.size := hb.size
    have As0_2 := As0.kept hb
    have AP_R0 := hid ap_R0
    clear ap_R0
    have hlt0a : ∀ g, va_R0.ownBlock = some g → g < w2.heap.size := fun g hg => R0a.lt hg
    have Hlt0a := hid hlt0a
    clear hlt0a
    have hlt0b : ∀ g, vb_R0.ownBlock = some g → g < w2.heap.size := fun g hg => R0b.lt hg
    have Hlt0b := hid hlt0b
    clear hlt0b
    go_wp2_with fail
    refine (toIntS_any _ s _ (HSs.out.kept B2) (by omega)).mono ?_
    rintro e w3 ⟨g_Xs, hg_Xs, rfl, K_Xs, hb⟩
    have B3 := bel_step B2 hb
    have hz3 : w2.heap.size ≤ w3.heap.size := hb.size
    have R0a_3 := R0a.kept hb
    have R0b_3 := R0b.kept hb
    have Xs := K_Xs.res hg_Xs
    have hlt_Xs := K_Xs.lt
    have hnea_Xs : ∀ g, va_R0.ownBlock = some g → g ≠ g_Xs := fun g hg => by have a1 := Hlt0a.out g hg; omega
    have Hnea_Xs := hid hnea_Xs
    clear hnea_Xs
    have hneb_Xs : ∀ g, vb_R0.ownBlock = some g → g ≠ g_Xs := fun g hg => by have a1 := Hlt0b.out g hg; omega
    have Hneb_Xs := hid hneb_Xs
    clear hneb_Xs
    have hxl_Xs : g_Xs < w3.heap.size := Xs.lt rfl
    go_wp2_with fail
    refine (HIM.out _ _ Xs.sl).mono ?_
    rintro e w4 ⟨va_R1, vb_R1, rfl, R1a, R1b, ap_R1, hb⟩
    have B4 := bel_step B3 hb
    have hz4 : w3.heap.size ≤ w4.heap.size := hb.size
    have R0a_4 := R0a_3.kept hb
    have R0b_4 := R0b_3.kept hb
    have Xs_4 := Xs.kept hb
    have AP_R1 := hid ap_R1
    clear ap_R1
    have hne1a_Xs : ∀ g, va_R1.ownBlock = some g → g ≠ g_Xs := fun g hg => by have a1 := R1a.ge hg; omega
    have Hne1a_Xs := hid hne1a_Xs
    clear hne1a_Xs
    have hge1a : ∀ g, va_R1.ownBlock = some g → w3.heap.size ≤ g := fun g hg => R1a.ge hg
    have Hge1a := hid hge1a
    clear hge1a
    have hne1b_Xs : ∀ g, vb_R1.ownBlock = some g → g ≠ g_Xs := fun g hg => by have a1 := R1b.ge hg; omega
    have Hne1b_Xs := hid hne1b_Xs
    clear hne1b_Xs
    have hge1b : ∀ g, vb_R1.ownBlock = some g → w3.heap.size ≤ g := fun g hg => R1b.ge hg
    have Hge1b := hid hge1b
    clear hge1b
    have hnoaa : ∀ g, va_R0.ownBlock = some g → va_R1.ownBlock ≠ some g := fun g hg e => by have a1 := Hge1a.out g e; have a2 := Hlt0a.out g hg; omega
    have Hnoaa := hid hnoaa
    clear hnoaa
    have hnoab : ∀ g, va_R0.ownBlock = some g → vb_R1.ownBlock ≠ some g := fun g hg e => by have a1 := Hge1b.out g e; have a2 := Hlt0a.out g hg; omega
    have Hnoab := hid hnoab
    clear hnoab
    have hnoba : ∀ g, vb_R0.ownBlock = some g → va_R1.ownBlock ≠ some g := fun g hg e => by have a1 := Hge1a.out g e; have a2 := Hlt0b.out g hg; omega
    have Hnoba := hid hnoba
    clear hnoba
    have hnobb : ∀ g, vb_R0.ownBlock = some g → vb_R1.ownBlock ≠ some g := fun g hg e => by have a1 := Hge1b.out g e; have a2 := Hlt0b.out g hg; omega
    have Hnobb := hid hnobb
    clear hnobb
    go_wp2_with fail
    refine (eqIntS_same _ _ ys _ R1a.sl R0a_4.sl HY.out).mono ?_
    rintro e w5 ⟨rfl, hb⟩
    have B5 := bel_step B4 hb
    have hz5 : w4.heap.size ≤ w5.heap.size := hb.size
    have R0a_5 := R0a_4.kept hb
    have R0b_5 := R0b_4.kept hb
    have Xs_5 := Xs_4.kept hb
    have R1a_5 := R1a.kept hb
    have R1b_5 := R1b.kept hb
    go_wp2_with fail
    refine (eqIntS_same _ _ zs _ R1b_5.sl R0b_5.sl HZ.out).mono ?_
    rintro e w6 ⟨rfl, hb⟩
    have B6 := bel_step B5 hb
    have hz6 : w5.heap.size ≤ w6.heap.size := hb.size
    have R0a_6 := R0a_5.kept hb
    have R0b_6 := R0b_5.kept hb
    have Xs_6 := Xs_5.kept hb
    have R1a_6 := R1a_5.kept hb
    have R1b_6 := R1b_5.kept hb
    go_wp2_with fail
    refine (toIntS_any _ s _ (HSs.out.kept B6) (by omega)).mono ?_
    rintro e w7 ⟨g_TXs, hg_TXs, rfl, K_TXs, hb⟩
    have B7 := bel_step B6 hb
    have hz7 : w6.heap.size ≤ w7.heap.size := hb.size
    have R0a_7 := R0a_6.kept hb
    have R0b_7 := R0b_6.kept hb
    have Xs_7 := Xs_6.kept hb
    have R1a_7 := R1a_6.kept hb
    have R1b_7 := R1b_6.kept hb
    have TXs := K_TXs.res hg_TXs
    go_wp2_with fail
    refine (eqIntS_same _ _ s _ Xs_7.sl TXs.sl (by omega)).mono ?_
    rintro e w8 ⟨rfl, hb⟩
    have B8 := bel_step B7 hb
    have hz8 : w7.heap.size ≤ w8.heap.size := hb.size
    have R0a_8 := R0a_7.kept hb
    have R0b_8 := R0b_7.kept hb
    have Xs_8 := Xs_7.kept hb
    have R1a_8 := R1a_7.kept hb
    have R1b_8 := R1b_7.kept hb
    have TXs_8 := TXs.kept hb
    go_wp2_with fail
    refine (markIntS_one _ s _ _ Xs_8 (by omega)).mono ?_
    rintro e w9 ⟨rfl, ho, _⟩
    have B9 := B8.trans (ho.below fun g hg => by cases hg; exact Nat.le_trans B2.size hg_Xs)
    have hz9 : w8.heap.size ≤ w9.heap.size := Nat.le_of_eq ho.size.symm
    have R0a_9 := R0a_8.only ho fun g hg e => by cases e; exact Hnea_Xs.out _ hg rfl
    have R1a_9 := R1a_8.only ho fun g hg e => by cases e; exact Hne1a_Xs.out _ hg rfl
    have R0b_9 := R0b_8.only ho fun g hg e => by cases e; exact Hneb_Xs.out _ hg rfl
    have R1b_9 := R1b_8.only ho fun g hg e => by cases e; exact Hne1b_Xs.out _ hg rfl
    go_wp2_with fail
    refine (eqIntS_same _ _ ys _ R1a_9.sl R0a_9.sl HY.out).mono ?_
    rintro e w10 ⟨rfl, hb⟩
    have B10 := bel_step B9 hb
    have hz10 : w9.heap.size ≤ w10.heap.size := hb.size
    have R0a_10 := R0a_9.kept hb
    have R0b_10 := R0b_9.kept hb
    have R1a_10 := R1a_9.kept hb
    have R1b_10 := R1b_9.kept hb
    go_wp2_with fail
    refine (eqIntS_same _ _ zs _ R1b_10.sl R0b_10.sl HZ.out).mono ?_
    rintro e w11 ⟨rfl, hb⟩
    have B11 := bel_step B10 hb
    have hz11 : w10.heap.size ≤ w11.heap.size := hb.size
    have R0a_11 := R0a_10.kept hb
    have R0b_11 := R0b_10.kept hb
    have R1a_11 := R1a_10.kept hb
    have R1b_11 := R1b_10.kept hb
    go_wp2_with fail
    refine (markIntS_one _ ys _ _ R1a_11 HY.out).mono ?_
    rintro e w12 ⟨rfl, ho, Ma⟩
    have B12 := B11.trans (ho.below fun g hg => Nat.le_trans B3.size (Hge1a.out g hg))
    have hz12 : w11.heap.size ≤ w12.heap.size := Nat.le_of_eq ho.size.symm
    have R0a_12 := R0a_11.only ho Hnoaa.out
    have R0b_12 := R0b_11.only ho Hnoba.out
    have R1b_12 := R1b_11.only ho AP_R1.out.symm
    go_wp2_with fail
    refine (markIntS_plus _ zs ys.length _ _ R1b_12 HZ.out (by have := HY.out; omega)).mono ?_
    rintro e w13 ⟨rfl, ho, Mb⟩
    have B13 := B12.trans (ho.below fun g hg => Nat.le_trans B3.size (Hge1b.out g hg))
    have hz13 : w12.heap.size ≤ w13.heap.size := Nat.le_of_eq ho.size.symm
    have R0a_13 := R0a_12.only ho Hnoab.out
    have R0b_13 := R0b_12.only ho Hnobb.out
    have Ma_13 := Ma.only ho AP_R1.out
    go_wp2_with fail
    refine (heldIntS_one _ ys.length _ _ Ma_13 HY.out).mono ?_
    rintro e w' ⟨rfl, rfl⟩
    go_wp2_with fail
    refine (heldIntS_plus _ zs.length ys.length _ _ Mb HZ.out (by have := HY.out; omega)).mono ?_
    rintro e w' ⟨rfl, rfl⟩
    go_wp2_with fail
    refine (toIntS_any _ s _ (HSs.out.kept B13) (by omega)).mono ?_
    rintro e w14 ⟨g_As13, hg_As13, rfl, K_As13, hb⟩
    have B14 := bel_step B13 hb
    have hz14 : w13.heap.size ≤ w14.heap.size := hb.size
    have R0a_14 := R0a_13.kept hb
    have R0b_14 := R0b_13.kept hb
    have Ma_14 := Ma_13.kept hb
    have Mb_14 := Mb.kept hb
    have As13 := K_As13.res hg_As13
    go_wp2_with fail
    refine (HIM.out _ _ As13.sl).mono ?_
    rintro e w15 ⟨va_R2, vb_R2, rfl, R2a, R2b, ap_R2, hb⟩
    have B15 := bel_step B14 hb
    have hz15 : w14.heap.size ≤ w15.heap.size := hb.size
    have R0a_15 := R0a_14.kept hb
    have R0b_15 := R0b_14.kept hb
    have Ma_15 := Ma_14.kept hb
    have Mb_15 := Mb_14.kept hb
    have As13_15 := As13.kept hb
    have AP_R2 := hid ap_R2
    clear ap_R2
    go_wp2_with fail
    refine (eqIntS_same _ _ ys _ R2a.sl R0a_15.sl HY.out).mono ?_
    rintro e w16 ⟨rfl, hb⟩
    have B16 := bel_step B15 hb
    have hz16 : w15.heap.size ≤ w16.heap.size := hb.size
    have R0a_16 := R0a_15.kept hb
    have R0b_16 := R0b_15.kept hb
    have Ma_16 := Ma_15.kept hb
    have Mb_16 := Mb_15.kept hb
    have R2a_16 := R2a.kept hb
    have R2b_16 := R2b.kept hb
    go_wp2_with fail
    refine (eqIntS_same _ _ zs _ R2b_16.sl R0b_16.sl HZ.out).mono ?_
    rintro e w17 ⟨rfl, hb⟩
    have B17 := bel_step B16 hb
    have hz17 : w16.heap.size ≤ w17.heap.size := hb.size
    have R0a_17 := R0a_16.kept hb
    have R0b_17 := R0b_16.kept hb
    have Ma_17 := Ma_16.kept hb
    have Mb_17 := Mb_16.kept hb
    have R2a_17 := R2a_16.kept hb
    have R2b_17 := R2b_16.kept hb
    go_wp2_with fail
    refine (heldIntS_one _ ys.length _ _ Ma_17 HY.out).mono ?_
    rintro e w' ⟨rfl, rfl⟩
    go_wp2_with fail
    refine (heldIntS_plus _ zs.length ys.length _ _ Mb_17 HZ.out (by have := HY.out; omega)).mono ?_
    rintro e w' ⟨rfl, rfl⟩
    go_wp2_with fail
    go_ret
    exact ⟨rfl, B17⟩


set_option maxHeartbeats 1600000 in
theorem walk_FnExactTwoBands (w : World) (u_s : Option Addr) (l_s c_s : Nat) (z_s : List Int) (hr_s : IsRow .i64 w u_s l_s c_s z_s) :
    Calls Try.prog 3 #[.slice u_s l_s c_s] w fun e w' => e = .returned (.bool true) ∧ Below w.heap.size w w' := by
  obtain ⟨hs_s, hlen_s, hin_s⟩ := hr_s.sl
  generalize z_s.take l_s = s at hs_s hlen_s hin_s
  clear hr_s
  by_cases hbig_s : 1048576 < l_s
  · clear hs_s hlen_s hin_s
    go_enter Try.func3, Try.ntmps3
    go_wp2
    go_ret
    exact ⟨rfl, Below.refl _ _⟩
  · have hq_s : l_s ≤ 1048576 := by omega
    exact gen_FnExactTwoBands s _ _ _ _ _ _ w hs_s (by omega) (by omega) tl_len th_len (fun w v_s h_s => spec_TwoBands_any v_s s w h_s) (fun w v_s h_s => impl_TwoBands_any v_s s w h_s)

end Go.Proofs.Ytnagpfkchkdiiaa
