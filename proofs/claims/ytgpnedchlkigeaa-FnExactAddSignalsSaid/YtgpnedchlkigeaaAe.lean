
import Derived.Test.YtgpnedchlkigeaaAd
namespace Go.Proofs.Ytgpnedchlkigeaa
open Go.RowKit BitX Go.MemX

set_option maxRecDepth 100000 in
set_option maxHeartbeats 4000000 in
theorem law_AddSignals_yes (w : World) (a : Option Addr) (len cap : Nat) (a2 : Option Addr) (len2 cap2 : Nat) (xs ys : List Int) (hs0 : Sl w (.slice a len cap) xs) (ht0 : Sl w (.slice a2 len2 cap2) ys) (hxl : xs.length ≤ 1048576) (hyl : ys.length ≤ 1048576) (hll : len ≤ 1048576) (hll2 : len2 ≤ 1048576) (h : SigP xs) (h2 : SigP ys) (hy : SigP (addL xs ys)) :
    Calls Try.prog 3 #[.slice a len cap, .slice a2 len2 cap2] w fun e w' => e = .returned (.bool true) ∧ Below w.heap.size w w' := by
  have H := hid h
  clear h
  have H2 := hid h2
  clear h2
  have HY := hid hy
  clear hy
  go_enter Try.func3, Try.ntmps3
  go_wp2_with fail
  refine (toIntS_any _ xs _ hs0 (by omega)).mono ?_
  rintro e w1 ⟨g_A0, hg_A0, rfl, K_A0, hb⟩
  have B1 := hb
  have hz1 : w.heap.size ≤ w1.heap.size := by first | exact hb.size | (have := hb.size; simp at this; omega)
  have A0 := K_A0.res hg_A0
  go_wp2_with fail
  refine (toIntS_any _ ys _ (ht0.kept B1) (by omega)).mono ?_
  rintro e w2 ⟨g_C1, hg_C1, rfl, K_C1, hb⟩
  have B2 := bel_step B1 hb
  have hz2 : w1.heap.size ≤ w2.heap.size := hb.size
  have A0_2 := A0.kept hb
  have C1 := K_C1.res hg_C1
  go_wp2_with fail
  refine (spec_AddSignals_yes _ _ xs ys _ A0_2.sl1 C1.sl1 H.out H2.out HY.out).mono ?_
  rintro e w3 ⟨v_R0, rfl, R0, hb⟩
  have B3 := bel_step B2 hb
  have hz3 : w2.heap.size ≤ w3.heap.size := hb.size
  have A0_3 := A0_2.kept hb
  have C1_3 := C1.kept hb
  have hlt0 : ∀ g, v_R0.ownBlock = some g → g < w3.heap.size := fun g hg => R0.lt hg
  have Hlt0 := hid hlt0
  clear hlt0
  go_wp2_with fail
  refine (toIntS_any _ xs _ (hs0.kept B3) (by omega)).mono ?_
  rintro e w4 ⟨g_XA, hg_XA, rfl, K_XA, hb⟩
  have B4 := bel_step B3 hb
  have hz4 : w3.heap.size ≤ w4.heap.size := hb.size
  have R0_4 := R0.kept hb
  have XA := K_XA.res hg_XA
  have hlt_XA := K_XA.lt
  have hne_XA : ∀ g, v_R0.ownBlock = some g → g ≠ g_XA := fun g hg => by have a1 := Hlt0.out g hg; omega
  have Hne_XA := hid hne_XA
  clear hne_XA
  go_wp2_with fail
  refine (toIntS_any _ ys _ (ht0.kept B4) (by omega)).mono ?_
  rintro e w5 ⟨g_XC, hg_XC, rfl, K_XC, hb⟩
  have B5 := bel_step B4 hb
  have hz5 : w4.heap.size ≤ w5.heap.size := hb.size
  have R0_5 := R0_4.kept hb
  have XA_5 := XA.kept hb
  have XC := K_XC.res hg_XC
  have hlt_XC := K_XC.lt
  have hne_XC : ∀ g, v_R0.ownBlock = some g → g ≠ g_XC := fun g hg => by have a1 := Hlt0.out g hg; omega
  have Hne_XC := hid hne_XC
  clear hne_XC
  have hxl_XA : g_XA < w5.heap.size := XA_5.lt rfl
  have hxl_XC : g_XC < w5.heap.size := XC.lt rfl
  go_wp2_with fail
  refine (impl_AddSignals_yes _ _ xs ys _ XA_5.sl1 XC.sl1 H.out H2.out HY.out).mono ?_
  rintro e w6 ⟨v_R1, rfl, R1, hb⟩
  have B6 := bel_step B5 hb
  have hz6 : w5.heap.size ≤ w6.heap.size := hb.size
  have R0_6 := R0_5.kept hb
  have XA_6 := XA_5.kept hb
  have XC_6 := XC.kept hb
  have hne1_XA : ∀ g, v_R1.ownBlock = some g → g ≠ g_XA := fun g hg => by have a1 := R1.ge hg; omega
  have Hne1_XA := hid hne1_XA
  clear hne1_XA
  have hne1_XC : ∀ g, v_R1.ownBlock = some g → g ≠ g_XC := fun g hg => by have a1 := R1.ge hg; omega
  have Hne1_XC := hid hne1_XC
  clear hne1_XC
  have hne01 : ∀ g, v_R0.ownBlock = some g → v_R1.ownBlock ≠ some g := fun g hg e => by have a1 := R1.ge e; have a2 := Hlt0.out g hg; omega
  have Hne01 := hid hne01
  clear hne01
  have hge1 : ∀ g, v_R1.ownBlock = some g → w5.heap.size ≤ g := fun g hg => R1.ge hg
  have Hge1 := hid hge1
  clear hge1
  go_wp2_with fail
  refine (eqIntS_same _ _ (addL xs ys) _ R1.sl R0_6.sl (by rw [addL, tab_len]; have := H.out.1; have := H2.out.1; omega)).mono ?_
  rintro e w7 ⟨rfl, hb⟩
  have B7 := bel_step B6 hb
  have hz7 : w6.heap.size ≤ w7.heap.size := hb.size
  have R0_7 := R0_6.kept hb
  have XA_7 := XA_6.kept hb
  have XC_7 := XC_6.kept hb
  have R1_7 := R1.kept hb
  go_wp2_with fail
  refine (toIntS_any _ xs _ (hs0.kept B7) (by omega)).mono ?_
  rintro e w8 ⟨g_TXA, hg_TXA, rfl, K_TXA, hb⟩
  have B8 := bel_step B7 hb
  have hz8 : w7.heap.size ≤ w8.heap.size := hb.size
  have R0_8 := R0_7.kept hb
  have XA_8 := XA_7.kept hb
  have XC_8 := XC_7.kept hb
  have R1_8 := R1_7.kept hb
  have TXA := K_TXA.res hg_TXA
  go_wp2_with fail
  refine (eqIntS_same _ _ xs _ XA_8.sl TXA.sl (by omega)).mono ?_
  rintro e w9 ⟨rfl, hb⟩
  have B9 := bel_step B8 hb
  have hz9 : w8.heap.size ≤ w9.heap.size := hb.size
  have R0_9 := R0_8.kept hb
  have XA_9 := XA_8.kept hb
  have XC_9 := XC_8.kept hb
  have R1_9 := R1_8.kept hb
  have TXA_9 := TXA.kept hb
  go_wp2_with fail
  refine (toIntS_any _ ys _ (ht0.kept B9) (by omega)).mono ?_
  rintro e w10 ⟨g_TXC, hg_TXC, rfl, K_TXC, hb⟩
  have B10 := bel_step B9 hb
  have hz10 : w9.heap.size ≤ w10.heap.size := hb.size
  have R0_10 := R0_9.kept hb
  have XA_10 := XA_9.kept hb
  have XC_10 := XC_9.kept hb
  have R1_10 := R1_9.kept hb
  have TXC := K_TXC.res hg_TXC
  go_wp2_with fail
  refine (eqIntS_same _ _ ys _ XC_10.sl TXC.sl (by omega)).mono ?_
  rintro e w11 ⟨rfl, hb⟩
  have B11 := bel_step B10 hb
  have hz11 : w10.heap.size ≤ w11.heap.size := hb.size
  have R0_11 := R0_10.kept hb
  have XA_11 := XA_10.kept hb
  have XC_11 := XC_10.kept hb
  have R1_11 := R1_10.kept hb
  have TXC_11 := TXC.kept hb
  go_wp2_with fail
  refine (markIntS_one _ xs _ _ XA_11 (by omega)).mono ?_
  rintro e w12 ⟨rfl, ho, _⟩
  have B12 := B11.trans (ho.below fun g hg => by cases hg; exact Nat.le_trans B3.size hg_XA)
  have hz12 : w11.heap.size ≤ w12.heap.size := Nat.le_of_eq ho.size.symm
  have R0_12 := R0_11.only ho fun g hg e => by cases e; exact Hne_XA.out _ hg rfl
  have R1_12 := R1_11.only ho fun g hg e => by cases e; exact Hne1_XA.out _ hg rfl
  have XC_12 := XC_11.only ho fun g hg e => by cases hg; cases e; omega
  go_wp2_with fail
  refine (markIntS_plus _ ys xs.length _ _ XC_12 (by omega) (by omega)).mono ?_
  rintro e w13 ⟨rfl, ho, _⟩
  have B13 := B12.trans (ho.below fun g hg => by cases hg; exact Nat.le_trans B4.size hg_XC)
  have hz13 : w12.heap.size ≤ w13.heap.size := Nat.le_of_eq ho.size.symm
  have R0_13 := R0_12.only ho fun g hg e => by cases e; exact Hne_XC.out _ hg rfl
  have R1_13 := R1_12.only ho fun g hg e => by cases e; exact Hne1_XC.out _ hg rfl
  go_wp2_with fail
  refine (eqIntS_same _ _ (addL xs ys) _ R1_13.sl R0_13.sl (by rw [addL, tab_len]; have := H.out.1; have := H2.out.1; omega)).mono ?_
  rintro e w14 ⟨rfl, hb⟩
  have B14 := bel_step B13 hb
  have hz14 : w13.heap.size ≤ w14.heap.size := hb.size
  have R0_14 := R0_13.kept hb
  have R1_14 := R1_13.kept hb
  go_wp2_with fail
  refine (markIntS_one _ (addL xs ys) _ _ R1_14 (by rw [addL, tab_len]; have := H.out.1; have := H2.out.1; omega)).mono ?_
  rintro e w15 ⟨rfl, ho, M⟩
  have B15 := B14.trans (ho.below fun g hg => Nat.le_trans B5.size (Hge1.out g hg))
  have hz15 : w14.heap.size ≤ w15.heap.size := Nat.le_of_eq ho.size.symm
  have R0_15 := R0_14.only ho Hne01.out
  go_wp2_with fail
  refine (heldIntS_one _ (addL xs ys).length _ _ M (by rw [addL, tab_len]; have := H.out.1; have := H2.out.1; omega)).mono ?_
  rintro e w' ⟨rfl, rfl⟩
  go_wp2_with fail
  refine (toIntS_any _ xs _ (hs0.kept B15) (by omega)).mono ?_
  rintro e w16 ⟨g_A15, hg_A15, rfl, K_A15, hb⟩
  have B16 := bel_step B15 hb
  have hz16 : w15.heap.size ≤ w16.heap.size := hb.size
  have R0_16 := R0_15.kept hb
  have M_16 := M.kept hb
  have A15 := K_A15.res hg_A15
  go_wp2_with fail
  refine (toIntS_any _ ys _ (ht0.kept B16) (by omega)).mono ?_
  rintro e w17 ⟨g_C16, hg_C16, rfl, K_C16, hb⟩
  have B17 := bel_step B16 hb
  have hz17 : w16.heap.size ≤ w17.heap.size := hb.size
  have R0_17 := R0_16.kept hb
  have M_17 := M_16.kept hb
  have A15_17 := A15.kept hb
  have C16 := K_C16.res hg_C16
  go_wp2_with fail
  refine (impl_AddSignals_yes _ _ xs ys _ A15_17.sl1 C16.sl1 H.out H2.out HY.out).mono ?_
  rintro e w18 ⟨v_R2, rfl, R2, hb⟩
  have B18 := bel_step B17 hb
  have hz18 : w17.heap.size ≤ w18.heap.size := hb.size
  have R0_18 := R0_17.kept hb
  have M_18 := M_17.kept hb
  have A15_18 := A15_17.kept hb
  have C16_18 := C16.kept hb
  go_wp2_with fail
  refine (eqIntS_same _ _ (addL xs ys) _ R2.sl R0_18.sl (by rw [addL, tab_len]; have := H.out.1; have := H2.out.1; omega)).mono ?_
  rintro e w19 ⟨rfl, hb⟩
  have B19 := bel_step B18 hb
  have hz19 : w18.heap.size ≤ w19.heap.size := hb.size
  have R0_19 := R0_18.kept hb
  have M_19 := M_18.kept hb
  have R2_19 := R2.kept hb
  go_wp2_with fail
  refine (heldIntS_one _ (addL xs ys).length _ _ M_19 (by rw [addL, tab_len]; have := H.out.1; have := H2.out.1; omega)).mono ?_
  rintro e w' ⟨rfl, rfl⟩
  go_wp2_with fail
  go_ret
  exact ⟨rfl, B19⟩

set_option maxRecDepth 100000 in
set_option maxHeartbeats 4000000 in
theorem law_AddSignals_out (w : World) (a : Option Addr) (len cap : Nat) (a2 : Option Addr) (len2 cap2 : Nat) (xs ys : List Int) (hs0 : Sl w (.slice a len cap) xs) (ht0 : Sl w (.slice a2 len2 cap2) ys) (hxl : xs.length ≤ 1048576) (hyl : ys.length ≤ 1048576) (hll : len ≤ 1048576) (hll2 : len2 ≤ 1048576) (h : SigP xs) (h2 : SigP ys) (hy : ¬ SigP (addL xs ys)) :
    Calls Try.prog 3 #[.slice a len cap, .slice a2 len2 cap2] w fun e w' => e = .returned (.bool true) ∧ Below w.heap.size w w' := by
  have H := hid h
  clear h
  have H2 := hid h2
  clear h2
  have HY := hid hy
  clear hy
  go_enter Try.func3, Try.ntmps3
  go_wp2_with fail
  refine (toIntS_any _ xs _ hs0 (by omega)).mono ?_
  rintro e w1 ⟨g_A0, hg_A0, rfl, K_A0, hb⟩
  have B1 := hb
  have hz1 : w.heap.size ≤ w1.heap.size := by first | exact hb.size | (have := hb.size; simp at this; omega)
  have A0 := K_A0.res hg_A0
  go_wp2_with fail
  refine (toIntS_any _ ys _ (ht0.kept B1) (by omega)).mono ?_
  rintro e w2 ⟨g_C1, hg_C1, rfl, K_C1, hb⟩
  have B2 := bel_step B1 hb
  have hz2 : w1.heap.size ≤ w2.heap.size := hb.size
  have A0_2 := A0.kept hb
  have C1 := K_C1.res hg_C1
  go_wp2_with fail
  refine (spec_AddSignals_out _ _ xs ys _ A0_2.sl1 C1.sl1 H.out H2.out HY.out).mono ?_
  rintro e w3 ⟨v_R0, rfl, R0, hb⟩
  have B3 := bel_step B2 hb
  have hz3 : w2.heap.size ≤ w3.heap.size := hb.size
  have A0_3 := A0_2.kept hb
  have C1_3 := C1.kept hb
  have hlt0 : ∀ g, v_R0.ownBlock = some g → g < w3.heap.size := fun g hg => R0.lt hg
  have Hlt0 := hid hlt0
  clear hlt0
  go_wp2_with fail
  refine (toIntS_any _ xs _ (hs0.kept B3) (by omega)).mono ?_
  rintro e w4 ⟨g_XA, hg_XA, rfl, K_XA, hb⟩
  have B4 := bel_step B3 hb
  have hz4 : w3.heap.size ≤ w4.heap.size := hb.size
  have R0_4 := R0.kept hb
  have XA := K_XA.res hg_XA
  have hlt_XA := K_XA.lt
  have hne_XA : ∀ g, v_R0.ownBlock = some g → g ≠ g_XA := fun g hg => by have a1 := Hlt0.out g hg; omega
  have Hne_XA := hid hne_XA
  clear hne_XA
  go_wp2_with fail
  refine (toIntS_any _ ys _ (ht0.kept B4) (by omega)).mono ?_
  rintro e w5 ⟨g_XC, hg_XC, rfl, K_XC, hb⟩
  have B5 := bel_step B4 hb
  have hz5 : w4.heap.size ≤ w5.heap.size := hb.size
  have R0_5 := R0_4.kept hb
  have XA_5 := XA.kept hb
  have XC := K_XC.res hg_XC
  have hlt_XC := K_XC.lt
  have hne_XC : ∀ g, v_R0.ownBlock = some g → g ≠ g_XC := fun g hg => by have a1 := Hlt0.out g hg; omega
  have Hne_XC := hid hne_XC
  clear hne_XC
  have hxl_XA : g_XA < w5.heap.size := XA_5.lt rfl
  have hxl_XC : g_XC < w5.heap.size := XC.lt rfl
  go_wp2_with fail
  refine (impl_AddSignals_out _ _ xs ys _ XA_5.sl1 XC.sl1 H.out H2.out HY.out).mono ?_
  rintro e w6 ⟨v_R1, rfl, R1, hb⟩
  have B6 := bel_step B5 hb
  have hz6 : w5.heap.size ≤ w6.heap.size := hb.size
  have R0_6 := R0_5.kept hb
  have XA_6 := XA_5.kept hb
  have XC_6 := XC.kept hb
  have hne1_XA : ∀ g, v_R1.ownBlock = some g → g ≠ g_XA := fun g hg => by have a1 := R1.ge hg; omega
  have Hne1_XA := hid hne1_XA
  clear hne1_XA
  have hne1_XC : ∀ g, v_R1.ownBlock = some g → g ≠ g_XC := fun g hg => by have a1 := R1.ge hg; omega
  have Hne1_XC := hid hne1_XC
  clear hne1_XC
  have hne01 : ∀ g, v_R0.ownBlock = some g → v_R1.ownBlock ≠ some g := fun g hg e => by have a1 := R1.ge e; have a2 := Hlt0.out g hg; omega
  have Hne01 := hid hne01
  clear hne01
  have hge1 : ∀ g, v_R1.ownBlock = some g → w5.heap.size ≤ g := fun g hg => R1.ge hg
  have Hge1 := hid hge1
  clear hge1
  go_wp2_with fail
  refine (eqIntS_same _ _ ([]) _ R1.sl R0_6.sl (by simp)).mono ?_
  rintro e w7 ⟨rfl, hb⟩
  have B7 := bel_step B6 hb
  have hz7 : w6.heap.size ≤ w7.heap.size := hb.size
  have R0_7 := R0_6.kept hb
  have XA_7 := XA_6.kept hb
  have XC_7 := XC_6.kept hb
  have R1_7 := R1.kept hb
  go_wp2_with fail
  refine (toIntS_any _ xs _ (hs0.kept B7) (by omega)).mono ?_
  rintro e w8 ⟨g_TXA, hg_TXA, rfl, K_TXA, hb⟩
  have B8 := bel_step B7 hb
  have hz8 : w7.heap.size ≤ w8.heap.size := hb.size
  have R0_8 := R0_7.kept hb
  have XA_8 := XA_7.kept hb
  have XC_8 := XC_7.kept hb
  have R1_8 := R1_7.kept hb
  have TXA := K_TXA.res hg_TXA
  go_wp2_with fail
  refine (eqIntS_same _ _ xs _ XA_8.sl TXA.sl (by omega)).mono ?_
  rintro e w9 ⟨rfl, hb⟩
  have B9 := bel_step B8 hb
  have hz9 : w8.heap.size ≤ w9.heap.size := hb.size
  have R0_9 := R0_8.kept hb
  have XA_9 := XA_8.kept hb
  have XC_9 := XC_8.kept hb
  have R1_9 := R1_8.kept hb
  have TXA_9 := TXA.kept hb
  go_wp2_with fail
  refine (toIntS_any _ ys _ (ht0.kept B9) (by omega)).mono ?_
  rintro e w10 ⟨g_TXC, hg_TXC, rfl, K_TXC, hb⟩
  have B10 := bel_step B9 hb
  have hz10 : w9.heap.size ≤ w10.heap.size := hb.size
  have R0_10 := R0_9.kept hb
  have XA_10 := XA_9.kept hb
  have XC_10 := XC_9.kept hb
  have R1_10 := R1_9.kept hb
  have TXC := K_TXC.res hg_TXC
  go_wp2_with fail
  refine (eqIntS_same _ _ ys _ XC_10.sl TXC.sl (by omega)).mono ?_
  rintro e w11 ⟨rfl, hb⟩
  have B11 := bel_step B10 hb
  have hz11 : w10.heap.size ≤ w11.heap.size := hb.size
  have R0_11 := R0_10.kept hb
  have XA_11 := XA_10.kept hb
  have XC_11 := XC_10.kept hb
  have R1_11 := R1_10.kept hb
  have TXC_11 := TXC.kept hb
  go_wp2_with fail
  refine (markIntS_one _ xs _ _ XA_11 (by omega)).mono ?_
  rintro e w12 ⟨rfl, ho, _⟩
  have B12 := B11.trans (ho.below fun g hg => by cases hg; exact Nat.le_trans B3.size hg_XA)
  have hz12 : w11.heap.size ≤ w12.heap.size := Nat.le_of_eq ho.size.symm
  have R0_12 := R0_11.only ho fun g hg e => by cases e; exact Hne_XA.out _ hg rfl
  have R1_12 := R1_11.only ho fun g hg e => by cases e; exact Hne1_XA.out _ hg rfl
  have XC_12 := XC_11.only ho fun g hg e => by cases hg; cases e; omega
  go_wp2_with fail
  refine (markIntS_plus _ ys xs.length _ _ XC_12 (by omega) (by omega)).mono ?_
  rintro e w13 ⟨rfl, ho, _⟩
  have B13 := B12.trans (ho.below fun g hg => by cases hg; exact Nat.le_trans B4.size hg_XC)
  have hz13 : w12.heap.size ≤ w13.heap.size := Nat.le_of_eq ho.size.symm
  have R0_13 := R0_12.only ho fun g hg e => by cases e; exact Hne_XC.out _ hg rfl
  have R1_13 := R1_12.only ho fun g hg e => by cases e; exact Hne1_XC.out _ hg rfl
  go_wp2_with fail
  refine (eqIntS_same _ _ ([]) _ R1_13.sl R0_13.sl (by simp)).mono ?_
  rintro e w14 ⟨rfl, hb⟩
  have B14 := bel_step B13 hb
  have hz14 : w13.heap.size ≤ w14.heap.size := hb.size
  have R0_14 := R0_13.kept hb
  have R1_14 := R1_13.kept hb
  go_wp2_with fail
  refine (markIntS_one _ ([]) _ _ R1_14 (by simp)).mono ?_
  rintro e w15 ⟨rfl, ho, M⟩
  have B15 := B14.trans (ho.below fun g hg => Nat.le_trans B5.size (Hge1.out g hg))
  have hz15 : w14.heap.size ≤ w15.heap.size := Nat.le_of_eq ho.size.symm
  have R0_15 := R0_14.only ho Hne01.out
  go_wp2_with fail
  refine (heldIntS_one _ ([]).length _ _ M (by simp)).mono ?_
  rintro e w' ⟨rfl, rfl⟩
  go_wp2_with fail
  refine (toIntS_any _ xs _ (hs0.kept B15) (by omega)).mono ?_
  rintro e w16 ⟨g_A15, hg_A15, rfl, K_A15, hb⟩
  have B16 := bel_step B15 hb
  have hz16 : w15.heap.size ≤ w16.heap.size := hb.size
  have R0_16 := R0_15.kept hb
  have M_16 := M.kept hb
  have A15 := K_A15.res hg_A15
  go_wp2_with fail
  refine (toIntS_any _ ys _ (ht0.kept B16) (by omega)).mono ?_
  rintro e w17 ⟨g_C16, hg_C16, rfl, K_C16, hb⟩
  have B17 := bel_step B16 hb
  have hz17 : w16.heap.size ≤ w17.heap.size := hb.size
  have R0_17 := R0_16.kept hb
  have M_17 := M_16.kept hb
  have A15_17 := A15.kept hb
  have C16 := K_C16.res hg_C16
  go_wp2_with fail
  refine (impl_AddSignals_out _ _ xs ys _ A15_17.sl1 C16.sl1 H.out H2.out HY.out).mono ?_
  rintro e w18 ⟨v_R2, rfl, R2, hb⟩
  have B18 := bel_step B17 hb
  have hz18 : w17.heap.size ≤ w18.heap.size := hb.size
  have R0_18 := R0_17.kept hb
  have M_18 := M_17.kept hb
  have A15_18 := A15_17.kept hb
  have C16_18 := C16.kept hb
  go_wp2_with fail
  refine (eqIntS_same _ _ ([]) _ R2.sl R0_18.sl (by simp)).mono ?_
  rintro e w19 ⟨rfl, hb⟩
  have B19 := bel_step B18 hb
  have hz19 : w18.heap.size ≤ w19.heap.size := hb.size
  have R0_19 := R0_18.kept hb
  have M_19 := M_18.kept hb
  have R2_19 := R2.kept hb
  go_wp2_with fail
  refine (heldIntS_one _ ([]).length _ _ M_19 (by simp)).mono ?_
  rintro e w' ⟨rfl, rfl⟩
  go_wp2_with fail
  go_ret
  exact ⟨rfl, B19⟩

set_option maxRecDepth 100000 in
set_option maxHeartbeats 4000000 in
theorem law_AddSignals_no1 (w : World) (a : Option Addr) (len cap : Nat) (a2 : Option Addr) (len2 cap2 : Nat) (xs ys : List Int) (hs0 : Sl w (.slice a len cap) xs) (ht0 : Sl w (.slice a2 len2 cap2) ys) (hxl : xs.length ≤ 1048576) (hyl : ys.length ≤ 1048576) (hll : len ≤ 1048576) (hll2 : len2 ≤ 1048576) (h : ¬ SigP xs) :
    Calls Try.prog 3 #[.slice a len cap, .slice a2 len2 cap2] w fun e w' => e = .returned (.bool true) ∧ Below w.heap.size w w' := by
  have H := hid h
  clear h
  go_enter Try.func3, Try.ntmps3
  go_wp2_with fail
  refine (toIntS_any _ xs _ hs0 (by omega)).mono ?_
  rintro e w1 ⟨g_A0, hg_A0, rfl, K_A0, hb⟩
  have B1 := hb
  have hz1 : w.heap.size ≤ w1.heap.size := by first | exact hb.size | (have := hb.size; simp at this; omega)
  have A0 := K_A0.res hg_A0
  go_wp2_with fail
  refine (toIntS_any _ ys _ (ht0.kept B1) (by omega)).mono ?_
  rintro e w2 ⟨g_C1, hg_C1, rfl, K_C1, hb⟩
  have B2 := bel_step B1 hb
  have hz2 : w1.heap.size ≤ w2.heap.size := hb.size
  have A0_2 := A0.kept hb
  have C1 := K_C1.res hg_C1
  go_wp2_with fail
  refine (spec_AddSignals_no1 _ _ xs _ A0_2.sl H.out).mono ?_
  rintro e w3 ⟨v_R0, rfl, R0, hb⟩
  have B3 := bel_step B2 hb
  have hz3 : w2.heap.size ≤ w3.heap.size := hb.size
  have A0_3 := A0_2.kept hb
  have C1_3 := C1.kept hb
  have hlt0 : ∀ g, v_R0.ownBlock = some g → g < w3.heap.size := fun g hg => R0.lt hg
  have Hlt0 := hid hlt0
  clear hlt0
  go_wp2_with fail
  refine (toIntS_any _ xs _ (hs0.kept B3) (by omega)).mono ?_
  rintro e w4 ⟨g_XA, hg_XA, rfl, K_XA, hb⟩
  have B4 := bel_step B3 hb
  have hz4 : w3.heap.size ≤ w4.heap.size := hb.size
  have R0_4 := R0.kept hb
  have XA := K_XA.res hg_XA
  have hlt_XA := K_XA.lt
  have hne_XA : ∀ g, v_R0.ownBlock = some g → g ≠ g_XA := fun g hg => by have a1 := Hlt0.out g hg; omega
  have Hne_XA := hid hne_XA
  clear hne_XA
  go_wp2_with fail
  refine (toIntS_any _ ys _ (ht0.kept B4) (by omega)).mono ?_
  rintro e w5 ⟨g_XC, hg_XC, rfl, K_XC, hb⟩
  have B5 := bel_step B4 hb
  have hz5 : w4.heap.size ≤ w5.heap.size := hb.size
  have R0_5 := R0_4.kept hb
  have XA_5 := XA.kept hb
  have XC := K_XC.res hg_XC
  have hlt_XC := K_XC.lt
  have hne_XC : ∀ g, v_R0.ownBlock = some g → g ≠ g_XC := fun g hg => by have a1 := Hlt0.out g hg; omega
  have Hne_XC := hid hne_XC
  clear hne_XC
  have hxl_XA : g_XA < w5.heap.size := XA_5.lt rfl
  have hxl_XC : g_XC < w5.heap.size := XC.lt rfl
  go_wp2_with fail
  refine (impl_AddSignals_no1 _ _ xs _ XA_5.sl H.out).mono ?_
  rintro e w6 ⟨v_R1, rfl, R1, hb⟩
  have B6 := bel_step B5 hb
  have hz6 : w5.heap.size ≤ w6.heap.size := hb.size
  have R0_6 := R0_5.kept hb
  have XA_6 := XA_5.kept hb
  have XC_6 := XC.kept hb
  have hne1_XA : ∀ g, v_R1.ownBlock = some g → g ≠ g_XA := fun g hg => by have a1 := R1.ge hg; omega
  have Hne1_XA := hid hne1_XA
  clear hne1_XA
  have hne1_XC : ∀ g, v_R1.ownBlock = some g → g ≠ g_XC := fun g hg => by have a1 := R1.ge hg; omega
  have Hne1_XC := hid hne1_XC
  clear hne1_XC
  have hne01 : ∀ g, v_R0.ownBlock = some g → v_R1.ownBlock ≠ some g := fun g hg e => by have a1 := R1.ge e; have a2 := Hlt0.out g hg; omega
  have Hne01 := hid hne01
  clear hne01
  have hge1 : ∀ g, v_R1.ownBlock = some g → w5.heap.size ≤ g := fun g hg => R1.ge hg
  have Hge1 := hid hge1
  clear hge1
  go_wp2_with fail
  refine (eqIntS_same _ _ ([]) _ R1.sl R0_6.sl (by simp)).mono ?_
  rintro e w7 ⟨rfl, hb⟩
  have B7 := bel_step B6 hb
  have hz7 : w6.heap.size ≤ w7.heap.size := hb.size
  have R0_7 := R0_6.kept hb
  have XA_7 := XA_6.kept hb
  have XC_7 := XC_6.kept hb
  have R1_7 := R1.kept hb
  go_wp2_with fail
  refine (toIntS_any _ xs _ (hs0.kept B7) (by omega)).mono ?_
  rintro e w8 ⟨g_TXA, hg_TXA, rfl, K_TXA, hb⟩
  have B8 := bel_step B7 hb
  have hz8 : w7.heap.size ≤ w8.heap.size := hb.size
  have R0_8 := R0_7.kept hb
  have XA_8 := XA_7.kept hb
  have XC_8 := XC_7.kept hb
  have R1_8 := R1_7.kept hb
  have TXA := K_TXA.res hg_TXA
  go_wp2_with fail
  refine (eqIntS_same _ _ xs _ XA_8.sl TXA.sl (by omega)).mono ?_
  rintro e w9 ⟨rfl, hb⟩
  have B9 := bel_step B8 hb
  have hz9 : w8.heap.size ≤ w9.heap.size := hb.size
  have R0_9 := R0_8.kept hb
  have XA_9 := XA_8.kept hb
  have XC_9 := XC_8.kept hb
  have R1_9 := R1_8.kept hb
  have TXA_9 := TXA.kept hb
  go_wp2_with fail
  refine (toIntS_any _ ys _ (ht0.kept B9) (by omega)).mono ?_
  rintro e w10 ⟨g_TXC, hg_TXC, rfl, K_TXC, hb⟩
  have B10 := bel_step B9 hb
  have hz10 : w9.heap.size ≤ w10.heap.size := hb.size
  have R0_10 := R0_9.kept hb
  have XA_10 := XA_9.kept hb
  have XC_10 := XC_9.kept hb
  have R1_10 := R1_9.kept hb
  have TXC := K_TXC.res hg_TXC
  go_wp2_with fail
  refine (eqIntS_same _ _ ys _ XC_10.sl TXC.sl (by omega)).mono ?_
  rintro e w11 ⟨rfl, hb⟩
  have B11 := bel_step B10 hb
  have hz11 : w10.heap.size ≤ w11.heap.size := hb.size
  have R0_11 := R0_10.kept hb
  have XA_11 := XA_10.kept hb
  have XC_11 := XC_10.kept hb
  have R1_11 := R1_10.kept hb
  have TXC_11 := TXC.kept hb
  go_wp2_with fail
  refine (markIntS_one _ xs _ _ XA_11 (by omega)).mono ?_
  rintro e w12 ⟨rfl, ho, _⟩
  have B12 := B11.trans (ho.below fun g hg => by cases hg; exact Nat.le_trans B3.size hg_XA)
  have hz12 : w11.heap.size ≤ w12.heap.size := Nat.le_of_eq ho.size.symm
  have R0_12 := R0_11.only ho fun g hg e => by cases e; exact Hne_XA.out _ hg rfl
  have R1_12 := R1_11.only ho fun g hg e => by cases e; exact Hne1_XA.out _ hg rfl
  have XC_12 := XC_11.only ho fun g hg e => by cases hg; cases e; omega
  go_wp2_with fail
  refine (markIntS_plus _ ys xs.length _ _ XC_12 (by omega) (by omega)).mono ?_
  rintro e w13 ⟨rfl, ho, _⟩
  have B13 := B12.trans (ho.below fun g hg => by cases hg; exact Nat.le_trans B4.size hg_XC)
  have hz13 : w12.heap.size ≤ w13.heap.size := Nat.le_of_eq ho.size.symm
  have R0_13 := R0_12.only ho fun g hg e => by cases e; exact Hne_XC.out _ hg rfl
  have R1_13 := R1_12.only ho fun g hg e => by cases e; exact Hne1_XC.out _ hg rfl
  go_wp2_with fail
  refine (eqIntS_same _ _ ([]) _ R1_13.sl R0_13.sl (by simp)).mono ?_
  rintro e w14 ⟨rfl, hb⟩
  have B14 := bel_step B13 hb
  have hz14 : w13.heap.size ≤ w14.heap.size := hb.size
  have R0_14 := R0_13.kept hb
  have R1_14 := R1_13.kept hb
  go_wp2_with fail
  refine (markIntS_one _ ([]) _ _ R1_14 (by simp)).mono ?_
  rintro e w15 ⟨rfl, ho, M⟩
  have B15 := B14.trans (ho.below fun g hg => Nat.le_trans B5.size (Hge1.out g hg))
  have hz15 : w14.heap.size ≤ w15.heap.size := Nat.le_of_eq ho.size.symm
  have R0_15 := R0_14.only ho Hne01.out
  go_wp2_with fail
  refine (heldIntS_one _ ([]).length _ _ M (by simp)).mono ?_
  rintro e w' ⟨rfl, rfl⟩
  go_wp2_with fail
  refine (toIntS_any _ xs _ (hs0.kept B15) (by omega)).mono ?_
  rintro e w16 ⟨g_A15, hg_A15, rfl, K_A15, hb⟩
  have B16 := bel_step B15 hb
  have hz16 : w15.heap.size ≤ w16.heap.size := hb.size
  have R0_16 := R0_15.kept hb
  have M_16 := M.kept hb
  have A15 := K_A15.res hg_A15
  go_wp2_with fail
  refine (toIntS_any _ ys _ (ht0.kept B16) (by omega)).mono ?_
  rintro e w17 ⟨g_C16, hg_C16, rfl, K_C16, hb⟩
  have B17 := bel_step B16 hb
  have hz17 : w16.heap.size ≤ w17.heap.size := hb.size
  have R0_17 := R0_16.kept hb
  have M_17 := M_16.kept hb
  have A15_17 := A15.kept hb
  have C16 := K_C16.res hg_C16
  go_wp2_with fail
  refine (impl_AddSignals_no1 _ _ xs _ A15_17.sl H.out).mono ?_
  rintro e w18 ⟨v_R2, rfl, R2, hb⟩
  have B18 := bel_step B17 hb
  have hz18 : w17.heap.size ≤ w18.heap.size := hb.size
  have R0_18 := R0_17.kept hb
  have M_18 := M_17.kept hb
  have A15_18 := A15_17.kept hb
  have C16_18 := C16.kept hb
  go_wp2_with fail
  refine (eqIntS_same _ _ ([]) _ R2.sl R0_18.sl (by simp)).mono ?_
  rintro e w19 ⟨rfl, hb⟩
  have B19 := bel_step B18 hb
  have hz19 : w18.heap.size ≤ w19.heap.size := hb.size
  have R0_19 := R0_18.kept hb
  have M_19 := M_18.kept hb
  have R2_19 := R2.kept hb
  go_wp2_with fail
  refine (heldIntS_one _ ([]).length _ _ M_19 (by simp)).mono ?_
  rintro e w' ⟨rfl, rfl⟩
  go_wp2_with fail
  go_ret
  exact ⟨rfl, B19⟩

set_option maxRecDepth 100000 in
set_option maxHeartbeats 4000000 in
theorem law_AddSignals_no2 (w : World) (a : Option Addr) (len cap : Nat) (a2 : Option Addr) (len2 cap2 : Nat) (xs ys : List Int) (hs0 : Sl w (.slice a len cap) xs) (ht0 : Sl w (.slice a2 len2 cap2) ys) (hxl : xs.length ≤ 1048576) (hyl : ys.length ≤ 1048576) (hll : len ≤ 1048576) (hll2 : len2 ≤ 1048576) (h : SigP xs) (h2 : ¬ SigP ys) :
    Calls Try.prog 3 #[.slice a len cap, .slice a2 len2 cap2] w fun e w' => e = .returned (.bool true) ∧ Below w.heap.size w w' := by
  have H := hid h
  clear h
  have H2 := hid h2
  clear h2
  go_enter Try.func3, Try.ntmps3
  go_wp2_with fail
  refine (toIntS_any _ xs _ hs0 (by omega)).mono ?_
  rintro e w1 ⟨g_A0, hg_A0, rfl, K_A0, hb⟩
  have B1 := hb
  have hz1 : w.heap.size ≤ w1.heap.size := by first | exact hb.size | (have := hb.size; simp at this; omega)
  have A0 := K_A0.res hg_A0
  go_wp2_with fail
  refine (toIntS_any _ ys _ (ht0.kept B1) (by omega)).mono ?_
  rintro e w2 ⟨g_C1, hg_C1, rfl, K_C1, hb⟩
  have B2 := bel_step B1 hb
  have hz2 : w1.heap.size ≤ w2.heap.size := hb.size
  have A0_2 := A0.kept hb
  have C1 := K_C1.res hg_C1
  go_wp2_with fail
  refine (spec_AddSignals_no2 _ _ xs ys _ A0_2.sl C1.sl H.out H2.out).mono ?_
  rintro e w3 ⟨v_R0, rfl, R0, hb⟩
  have B3 := bel_step B2 hb
  have hz3 : w2.heap.size ≤ w3.heap.size := hb.size
  have A0_3 := A0_2.kept hb
  have C1_3 := C1.kept hb
  have hlt0 : ∀ g, v_R0.ownBlock = some g → g < w3.heap.size := fun g hg => R0.lt hg
  have Hlt0 := hid hlt0
  clear hlt0
  go_wp2_with fail
  refine (toIntS_any _ xs _ (hs0.kept B3) (by omega)).mono ?_
  rintro e w4 ⟨g_XA, hg_XA, rfl, K_XA, hb⟩
  have B4 := bel_step B3 hb
  have hz4 : w3.heap.size ≤ w4.heap.size := hb.size
  have R0_4 := R0.kept hb
  have XA := K_XA.res hg_XA
  have hlt_XA := K_XA.lt
  have hne_XA : ∀ g, v_R0.ownBlock = some g → g ≠ g_XA := fun g hg => by have a1 := Hlt0.out g hg; omega
  have Hne_XA := hid hne_XA
  clear hne_XA
  go_wp2_with fail
  refine (toIntS_any _ ys _ (ht0.kept B4) (by omega)).mono ?_
  rintro e w5 ⟨g_XC, hg_XC, rfl, K_XC, hb⟩
  have B5 := bel_step B4 hb
  have hz5 : w4.heap.size ≤ w5.heap.size := hb.size
  have R0_5 := R0_4.kept hb
  have XA_5 := XA.kept hb
  have XC := K_XC.res hg_XC
  have hlt_XC := K_XC.lt
  have hne_XC : ∀ g, v_R0.ownBlock = some g → g ≠ g_XC := fun g hg => by have a1 := Hlt0.out g hg; omega
  have Hne_XC := hid hne_XC
  clear hne_XC
  have hxl_XA : g_XA < w5.heap.size := XA_5.lt rfl
  have hxl_XC : g_XC < w5.heap.size := XC.lt rfl
  go_wp2_with fail
  refine (impl_AddSignals_no2 _ _ xs ys _ XA_5.sl XC.sl H.out H2.out).mono ?_
  rintro e w6 ⟨v_R1, rfl, R1, hb⟩
  have B6 := bel_step B5 hb
  have hz6 : w5.heap.size ≤ w6.heap.size := hb.size
  have R0_6 := R0_5.kept hb
  have XA_6 := XA_5.kept hb
  have XC_6 := XC.kept hb
  have hne1_XA : ∀ g, v_R1.ownBlock = some g → g ≠ g_XA := fun g hg => by have a1 := R1.ge hg; omega
  have Hne1_XA := hid hne1_XA
  clear hne1_XA
  have hne1_XC : ∀ g, v_R1.ownBlock = some g → g ≠ g_XC := fun g hg => by have a1 := R1.ge hg; omega
  have Hne1_XC := hid hne1_XC
  clear hne1_XC
  have hne01 : ∀ g, v_R0.ownBlock = some g → v_R1.ownBlock ≠ some g := fun g hg e => by have a1 := R1.ge e; have a2 := Hlt0.out g hg; omega
  have Hne01 := hid hne01
  clear hne01
  have hge1 : ∀ g, v_R1.ownBlock = some g → w5.heap.size ≤ g := fun g hg => R1.ge hg
  have Hge1 := hid hge1
  clear hge1
  go_wp2_with fail
  refine (eqIntS_same _ _ ([]) _ R1.sl R0_6.sl (by simp)).mono ?_
  rintro e w7 ⟨rfl, hb⟩
  have B7 := bel_step B6 hb
  have hz7 : w6.heap.size ≤ w7.heap.size := hb.size
  have R0_7 := R0_6.kept hb
  have XA_7 := XA_6.kept hb
  have XC_7 := XC_6.kept hb
  have R1_7 := R1.kept hb
  go_wp2_with fail
  refine (toIntS_any _ xs _ (hs0.kept B7) (by omega)).mono ?_
  rintro e w8 ⟨g_TXA, hg_TXA, rfl, K_TXA, hb⟩
  have B8 := bel_step B7 hb
  have hz8 : w7.heap.size ≤ w8.heap.size := hb.size
  have R0_8 := R0_7.kept hb
  have XA_8 := XA_7.kept hb
  have XC_8 := XC_7.kept hb
  have R1_8 := R1_7.kept hb
  have TXA := K_TXA.res hg_TXA
  go_wp2_with fail
  refine (eqIntS_same _ _ xs _ XA_8.sl TXA.sl (by omega)).mono ?_
  rintro e w9 ⟨rfl, hb⟩
  have B9 := bel_step B8 hb
  have hz9 : w8.heap.size ≤ w9.heap.size := hb.size
  have R0_9 := R0_8.kept hb
  have XA_9 := XA_8.kept hb
  have XC_9 := XC_8.kept hb
  have R1_9 := R1_8.kept hb
  have TXA_9 := TXA.kept hb
  go_wp2_with fail
  refine (toIntS_any _ ys _ (ht0.kept B9) (by omega)).mono ?_
  rintro e w10 ⟨g_TXC, hg_TXC, rfl, K_TXC, hb⟩
  have B10 := bel_step B9 hb
  have hz10 : w9.heap.size ≤ w10.heap.size := hb.size
  have R0_10 := R0_9.kept hb
  have XA_10 := XA_9.kept hb
  have XC_10 := XC_9.kept hb
  have R1_10 := R1_9.kept hb
  have TXC := K_TXC.res hg_TXC
  go_wp2_with fail
  refine (eqIntS_same _ _ ys _ XC_10.sl TXC.sl (by omega)).mono ?_
  rintro e w11 ⟨rfl, hb⟩
  have B11 := bel_step B10 hb
  have hz11 : w10.heap.size ≤ w11.heap.size := hb.size
  have R0_11 := R0_10.kept hb
  have XA_11 := XA_10.kept hb
  have XC_11 := XC_10.kept hb
  have R1_11 := R1_10.kept hb
  have TXC_11 := TXC.kept hb
  go_wp2_with fail
  refine (markIntS_one _ xs _ _ XA_11 (by omega)).mono ?_
  rintro e w12 ⟨rfl, ho, _⟩
  have B12 := B11.trans (ho.below fun g hg => by cases hg; exact Nat.le_trans B3.size hg_XA)
  have hz12 : w11.heap.size ≤ w12.heap.size := Nat.le_of_eq ho.size.symm
  have R0_12 := R0_11.only ho fun g hg e => by cases e; exact Hne_XA.out _ hg rfl
  have R1_12 := R1_11.only ho fun g hg e => by cases e; exact Hne1_XA.out _ hg rfl
  have XC_12 := XC_11.only ho fun g hg e => by cases hg; cases e; omega
  go_wp2_with fail
  refine (markIntS_plus _ ys xs.length _ _ XC_12 (by omega) (by omega)).mono ?_
  rintro e w13 ⟨rfl, ho, _⟩
  have B13 := B12.trans (ho.below fun g hg => by cases hg; exact Nat.le_trans B4.size hg_XC)
  have hz13 : w12.heap.size ≤ w13.heap.size := Nat.le_of_eq ho.size.symm
  have R0_13 := R0_12.only ho fun g hg e => by cases e; exact Hne_XC.out _ hg rfl
  have R1_13 := R1_12.only ho fun g hg e => by cases e; exact Hne1_XC.out _ hg rfl
  go_wp2_with fail
  refine (eqIntS_same _ _ ([]) _ R1_13.sl R0_13.sl (by simp)).mono ?_
  rintro e w14 ⟨rfl, hb⟩
  have B14 := bel_step B13 hb
  have hz14 : w13.heap.size ≤ w14.heap.size := hb.size
  have R0_14 := R0_13.kept hb
  have R1_14 := R1_13.kept hb
  go_wp2_with fail
  refine (markIntS_one _ ([]) _ _ R1_14 (by simp)).mono ?_
  rintro e w15 ⟨rfl, ho, M⟩
  have B15 := B14.trans (ho.below fun g hg => Nat.le_trans B5.size (Hge1.out g hg))
  have hz15 : w14.heap.size ≤ w15.heap.size := Nat.le_of_eq ho.size.symm
  have R0_15 := R0_14.only ho Hne01.out
  go_wp2_with fail
  refine (heldIntS_one _ ([]).length _ _ M (by simp)).mono ?_
  rintro e w' ⟨rfl, rfl⟩
  go_wp2_with fail
  refine (toIntS_any _ xs _ (hs0.kept B15) (by omega)).mono ?_
  rintro e w16 ⟨g_A15, hg_A15, rfl, K_A15, hb⟩
  have B16 := bel_step B15 hb
  have hz16 : w15.heap.size ≤ w16.heap.size := hb.size
  have R0_16 := R0_15.kept hb
  have M_16 := M.kept hb
  have A15 := K_A15.res hg_A15
  go_wp2_with fail
  refine (toIntS_any _ ys _ (ht0.kept B16) (by omega)).mono ?_
  rintro e w17 ⟨g_C16, hg_C16, rfl, K_C16, hb⟩
  have B17 := bel_step B16 hb
  have hz17 : w16.heap.size ≤ w17.heap.size := hb.size
  have R0_17 := R0_16.kept hb
  have M_17 := M_16.kept hb
  have A15_17 := A15.kept hb
  have C16 := K_C16.res hg_C16
  go_wp2_with fail
  refine (impl_AddSignals_no2 _ _ xs ys _ A15_17.sl C16.sl H.out H2.out).mono ?_
  rintro e w18 ⟨v_R2, rfl, R2, hb⟩
  have B18 := bel_step B17 hb
  have hz18 : w17.heap.size ≤ w18.heap.size := hb.size
  have R0_18 := R0_17.kept hb
  have M_18 := M_17.kept hb
  have A15_18 := A15_17.kept hb
  have C16_18 := C16.kept hb
  go_wp2_with fail
  refine (eqIntS_same _ _ ([]) _ R2.sl R0_18.sl (by simp)).mono ?_
  rintro e w19 ⟨rfl, hb⟩
  have B19 := bel_step B18 hb
  have hz19 : w18.heap.size ≤ w19.heap.size := hb.size
  have R0_19 := R0_18.kept hb
  have M_19 := M_18.kept hb
  have R2_19 := R2.kept hb
  go_wp2_with fail
  refine (heldIntS_one _ ([]).length _ _ M_19 (by simp)).mono ?_
  rintro e w' ⟨rfl, rfl⟩
  go_wp2_with fail
  go_ret
  exact ⟨rfl, B19⟩

set_option maxHeartbeats 1000000 in
theorem walk_FnExactAddSignals (w : World) (a : Option Addr) (len cap : Nat) (z : List Int) (hr : IsRow .i64 w a len cap z) (a2 : Option Addr) (len2 cap2 : Nat) (z2 : List Int) (hr2 : IsRow .i64 w a2 len2 cap2 z2) :
    Calls Try.prog 3 #[.slice a len cap, .slice a2 len2 cap2] w fun e w' => e = .returned (.bool true) ∧ Below w.heap.size w w' := by
  obtain ⟨hs0, hlen, _⟩ := hr.sl
  obtain ⟨ht0, hlen2, _⟩ := hr2.sl
  generalize z.take len = xs at hs0 hlen
  generalize z2.take len2 = ys at ht0 hlen2
  by_cases hbig : 1048576 < len
  · clear hs0 ht0 hlen hlen2 hr hr2
    go_enter Try.func3, Try.ntmps3
    go_wp2
    go_ret
    exact ⟨rfl, Below.refl _ _⟩
  · by_cases hbig2 : 1048576 < len2
    · have hll : len ≤ 1048576 := by omega
      clear hs0 ht0 hlen hlen2 hr hr2 hbig
      go_enter Try.func3, Try.ntmps3
      go_wp2
      go_ret
      exact ⟨rfl, Below.refl _ _⟩
    · by_cases h : SigP xs
      · by_cases h2 : SigP ys
        · by_cases hy : SigP (addL xs ys)
          · exact law_AddSignals_yes w a len cap a2 len2 cap2 xs ys hs0 ht0 (by omega) (by omega) (by omega) (by omega) h h2 hy
          · exact law_AddSignals_out w a len cap a2 len2 cap2 xs ys hs0 ht0 (by omega) (by omega) (by omega) (by omega) h h2 hy
        · exact law_AddSignals_no2 w a len cap a2 len2 cap2 xs ys hs0 ht0 (by omega) (by omega) (by omega) (by omega) h h2
      · exact law_AddSignals_no1 w a len cap a2 len2 cap2 xs ys hs0 ht0 (by omega) (by omega) (by omega) (by omega) h
end Go.Proofs.Ytgpnedchlkigeaa
