
import Derived.Test.YtgpnedchlkigeaaTc
namespace Go.Proofs.Ytgpnedchlkigeaa
open Go.RowKit BitX Go.MemX

set_option maxHeartbeats 400000 in
theorem spec_ScaleSignal_yes (c : Int) (v : Value) (xs : List Int) (w : World) (hs : Sl w v xs) (h : SigP xs) (c1 : -1000 ≤ c) (c2 : c ≤ 1000) (hy : SigP (tab xs.length (sca xs c))) :
    Calls Try.prog 14 #[v, .int .i64 c] w (Gives w (tab xs.length (sca xs c)) true) := by
  have H := hid h
  clear h
  have HS := hid hs
  clear hs
  have HY := hid hy
  clear hy
  go_enter Try.func14, Try.ntmps14
  go_wp2_with fail
  refine (wdSignal_yes _ xs _ HS.out H.out).mono ?_
  rintro e w' ⟨rfl, rfl⟩
  go_wp2_with fail
  refine (l1In_yes _ _ _ _ c1 c2).mono ?_
  rintro e w' ⟨rfl, rfl⟩
  go_wp2_with fail
  refine (wdScale_any c _ xs _ HS.out H.out.1 H.out.2 c1 c2).mono ?_
  rintro e w1 ⟨u, rfl, R, hb⟩
  go_wp2_with fail
  refine (wdIf_yes _ (tab xs.length (sca xs c)) _ R.sl HY.out).mono ?_
  rintro e w' ⟨rfl, rfl⟩
  go_wp2
  go_ret2
  exact ⟨_, rfl, R, hb⟩

set_option maxHeartbeats 400000 in
theorem spec_ScaleSignal_out (c : Int) (v : Value) (xs : List Int) (w : World) (hs : Sl w v xs) (h : SigP xs) (c1 : -1000 ≤ c) (c2 : c ≤ 1000) (hy : ¬ SigP (tab xs.length (sca xs c))) :
    Calls Try.prog 14 #[v, .int .i64 c] w (Gives w [] false) := by
  have H := hid h
  clear h
  have HS := hid hs
  clear hs
  have HY := hid hy
  clear hy
  go_enter Try.func14, Try.ntmps14
  go_wp2_with fail
  refine (wdSignal_yes _ xs _ HS.out H.out).mono ?_
  rintro e w' ⟨rfl, rfl⟩
  go_wp2_with fail
  refine (l1In_yes _ _ _ _ c1 c2).mono ?_
  rintro e w' ⟨rfl, rfl⟩
  go_wp2_with fail
  refine (wdScale_any c _ xs _ HS.out H.out.1 H.out.2 c1 c2).mono ?_
  rintro e w1 ⟨u, rfl, R, hb⟩
  go_wp2_with fail
  refine (wdIf_no _ (tab xs.length (sca xs c)) _ R.sl HY.out).mono ?_
  rintro e w' ⟨rfl, rfl⟩
  go_wp2
  go_ret2
  exact ⟨_, rfl, Res.nil _ _ _, hb⟩

set_option maxHeartbeats 400000 in
theorem spec_ScaleSignal_no (c : Int) (v : Value) (xs : List Int) (w : World) (hs : Sl w v xs) (h : ¬ SigP xs) :
    Calls Try.prog 14 #[v, .int .i64 c] w (Gives w [] false) := by
  have H := hid h
  clear h
  have HS := hid hs
  clear hs
  go_enter Try.func14, Try.ntmps14
  go_wp2_with fail
  refine (wdSignal_no _ xs _ HS.out H.out).mono ?_
  rintro e w' ⟨rfl, rfl⟩
  go_wp2
  go_ret2
  exact ⟨_, rfl, Res.nil _ _ _, Below.refl _ _⟩

set_option maxHeartbeats 400000 in
theorem impl_ScaleSignal_no (c : Int) (v : Value) (xs : List Int) (w : World) (hs : Sl w v xs) (h : ¬ SigP xs) :
    Calls Try.prog 15 #[v, .int .i64 c] w (Gives w [] false) := by
  have H := hid h
  clear h
  have HS := hid hs
  clear hs
  go_enter Try.func15, Try.ntmps15
  go_wp2_with fail
  refine (impl_IsSignal_no _ xs _ HS.out H.out).mono ?_
  rintro e w' ⟨rfl, rfl⟩
  go_wp2
  go_ret2
  exact ⟨_, rfl, Res.nil _ _ _, Below.refl _ _⟩

set_option maxHeartbeats 400000 in
theorem spec_ScaleSignal_bad (c : Int) (v : Value) (xs : List Int) (w : World) (hs : Sl w v xs) (h : SigP xs) (hk : ¬ (-1000 ≤ c ∧ c ≤ 1000)) :
    Calls Try.prog 14 #[v, .int .i64 c] w (Gives w [] false) := by
  have H := hid h
  clear h
  have HS := hid hs
  clear hs
  have HK := hid hk
  clear hk
  go_enter Try.func14, Try.ntmps14
  go_wp2_with fail
  refine (wdSignal_yes _ xs _ HS.out H.out).mono ?_
  rintro e w' ⟨rfl, rfl⟩
  go_wp2_with fail
  refine (l1In_no _ _ _ _ HK.out).mono ?_
  rintro e w' ⟨rfl, rfl⟩
  go_wp2
  go_ret2
  exact ⟨_, rfl, Res.nil _ _ _, Below.refl _ _⟩

set_option maxHeartbeats 400000 in
theorem impl_ScaleSignal_bad (c : Int) (v : Value) (xs : List Int) (w : World) (hs : Sl w v xs) (h : SigP xs) (hk : ¬ (-1000 ≤ c ∧ c ≤ 1000)) :
    Calls Try.prog 15 #[v, .int .i64 c] w (Gives w [] false) := by
  have HS := hid hs
  have H := hid h
  clear hs h
  by_cases hk1 : c < -1000
  · clear hk
    go_enter Try.func15, Try.ntmps15
    go_wp2_with fail
    refine (impl_IsSignal_yes _ xs _ HS.out (Nat.le_trans H.out.1 (by omega)) H.out).mono ?_
    rintro e w' ⟨rfl, rfl⟩
    go_wp2
    go_ret2
    exact ⟨_, rfl, Res.nil _ _ _, Below.refl _ _⟩
  · have hk2 : -1000 ≤ c := by omega
    have hk3 : 1000 < c := by omega
    clear hk hk1
    go_enter Try.func15, Try.ntmps15
    go_wp2_with fail
    refine (impl_IsSignal_yes _ xs _ HS.out (Nat.le_trans H.out.1 (by omega)) H.out).mono ?_
    rintro e w' ⟨rfl, rfl⟩
    go_wp2
    go_ret2
    exact ⟨_, rfl, Res.nil _ _ _, Below.refl _ _⟩

set_option maxRecDepth 100000 in
set_option maxHeartbeats 4000000 in
theorem walk_FnExactScaleSignal (w : World) (a : Option Addr) (len cap : Nat) (z : List Int) (hr : IsRow .i64 w a len cap z) (c : Int) (_ : (Lit.int .i64 c).wf = true) :
    Calls Try.prog 4 #[.slice a len cap, .int .i64 c] w fun e w' => e = .returned (.bool true) ∧ Below w.heap.size w w' := by
  obtain ⟨hs0, hlen, _⟩ := hr.sl
  generalize z.take len = xs at hs0 hlen
  have hl : xs.length ≤ 1048576 ∨ 1048576 < len := by omega
  have Hlen := hid hlen
  clear hlen hr
  by_cases hbig : 1048576 < len
  · clear hl hs0
    go_enter Try.func4, Try.ntmps4
    go_wp2
    go_ret
    exact ⟨rfl, Below.refl _ _⟩
  · have hxl : xs.length ≤ 1048576 := by omega
    have hll : len ≤ 1048576 := by omega
    clear hl hbig
    by_cases h : SigP xs
    · have H := hid h
      clear h
      by_cases hk : -1000 ≤ c ∧ c ≤ 1000
      · obtain ⟨c1, c2⟩ := hk
        by_cases hy : SigP (tab xs.length (sca xs c))
        · have HY := hid hy
          clear hy
          go_enter Try.func4, Try.ntmps4
          go_wp2_with fail
          refine (toIntS_any _ xs _ hs0 (by omega)).mono ?_
          rintro e w1 ⟨g_A0, hg_A0, rfl, K_A0, hb⟩
          have B1 := hb
          have hz1 : w.heap.size ≤ w1.heap.size := by first | exact hb.size | (have := hb.size; simp at this; omega)
          have A0 := K_A0.res hg_A0
          go_wp2_with fail
          refine (spec_ScaleSignal_yes c _ xs _ A0.sl H.out c1 c2 HY.out).mono ?_
          rintro e w2 ⟨v_R0, rfl, R0, hb⟩
          have B2 := bel_step B1 hb
          have hz2 : w1.heap.size ≤ w2.heap.size := hb.size
          have A0_2 := A0.kept hb
          have hlt0 : ∀ g, v_R0.ownBlock = some g → g < w2.heap.size := fun g hg => R0.lt hg
          have Hlt0 := hid hlt0
          clear hlt0
          go_wp2_with fail
          refine (toIntS_any _ xs _ (hs0.kept B2) (by omega)).mono ?_
          rintro e w3 ⟨g_XA, hg_XA, rfl, K_XA, hb⟩
          have B3 := bel_step B2 hb
          have hz3 : w2.heap.size ≤ w3.heap.size := hb.size
          have R0_3 := R0.kept hb
          have XA := K_XA.res hg_XA
          have hne_XA : ∀ g, v_R0.ownBlock = some g → g ≠ g_XA := fun g hg => by have a1 := Hlt0.out g hg; omega
          have Hne_XA := hid hne_XA
          clear hne_XA
          have hxl_XA : g_XA < w3.heap.size := XA.lt rfl
          go_wp2_with fail
          refine (impl_ScaleSignal_yes c _ xs _ XA.sl H.out c1 c2 HY.out).mono ?_
          rintro e w4 ⟨v_R1, rfl, R1, hb⟩
          have B4 := bel_step B3 hb
          have hz4 : w3.heap.size ≤ w4.heap.size := hb.size
          have R0_4 := R0_3.kept hb
          have XA_4 := XA.kept hb
          have hne1_XA : ∀ g, v_R1.ownBlock = some g → g ≠ g_XA := fun g hg => by have a1 := R1.ge hg; omega
          have Hne1_XA := hid hne1_XA
          clear hne1_XA
          have hne01 : ∀ g, v_R0.ownBlock = some g → v_R1.ownBlock ≠ some g := fun g hg e => by have a1 := R1.ge e; have a2 := Hlt0.out g hg; omega
          have Hne01 := hid hne01
          clear hne01
          have hge1 : ∀ g, v_R1.ownBlock = some g → w3.heap.size ≤ g := fun g hg => R1.ge hg
          have Hge1 := hid hge1
          clear hge1
          go_wp2_with fail
          refine (eqIntS_same _ _ (tab xs.length (sca xs c)) _ R1.sl R0_4.sl (by rw [tab_len]; exact Nat.le_trans H.out.1 (by omega))).mono ?_
          rintro e w5 ⟨rfl, hb⟩
          have B5 := bel_step B4 hb
          have hz5 : w4.heap.size ≤ w5.heap.size := hb.size
          have R0_5 := R0_4.kept hb
          have XA_5 := XA_4.kept hb
          have R1_5 := R1.kept hb
          go_wp2_with fail
          refine (toIntS_any _ xs _ (hs0.kept B5) (by omega)).mono ?_
          rintro e w6 ⟨g_TXA, hg_TXA, rfl, K_TXA, hb⟩
          have B6 := bel_step B5 hb
          have hz6 : w5.heap.size ≤ w6.heap.size := hb.size
          have R0_6 := R0_5.kept hb
          have XA_6 := XA_5.kept hb
          have R1_6 := R1_5.kept hb
          have TXA := K_TXA.res hg_TXA
          go_wp2_with fail
          refine (eqIntS_same _ _ xs _ XA_6.sl TXA.sl (by omega)).mono ?_
          rintro e w7 ⟨rfl, hb⟩
          have B7 := bel_step B6 hb
          have hz7 : w6.heap.size ≤ w7.heap.size := hb.size
          have R0_7 := R0_6.kept hb
          have XA_7 := XA_6.kept hb
          have R1_7 := R1_6.kept hb
          have TXA_7 := TXA.kept hb
          go_wp2_with fail
          refine (markIntS_one _ xs _ _ XA_7 (by omega)).mono ?_
          rintro e w8 ⟨rfl, ho, _⟩
          have B8 := B7.trans (ho.below fun g hg => by cases hg; exact Nat.le_trans B2.size hg_XA)
          have hz8 : w7.heap.size ≤ w8.heap.size := Nat.le_of_eq ho.size.symm
          have R0_8 := R0_7.only ho fun g hg e => by cases e; exact Hne_XA.out _ hg rfl
          have R1_8 := R1_7.only ho fun g hg e => by cases e; exact Hne1_XA.out _ hg rfl
          go_wp2_with fail
          refine (eqIntS_same _ _ (tab xs.length (sca xs c)) _ R1_8.sl R0_8.sl (by rw [tab_len]; exact Nat.le_trans H.out.1 (by omega))).mono ?_
          rintro e w9 ⟨rfl, hb⟩
          have B9 := bel_step B8 hb
          have hz9 : w8.heap.size ≤ w9.heap.size := hb.size
          have R0_9 := R0_8.kept hb
          have R1_9 := R1_8.kept hb
          go_wp2_with fail
          refine (markIntS_one _ (tab xs.length (sca xs c)) _ _ R1_9 (by rw [tab_len]; exact Nat.le_trans H.out.1 (by omega))).mono ?_
          rintro e w10 ⟨rfl, ho, M⟩
          have B10 := B9.trans (ho.below fun g hg => Nat.le_trans B3.size (Hge1.out g hg))
          have hz10 : w9.heap.size ≤ w10.heap.size := Nat.le_of_eq ho.size.symm
          have R0_10 := R0_9.only ho Hne01.out
          go_wp2_with fail
          refine (heldIntS_one _ (tab xs.length (sca xs c)).length _ _ M (by rw [tab_len]; exact Nat.le_trans H.out.1 (by omega))).mono ?_
          rintro e w' ⟨rfl, rfl⟩
          go_wp2_with fail
          refine (toIntS_any _ xs _ (hs0.kept B10) (by omega)).mono ?_
          rintro e w11 ⟨g_A10, hg_A10, rfl, K_A10, hb⟩
          have B11 := bel_step B10 hb
          have hz11 : w10.heap.size ≤ w11.heap.size := hb.size
          have R0_11 := R0_10.kept hb
          have M_11 := M.kept hb
          have A10 := K_A10.res hg_A10
          go_wp2_with fail
          refine (impl_ScaleSignal_yes c _ xs _ A10.sl H.out c1 c2 HY.out).mono ?_
          rintro e w12 ⟨v_R2, rfl, R2, hb⟩
          have B12 := bel_step B11 hb
          have hz12 : w11.heap.size ≤ w12.heap.size := hb.size
          have R0_12 := R0_11.kept hb
          have M_12 := M_11.kept hb
          have A10_12 := A10.kept hb
          go_wp2_with fail
          refine (eqIntS_same _ _ (tab xs.length (sca xs c)) _ R2.sl R0_12.sl (by rw [tab_len]; exact Nat.le_trans H.out.1 (by omega))).mono ?_
          rintro e w13 ⟨rfl, hb⟩
          have B13 := bel_step B12 hb
          have hz13 : w12.heap.size ≤ w13.heap.size := hb.size
          have R0_13 := R0_12.kept hb
          have M_13 := M_12.kept hb
          have R2_13 := R2.kept hb
          go_wp2_with fail
          refine (heldIntS_one _ (tab xs.length (sca xs c)).length _ _ M_13 (by rw [tab_len]; exact Nat.le_trans H.out.1 (by omega))).mono ?_
          rintro e w' ⟨rfl, rfl⟩
          go_wp2_with fail
          go_ret
          exact ⟨rfl, B13⟩
        · have HY := hid hy
          clear hy
          go_enter Try.func4, Try.ntmps4
          go_wp2_with fail
          refine (toIntS_any _ xs _ hs0 (by omega)).mono ?_
          rintro e w1 ⟨g_A0, hg_A0, rfl, K_A0, hb⟩
          have B1 := hb
          have hz1 : w.heap.size ≤ w1.heap.size := by first | exact hb.size | (have := hb.size; simp at this; omega)
          have A0 := K_A0.res hg_A0
          go_wp2_with fail
          refine (spec_ScaleSignal_out c _ xs _ A0.sl H.out c1 c2 HY.out).mono ?_
          rintro e w2 ⟨v_R0, rfl, R0, hb⟩
          have B2 := bel_step B1 hb
          have hz2 : w1.heap.size ≤ w2.heap.size := hb.size
          have A0_2 := A0.kept hb
          have hlt0 : ∀ g, v_R0.ownBlock = some g → g < w2.heap.size := fun g hg => R0.lt hg
          have Hlt0 := hid hlt0
          clear hlt0
          go_wp2_with fail
          refine (toIntS_any _ xs _ (hs0.kept B2) (by omega)).mono ?_
          rintro e w3 ⟨g_XA, hg_XA, rfl, K_XA, hb⟩
          have B3 := bel_step B2 hb
          have hz3 : w2.heap.size ≤ w3.heap.size := hb.size
          have R0_3 := R0.kept hb
          have XA := K_XA.res hg_XA
          have hne_XA : ∀ g, v_R0.ownBlock = some g → g ≠ g_XA := fun g hg => by have a1 := Hlt0.out g hg; omega
          have Hne_XA := hid hne_XA
          clear hne_XA
          have hxl_XA : g_XA < w3.heap.size := XA.lt rfl
          go_wp2_with fail
          refine (impl_ScaleSignal_out c _ xs _ XA.sl H.out c1 c2 HY.out).mono ?_
          rintro e w4 ⟨v_R1, rfl, R1, hb⟩
          have B4 := bel_step B3 hb
          have hz4 : w3.heap.size ≤ w4.heap.size := hb.size
          have R0_4 := R0_3.kept hb
          have XA_4 := XA.kept hb
          have hne1_XA : ∀ g, v_R1.ownBlock = some g → g ≠ g_XA := fun g hg => by have a1 := R1.ge hg; omega
          have Hne1_XA := hid hne1_XA
          clear hne1_XA
          have hne01 : ∀ g, v_R0.ownBlock = some g → v_R1.ownBlock ≠ some g := fun g hg e => by have a1 := R1.ge e; have a2 := Hlt0.out g hg; omega
          have Hne01 := hid hne01
          clear hne01
          have hge1 : ∀ g, v_R1.ownBlock = some g → w3.heap.size ≤ g := fun g hg => R1.ge hg
          have Hge1 := hid hge1
          clear hge1
          go_wp2_with fail
          refine (eqIntS_same _ _ ([]) _ R1.sl R0_4.sl (by simp)).mono ?_
          rintro e w5 ⟨rfl, hb⟩
          have B5 := bel_step B4 hb
          have hz5 : w4.heap.size ≤ w5.heap.size := hb.size
          have R0_5 := R0_4.kept hb
          have XA_5 := XA_4.kept hb
          have R1_5 := R1.kept hb
          go_wp2_with fail
          refine (toIntS_any _ xs _ (hs0.kept B5) (by omega)).mono ?_
          rintro e w6 ⟨g_TXA, hg_TXA, rfl, K_TXA, hb⟩
          have B6 := bel_step B5 hb
          have hz6 : w5.heap.size ≤ w6.heap.size := hb.size
          have R0_6 := R0_5.kept hb
          have XA_6 := XA_5.kept hb
          have R1_6 := R1_5.kept hb
          have TXA := K_TXA.res hg_TXA
          go_wp2_with fail
          refine (eqIntS_same _ _ xs _ XA_6.sl TXA.sl (by omega)).mono ?_
          rintro e w7 ⟨rfl, hb⟩
          have B7 := bel_step B6 hb
          have hz7 : w6.heap.size ≤ w7.heap.size := hb.size
          have R0_7 := R0_6.kept hb
          have XA_7 := XA_6.kept hb
          have R1_7 := R1_6.kept hb
          have TXA_7 := TXA.kept hb
          go_wp2_with fail
          refine (markIntS_one _ xs _ _ XA_7 (by omega)).mono ?_
          rintro e w8 ⟨rfl, ho, _⟩
          have B8 := B7.trans (ho.below fun g hg => by cases hg; exact Nat.le_trans B2.size hg_XA)
          have hz8 : w7.heap.size ≤ w8.heap.size := Nat.le_of_eq ho.size.symm
          have R0_8 := R0_7.only ho fun g hg e => by cases e; exact Hne_XA.out _ hg rfl
          have R1_8 := R1_7.only ho fun g hg e => by cases e; exact Hne1_XA.out _ hg rfl
          go_wp2_with fail
          refine (eqIntS_same _ _ ([]) _ R1_8.sl R0_8.sl (by simp)).mono ?_
          rintro e w9 ⟨rfl, hb⟩
          have B9 := bel_step B8 hb
          have hz9 : w8.heap.size ≤ w9.heap.size := hb.size
          have R0_9 := R0_8.kept hb
          have R1_9 := R1_8.kept hb
          go_wp2_with fail
          refine (markIntS_one _ ([]) _ _ R1_9 (by simp)).mono ?_
          rintro e w10 ⟨rfl, ho, M⟩
          have B10 := B9.trans (ho.below fun g hg => Nat.le_trans B3.size (Hge1.out g hg))
          have hz10 : w9.heap.size ≤ w10.heap.size := Nat.le_of_eq ho.size.symm
          have R0_10 := R0_9.only ho Hne01.out
          go_wp2_with fail
          refine (heldIntS_one _ ([]).length _ _ M (by simp)).mono ?_
          rintro e w' ⟨rfl, rfl⟩
          go_wp2_with fail
          refine (toIntS_any _ xs _ (hs0.kept B10) (by omega)).mono ?_
          rintro e w11 ⟨g_A10, hg_A10, rfl, K_A10, hb⟩
          have B11 := bel_step B10 hb
          have hz11 : w10.heap.size ≤ w11.heap.size := hb.size
          have R0_11 := R0_10.kept hb
          have M_11 := M.kept hb
          have A10 := K_A10.res hg_A10
          go_wp2_with fail
          refine (impl_ScaleSignal_out c _ xs _ A10.sl H.out c1 c2 HY.out).mono ?_
          rintro e w12 ⟨v_R2, rfl, R2, hb⟩
          have B12 := bel_step B11 hb
          have hz12 : w11.heap.size ≤ w12.heap.size := hb.size
          have R0_12 := R0_11.kept hb
          have M_12 := M_11.kept hb
          have A10_12 := A10.kept hb
          go_wp2_with fail
          refine (eqIntS_same _ _ ([]) _ R2.sl R0_12.sl (by simp)).mono ?_
          rintro e w13 ⟨rfl, hb⟩
          have B13 := bel_step B12 hb
          have hz13 : w12.heap.size ≤ w13.heap.size := hb.size
          have R0_13 := R0_12.kept hb
          have M_13 := M_12.kept hb
          have R2_13 := R2.kept hb
          go_wp2_with fail
          refine (heldIntS_one _ ([]).length _ _ M_13 (by simp)).mono ?_
          rintro e w' ⟨rfl, rfl⟩
          go_wp2_with fail
          go_ret
          exact ⟨rfl, B13⟩
      · have HK := hid hk
        clear hk
        go_enter Try.func4, Try.ntmps4
        go_wp2_with fail
        refine (toIntS_any _ xs _ hs0 (by omega)).mono ?_
        rintro e w1 ⟨g_A0, hg_A0, rfl, K_A0, hb⟩
        have B1 := hb
        have hz1 : w.heap.size ≤ w1.heap.size := by first | exact hb.size | (have := hb.size; simp at this; omega)
        have A0 := K_A0.res hg_A0
        go_wp2_with fail
        refine (spec_ScaleSignal_bad c _ xs _ A0.sl H.out HK.out).mono ?_
        rintro e w2 ⟨v_R0, rfl, R0, hb⟩
        have B2 := bel_step B1 hb
        have hz2 : w1.heap.size ≤ w2.heap.size := hb.size
        have A0_2 := A0.kept hb
        have hlt0 : ∀ g, v_R0.ownBlock = some g → g < w2.heap.size := fun g hg => R0.lt hg
        have Hlt0 := hid hlt0
        clear hlt0
        go_wp2_with fail
        refine (toIntS_any _ xs _ (hs0.kept B2) (by omega)).mono ?_
        rintro e w3 ⟨g_XA, hg_XA, rfl, K_XA, hb⟩
        have B3 := bel_step B2 hb
        have hz3 : w2.heap.size ≤ w3.heap.size := hb.size
        have R0_3 := R0.kept hb
        have XA := K_XA.res hg_XA
        have hne_XA : ∀ g, v_R0.ownBlock = some g → g ≠ g_XA := fun g hg => by have a1 := Hlt0.out g hg; omega
        have Hne_XA := hid hne_XA
        clear hne_XA
        have hxl_XA : g_XA < w3.heap.size := XA.lt rfl
        go_wp2_with fail
        refine (impl_ScaleSignal_bad c _ xs _ XA.sl H.out HK.out).mono ?_
        rintro e w4 ⟨v_R1, rfl, R1, hb⟩
        have B4 := bel_step B3 hb
        have hz4 : w3.heap.size ≤ w4.heap.size := hb.size
        have R0_4 := R0_3.kept hb
        have XA_4 := XA.kept hb
        have hne1_XA : ∀ g, v_R1.ownBlock = some g → g ≠ g_XA := fun g hg => by have a1 := R1.ge hg; omega
        have Hne1_XA := hid hne1_XA
        clear hne1_XA
        have hne01 : ∀ g, v_R0.ownBlock = some g → v_R1.ownBlock ≠ some g := fun g hg e => by have a1 := R1.ge e; have a2 := Hlt0.out g hg; omega
        have Hne01 := hid hne01
        clear hne01
        have hge1 : ∀ g, v_R1.ownBlock = some g → w3.heap.size ≤ g := fun g hg => R1.ge hg
        have Hge1 := hid hge1
        clear hge1
        go_wp2_with fail
        refine (eqIntS_same _ _ ([]) _ R1.sl R0_4.sl (by simp)).mono ?_
        rintro e w5 ⟨rfl, hb⟩
        have B5 := bel_step B4 hb
        have hz5 : w4.heap.size ≤ w5.heap.size := hb.size
        have R0_5 := R0_4.kept hb
        have XA_5 := XA_4.kept hb
        have R1_5 := R1.kept hb
        go_wp2_with fail
        refine (toIntS_any _ xs _ (hs0.kept B5) (by omega)).mono ?_
        rintro e w6 ⟨g_TXA, hg_TXA, rfl, K_TXA, hb⟩
        have B6 := bel_step B5 hb
        have hz6 : w5.heap.size ≤ w6.heap.size := hb.size
        have R0_6 := R0_5.kept hb
        have XA_6 := XA_5.kept hb
        have R1_6 := R1_5.kept hb
        have TXA := K_TXA.res hg_TXA
        go_wp2_with fail
        refine (eqIntS_same _ _ xs _ XA_6.sl TXA.sl (by omega)).mono ?_
        rintro e w7 ⟨rfl, hb⟩
        have B7 := bel_step B6 hb
        have hz7 : w6.heap.size ≤ w7.heap.size := hb.size
        have R0_7 := R0_6.kept hb
        have XA_7 := XA_6.kept hb
        have R1_7 := R1_6.kept hb
        have TXA_7 := TXA.kept hb
        go_wp2_with fail
        refine (markIntS_one _ xs _ _ XA_7 (by omega)).mono ?_
        rintro e w8 ⟨rfl, ho, _⟩
        have B8 := B7.trans (ho.below fun g hg => by cases hg; exact Nat.le_trans B2.size hg_XA)
        have hz8 : w7.heap.size ≤ w8.heap.size := Nat.le_of_eq ho.size.symm
        have R0_8 := R0_7.only ho fun g hg e => by cases e; exact Hne_XA.out _ hg rfl
        have R1_8 := R1_7.only ho fun g hg e => by cases e; exact Hne1_XA.out _ hg rfl
        go_wp2_with fail
        refine (eqIntS_same _ _ ([]) _ R1_8.sl R0_8.sl (by simp)).mono ?_
        rintro e w9 ⟨rfl, hb⟩
        have B9 := bel_step B8 hb
        have hz9 : w8.heap.size ≤ w9.heap.size := hb.size
        have R0_9 := R0_8.kept hb
        have R1_9 := R1_8.kept hb
        go_wp2_with fail
        refine (markIntS_one _ ([]) _ _ R1_9 (by simp)).mono ?_
        rintro e w10 ⟨rfl, ho, M⟩
        have B10 := B9.trans (ho.below fun g hg => Nat.le_trans B3.size (Hge1.out g hg))
        have hz10 : w9.heap.size ≤ w10.heap.size := Nat.le_of_eq ho.size.symm
        have R0_10 := R0_9.only ho Hne01.out
        go_wp2_with fail
        refine (heldIntS_one _ ([]).length _ _ M (by simp)).mono ?_
        rintro e w' ⟨rfl, rfl⟩
        go_wp2_with fail
        refine (toIntS_any _ xs _ (hs0.kept B10) (by omega)).mono ?_
        rintro e w11 ⟨g_A10, hg_A10, rfl, K_A10, hb⟩
        have B11 := bel_step B10 hb
        have hz11 : w10.heap.size ≤ w11.heap.size := hb.size
        have R0_11 := R0_10.kept hb
        have M_11 := M.kept hb
        have A10 := K_A10.res hg_A10
        go_wp2_with fail
        refine (impl_ScaleSignal_bad c _ xs _ A10.sl H.out HK.out).mono ?_
        rintro e w12 ⟨v_R2, rfl, R2, hb⟩
        have B12 := bel_step B11 hb
        have hz12 : w11.heap.size ≤ w12.heap.size := hb.size
        have R0_12 := R0_11.kept hb
        have M_12 := M_11.kept hb
        have A10_12 := A10.kept hb
        go_wp2_with fail
        refine (eqIntS_same _ _ ([]) _ R2.sl R0_12.sl (by simp)).mono ?_
        rintro e w13 ⟨rfl, hb⟩
        have B13 := bel_step B12 hb
        have hz13 : w12.heap.size ≤ w13.heap.size := hb.size
        have R0_13 := R0_12.kept hb
        have M_13 := M_12.kept hb
        have R2_13 := R2.kept hb
        go_wp2_with fail
        refine (heldIntS_one _ ([]).length _ _ M_13 (by simp)).mono ?_
        rintro e w' ⟨rfl, rfl⟩
        go_wp2_with fail
        go_ret
        exact ⟨rfl, B13⟩
    · have H := hid h
      clear h
      go_enter Try.func4, Try.ntmps4
      go_wp2_with fail
      refine (toIntS_any _ xs _ hs0 (by omega)).mono ?_
      rintro e w1 ⟨g_A0, hg_A0, rfl, K_A0, hb⟩
      have B1 := hb
      have hz1 : w.heap.size ≤ w1.heap.size := by first | exact hb.size | (have := hb.size; simp at this; omega)
      have A0 := K_A0.res hg_A0
      go_wp2_with fail
      refine (spec_ScaleSignal_no c _ xs _ A0.sl H.out).mono ?_
      rintro e w2 ⟨v_R0, rfl, R0, hb⟩
      have B2 := bel_step B1 hb
      have hz2 : w1.heap.size ≤ w2.heap.size := hb.size
      have A0_2 := A0.kept hb
      have hlt0 : ∀ g, v_R0.ownBlock = some g → g < w2.heap.size := fun g hg => R0.lt hg
      have Hlt0 := hid hlt0
      clear hlt0
      go_wp2_with fail
      refine (toIntS_any _ xs _ (hs0.kept B2) (by omega)).mono ?_
      rintro e w3 ⟨g_XA, hg_XA, rfl, K_XA, hb⟩
      have B3 := bel_step B2 hb
      have hz3 : w2.heap.size ≤ w3.heap.size := hb.size
      have R0_3 := R0.kept hb
      have XA := K_XA.res hg_XA
      have hne_XA : ∀ g, v_R0.ownBlock = some g → g ≠ g_XA := fun g hg => by have a1 := Hlt0.out g hg; omega
      have Hne_XA := hid hne_XA
      clear hne_XA
      have hxl_XA : g_XA < w3.heap.size := XA.lt rfl
      go_wp2_with fail
      refine (impl_ScaleSignal_no c _ xs _ XA.sl H.out).mono ?_
      rintro e w4 ⟨v_R1, rfl, R1, hb⟩
      have B4 := bel_step B3 hb
      have hz4 : w3.heap.size ≤ w4.heap.size := hb.size
      have R0_4 := R0_3.kept hb
      have XA_4 := XA.kept hb
      have hne1_XA : ∀ g, v_R1.ownBlock = some g → g ≠ g_XA := fun g hg => by have a1 := R1.ge hg; omega
      have Hne1_XA := hid hne1_XA
      clear hne1_XA
      have hne01 : ∀ g, v_R0.ownBlock = some g → v_R1.ownBlock ≠ some g := fun g hg e => by have a1 := R1.ge e; have a2 := Hlt0.out g hg; omega
      have Hne01 := hid hne01
      clear hne01
      have hge1 : ∀ g, v_R1.ownBlock = some g → w3.heap.size ≤ g := fun g hg => R1.ge hg
      have Hge1 := hid hge1
      clear hge1
      go_wp2_with fail
      refine (eqIntS_same _ _ ([]) _ R1.sl R0_4.sl (by simp)).mono ?_
      rintro e w5 ⟨rfl, hb⟩
      have B5 := bel_step B4 hb
      have hz5 : w4.heap.size ≤ w5.heap.size := hb.size
      have R0_5 := R0_4.kept hb
      have XA_5 := XA_4.kept hb
      have R1_5 := R1.kept hb
      go_wp2_with fail
      refine (toIntS_any _ xs _ (hs0.kept B5) (by omega)).mono ?_
      rintro e w6 ⟨g_TXA, hg_TXA, rfl, K_TXA, hb⟩
      have B6 := bel_step B5 hb
      have hz6 : w5.heap.size ≤ w6.heap.size := hb.size
      have R0_6 := R0_5.kept hb
      have XA_6 := XA_5.kept hb
      have R1_6 := R1_5.kept hb
      have TXA := K_TXA.res hg_TXA
      go_wp2_with fail
      refine (eqIntS_same _ _ xs _ XA_6.sl TXA.sl (by omega)).mono ?_
      rintro e w7 ⟨rfl, hb⟩
      have B7 := bel_step B6 hb
      have hz7 : w6.heap.size ≤ w7.heap.size := hb.size
      have R0_7 := R0_6.kept hb
      have XA_7 := XA_6.kept hb
      have R1_7 := R1_6.kept hb
      have TXA_7 := TXA.kept hb
      go_wp2_with fail
      refine (markIntS_one _ xs _ _ XA_7 (by omega)).mono ?_
      rintro e w8 ⟨rfl, ho, _⟩
      have B8 := B7.trans (ho.below fun g hg => by cases hg; exact Nat.le_trans B2.size hg_XA)
      have hz8 : w7.heap.size ≤ w8.heap.size := Nat.le_of_eq ho.size.symm
      have R0_8 := R0_7.only ho fun g hg e => by cases e; exact Hne_XA.out _ hg rfl
      have R1_8 := R1_7.only ho fun g hg e => by cases e; exact Hne1_XA.out _ hg rfl
      go_wp2_with fail
      refine (eqIntS_same _ _ ([]) _ R1_8.sl R0_8.sl (by simp)).mono ?_
      rintro e w9 ⟨rfl, hb⟩
      have B9 := bel_step B8 hb
      have hz9 : w8.heap.size ≤ w9.heap.size := hb.size
      have R0_9 := R0_8.kept hb
      have R1_9 := R1_8.kept hb
      go_wp2_with fail
      refine (markIntS_one _ ([]) _ _ R1_9 (by simp)).mono ?_
      rintro e w10 ⟨rfl, ho, M⟩
      have B10 := B9.trans (ho.below fun g hg => Nat.le_trans B3.size (Hge1.out g hg))
      have hz10 : w9.heap.size ≤ w10.heap.size := Nat.le_of_eq ho.size.symm
      have R0_10 := R0_9.only ho Hne01.out
      go_wp2_with fail
      refine (heldIntS_one _ ([]).length _ _ M (by simp)).mono ?_
      rintro e w' ⟨rfl, rfl⟩
      go_wp2_with fail
      refine (toIntS_any _ xs _ (hs0.kept B10) (by omega)).mono ?_
      rintro e w11 ⟨g_A10, hg_A10, rfl, K_A10, hb⟩
      have B11 := bel_step B10 hb
      have hz11 : w10.heap.size ≤ w11.heap.size := hb.size
      have R0_11 := R0_10.kept hb
      have M_11 := M.kept hb
      have A10 := K_A10.res hg_A10
      go_wp2_with fail
      refine (impl_ScaleSignal_no c _ xs _ A10.sl H.out).mono ?_
      rintro e w12 ⟨v_R2, rfl, R2, hb⟩
      have B12 := bel_step B11 hb
      have hz12 : w11.heap.size ≤ w12.heap.size := hb.size
      have R0_12 := R0_11.kept hb
      have M_12 := M_11.kept hb
      have A10_12 := A10.kept hb
      go_wp2_with fail
      refine (eqIntS_same _ _ ([]) _ R2.sl R0_12.sl (by simp)).mono ?_
      rintro e w13 ⟨rfl, hb⟩
      have B13 := bel_step B12 hb
      have hz13 : w12.heap.size ≤ w13.heap.size := hb.size
      have R0_13 := R0_12.kept hb
      have M_13 := M_12.kept hb
      have R2_13 := R2.kept hb
      go_wp2_with fail
      refine (heldIntS_one _ ([]).length _ _ M_13 (by simp)).mono ?_
      rintro e w' ⟨rfl, rfl⟩
      go_wp2_with fail
      go_ret
      exact ⟨rfl, B13⟩

set_option maxHeartbeats 400000 in
theorem spec_DifferencesOf_yes (v : Value) (xs : List Int) (w : World) (hs : Sl w v xs) (h : SigP xs) (hy : SigP (tab xs.length (dif xs))) :
    Calls Try.prog 18 #[v] w (Gives w (tab xs.length (dif xs)) true) := by
  have H := hid h
  clear h
  have HS := hid hs
  clear hs
  have HY := hid hy
  clear hy
  go_enter Try.func18, Try.ntmps18
  go_wp2_with fail
  refine (wdSignal_yes _ xs _ HS.out H.out).mono ?_
  rintro e w' ⟨rfl, rfl⟩
  go_wp2_with fail
  refine (wdDiff_any _ xs _ HS.out H.out.1 H.out.2).mono ?_
  rintro e w1 ⟨u, rfl, R, hb⟩
  go_wp2_with fail
  refine (wdIf_yes _ (tab xs.length (dif xs)) _ R.sl HY.out).mono ?_
  rintro e w' ⟨rfl, rfl⟩
  go_wp2
  go_ret2
  exact ⟨_, rfl, R, hb⟩

set_option maxHeartbeats 400000 in
theorem spec_DifferencesOf_out (v : Value) (xs : List Int) (w : World) (hs : Sl w v xs) (h : SigP xs) (hy : ¬ SigP (tab xs.length (dif xs))) :
    Calls Try.prog 18 #[v] w (Gives w [] false) := by
  have H := hid h
  clear h
  have HS := hid hs
  clear hs
  have HY := hid hy
  clear hy
  go_enter Try.func18, Try.ntmps18
  go_wp2_with fail
  refine (wdSignal_yes _ xs _ HS.out H.out).mono ?_
  rintro e w' ⟨rfl, rfl⟩
  go_wp2_with fail
  refine (wdDiff_any _ xs _ HS.out H.out.1 H.out.2).mono ?_
  rintro e w1 ⟨u, rfl, R, hb⟩
  go_wp2_with fail
  refine (wdIf_no _ (tab xs.length (dif xs)) _ R.sl HY.out).mono ?_
  rintro e w' ⟨rfl, rfl⟩
  go_wp2
  go_ret2
  exact ⟨_, rfl, Res.nil _ _ _, hb⟩

set_option maxHeartbeats 400000 in
theorem spec_DifferencesOf_no (v : Value) (xs : List Int) (w : World) (hs : Sl w v xs) (h : ¬ SigP xs) :
    Calls Try.prog 18 #[v] w (Gives w [] false) := by
  have H := hid h
  clear h
  have HS := hid hs
  clear hs
  go_enter Try.func18, Try.ntmps18
  go_wp2_with fail
  refine (wdSignal_no _ xs _ HS.out H.out).mono ?_
  rintro e w' ⟨rfl, rfl⟩
  go_wp2
  go_ret2
  exact ⟨_, rfl, Res.nil _ _ _, Below.refl _ _⟩

set_option maxHeartbeats 400000 in
theorem impl_DifferencesOf_no (v : Value) (xs : List Int) (w : World) (hs : Sl w v xs) (h : ¬ SigP xs) :
    Calls Try.prog 19 #[v] w (Gives w [] false) := by
  have H := hid h
  clear h
  have HS := hid hs
  clear hs
  go_enter Try.func19, Try.ntmps19
  go_wp2_with fail
  refine (impl_IsSignal_no _ xs _ HS.out H.out).mono ?_
  rintro e w' ⟨rfl, rfl⟩
  go_wp2
  go_ret2
  exact ⟨_, rfl, Res.nil _ _ _, Below.refl _ _⟩

set_option maxRecDepth 100000 in
set_option maxHeartbeats 4000000 in
theorem walk_FnExactDifferencesOf (w : World) (a : Option Addr) (len cap : Nat) (z : List Int) (hr : IsRow .i64 w a len cap z) :
    Calls Try.prog 6 #[.slice a len cap] w fun e w' => e = .returned (.bool true) ∧ Below w.heap.size w w' := by
  obtain ⟨hs0, hlen, _⟩ := hr.sl
  generalize z.take len = xs at hs0 hlen
  have hl : xs.length ≤ 1048576 ∨ 1048576 < len := by omega
  have Hlen := hid hlen
  clear hlen hr
  by_cases hbig : 1048576 < len
  · clear hl hs0
    go_enter Try.func6, Try.ntmps6
    go_wp2
    go_ret
    exact ⟨rfl, Below.refl _ _⟩
  · have hxl : xs.length ≤ 1048576 := by omega
    have hll : len ≤ 1048576 := by omega
    clear hl hbig
    by_cases h : SigP xs
    · have H := hid h
      clear h
      by_cases hy : SigP (tab xs.length (dif xs))
      · have HY := hid hy
        clear hy
        go_enter Try.func6, Try.ntmps6
        go_wp2_with fail
        refine (toIntS_any _ xs _ hs0 (by omega)).mono ?_
        rintro e w1 ⟨g_A0, hg_A0, rfl, K_A0, hb⟩
        have B1 := hb
        have hz1 : w.heap.size ≤ w1.heap.size := by first | exact hb.size | (have := hb.size; simp at this; omega)
        have A0 := K_A0.res hg_A0
        go_wp2_with fail
        refine (spec_DifferencesOf_yes _ xs _ A0.sl H.out HY.out).mono ?_
        rintro e w2 ⟨v_R0, rfl, R0, hb⟩
        have B2 := bel_step B1 hb
        have hz2 : w1.heap.size ≤ w2.heap.size := hb.size
        have A0_2 := A0.kept hb
        have hlt0 : ∀ g, v_R0.ownBlock = some g → g < w2.heap.size := fun g hg => R0.lt hg
        have Hlt0 := hid hlt0
        clear hlt0
        go_wp2_with fail
        refine (toIntS_any _ xs _ (hs0.kept B2) (by omega)).mono ?_
        rintro e w3 ⟨g_XA, hg_XA, rfl, K_XA, hb⟩
        have B3 := bel_step B2 hb
        have hz3 : w2.heap.size ≤ w3.heap.size := hb.size
        have R0_3 := R0.kept hb
        have XA := K_XA.res hg_XA
        have hne_XA : ∀ g, v_R0.ownBlock = some g → g ≠ g_XA := fun g hg => by have a1 := Hlt0.out g hg; omega
        have Hne_XA := hid hne_XA
        clear hne_XA
        have hxl_XA : g_XA < w3.heap.size := XA.lt rfl
        go_wp2_with fail
        refine (impl_DifferencesOf_yes _ xs _ XA.sl H.out HY.out).mono ?_
        rintro e w4 ⟨v_R1, rfl, R1, hb⟩
        have B4 := bel_step B3 hb
        have hz4 : w3.heap.size ≤ w4.heap.size := hb.size
        have R0_4 := R0_3.kept hb
        have XA_4 := XA.kept hb
        have hne1_XA : ∀ g, v_R1.ownBlock = some g → g ≠ g_XA := fun g hg => by have a1 := R1.ge hg; omega
        have Hne1_XA := hid hne1_XA
        clear hne1_XA
        have hne01 : ∀ g, v_R0.ownBlock = some g → v_R1.ownBlock ≠ some g := fun g hg e => by have a1 := R1.ge e; have a2 := Hlt0.out g hg; omega
        have Hne01 := hid hne01
        clear hne01
        have hge1 : ∀ g, v_R1.ownBlock = some g → w3.heap.size ≤ g := fun g hg => R1.ge hg
        have Hge1 := hid hge1
        clear hge1
        go_wp2_with fail
        refine (eqIntS_same _ _ (tab xs.length (dif xs)) _ R1.sl R0_4.sl (by rw [tab_len]; exact Nat.le_trans H.out.1 (by omega))).mono ?_
        rintro e w5 ⟨rfl, hb⟩
        have B5 := bel_step B4 hb
        have hz5 : w4.heap.size ≤ w5.heap.size := hb.size
        have R0_5 := R0_4.kept hb
        have XA_5 := XA_4.kept hb
        have R1_5 := R1.kept hb
        go_wp2_with fail
        refine (toIntS_any _ xs _ (hs0.kept B5) (by omega)).mono ?_
        rintro e w6 ⟨g_TXA, hg_TXA, rfl, K_TXA, hb⟩
        have B6 := bel_step B5 hb
        have hz6 : w5.heap.size ≤ w6.heap.size := hb.size
        have R0_6 := R0_5.kept hb
        have XA_6 := XA_5.kept hb
        have R1_6 := R1_5.kept hb
        have TXA := K_TXA.res hg_TXA
        go_wp2_with fail
        refine (eqIntS_same _ _ xs _ XA_6.sl TXA.sl (by omega)).mono ?_
        rintro e w7 ⟨rfl, hb⟩
        have B7 := bel_step B6 hb
        have hz7 : w6.heap.size ≤ w7.heap.size := hb.size
        have R0_7 := R0_6.kept hb
        have XA_7 := XA_6.kept hb
        have R1_7 := R1_6.kept hb
        have TXA_7 := TXA.kept hb
        go_wp2_with fail
        refine (markIntS_one _ xs _ _ XA_7 (by omega)).mono ?_
        rintro e w8 ⟨rfl, ho, _⟩
        have B8 := B7.trans (ho.below fun g hg => by cases hg; exact Nat.le_trans B2.size hg_XA)
        have hz8 : w7.heap.size ≤ w8.heap.size := Nat.le_of_eq ho.size.symm
        have R0_8 := R0_7.only ho fun g hg e => by cases e; exact Hne_XA.out _ hg rfl
        have R1_8 := R1_7.only ho fun g hg e => by cases e; exact Hne1_XA.out _ hg rfl
        go_wp2_with fail
        refine (eqIntS_same _ _ (tab xs.length (dif xs)) _ R1_8.sl R0_8.sl (by rw [tab_len]; exact Nat.le_trans H.out.1 (by omega))).mono ?_
        rintro e w9 ⟨rfl, hb⟩
        have B9 := bel_step B8 hb
        have hz9 : w8.heap.size ≤ w9.heap.size := hb.size
        have R0_9 := R0_8.kept hb
        have R1_9 := R1_8.kept hb
        go_wp2_with fail
        refine (markIntS_one _ (tab xs.length (dif xs)) _ _ R1_9 (by rw [tab_len]; exact Nat.le_trans H.out.1 (by omega))).mono ?_
        rintro e w10 ⟨rfl, ho, M⟩
        have B10 := B9.trans (ho.below fun g hg => Nat.le_trans B3.size (Hge1.out g hg))
        have hz10 : w9.heap.size ≤ w10.heap.size := Nat.le_of_eq ho.size.symm
        have R0_10 := R0_9.only ho Hne01.out
        go_wp2_with fail
        refine (heldIntS_one _ (tab xs.length (dif xs)).length _ _ M (by rw [tab_len]; exact Nat.le_trans H.out.1 (by omega))).mono ?_
        rintro e w' ⟨rfl, rfl⟩
        go_wp2_with fail
        refine (toIntS_any _ xs _ (hs0.kept B10) (by omega)).mono ?_
        rintro e w11 ⟨g_A10, hg_A10, rfl, K_A10, hb⟩
        have B11 := bel_step B10 hb
        have hz11 : w10.heap.size ≤ w11.heap.size := hb.size
        have R0_11 := R0_10.kept hb
        have M_11 := M.kept hb
        have A10 := K_A10.res hg_A10
        go_wp2_with fail
        refine (impl_DifferencesOf_yes _ xs _ A10.sl H.out HY.out).mono ?_
        rintro e w12 ⟨v_R2, rfl, R2, hb⟩
        have B12 := bel_step B11 hb
        have hz12 : w11.heap.size ≤ w12.heap.size := hb.size
        have R0_12 := R0_11.kept hb
        have M_12 := M_11.kept hb
        have A10_12 := A10.kept hb
        go_wp2_with fail
        refine (eqIntS_same _ _ (tab xs.length (dif xs)) _ R2.sl R0_12.sl (by rw [tab_len]; exact Nat.le_trans H.out.1 (by omega))).mono ?_
        rintro e w13 ⟨rfl, hb⟩
        have B13 := bel_step B12 hb
        have hz13 : w12.heap.size ≤ w13.heap.size := hb.size
        have R0_13 := R0_12.kept hb
        have M_13 := M_12.kept hb
        have R2_13 := R2.kept hb
        go_wp2_with fail
        refine (heldIntS_one _ (tab xs.length (dif xs)).length _ _ M_13 (by rw [tab_len]; exact Nat.le_trans H.out.1 (by omega))).mono ?_
        rintro e w' ⟨rfl, rfl⟩
        go_wp2_with fail
        go_ret
        exact ⟨rfl, B13⟩
      · have HY := hid hy
        clear hy
        go_enter Try.func6, Try.ntmps6
        go_wp2_with fail
        refine (toIntS_any _ xs _ hs0 (by omega)).mono ?_
        rintro e w1 ⟨g_A0, hg_A0, rfl, K_A0, hb⟩
        have B1 := hb
        have hz1 : w.heap.size ≤ w1.heap.size := by first | exact hb.size | (have := hb.size; simp at this; omega)
        have A0 := K_A0.res hg_A0
        go_wp2_with fail
        refine (spec_DifferencesOf_out _ xs _ A0.sl H.out HY.out).mono ?_
        rintro e w2 ⟨v_R0, rfl, R0, hb⟩
        have B2 := bel_step B1 hb
        have hz2 : w1.heap.size ≤ w2.heap.size := hb.size
        have A0_2 := A0.kept hb
        have hlt0 : ∀ g, v_R0.ownBlock = some g → g < w2.heap.size := fun g hg => R0.lt hg
        have Hlt0 := hid hlt0
        clear hlt0
        go_wp2_with fail
        refine (toIntS_any _ xs _ (hs0.kept B2) (by omega)).mono ?_
        rintro e w3 ⟨g_XA, hg_XA, rfl, K_XA, hb⟩
        have B3 := bel_step B2 hb
        have hz3 : w2.heap.size ≤ w3.heap.size := hb.size
        have R0_3 := R0.kept hb
        have XA := K_XA.res hg_XA
        have hne_XA : ∀ g, v_R0.ownBlock = some g → g ≠ g_XA := fun g hg => by have a1 := Hlt0.out g hg; omega
        have Hne_XA := hid hne_XA
        clear hne_XA
        have hxl_XA : g_XA < w3.heap.size := XA.lt rfl
        go_wp2_with fail
        refine (impl_DifferencesOf_out _ xs _ XA.sl H.out HY.out).mono ?_
        rintro e w4 ⟨v_R1, rfl, R1, hb⟩
        have B4 := bel_step B3 hb
        have hz4 : w3.heap.size ≤ w4.heap.size := hb.size
        have R0_4 := R0_3.kept hb
        have XA_4 := XA.kept hb
        have hne1_XA : ∀ g, v_R1.ownBlock = some g → g ≠ g_XA := fun g hg => by have a1 := R1.ge hg; omega
        have Hne1_XA := hid hne1_XA
        clear hne1_XA
        have hne01 : ∀ g, v_R0.ownBlock = some g → v_R1.ownBlock ≠ some g := fun g hg e => by have a1 := R1.ge e; have a2 := Hlt0.out g hg; omega
        have Hne01 := hid hne01
        clear hne01
        have hge1 : ∀ g, v_R1.ownBlock = some g → w3.heap.size ≤ g := fun g hg => R1.ge hg
        have Hge1 := hid hge1
        clear hge1
        go_wp2_with fail
        refine (eqIntS_same _ _ ([]) _ R1.sl R0_4.sl (by simp)).mono ?_
        rintro e w5 ⟨rfl, hb⟩
        have B5 := bel_step B4 hb
        have hz5 : w4.heap.size ≤ w5.heap.size := hb.size
        have R0_5 := R0_4.kept hb
        have XA_5 := XA_4.kept hb
        have R1_5 := R1.kept hb
        go_wp2_with fail
        refine (toIntS_any _ xs _ (hs0.kept B5) (by omega)).mono ?_
        rintro e w6 ⟨g_TXA, hg_TXA, rfl, K_TXA, hb⟩
        have B6 := bel_step B5 hb
        have hz6 : w5.heap.size ≤ w6.heap.size := hb.size
        have R0_6 := R0_5.kept hb
        have XA_6 := XA_5.kept hb
        have R1_6 := R1_5.kept hb
        have TXA := K_TXA.res hg_TXA
        go_wp2_with fail
        refine (eqIntS_same _ _ xs _ XA_6.sl TXA.sl (by omega)).mono ?_
        rintro e w7 ⟨rfl, hb⟩
        have B7 := bel_step B6 hb
        have hz7 : w6.heap.size ≤ w7.heap.size := hb.size
        have R0_7 := R0_6.kept hb
        have XA_7 := XA_6.kept hb
        have R1_7 := R1_6.kept hb
        have TXA_7 := TXA.kept hb
        go_wp2_with fail
        refine (markIntS_one _ xs _ _ XA_7 (by omega)).mono ?_
        rintro e w8 ⟨rfl, ho, _⟩
        have B8 := B7.trans (ho.below fun g hg => by cases hg; exact Nat.le_trans B2.size hg_XA)
        have hz8 : w7.heap.size ≤ w8.heap.size := Nat.le_of_eq ho.size.symm
        have R0_8 := R0_7.only ho fun g hg e => by cases e; exact Hne_XA.out _ hg rfl
        have R1_8 := R1_7.only ho fun g hg e => by cases e; exact Hne1_XA.out _ hg rfl
        go_wp2_with fail
        refine (eqIntS_same _ _ ([]) _ R1_8.sl R0_8.sl (by simp)).mono ?_
        rintro e w9 ⟨rfl, hb⟩
        have B9 := bel_step B8 hb
        have hz9 : w8.heap.size ≤ w9.heap.size := hb.size
        have R0_9 := R0_8.kept hb
        have R1_9 := R1_8.kept hb
        go_wp2_with fail
        refine (markIntS_one _ ([]) _ _ R1_9 (by simp)).mono ?_
        rintro e w10 ⟨rfl, ho, M⟩
        have B10 := B9.trans (ho.below fun g hg => Nat.le_trans B3.size (Hge1.out g hg))
        have hz10 : w9.heap.size ≤ w10.heap.size := Nat.le_of_eq ho.size.symm
        have R0_10 := R0_9.only ho Hne01.out
        go_wp2_with fail
        refine (heldIntS_one _ ([]).length _ _ M (by simp)).mono ?_
        rintro e w' ⟨rfl, rfl⟩
        go_wp2_with fail
        refine (toIntS_any _ xs _ (hs0.kept B10) (by omega)).mono ?_
        rintro e w11 ⟨g_A10, hg_A10, rfl, K_A10, hb⟩
        have B11 := bel_step B10 hb
        have hz11 : w10.heap.size ≤ w11.heap.size := hb.size
        have R0_11 := R0_10.kept hb
        have M_11 := M.kept hb
        have A10 := K_A10.res hg_A10
        go_wp2_with fail
        refine (impl_DifferencesOf_out _ xs _ A10.sl H.out HY.out).mono ?_
        rintro e w12 ⟨v_R2, rfl, R2, hb⟩
        have B12 := bel_step B11 hb
        have hz12 : w11.heap.size ≤ w12.heap.size := hb.size
        have R0_12 := R0_11.kept hb
        have M_12 := M_11.kept hb
        have A10_12 := A10.kept hb
        go_wp2_with fail
        refine (eqIntS_same _ _ ([]) _ R2.sl R0_12.sl (by simp)).mono ?_
        rintro e w13 ⟨rfl, hb⟩
        have B13 := bel_step B12 hb
        have hz13 : w12.heap.size ≤ w13.heap.size := hb.size
        have R0_13 := R0_12.kept hb
        have M_13 := M_12.kept hb
        have R2_13 := R2.kept hb
        go_wp2_with fail
        refine (heldIntS_one _ ([]).length _ _ M_13 (by simp)).mono ?_
        rintro e w' ⟨rfl, rfl⟩
        go_wp2_with fail
        go_ret
        exact ⟨rfl, B13⟩
    · have H := hid h
      clear h
      go_enter Try.func6, Try.ntmps6
      go_wp2_with fail
      refine (toIntS_any _ xs _ hs0 (by omega)).mono ?_
      rintro e w1 ⟨g_A0, hg_A0, rfl, K_A0, hb⟩
      have B1 := hb
      have hz1 : w.heap.size ≤ w1.heap.size := by first | exact hb.size | (have := hb.size; simp at this; omega)
      have A0 := K_A0.res hg_A0
      go_wp2_with fail
      refine (spec_DifferencesOf_no _ xs _ A0.sl H.out).mono ?_
      rintro e w2 ⟨v_R0, rfl, R0, hb⟩
      have B2 := bel_step B1 hb
      have hz2 : w1.heap.size ≤ w2.heap.size := hb.size
      have A0_2 := A0.kept hb
      have hlt0 : ∀ g, v_R0.ownBlock = some g → g < w2.heap.size := fun g hg => R0.lt hg
      have Hlt0 := hid hlt0
      clear hlt0
      go_wp2_with fail
      refine (toIntS_any _ xs _ (hs0.kept B2) (by omega)).mono ?_
      rintro e w3 ⟨g_XA, hg_XA, rfl, K_XA, hb⟩
      have B3 := bel_step B2 hb
      have hz3 : w2.heap.size ≤ w3.heap.size := hb.size
      have R0_3 := R0.kept hb
      have XA := K_XA.res hg_XA
      have hne_XA : ∀ g, v_R0.ownBlock = some g → g ≠ g_XA := fun g hg => by have a1 := Hlt0.out g hg; omega
      have Hne_XA := hid hne_XA
      clear hne_XA
      have hxl_XA : g_XA < w3.heap.size := XA.lt rfl
      go_wp2_with fail
      refine (impl_DifferencesOf_no _ xs _ XA.sl H.out).mono ?_
      rintro e w4 ⟨v_R1, rfl, R1, hb⟩
      have B4 := bel_step B3 hb
      have hz4 : w3.heap.size ≤ w4.heap.size := hb.size
      have R0_4 := R0_3.kept hb
      have XA_4 := XA.kept hb
      have hne1_XA : ∀ g, v_R1.ownBlock = some g → g ≠ g_XA := fun g hg => by have a1 := R1.ge hg; omega
      have Hne1_XA := hid hne1_XA
      clear hne1_XA
      have hne01 : ∀ g, v_R0.ownBlock = some g → v_R1.ownBlock ≠ some g := fun g hg e => by have a1 := R1.ge e; have a2 := Hlt0.out g hg; omega
      have Hne01 := hid hne01
      clear hne01
      have hge1 : ∀ g, v_R1.ownBlock = some g → w3.heap.size ≤ g := fun g hg => R1.ge hg
      have Hge1 := hid hge1
      clear hge1
      go_wp2_with fail
      refine (eqIntS_same _ _ ([]) _ R1.sl R0_4.sl (by simp)).mono ?_
      rintro e w5 ⟨rfl, hb⟩
      have B5 := bel_step B4 hb
      have hz5 : w4.heap.size ≤ w5.heap.size := hb.size
      have R0_5 := R0_4.kept hb
      have XA_5 := XA_4.kept hb
      have R1_5 := R1.kept hb
      go_wp2_with fail
      refine (toIntS_any _ xs _ (hs0.kept B5) (by omega)).mono ?_
      rintro e w6 ⟨g_TXA, hg_TXA, rfl, K_TXA, hb⟩
      have B6 := bel_step B5 hb
      have hz6 : w5.heap.size ≤ w6.heap.size := hb.size
      have R0_6 := R0_5.kept hb
      have XA_6 := XA_5.kept hb
      have R1_6 := R1_5.kept hb
      have TXA := K_TXA.res hg_TXA
      go_wp2_with fail
      refine (eqIntS_same _ _ xs _ XA_6.sl TXA.sl (by omega)).mono ?_
      rintro e w7 ⟨rfl, hb⟩
      have B7 := bel_step B6 hb
      have hz7 : w6.heap.size ≤ w7.heap.size := hb.size
      have R0_7 := R0_6.kept hb
      have XA_7 := XA_6.kept hb
      have R1_7 := R1_6.kept hb
      have TXA_7 := TXA.kept hb
      go_wp2_with fail
      refine (markIntS_one _ xs _ _ XA_7 (by omega)).mono ?_
      rintro e w8 ⟨rfl, ho, _⟩
      have B8 := B7.trans (ho.below fun g hg => by cases hg; exact Nat.le_trans B2.size hg_XA)
      have hz8 : w7.heap.size ≤ w8.heap.size := Nat.le_of_eq ho.size.symm
      have R0_8 := R0_7.only ho fun g hg e => by cases e; exact Hne_XA.out _ hg rfl
      have R1_8 := R1_7.only ho fun g hg e => by cases e; exact Hne1_XA.out _ hg rfl
      go_wp2_with fail
      refine (eqIntS_same _ _ ([]) _ R1_8.sl R0_8.sl (by simp)).mono ?_
      rintro e w9 ⟨rfl, hb⟩
      have B9 := bel_step B8 hb
      have hz9 : w8.heap.size ≤ w9.heap.size := hb.size
      have R0_9 := R0_8.kept hb
      have R1_9 := R1_8.kept hb
      go_wp2_with fail
      refine (markIntS_one _ ([]) _ _ R1_9 (by simp)).mono ?_
      rintro e w10 ⟨rfl, ho, M⟩
      have B10 := B9.trans (ho.below fun g hg => Nat.le_trans B3.size (Hge1.out g hg))
      have hz10 : w9.heap.size ≤ w10.heap.size := Nat.le_of_eq ho.size.symm
      have R0_10 := R0_9.only ho Hne01.out
      go_wp2_with fail
      refine (heldIntS_one _ ([]).length _ _ M (by simp)).mono ?_
      rintro e w' ⟨rfl, rfl⟩
      go_wp2_with fail
      refine (toIntS_any _ xs _ (hs0.kept B10) (by omega)).mono ?_
      rintro e w11 ⟨g_A10, hg_A10, rfl, K_A10, hb⟩
      have B11 := bel_step B10 hb
      have hz11 : w10.heap.size ≤ w11.heap.size := hb.size
      have R0_11 := R0_10.kept hb
      have M_11 := M.kept hb
      have A10 := K_A10.res hg_A10
      go_wp2_with fail
      refine (impl_DifferencesOf_no _ xs _ A10.sl H.out).mono ?_
      rintro e w12 ⟨v_R2, rfl, R2, hb⟩
      have B12 := bel_step B11 hb
      have hz12 : w11.heap.size ≤ w12.heap.size := hb.size
      have R0_12 := R0_11.kept hb
      have M_12 := M_11.kept hb
      have A10_12 := A10.kept hb
      go_wp2_with fail
      refine (eqIntS_same _ _ ([]) _ R2.sl R0_12.sl (by simp)).mono ?_
      rintro e w13 ⟨rfl, hb⟩
      have B13 := bel_step B12 hb
      have hz13 : w12.heap.size ≤ w13.heap.size := hb.size
      have R0_13 := R0_12.kept hb
      have M_13 := M_12.kept hb
      have R2_13 := R2.kept hb
      go_wp2_with fail
      refine (heldIntS_one _ ([]).length _ _ M_13 (by simp)).mono ?_
      rintro e w' ⟨rfl, rfl⟩
      go_wp2_with fail
      go_ret
      exact ⟨rfl, B13⟩

set_option maxHeartbeats 400000 in
theorem spec_RunningSums_yes (v : Value) (xs : List Int) (w : World) (hs : Sl w v xs) (h : SigP xs) (hy : SigP (tab xs.length (run xs))) :
    Calls Try.prog 20 #[v] w (Gives w (tab xs.length (run xs)) true) := by
  have H := hid h
  clear h
  have HS := hid hs
  clear hs
  have HY := hid hy
  clear hy
  go_enter Try.func20, Try.ntmps20
  go_wp2_with fail
  refine (wdSignal_yes _ xs _ HS.out H.out).mono ?_
  rintro e w' ⟨rfl, rfl⟩
  go_wp2_with fail
  refine (wdSums_any _ xs _ HS.out H.out.1 H.out.2).mono ?_
  rintro e w1 ⟨u, rfl, R, hb⟩
  go_wp2_with fail
  refine (wdIf_yes _ (tab xs.length (run xs)) _ R.sl HY.out).mono ?_
  rintro e w' ⟨rfl, rfl⟩
  go_wp2
  go_ret2
  exact ⟨_, rfl, R, hb⟩

set_option maxHeartbeats 400000 in
theorem spec_RunningSums_out (v : Value) (xs : List Int) (w : World) (hs : Sl w v xs) (h : SigP xs) (hy : ¬ SigP (tab xs.length (run xs))) :
    Calls Try.prog 20 #[v] w (Gives w [] false) := by
  have H := hid h
  clear h
  have HS := hid hs
  clear hs
  have HY := hid hy
  clear hy
  go_enter Try.func20, Try.ntmps20
  go_wp2_with fail
  refine (wdSignal_yes _ xs _ HS.out H.out).mono ?_
  rintro e w' ⟨rfl, rfl⟩
  go_wp2_with fail
  refine (wdSums_any _ xs _ HS.out H.out.1 H.out.2).mono ?_
  rintro e w1 ⟨u, rfl, R, hb⟩
  go_wp2_with fail
  refine (wdIf_no _ (tab xs.length (run xs)) _ R.sl HY.out).mono ?_
  rintro e w' ⟨rfl, rfl⟩
  go_wp2
  go_ret2
  exact ⟨_, rfl, Res.nil _ _ _, hb⟩

set_option maxHeartbeats 400000 in
theorem spec_RunningSums_no (v : Value) (xs : List Int) (w : World) (hs : Sl w v xs) (h : ¬ SigP xs) :
    Calls Try.prog 20 #[v] w (Gives w [] false) := by
  have H := hid h
  clear h
  have HS := hid hs
  clear hs
  go_enter Try.func20, Try.ntmps20
  go_wp2_with fail
  refine (wdSignal_no _ xs _ HS.out H.out).mono ?_
  rintro e w' ⟨rfl, rfl⟩
  go_wp2
  go_ret2
  exact ⟨_, rfl, Res.nil _ _ _, Below.refl _ _⟩

set_option maxHeartbeats 400000 in
theorem impl_RunningSums_no (v : Value) (xs : List Int) (w : World) (hs : Sl w v xs) (h : ¬ SigP xs) :
    Calls Try.prog 21 #[v] w (Gives w [] false) := by
  have H := hid h
  clear h
  have HS := hid hs
  clear hs
  go_enter Try.func21, Try.ntmps21
  go_wp2_with fail
  refine (impl_IsSignal_no _ xs _ HS.out H.out).mono ?_
  rintro e w' ⟨rfl, rfl⟩
  go_wp2
  go_ret2
  exact ⟨_, rfl, Res.nil _ _ _, Below.refl _ _⟩

set_option maxRecDepth 100000 in
set_option maxHeartbeats 4000000 in
theorem walk_FnExactRunningSums (w : World) (a : Option Addr) (len cap : Nat) (z : List Int) (hr : IsRow .i64 w a len cap z) :
    Calls Try.prog 7 #[.slice a len cap] w fun e w' => e = .returned (.bool true) ∧ Below w.heap.size w w' := by
  obtain ⟨hs0, hlen, _⟩ := hr.sl
  generalize z.take len = xs at hs0 hlen
  have hl : xs.length ≤ 1048576 ∨ 1048576 < len := by omega
  have Hlen := hid hlen
  clear hlen hr
  by_cases hbig : 1048576 < len
  · clear hl hs0
    go_enter Try.func7, Try.ntmps7
    go_wp2
    go_ret
    exact ⟨rfl, Below.refl _ _⟩
  · have hxl : xs.length ≤ 1048576 := by omega
    have hll : len ≤ 1048576 := by omega
    clear hl hbig
    by_cases h : SigP xs
    · have H := hid h
      clear h
      by_cases hy : SigP (tab xs.length (run xs))
      · have HY := hid hy
        clear hy
        go_enter Try.func7, Try.ntmps7
        go_wp2_with fail
        refine (toIntS_any _ xs _ hs0 (by omega)).mono ?_
        rintro e w1 ⟨g_A0, hg_A0, rfl, K_A0, hb⟩
        have B1 := hb
        have hz1 : w.heap.size ≤ w1.heap.size := by first | exact hb.size | (have := hb.size; simp at this; omega)
        have A0 := K_A0.res hg_A0
        go_wp2_with fail
        refine (spec_RunningSums_yes _ xs _ A0.sl H.out HY.out).mono ?_
        rintro e w2 ⟨v_R0, rfl, R0, hb⟩
        have B2 := bel_step B1 hb
        have hz2 : w1.heap.size ≤ w2.heap.size := hb.size
        have A0_2 := A0.kept hb
        have hlt0 : ∀ g, v_R0.ownBlock = some g → g < w2.heap.size := fun g hg => R0.lt hg
        have Hlt0 := hid hlt0
        clear hlt0
        go_wp2_with fail
        refine (toIntS_any _ xs _ (hs0.kept B2) (by omega)).mono ?_
        rintro e w3 ⟨g_XA, hg_XA, rfl, K_XA, hb⟩
        have B3 := bel_step B2 hb
        have hz3 : w2.heap.size ≤ w3.heap.size := hb.size
        have R0_3 := R0.kept hb
        have XA := K_XA.res hg_XA
        have hne_XA : ∀ g, v_R0.ownBlock = some g → g ≠ g_XA := fun g hg => by have a1 := Hlt0.out g hg; omega
        have Hne_XA := hid hne_XA
        clear hne_XA
        have hxl_XA : g_XA < w3.heap.size := XA.lt rfl
        go_wp2_with fail
        refine (impl_RunningSums_yes _ xs _ XA.sl H.out HY.out).mono ?_
        rintro e w4 ⟨v_R1, rfl, R1, hb⟩
        have B4 := bel_step B3 hb
        have hz4 : w3.heap.size ≤ w4.heap.size := hb.size
        have R0_4 := R0_3.kept hb
        have XA_4 := XA.kept hb
        have hne1_XA : ∀ g, v_R1.ownBlock = some g → g ≠ g_XA := fun g hg => by have a1 := R1.ge hg; omega
        have Hne1_XA := hid hne1_XA
        clear hne1_XA
        have hne01 : ∀ g, v_R0.ownBlock = some g → v_R1.ownBlock ≠ some g := fun g hg e => by have a1 := R1.ge e; have a2 := Hlt0.out g hg; omega
        have Hne01 := hid hne01
        clear hne01
        have hge1 : ∀ g, v_R1.ownBlock = some g → w3.heap.size ≤ g := fun g hg => R1.ge hg
        have Hge1 := hid hge1
        clear hge1
        go_wp2_with fail
        refine (eqIntS_same _ _ (tab xs.length (run xs)) _ R1.sl R0_4.sl (by rw [tab_len]; exact Nat.le_trans H.out.1 (by omega))).mono ?_
        rintro e w5 ⟨rfl, hb⟩
        have B5 := bel_step B4 hb
        have hz5 : w4.heap.size ≤ w5.heap.size := hb.size
        have R0_5 := R0_4.kept hb
        have XA_5 := XA_4.kept hb
        have R1_5 := R1.kept hb
        go_wp2_with fail
        refine (toIntS_any _ xs _ (hs0.kept B5) (by omega)).mono ?_
        rintro e w6 ⟨g_TXA, hg_TXA, rfl, K_TXA, hb⟩
        have B6 := bel_step B5 hb
        have hz6 : w5.heap.size ≤ w6.heap.size := hb.size
        have R0_6 := R0_5.kept hb
        have XA_6 := XA_5.kept hb
        have R1_6 := R1_5.kept hb
        have TXA := K_TXA.res hg_TXA
        go_wp2_with fail
        refine (eqIntS_same _ _ xs _ XA_6.sl TXA.sl (by omega)).mono ?_
        rintro e w7 ⟨rfl, hb⟩
        have B7 := bel_step B6 hb
        have hz7 : w6.heap.size ≤ w7.heap.size := hb.size
        have R0_7 := R0_6.kept hb
        have XA_7 := XA_6.kept hb
        have R1_7 := R1_6.kept hb
        have TXA_7 := TXA.kept hb
        go_wp2_with fail
        refine (markIntS_one _ xs _ _ XA_7 (by omega)).mono ?_
        rintro e w8 ⟨rfl, ho, _⟩
        have B8 := B7.trans (ho.below fun g hg => by cases hg; exact Nat.le_trans B2.size hg_XA)
        have hz8 : w7.heap.size ≤ w8.heap.size := Nat.le_of_eq ho.size.symm
        have R0_8 := R0_7.only ho fun g hg e => by cases e; exact Hne_XA.out _ hg rfl
        have R1_8 := R1_7.only ho fun g hg e => by cases e; exact Hne1_XA.out _ hg rfl
        go_wp2_with fail
        refine (eqIntS_same _ _ (tab xs.length (run xs)) _ R1_8.sl R0_8.sl (by rw [tab_len]; exact Nat.le_trans H.out.1 (by omega))).mono ?_
        rintro e w9 ⟨rfl, hb⟩
        have B9 := bel_step B8 hb
        have hz9 : w8.heap.size ≤ w9.heap.size := hb.size
        have R0_9 := R0_8.kept hb
        have R1_9 := R1_8.kept hb
        go_wp2_with fail
        refine (markIntS_one _ (tab xs.length (run xs)) _ _ R1_9 (by rw [tab_len]; exact Nat.le_trans H.out.1 (by omega))).mono ?_
        rintro e w10 ⟨rfl, ho, M⟩
        have B10 := B9.trans (ho.below fun g hg => Nat.le_trans B3.size (Hge1.out g hg))
        have hz10 : w9.heap.size ≤ w10.heap.size := Nat.le_of_eq ho.size.symm
        have R0_10 := R0_9.only ho Hne01.out
        go_wp2_with fail
        refine (heldIntS_one _ (tab xs.length (run xs)).length _ _ M (by rw [tab_len]; exact Nat.le_trans H.out.1 (by omega))).mono ?_
        rintro e w' ⟨rfl, rfl⟩
        go_wp2_with fail
        refine (toIntS_any _ xs _ (hs0.kept B10) (by omega)).mono ?_
        rintro e w11 ⟨g_A10, hg_A10, rfl, K_A10, hb⟩
        have B11 := bel_step B10 hb
        have hz11 : w10.heap.size ≤ w11.heap.size := hb.size
        have R0_11 := R0_10.kept hb
        have M_11 := M.kept hb
        have A10 := K_A10.res hg_A10
        go_wp2_with fail
        refine (impl_RunningSums_yes _ xs _ A10.sl H.out HY.out).mono ?_
        rintro e w12 ⟨v_R2, rfl, R2, hb⟩
        have B12 := bel_step B11 hb
        have hz12 : w11.heap.size ≤ w12.heap.size := hb.size
        have R0_12 := R0_11.kept hb
        have M_12 := M_11.kept hb
        have A10_12 := A10.kept hb
        go_wp2_with fail
        refine (eqIntS_same _ _ (tab xs.length (run xs)) _ R2.sl R0_12.sl (by rw [tab_len]; exact Nat.le_trans H.out.1 (by omega))).mono ?_
        rintro e w13 ⟨rfl, hb⟩
        have B13 := bel_step B12 hb
        have hz13 : w12.heap.size ≤ w13.heap.size := hb.size
        have R0_13 := R0_12.kept hb
        have M_13 := M_12.kept hb
        have R2_13 := R2.kept hb
        go_wp2_with fail
        refine (heldIntS_one _ (tab xs.length (run xs)).length _ _ M_13 (by rw [tab_len]; exact Nat.le_trans H.out.1 (by omega))).mono ?_
        rintro e w' ⟨rfl, rfl⟩
        go_wp2_with fail
        go_ret
        exact ⟨rfl, B13⟩
      · have HY := hid hy
        clear hy
        go_enter Try.func7, Try.ntmps7
        go_wp2_with fail
        refine (toIntS_any _ xs _ hs0 (by omega)).mono ?_
        rintro e w1 ⟨g_A0, hg_A0, rfl, K_A0, hb⟩
        have B1 := hb
        have hz1 : w.heap.size ≤ w1.heap.size := by first | exact hb.size | (have := hb.size; simp at this; omega)
        have A0 := K_A0.res hg_A0
        go_wp2_with fail
        refine (spec_RunningSums_out _ xs _ A0.sl H.out HY.out).mono ?_
        rintro e w2 ⟨v_R0, rfl, R0, hb⟩
        have B2 := bel_step B1 hb
        have hz2 : w1.heap.size ≤ w2.heap.size := hb.size
        have A0_2 := A0.kept hb
        have hlt0 : ∀ g, v_R0.ownBlock = some g → g < w2.heap.size := fun g hg => R0.lt hg
        have Hlt0 := hid hlt0
        clear hlt0
        go_wp2_with fail
        refine (toIntS_any _ xs _ (hs0.kept B2) (by omega)).mono ?_
        rintro e w3 ⟨g_XA, hg_XA, rfl, K_XA, hb⟩
        have B3 := bel_step B2 hb
        have hz3 : w2.heap.size ≤ w3.heap.size := hb.size
        have R0_3 := R0.kept hb
        have XA := K_XA.res hg_XA
        have hne_XA : ∀ g, v_R0.ownBlock = some g → g ≠ g_XA := fun g hg => by have a1 := Hlt0.out g hg; omega
        have Hne_XA := hid hne_XA
        clear hne_XA
        have hxl_XA : g_XA < w3.heap.size := XA.lt rfl
        go_wp2_with fail
        refine (impl_RunningSums_out _ xs _ XA.sl H.out HY.out).mono ?_
        rintro e w4 ⟨v_R1, rfl, R1, hb⟩
        have B4 := bel_step B3 hb
        have hz4 : w3.heap.size ≤ w4.heap.size := hb.size
        have R0_4 := R0_3.kept hb
        have XA_4 := XA.kept hb
        have hne1_XA : ∀ g, v_R1.ownBlock = some g → g ≠ g_XA := fun g hg => by have a1 := R1.ge hg; omega
        have Hne1_XA := hid hne1_XA
        clear hne1_XA
        have hne01 : ∀ g, v_R0.ownBlock = some g → v_R1.ownBlock ≠ some g := fun g hg e => by have a1 := R1.ge e; have a2 := Hlt0.out g hg; omega
        have Hne01 := hid hne01
        clear hne01
        have hge1 : ∀ g, v_R1.ownBlock = some g → w3.heap.size ≤ g := fun g hg => R1.ge hg
        have Hge1 := hid hge1
        clear hge1
        go_wp2_with fail
        refine (eqIntS_same _ _ ([]) _ R1.sl R0_4.sl (by simp)).mono ?_
        rintro e w5 ⟨rfl, hb⟩
        have B5 := bel_step B4 hb
        have hz5 : w4.heap.size ≤ w5.heap.size := hb.size
        have R0_5 := R0_4.kept hb
        have XA_5 := XA_4.kept hb
        have R1_5 := R1.kept hb
        go_wp2_with fail
        refine (toIntS_any _ xs _ (hs0.kept B5) (by omega)).mono ?_
        rintro e w6 ⟨g_TXA, hg_TXA, rfl, K_TXA, hb⟩
        have B6 := bel_step B5 hb
        have hz6 : w5.heap.size ≤ w6.heap.size := hb.size
        have R0_6 := R0_5.kept hb
        have XA_6 := XA_5.kept hb
        have R1_6 := R1_5.kept hb
        have TXA := K_TXA.res hg_TXA
        go_wp2_with fail
        refine (eqIntS_same _ _ xs _ XA_6.sl TXA.sl (by omega)).mono ?_
        rintro e w7 ⟨rfl, hb⟩
        have B7 := bel_step B6 hb
        have hz7 : w6.heap.size ≤ w7.heap.size := hb.size
        have R0_7 := R0_6.kept hb
        have XA_7 := XA_6.kept hb
        have R1_7 := R1_6.kept hb
        have TXA_7 := TXA.kept hb
        go_wp2_with fail
        refine (markIntS_one _ xs _ _ XA_7 (by omega)).mono ?_
        rintro e w8 ⟨rfl, ho, _⟩
        have B8 := B7.trans (ho.below fun g hg => by cases hg; exact Nat.le_trans B2.size hg_XA)
        have hz8 : w7.heap.size ≤ w8.heap.size := Nat.le_of_eq ho.size.symm
        have R0_8 := R0_7.only ho fun g hg e => by cases e; exact Hne_XA.out _ hg rfl
        have R1_8 := R1_7.only ho fun g hg e => by cases e; exact Hne1_XA.out _ hg rfl
        go_wp2_with fail
        refine (eqIntS_same _ _ ([]) _ R1_8.sl R0_8.sl (by simp)).mono ?_
        rintro e w9 ⟨rfl, hb⟩
        have B9 := bel_step B8 hb
        have hz9 : w8.heap.size ≤ w9.heap.size := hb.size
        have R0_9 := R0_8.kept hb
        have R1_9 := R1_8.kept hb
        go_wp2_with fail
        refine (markIntS_one _ ([]) _ _ R1_9 (by simp)).mono ?_
        rintro e w10 ⟨rfl, ho, M⟩
        have B10 := B9.trans (ho.below fun g hg => Nat.le_trans B3.size (Hge1.out g hg))
        have hz10 : w9.heap.size ≤ w10.heap.size := Nat.le_of_eq ho.size.symm
        have R0_10 := R0_9.only ho Hne01.out
        go_wp2_with fail
        refine (heldIntS_one _ ([]).length _ _ M (by simp)).mono ?_
        rintro e w' ⟨rfl, rfl⟩
        go_wp2_with fail
        refine (toIntS_any _ xs _ (hs0.kept B10) (by omega)).mono ?_
        rintro e w11 ⟨g_A10, hg_A10, rfl, K_A10, hb⟩
        have B11 := bel_step B10 hb
        have hz11 : w10.heap.size ≤ w11.heap.size := hb.size
        have R0_11 := R0_10.kept hb
        have M_11 := M.kept hb
        have A10 := K_A10.res hg_A10
        go_wp2_with fail
        refine (impl_RunningSums_out _ xs _ A10.sl H.out HY.out).mono ?_
        rintro e w12 ⟨v_R2, rfl, R2, hb⟩
        have B12 := bel_step B11 hb
        have hz12 : w11.heap.size ≤ w12.heap.size := hb.size
        have R0_12 := R0_11.kept hb
        have M_12 := M_11.kept hb
        have A10_12 := A10.kept hb
        go_wp2_with fail
        refine (eqIntS_same _ _ ([]) _ R2.sl R0_12.sl (by simp)).mono ?_
        rintro e w13 ⟨rfl, hb⟩
        have B13 := bel_step B12 hb
        have hz13 : w12.heap.size ≤ w13.heap.size := hb.size
        have R0_13 := R0_12.kept hb
        have M_13 := M_12.kept hb
        have R2_13 := R2.kept hb
        go_wp2_with fail
        refine (heldIntS_one _ ([]).length _ _ M_13 (by simp)).mono ?_
        rintro e w' ⟨rfl, rfl⟩
        go_wp2_with fail
        go_ret
        exact ⟨rfl, B13⟩
    · have H := hid h
      clear h
      go_enter Try.func7, Try.ntmps7
      go_wp2_with fail
      refine (toIntS_any _ xs _ hs0 (by omega)).mono ?_
      rintro e w1 ⟨g_A0, hg_A0, rfl, K_A0, hb⟩
      have B1 := hb
      have hz1 : w.heap.size ≤ w1.heap.size := by first | exact hb.size | (have := hb.size; simp at this; omega)
      have A0 := K_A0.res hg_A0
      go_wp2_with fail
      refine (spec_RunningSums_no _ xs _ A0.sl H.out).mono ?_
      rintro e w2 ⟨v_R0, rfl, R0, hb⟩
      have B2 := bel_step B1 hb
      have hz2 : w1.heap.size ≤ w2.heap.size := hb.size
      have A0_2 := A0.kept hb
      have hlt0 : ∀ g, v_R0.ownBlock = some g → g < w2.heap.size := fun g hg => R0.lt hg
      have Hlt0 := hid hlt0
      clear hlt0
      go_wp2_with fail
      refine (toIntS_any _ xs _ (hs0.kept B2) (by omega)).mono ?_
      rintro e w3 ⟨g_XA, hg_XA, rfl, K_XA, hb⟩
      have B3 := bel_step B2 hb
      have hz3 : w2.heap.size ≤ w3.heap.size := hb.size
      have R0_3 := R0.kept hb
      have XA := K_XA.res hg_XA
      have hne_XA : ∀ g, v_R0.ownBlock = some g → g ≠ g_XA := fun g hg => by have a1 := Hlt0.out g hg; omega
      have Hne_XA := hid hne_XA
      clear hne_XA
      have hxl_XA : g_XA < w3.heap.size := XA.lt rfl
      go_wp2_with fail
      refine (impl_RunningSums_no _ xs _ XA.sl H.out).mono ?_
      rintro e w4 ⟨v_R1, rfl, R1, hb⟩
      have B4 := bel_step B3 hb
      have hz4 : w3.heap.size ≤ w4.heap.size := hb.size
      have R0_4 := R0_3.kept hb
      have XA_4 := XA.kept hb
      have hne1_XA : ∀ g, v_R1.ownBlock = some g → g ≠ g_XA := fun g hg => by have a1 := R1.ge hg; omega
      have Hne1_XA := hid hne1_XA
      clear hne1_XA
      have hne01 : ∀ g, v_R0.ownBlock = some g → v_R1.ownBlock ≠ some g := fun g hg e => by have a1 := R1.ge e; have a2 := Hlt0.out g hg; omega
      have Hne01 := hid hne01
      clear hne01
      have hge1 : ∀ g, v_R1.ownBlock = some g → w3.heap.size ≤ g := fun g hg => R1.ge hg
      have Hge1 := hid hge1
      clear hge1
      go_wp2_with fail
      refine (eqIntS_same _ _ ([]) _ R1.sl R0_4.sl (by simp)).mono ?_
      rintro e w5 ⟨rfl, hb⟩
      have B5 := bel_step B4 hb
      have hz5 : w4.heap.size ≤ w5.heap.size := hb.size
      have R0_5 := R0_4.kept hb
      have XA_5 := XA_4.kept hb
      have R1_5 := R1.kept hb
      go_wp2_with fail
      refine (toIntS_any _ xs _ (hs0.kept B5) (by omega)).mono ?_
      rintro e w6 ⟨g_TXA, hg_TXA, rfl, K_TXA, hb⟩
      have B6 := bel_step B5 hb
      have hz6 : w5.heap.size ≤ w6.heap.size := hb.size
      have R0_6 := R0_5.kept hb
      have XA_6 := XA_5.kept hb
      have R1_6 := R1_5.kept hb
      have TXA := K_TXA.res hg_TXA
      go_wp2_with fail
      refine (eqIntS_same _ _ xs _ XA_6.sl TXA.sl (by omega)).mono ?_
      rintro e w7 ⟨rfl, hb⟩
      have B7 := bel_step B6 hb
      have hz7 : w6.heap.size ≤ w7.heap.size := hb.size
      have R0_7 := R0_6.kept hb
      have XA_7 := XA_6.kept hb
      have R1_7 := R1_6.kept hb
      have TXA_7 := TXA.kept hb
      go_wp2_with fail
      refine (markIntS_one _ xs _ _ XA_7 (by omega)).mono ?_
      rintro e w8 ⟨rfl, ho, _⟩
      have B8 := B7.trans (ho.below fun g hg => by cases hg; exact Nat.le_trans B2.size hg_XA)
      have hz8 : w7.heap.size ≤ w8.heap.size := Nat.le_of_eq ho.size.symm
      have R0_8 := R0_7.only ho fun g hg e => by cases e; exact Hne_XA.out _ hg rfl
      have R1_8 := R1_7.only ho fun g hg e => by cases e; exact Hne1_XA.out _ hg rfl
      go_wp2_with fail
      refine (eqIntS_same _ _ ([]) _ R1_8.sl R0_8.sl (by simp)).mono ?_
      rintro e w9 ⟨rfl, hb⟩
      have B9 := bel_step B8 hb
      have hz9 : w8.heap.size ≤ w9.heap.size := hb.size
      have R0_9 := R0_8.kept hb
      have R1_9 := R1_8.kept hb
      go_wp2_with fail
      refine (markIntS_one _ ([]) _ _ R1_9 (by simp)).mono ?_
      rintro e w10 ⟨rfl, ho, M⟩
      have B10 := B9.trans (ho.below fun g hg => Nat.le_trans B3.size (Hge1.out g hg))
      have hz10 : w9.heap.size ≤ w10.heap.size := Nat.le_of_eq ho.size.symm
      have R0_10 := R0_9.only ho Hne01.out
      go_wp2_with fail
      refine (heldIntS_one _ ([]).length _ _ M (by simp)).mono ?_
      rintro e w' ⟨rfl, rfl⟩
      go_wp2_with fail
      refine (toIntS_any _ xs _ (hs0.kept B10) (by omega)).mono ?_
      rintro e w11 ⟨g_A10, hg_A10, rfl, K_A10, hb⟩
      have B11 := bel_step B10 hb
      have hz11 : w10.heap.size ≤ w11.heap.size := hb.size
      have R0_11 := R0_10.kept hb
      have M_11 := M.kept hb
      have A10 := K_A10.res hg_A10
      go_wp2_with fail
      refine (impl_RunningSums_no _ xs _ A10.sl H.out).mono ?_
      rintro e w12 ⟨v_R2, rfl, R2, hb⟩
      have B12 := bel_step B11 hb
      have hz12 : w11.heap.size ≤ w12.heap.size := hb.size
      have R0_12 := R0_11.kept hb
      have M_12 := M_11.kept hb
      have A10_12 := A10.kept hb
      go_wp2_with fail
      refine (eqIntS_same _ _ ([]) _ R2.sl R0_12.sl (by simp)).mono ?_
      rintro e w13 ⟨rfl, hb⟩
      have B13 := bel_step B12 hb
      have hz13 : w12.heap.size ≤ w13.heap.size := hb.size
      have R0_13 := R0_12.kept hb
      have M_13 := M_12.kept hb
      have R2_13 := R2.kept hb
      go_wp2_with fail
      refine (heldIntS_one _ ([]).length _ _ M_13 (by simp)).mono ?_
      rintro e w' ⟨rfl, rfl⟩
      go_wp2_with fail
      go_ret
      exact ⟨rfl, B13⟩
end Go.Proofs.Ytgpnedchlkigeaa
