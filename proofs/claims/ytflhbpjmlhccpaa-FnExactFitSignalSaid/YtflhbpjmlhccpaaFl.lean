
import Derived.Test.YtflhbpjmlhccpaaFj
namespace Go.Proofs.Ytflhbpjmlhccpaa
open Go.RowKit BitX Go.MemX

set_option maxRecDepth 100000 in
set_option maxHeartbeats 4000000 in
theorem walk_FnExactFitSignal (w : World) (b : Int) (wb : Bool) (_ : (Lit.int .i64 b).wf = true) (a : Option Addr) (len cap : Nat) (z : List Int) (hr : IsRow .i64 w a len cap z) :
    Calls Try.prog 4 #[.agg #[.int .i64 b, .bool wb], .slice a len cap] w fun e w' => e = .returned (.bool true) ∧ Below w.heap.size w w' := by
  obtain ⟨hs0, hlen, _⟩ := hr.sl
  generalize z.take len = xs at hs0 hlen
  have hl : xs.length ≤ 1048576 ∨ 1048576 < len := by omega
  have Hlen := hid hlen
  clear hlen hr
  by_cases hbig : 1048576 < len
  · clear hl hs0
    go_enter Try.func4, Try.ntmps4
    go_wp2
    go_ret
    exact ⟨rfl, bel_alloc _ _⟩
  · have hxl : xs.length ≤ 1048576 := by omega
    have hll : len ≤ 1048576 := by omega
    clear hl hbig
    by_cases hg : 2 ≤ b ∧ b ≤ 16
    · obtain ⟨m, rfl⟩ := Int.eq_ofNat_of_zero_le (show 0 ≤ b by omega)
      have h1 : 2 ≤ m := by omega
      have h2 : m ≤ 16 := by omega
      clear hg
      by_cases h : SigP xs
      · have H := hid h
        clear h
        go_enter Try.func4, Try.ntmps4
        go_wp2_with fail
        refine (toWord_any _ _ _).mono ?_
        rintro e w1 ⟨rfl, hb⟩
        have B1 := hb
        have hz1 : w.heap.size ≤ w1.heap.size := by have := hb.size; simp at this; omega
        obtain ⟨ca1, cb1⟩ := box2_cells B1
        go_wp2_with fail
        refine (toIntS_any _ xs _ (hs0.kept (bel_step (bel_alloc w _) B1)) (by omega)).mono ?_
        rintro e w2 ⟨g_A1, hg_A1, rfl, K_A1, hb⟩
        have B2 := bel_step B1 hb
        have hz2 : w1.heap.size ≤ w2.heap.size := hb.size
        have A1 := K_A1.res hg_A1
        obtain ⟨ca2, cb2⟩ := box2_cells B2
        go_wp2_with fail
        refine (spec_FitSignal_yes m _ xs wb _ h1 h2 A1.sl H.out).mono ?_
        rintro e w3 ⟨v_R0, rfl, R0, hb⟩
        have B3 := bel_step B2 hb
        have hz3 : w2.heap.size ≤ w3.heap.size := hb.size
        have A1_3 := A1.kept hb
        obtain ⟨ca3, cb3⟩ := box2_cells B3
        have hlt0 : ∀ g, v_R0.ownBlock = some g → g < w3.heap.size := fun g hg => R0.lt hg
        have Hlt0 := hid hlt0
        clear hlt0
        go_wp2_with fail
        refine (toIntS_any _ xs _ (hs0.kept (bel_step (bel_alloc w _) B3)) (by omega)).mono ?_
        rintro e w4 ⟨g_XA, hg_XA, rfl, K_XA, hb⟩
        have B4 := bel_step B3 hb
        have hz4 : w3.heap.size ≤ w4.heap.size := hb.size
        have R0_4 := R0.kept hb
        have XA := K_XA.res hg_XA
        obtain ⟨ca4, cb4⟩ := box2_cells B4
        have hne_XA : ∀ g, v_R0.ownBlock = some g → g ≠ g_XA := fun g hg => by have a1 := Hlt0.out g hg; omega
        have Hne_XA := hid hne_XA
        clear hne_XA
        go_wp2_with fail
        refine (toWord_any _ _ _).mono ?_
        rintro e w5 ⟨rfl, hb⟩
        have B5 := bel_step B4 hb
        have hz5 : w4.heap.size ≤ w5.heap.size := hb.size
        have R0_5 := R0_4.kept hb
        have XA_5 := XA.kept hb
        obtain ⟨ca5, cb5⟩ := box2_cells B5
        have hxl_XA : g_XA < w5.heap.size := XA_5.lt rfl
        go_wp2_with fail
        refine (impl_FitSignal_yes m _ xs wb _ h1 h2 XA_5.sl H.out).mono ?_
        rintro e w6 ⟨v_R1, rfl, R1, hb⟩
        have B6 := bel_step B5 hb
        have hz6 : w5.heap.size ≤ w6.heap.size := hb.size
        have R0_6 := R0_5.kept hb
        have XA_6 := XA_5.kept hb
        obtain ⟨ca6, cb6⟩ := box2_cells B6
        have hne1_XA : ∀ g, v_R1.ownBlock = some g → g ≠ g_XA := fun g hg => by have a1 := R1.ge hg; omega
        have Hne1_XA := hid hne1_XA
        clear hne1_XA
        have hne01 : ∀ g, v_R0.ownBlock = some g → v_R1.ownBlock ≠ some g := fun g hg e => by have a1 := R1.ge e; have a2 := Hlt0.out g hg; omega
        have Hne01 := hid hne01
        clear hne01
        have hge1 : ∀ g, v_R1.ownBlock = some g → w5.heap.size ≤ g := fun g hg => R1.ge hg
        have Hge1 := hid hge1
        clear hge1
        go_wp2_with fail
        refine (eqIntS_same _ _ (xs.map (fitI m wb)) _ R1.sl R0_6.sl (by rw [List.length_map]; exact Nat.le_trans H.out.1 (by omega))).mono ?_
        rintro e w7 ⟨rfl, hb⟩
        have B7 := bel_step B6 hb
        have hz7 : w6.heap.size ≤ w7.heap.size := hb.size
        have R0_7 := R0_6.kept hb
        have XA_7 := XA_6.kept hb
        have R1_7 := R1.kept hb
        obtain ⟨ca7, cb7⟩ := box2_cells B7
        go_wp2_with fail
        refine (toIntS_any _ xs _ (hs0.kept (bel_step (bel_alloc w _) B7)) (by omega)).mono ?_
        rintro e w8 ⟨g_TXA, hg_TXA, rfl, K_TXA, hb⟩
        have B8 := bel_step B7 hb
        have hz8 : w7.heap.size ≤ w8.heap.size := hb.size
        have R0_8 := R0_7.kept hb
        have XA_8 := XA_7.kept hb
        have R1_8 := R1_7.kept hb
        have TXA := K_TXA.res hg_TXA
        obtain ⟨ca8, cb8⟩ := box2_cells B8
        go_wp2_with fail
        refine (eqIntS_same _ _ xs _ XA_8.sl TXA.sl (by omega)).mono ?_
        rintro e w9 ⟨rfl, hb⟩
        have B9 := bel_step B8 hb
        have hz9 : w8.heap.size ≤ w9.heap.size := hb.size
        have R0_9 := R0_8.kept hb
        have XA_9 := XA_8.kept hb
        have R1_9 := R1_8.kept hb
        have TXA_9 := TXA.kept hb
        obtain ⟨ca9, cb9⟩ := box2_cells B9
        go_wp2_with fail
        refine (markIntS_one _ xs _ _ XA_9 (by omega)).mono ?_
        rintro e w10 ⟨rfl, ho, _⟩
        have B10 := B9.trans (ho.below fun g hg => by cases hg; exact Nat.le_trans B3.size hg_XA)
        have hz10 : w9.heap.size ≤ w10.heap.size := Nat.le_of_eq ho.size.symm
        have R0_10 := R0_9.only ho fun g hg e => by cases e; exact Hne_XA.out _ hg rfl
        have R1_10 := R1_9.only ho fun g hg e => by cases e; exact Hne1_XA.out _ hg rfl
        obtain ⟨ca10, cb10⟩ := box2_cells B10
        go_wp2_with fail
        refine (eqIntS_same _ _ (xs.map (fitI m wb)) _ R1_10.sl R0_10.sl (by rw [List.length_map]; exact Nat.le_trans H.out.1 (by omega))).mono ?_
        rintro e w11 ⟨rfl, hb⟩
        have B11 := bel_step B10 hb
        have hz11 : w10.heap.size ≤ w11.heap.size := hb.size
        have R0_11 := R0_10.kept hb
        have R1_11 := R1_10.kept hb
        obtain ⟨ca11, cb11⟩ := box2_cells B11
        go_wp2_with fail
        refine (markIntS_one _ (xs.map (fitI m wb)) _ _ R1_11 (by rw [List.length_map]; exact Nat.le_trans H.out.1 (by omega))).mono ?_
        rintro e w12 ⟨rfl, ho, M⟩
        have B12 := B11.trans (ho.below fun g hg => Nat.le_trans B5.size (Hge1.out g hg))
        have hz12 : w11.heap.size ≤ w12.heap.size := Nat.le_of_eq ho.size.symm
        have R0_12 := R0_11.only ho Hne01.out
        obtain ⟨ca12, cb12⟩ := box2_cells B12
        go_wp2_with fail
        refine (heldIntS_one _ (xs.map (fitI m wb)).length _ _ M (by rw [List.length_map]; exact Nat.le_trans H.out.1 (by omega))).mono ?_
        rintro e w' ⟨rfl, rfl⟩
        go_wp2_with fail
        refine (toWord_any _ _ _).mono ?_
        rintro e w13 ⟨rfl, hb⟩
        have B13 := bel_step B12 hb
        have hz13 : w12.heap.size ≤ w13.heap.size := hb.size
        have R0_13 := R0_12.kept hb
        have M_13 := M.kept hb
        obtain ⟨ca13, cb13⟩ := box2_cells B13
        go_wp2_with fail
        refine (toIntS_any _ xs _ (hs0.kept (bel_step (bel_alloc w _) B13)) (by omega)).mono ?_
        rintro e w14 ⟨g_A13, hg_A13, rfl, K_A13, hb⟩
        have B14 := bel_step B13 hb
        have hz14 : w13.heap.size ≤ w14.heap.size := hb.size
        have R0_14 := R0_13.kept hb
        have M_14 := M_13.kept hb
        have A13 := K_A13.res hg_A13
        obtain ⟨ca14, cb14⟩ := box2_cells B14
        go_wp2_with fail
        refine (impl_FitSignal_yes m _ xs wb _ h1 h2 A13.sl H.out).mono ?_
        rintro e w15 ⟨v_R2, rfl, R2, hb⟩
        have B15 := bel_step B14 hb
        have hz15 : w14.heap.size ≤ w15.heap.size := hb.size
        have R0_15 := R0_14.kept hb
        have M_15 := M_14.kept hb
        have A13_15 := A13.kept hb
        obtain ⟨ca15, cb15⟩ := box2_cells B15
        go_wp2_with fail
        refine (eqIntS_same _ _ (xs.map (fitI m wb)) _ R2.sl R0_15.sl (by rw [List.length_map]; exact Nat.le_trans H.out.1 (by omega))).mono ?_
        rintro e w16 ⟨rfl, hb⟩
        have B16 := bel_step B15 hb
        have hz16 : w15.heap.size ≤ w16.heap.size := hb.size
        have R0_16 := R0_15.kept hb
        have M_16 := M_15.kept hb
        have R2_16 := R2.kept hb
        obtain ⟨ca16, cb16⟩ := box2_cells B16
        go_wp2_with fail
        refine (heldIntS_one _ (xs.map (fitI m wb)).length _ _ M_16 (by rw [List.length_map]; exact Nat.le_trans H.out.1 (by omega))).mono ?_
        rintro e w' ⟨rfl, rfl⟩
        go_wp2_with fail
        go_ret
        exact ⟨rfl, bel_step (bel_alloc _ _) B16⟩
      · have H := hid h
        clear h
        go_enter Try.func4, Try.ntmps4
        go_wp2_with fail
        refine (toWord_any _ _ _).mono ?_
        rintro e w1 ⟨rfl, hb⟩
        have B1 := hb
        have hz1 : w.heap.size ≤ w1.heap.size := by have := hb.size; simp at this; omega
        obtain ⟨ca1, cb1⟩ := box2_cells B1
        go_wp2_with fail
        refine (toIntS_any _ xs _ (hs0.kept (bel_step (bel_alloc w _) B1)) (by omega)).mono ?_
        rintro e w2 ⟨g_A1, hg_A1, rfl, K_A1, hb⟩
        have B2 := bel_step B1 hb
        have hz2 : w1.heap.size ≤ w2.heap.size := hb.size
        have A1 := K_A1.res hg_A1
        obtain ⟨ca2, cb2⟩ := box2_cells B2
        go_wp2_with fail
        refine (spec_FitSignal_no m _ xs wb _ h1 h2 A1.sl H.out).mono ?_
        rintro e w3 ⟨v_R0, rfl, R0, hb⟩
        have B3 := bel_step B2 hb
        have hz3 : w2.heap.size ≤ w3.heap.size := hb.size
        have A1_3 := A1.kept hb
        obtain ⟨ca3, cb3⟩ := box2_cells B3
        have hlt0 : ∀ g, v_R0.ownBlock = some g → g < w3.heap.size := fun g hg => R0.lt hg
        have Hlt0 := hid hlt0
        clear hlt0
        go_wp2_with fail
        refine (toIntS_any _ xs _ (hs0.kept (bel_step (bel_alloc w _) B3)) (by omega)).mono ?_
        rintro e w4 ⟨g_XA, hg_XA, rfl, K_XA, hb⟩
        have B4 := bel_step B3 hb
        have hz4 : w3.heap.size ≤ w4.heap.size := hb.size
        have R0_4 := R0.kept hb
        have XA := K_XA.res hg_XA
        obtain ⟨ca4, cb4⟩ := box2_cells B4
        have hne_XA : ∀ g, v_R0.ownBlock = some g → g ≠ g_XA := fun g hg => by have a1 := Hlt0.out g hg; omega
        have Hne_XA := hid hne_XA
        clear hne_XA
        go_wp2_with fail
        refine (toWord_any _ _ _).mono ?_
        rintro e w5 ⟨rfl, hb⟩
        have B5 := bel_step B4 hb
        have hz5 : w4.heap.size ≤ w5.heap.size := hb.size
        have R0_5 := R0_4.kept hb
        have XA_5 := XA.kept hb
        obtain ⟨ca5, cb5⟩ := box2_cells B5
        have hxl_XA : g_XA < w5.heap.size := XA_5.lt rfl
        go_wp2_with fail
        refine (impl_FitSignal_no m _ xs wb _ h1 h2 XA_5.sl H.out).mono ?_
        rintro e w6 ⟨v_R1, rfl, R1, hb⟩
        have B6 := bel_step B5 hb
        have hz6 : w5.heap.size ≤ w6.heap.size := hb.size
        have R0_6 := R0_5.kept hb
        have XA_6 := XA_5.kept hb
        obtain ⟨ca6, cb6⟩ := box2_cells B6
        have hne1_XA : ∀ g, v_R1.ownBlock = some g → g ≠ g_XA := fun g hg => by have a1 := R1.ge hg; omega
        have Hne1_XA := hid hne1_XA
        clear hne1_XA
        have hne01 : ∀ g, v_R0.ownBlock = some g → v_R1.ownBlock ≠ some g := fun g hg e => by have a1 := R1.ge e; have a2 := Hlt0.out g hg; omega
        have Hne01 := hid hne01
        clear hne01
        have hge1 : ∀ g, v_R1.ownBlock = some g → w5.heap.size ≤ g := fun g hg => R1.ge hg
        have Hge1 := hid hge1
        clear hge1
        go_wp2_with fail
        refine (eqIntS_same _ _ ([]) _ R1.sl R0_6.sl (by simp)).mono ?_
        rintro e w7 ⟨rfl, hb⟩
        have B7 := bel_step B6 hb
        have hz7 : w6.heap.size ≤ w7.heap.size := hb.size
        have R0_7 := R0_6.kept hb
        have XA_7 := XA_6.kept hb
        have R1_7 := R1.kept hb
        obtain ⟨ca7, cb7⟩ := box2_cells B7
        go_wp2_with fail
        refine (toIntS_any _ xs _ (hs0.kept (bel_step (bel_alloc w _) B7)) (by omega)).mono ?_
        rintro e w8 ⟨g_TXA, hg_TXA, rfl, K_TXA, hb⟩
        have B8 := bel_step B7 hb
        have hz8 : w7.heap.size ≤ w8.heap.size := hb.size
        have R0_8 := R0_7.kept hb
        have XA_8 := XA_7.kept hb
        have R1_8 := R1_7.kept hb
        have TXA := K_TXA.res hg_TXA
        obtain ⟨ca8, cb8⟩ := box2_cells B8
        go_wp2_with fail
        refine (eqIntS_same _ _ xs _ XA_8.sl TXA.sl (by omega)).mono ?_
        rintro e w9 ⟨rfl, hb⟩
        have B9 := bel_step B8 hb
        have hz9 : w8.heap.size ≤ w9.heap.size := hb.size
        have R0_9 := R0_8.kept hb
        have XA_9 := XA_8.kept hb
        have R1_9 := R1_8.kept hb
        have TXA_9 := TXA.kept hb
        obtain ⟨ca9, cb9⟩ := box2_cells B9
        go_wp2_with fail
        refine (markIntS_one _ xs _ _ XA_9 (by omega)).mono ?_
        rintro e w10 ⟨rfl, ho, _⟩
        have B10 := B9.trans (ho.below fun g hg => by cases hg; exact Nat.le_trans B3.size hg_XA)
        have hz10 : w9.heap.size ≤ w10.heap.size := Nat.le_of_eq ho.size.symm
        have R0_10 := R0_9.only ho fun g hg e => by cases e; exact Hne_XA.out _ hg rfl
        have R1_10 := R1_9.only ho fun g hg e => by cases e; exact Hne1_XA.out _ hg rfl
        obtain ⟨ca10, cb10⟩ := box2_cells B10
        go_wp2_with fail
        refine (eqIntS_same _ _ ([]) _ R1_10.sl R0_10.sl (by simp)).mono ?_
        rintro e w11 ⟨rfl, hb⟩
        have B11 := bel_step B10 hb
        have hz11 : w10.heap.size ≤ w11.heap.size := hb.size
        have R0_11 := R0_10.kept hb
        have R1_11 := R1_10.kept hb
        obtain ⟨ca11, cb11⟩ := box2_cells B11
        go_wp2_with fail
        refine (markIntS_one _ ([]) _ _ R1_11 (by simp)).mono ?_
        rintro e w12 ⟨rfl, ho, M⟩
        have B12 := B11.trans (ho.below fun g hg => Nat.le_trans B5.size (Hge1.out g hg))
        have hz12 : w11.heap.size ≤ w12.heap.size := Nat.le_of_eq ho.size.symm
        have R0_12 := R0_11.only ho Hne01.out
        obtain ⟨ca12, cb12⟩ := box2_cells B12
        go_wp2_with fail
        refine (heldIntS_one _ ([]).length _ _ M (by simp)).mono ?_
        rintro e w' ⟨rfl, rfl⟩
        go_wp2_with fail
        refine (toWord_any _ _ _).mono ?_
        rintro e w13 ⟨rfl, hb⟩
        have B13 := bel_step B12 hb
        have hz13 : w12.heap.size ≤ w13.heap.size := hb.size
        have R0_13 := R0_12.kept hb
        have M_13 := M.kept hb
        obtain ⟨ca13, cb13⟩ := box2_cells B13
        go_wp2_with fail
        refine (toIntS_any _ xs _ (hs0.kept (bel_step (bel_alloc w _) B13)) (by omega)).mono ?_
        rintro e w14 ⟨g_A13, hg_A13, rfl, K_A13, hb⟩
        have B14 := bel_step B13 hb
        have hz14 : w13.heap.size ≤ w14.heap.size := hb.size
        have R0_14 := R0_13.kept hb
        have M_14 := M_13.kept hb
        have A13 := K_A13.res hg_A13
        obtain ⟨ca14, cb14⟩ := box2_cells B14
        go_wp2_with fail
        refine (impl_FitSignal_no m _ xs wb _ h1 h2 A13.sl H.out).mono ?_
        rintro e w15 ⟨v_R2, rfl, R2, hb⟩
        have B15 := bel_step B14 hb
        have hz15 : w14.heap.size ≤ w15.heap.size := hb.size
        have R0_15 := R0_14.kept hb
        have M_15 := M_14.kept hb
        have A13_15 := A13.kept hb
        obtain ⟨ca15, cb15⟩ := box2_cells B15
        go_wp2_with fail
        refine (eqIntS_same _ _ ([]) _ R2.sl R0_15.sl (by simp)).mono ?_
        rintro e w16 ⟨rfl, hb⟩
        have B16 := bel_step B15 hb
        have hz16 : w15.heap.size ≤ w16.heap.size := hb.size
        have R0_16 := R0_15.kept hb
        have M_16 := M_15.kept hb
        have R2_16 := R2.kept hb
        obtain ⟨ca16, cb16⟩ := box2_cells B16
        go_wp2_with fail
        refine (heldIntS_one _ ([]).length _ _ M_16 (by simp)).mono ?_
        rintro e w' ⟨rfl, rfl⟩
        go_wp2_with fail
        go_ret
        exact ⟨rfl, bel_step (bel_alloc _ _) B16⟩
    · have H := hid hg
      clear hg
      go_enter Try.func4, Try.ntmps4
      go_wp2_with fail
      refine (toWord_any _ _ _).mono ?_
      rintro e w1 ⟨rfl, hb⟩
      have B1 := hb
      have hz1 : w.heap.size ≤ w1.heap.size := by have := hb.size; simp at this; omega
      obtain ⟨ca1, cb1⟩ := box2_cells B1
      go_wp2_with fail
      refine (toIntS_any _ xs _ (hs0.kept (bel_step (bel_alloc w _) B1)) (by omega)).mono ?_
      rintro e w2 ⟨g_A1, hg_A1, rfl, K_A1, hb⟩
      have B2 := bel_step B1 hb
      have hz2 : w1.heap.size ≤ w2.heap.size := hb.size
      have A1 := K_A1.res hg_A1
      obtain ⟨ca2, cb2⟩ := box2_cells B2
      go_wp2_with fail
      refine (spec_FitSignal_bad b _ wb _ H.out).mono ?_
      rintro e w3 ⟨v_R0, rfl, R0, hb⟩
      have B3 := bel_step B2 hb
      have hz3 : w2.heap.size ≤ w3.heap.size := hb.size
      have A1_3 := A1.kept hb
      obtain ⟨ca3, cb3⟩ := box2_cells B3
      have hlt0 : ∀ g, v_R0.ownBlock = some g → g < w3.heap.size := fun g hg => R0.lt hg
      have Hlt0 := hid hlt0
      clear hlt0
      go_wp2_with fail
      refine (toIntS_any _ xs _ (hs0.kept (bel_step (bel_alloc w _) B3)) (by omega)).mono ?_
      rintro e w4 ⟨g_XA, hg_XA, rfl, K_XA, hb⟩
      have B4 := bel_step B3 hb
      have hz4 : w3.heap.size ≤ w4.heap.size := hb.size
      have R0_4 := R0.kept hb
      have XA := K_XA.res hg_XA
      obtain ⟨ca4, cb4⟩ := box2_cells B4
      have hne_XA : ∀ g, v_R0.ownBlock = some g → g ≠ g_XA := fun g hg => by have a1 := Hlt0.out g hg; omega
      have Hne_XA := hid hne_XA
      clear hne_XA
      go_wp2_with fail
      refine (toWord_any _ _ _).mono ?_
      rintro e w5 ⟨rfl, hb⟩
      have B5 := bel_step B4 hb
      have hz5 : w4.heap.size ≤ w5.heap.size := hb.size
      have R0_5 := R0_4.kept hb
      have XA_5 := XA.kept hb
      obtain ⟨ca5, cb5⟩ := box2_cells B5
      have hxl_XA : g_XA < w5.heap.size := XA_5.lt rfl
      go_wp2_with fail
      refine (impl_FitSignal_bad b _ wb _ H.out).mono ?_
      rintro e w6 ⟨v_R1, rfl, R1, hb⟩
      have B6 := bel_step B5 hb
      have hz6 : w5.heap.size ≤ w6.heap.size := hb.size
      have R0_6 := R0_5.kept hb
      have XA_6 := XA_5.kept hb
      obtain ⟨ca6, cb6⟩ := box2_cells B6
      have hne1_XA : ∀ g, v_R1.ownBlock = some g → g ≠ g_XA := fun g hg => by have a1 := R1.ge hg; omega
      have Hne1_XA := hid hne1_XA
      clear hne1_XA
      have hne01 : ∀ g, v_R0.ownBlock = some g → v_R1.ownBlock ≠ some g := fun g hg e => by have a1 := R1.ge e; have a2 := Hlt0.out g hg; omega
      have Hne01 := hid hne01
      clear hne01
      have hge1 : ∀ g, v_R1.ownBlock = some g → w5.heap.size ≤ g := fun g hg => R1.ge hg
      have Hge1 := hid hge1
      clear hge1
      go_wp2_with fail
      refine (eqIntS_same _ _ ([]) _ R1.sl R0_6.sl (by simp)).mono ?_
      rintro e w7 ⟨rfl, hb⟩
      have B7 := bel_step B6 hb
      have hz7 : w6.heap.size ≤ w7.heap.size := hb.size
      have R0_7 := R0_6.kept hb
      have XA_7 := XA_6.kept hb
      have R1_7 := R1.kept hb
      obtain ⟨ca7, cb7⟩ := box2_cells B7
      go_wp2_with fail
      refine (toIntS_any _ xs _ (hs0.kept (bel_step (bel_alloc w _) B7)) (by omega)).mono ?_
      rintro e w8 ⟨g_TXA, hg_TXA, rfl, K_TXA, hb⟩
      have B8 := bel_step B7 hb
      have hz8 : w7.heap.size ≤ w8.heap.size := hb.size
      have R0_8 := R0_7.kept hb
      have XA_8 := XA_7.kept hb
      have R1_8 := R1_7.kept hb
      have TXA := K_TXA.res hg_TXA
      obtain ⟨ca8, cb8⟩ := box2_cells B8
      go_wp2_with fail
      refine (eqIntS_same _ _ xs _ XA_8.sl TXA.sl (by omega)).mono ?_
      rintro e w9 ⟨rfl, hb⟩
      have B9 := bel_step B8 hb
      have hz9 : w8.heap.size ≤ w9.heap.size := hb.size
      have R0_9 := R0_8.kept hb
      have XA_9 := XA_8.kept hb
      have R1_9 := R1_8.kept hb
      have TXA_9 := TXA.kept hb
      obtain ⟨ca9, cb9⟩ := box2_cells B9
      go_wp2_with fail
      refine (markIntS_one _ xs _ _ XA_9 (by omega)).mono ?_
      rintro e w10 ⟨rfl, ho, _⟩
      have B10 := B9.trans (ho.below fun g hg => by cases hg; exact Nat.le_trans B3.size hg_XA)
      have hz10 : w9.heap.size ≤ w10.heap.size := Nat.le_of_eq ho.size.symm
      have R0_10 := R0_9.only ho fun g hg e => by cases e; exact Hne_XA.out _ hg rfl
      have R1_10 := R1_9.only ho fun g hg e => by cases e; exact Hne1_XA.out _ hg rfl
      obtain ⟨ca10, cb10⟩ := box2_cells B10
      go_wp2_with fail
      refine (eqIntS_same _ _ ([]) _ R1_10.sl R0_10.sl (by simp)).mono ?_
      rintro e w11 ⟨rfl, hb⟩
      have B11 := bel_step B10 hb
      have hz11 : w10.heap.size ≤ w11.heap.size := hb.size
      have R0_11 := R0_10.kept hb
      have R1_11 := R1_10.kept hb
      obtain ⟨ca11, cb11⟩ := box2_cells B11
      go_wp2_with fail
      refine (markIntS_one _ ([]) _ _ R1_11 (by simp)).mono ?_
      rintro e w12 ⟨rfl, ho, M⟩
      have B12 := B11.trans (ho.below fun g hg => Nat.le_trans B5.size (Hge1.out g hg))
      have hz12 : w11.heap.size ≤ w12.heap.size := Nat.le_of_eq ho.size.symm
      have R0_12 := R0_11.only ho Hne01.out
      obtain ⟨ca12, cb12⟩ := box2_cells B12
      go_wp2_with fail
      refine (heldIntS_one _ ([]).length _ _ M (by simp)).mono ?_
      rintro e w' ⟨rfl, rfl⟩
      go_wp2_with fail
      refine (toWord_any _ _ _).mono ?_
      rintro e w13 ⟨rfl, hb⟩
      have B13 := bel_step B12 hb
      have hz13 : w12.heap.size ≤ w13.heap.size := hb.size
      have R0_13 := R0_12.kept hb
      have M_13 := M.kept hb
      obtain ⟨ca13, cb13⟩ := box2_cells B13
      go_wp2_with fail
      refine (toIntS_any _ xs _ (hs0.kept (bel_step (bel_alloc w _) B13)) (by omega)).mono ?_
      rintro e w14 ⟨g_A13, hg_A13, rfl, K_A13, hb⟩
      have B14 := bel_step B13 hb
      have hz14 : w13.heap.size ≤ w14.heap.size := hb.size
      have R0_14 := R0_13.kept hb
      have M_14 := M_13.kept hb
      have A13 := K_A13.res hg_A13
      obtain ⟨ca14, cb14⟩ := box2_cells B14
      go_wp2_with fail
      refine (impl_FitSignal_bad b _ wb _ H.out).mono ?_
      rintro e w15 ⟨v_R2, rfl, R2, hb⟩
      have B15 := bel_step B14 hb
      have hz15 : w14.heap.size ≤ w15.heap.size := hb.size
      have R0_15 := R0_14.kept hb
      have M_15 := M_14.kept hb
      have A13_15 := A13.kept hb
      obtain ⟨ca15, cb15⟩ := box2_cells B15
      go_wp2_with fail
      refine (eqIntS_same _ _ ([]) _ R2.sl R0_15.sl (by simp)).mono ?_
      rintro e w16 ⟨rfl, hb⟩
      have B16 := bel_step B15 hb
      have hz16 : w15.heap.size ≤ w16.heap.size := hb.size
      have R0_16 := R0_15.kept hb
      have M_16 := M_15.kept hb
      have R2_16 := R2.kept hb
      obtain ⟨ca16, cb16⟩ := box2_cells B16
      go_wp2_with fail
      refine (heldIntS_one _ ([]).length _ _ M_16 (by simp)).mono ?_
      rintro e w' ⟨rfl, rfl⟩
      go_wp2_with fail
      go_ret
      exact ⟨rfl, bel_step (bel_alloc _ _) B16⟩
end Go.Proofs.Ytflhbpjmlhccpaa
