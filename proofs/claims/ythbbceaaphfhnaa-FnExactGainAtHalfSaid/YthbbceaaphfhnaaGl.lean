
import Derived.Test.YthbbceaaphfhnaaGa
namespace Go.Proofs.Ythbbceaaphfhnaa
open Go.RowKit BitX Go.MemX
set_option linter.unusedVariables false


set_option maxHeartbeats 1600000 in
theorem gen_FnExactGainAtHalf (xs : List Int) (u_xs : Option Addr) (l_xs c_xs : Nat) (r0 : Int) (r1 : Bool) (w : World) (hs_xs : Sl w (.slice u_xs l_xs c_xs) xs) (ll_xs : l_xs ≤ 1048576) (hl_xs : xs.length ≤ 1048576) (hspec : ∀ (w : World) (v_xs : Value), Sl w v_xs xs → Calls Try.prog 18 #[v_xs] w fun e w' => e = .returned (.tuple #[.int .i64 r0, .bool r1]) ∧ Below w.heap.size w w') (himpl : ∀ (w : World) (v_xs : Value), Sl w v_xs xs → Calls Try.prog 20 #[v_xs] w fun e w' => e = .returned (.tuple #[.int .i64 r0, .bool r1]) ∧ Below w.heap.size w w') :
    Calls Try.prog 6 #[.slice u_xs l_xs c_xs] w fun e w' => e = .returned (.bool true) ∧ Below w.heap.size w w' := by
  have HSxs := hid hs_xs
  clear hs_xs
  have HSP := hid hspec
  have HIM := hid himpl
  clear hspec himpl
  all_goals cases r1
  all_goals
    go_enter Try.func6, Try.ntmps6
    go_wp2_with fail
    refine (toIntS_any _ xs _ HSxs.out (by omega)).mono ?_
    rintro e w1 ⟨g_Axs0, hg_Axs0, rfl, K_Axs0, hb⟩
    have B1 := hb
    have hz1 : w.heap.size ≤ w1.heap.size := by first | exact hb.size | (have := hb.size; simp at this; omega)
    have Axs0 := K_Axs0.res hg_Axs0
    go_wp2_with fail
    refine (HSP.out _ _ Axs0.sl).mono ?_
    rintro e w2 ⟨rfl, hb⟩
    have B2 := bel_step B1 hb
    have hz2 : w1.heap.size ≤ w2.heap.size := hb.size
    have Axs0_2 := Axs0.kept hb
    go_wp2_with fail
    refine (toIntS_any _ xs _ (HSxs.out.kept B2) (by omega)).mono ?_
    rintro e w3 ⟨g_Xxs, hg_Xxs, rfl, K_Xxs, hb⟩
    have B3 := bel_step B2 hb
    have hz3 : w2.heap.size ≤ w3.heap.size := hb.size
    have Xxs := K_Xxs.res hg_Xxs
    have hlt_Xxs := K_Xxs.lt
    have hxl_Xxs : g_Xxs < w3.heap.size := Xxs.lt rfl
    go_wp2_with fail
    refine (HIM.out _ _ Xxs.sl).mono ?_
    rintro e w4 ⟨rfl, hb⟩
    have B4 := bel_step B3 hb
    have hz4 : w3.heap.size ≤ w4.heap.size := hb.size
    have Xxs_4 := Xxs.kept hb
    go_wp2_with fail
    refine (toIntS_any _ xs _ (HSxs.out.kept B4) (by omega)).mono ?_
    rintro e w5 ⟨g_TXxs, hg_TXxs, rfl, K_TXxs, hb⟩
    have B5 := bel_step B4 hb
    have hz5 : w4.heap.size ≤ w5.heap.size := hb.size
    have Xxs_5 := Xxs_4.kept hb
    have TXxs := K_TXxs.res hg_TXxs
    go_wp2_with fail
    refine (eqIntS_same _ _ xs _ Xxs_5.sl TXxs.sl (by omega)).mono ?_
    rintro e w6 ⟨rfl, hb⟩
    have B6 := bel_step B5 hb
    have hz6 : w5.heap.size ≤ w6.heap.size := hb.size
    have Xxs_6 := Xxs_5.kept hb
    have TXxs_6 := TXxs.kept hb
    go_wp2_with fail
    go_ret
    exact ⟨rfl, B6⟩


set_option maxHeartbeats 1600000 in
theorem walk_FnExactGainAtHalf (w : World) (u_xs : Option Addr) (l_xs c_xs : Nat) (z_xs : List Int) (hr_xs : IsRow .i64 w u_xs l_xs c_xs z_xs) :
    Calls Try.prog 6 #[.slice u_xs l_xs c_xs] w fun e w' => e = .returned (.bool true) ∧ Below w.heap.size w w' := by
  obtain ⟨hs_xs, hlen_xs, hin_xs⟩ := hr_xs.sl
  generalize z_xs.take l_xs = xs at hs_xs hlen_xs hin_xs
  clear hr_xs
  by_cases hbig_xs : 1048576 < l_xs
  · clear hs_xs hlen_xs hin_xs
    go_enter Try.func6, Try.ntmps6
    go_wp2
    go_ret
    exact ⟨rfl, Below.refl _ _⟩
  · have hq_xs : l_xs ≤ 1048576 := by omega
    exact gen_FnExactGainAtHalf xs _ _ _ _ _ w hs_xs (by omega) (by omega)  (fun w v_xs h_xs => (spec_GainAtHalf_any v_xs xs w h_xs).mono fun _ _ ⟨h1, h2⟩ => ⟨h1, h2 ▸ Below.refl _ _⟩) (fun w v_xs h_xs => (impl_GainAtHalf_any v_xs xs w h_xs).mono fun _ _ ⟨h1, h2⟩ => ⟨h1, h2 ▸ Below.refl _ _⟩)


end Go.Proofs.Ythbbceaaphfhnaa
