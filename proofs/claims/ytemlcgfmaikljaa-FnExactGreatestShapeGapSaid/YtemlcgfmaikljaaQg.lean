
import Derived.Test.YtemlcgfmaikljaaQf
namespace Go.Proofs.Ytemlcgfmaikljaa
open Go.RowKit BitX Go.MemX Go.ShX Go.ChV
set_option linter.unusedVariables false
theorem mostI_max (a b : Int) : mostI a b = max a b := by unfold mostI; split <;> omega
theorem sgL_in (s : List Int) (k : Nat) (mode order : Int) (hk : (2 : Int) ^ k ≤ 1024) (h : s.length ≤ 64) : InP (-1000000) 1000000 (sgL s k mode order) := by
  intro x hx
  unfold sgL tab at hx
  obtain ⟨i, hi, rfl⟩ := List.mem_map.1 hx
  have := gpS_in s k mode order hk (i + 1) (by have := List.mem_range.1 hi; omega)
  omega
def ggI (s : List Int) (k mode order : Int) : Int := onB (spB s k mode order) (pkM (sgL s k.toNat mode order)) 0
theorem ret_ib' {a b : Int} {c d : Bool} (h1 : a = b) (h2 : c = d) : Ending.returned (.tuple #[.int .i64 a, .bool c]) = .returned (.tuple #[.int .i64 b, .bool d]) := by rw [h1, h2]


set_option maxHeartbeats 1000000 in
theorem spec_GreatestShapeGap_is (v : Value) (s : List Int) (k mode order : Int) (w : World) (hs : Sl w v s) :
    Calls Try.prog 17 #[v, .int .i64 k, .int .i64 mode, .int .i64 order] w fun e w' => e = .returned (.tuple #[.int .i64 (ggI s k mode order), .bool (spB s k mode order)]) ∧ Below w.heap.size w w' := by
  cases hq : spB s k mode order
  · have HS := hid hs
    have HR := hid (show ggI s k mode order = 0 from by unfold ggI; rw [hq]; rfl)
    have HQ := hid hq
    clear hq hs
    go_enter Try.func17, Try.ntmps17
    go_wp2_with fail
    refine (dmShaped_q v s k mode order false _ HS.out HQ.out).mono ?_
    rintro e w' ⟨rfl, rfl⟩
    go_wp2_with fail
    go_ret2
    exact ⟨ret_ib' HR.out.symm rfl, Below.refl _ _⟩
  · obtain ⟨hsg, ⟨k1, k2⟩, hm, ho⟩ := spB_t hq
    obtain ⟨n, rfl⟩ : ∃ n : Nat, k = n := ⟨k.toNat, by omega⟩
    have HS := hid hs
    have HR := hid (show ggI s (n : Int) mode order = pkM (sgL s n mode order) from by unfold ggI; rw [hq]; rfl)
    have HQ := hid hq
    have HG := hid hsg
    have HL := hid (show (sgL s n mode order).length ≤ 2000 from by have := hsg.1; rw [sgL, tab_len]; omega)
    have hin := sgL_in s n mode order (pow10 n (by omega)).2 hsg.1
    have HIN := hid (show InP (-10000000000) 10000000000 (sgL s n mode order) from fun x hx => by have := hin x hx; omega)
    have HM := hid (show mode = 0 ∨ mode = 1 ∨ mode = 2 from by omega)
    have HO := hid ho
    clear hq hs hsg hm ho hin
    go_enter Try.func17, Try.ntmps17
    go_wp2_with fail
    refine (dmShaped_q v s n mode order true _ HS.out HQ.out).mono ?_
    rintro e w' ⟨rfl, rfl⟩
    go_wp2_with fail
    refine (dmGaps_any v s n mode order _ HS.out HG.out.1 HG.out.2 (by omega) HM.out HO.out).mono ?_
    rintro e w1 ⟨u1, rfl, hr1, hb⟩
    have HR1 := hid hr1
    clear hr1
    go_wp2_with fail
    refine (wdPeakM_any _ _ _ HR1.out.sl HL.out HIN.out).mono ?_
    rintro e w' ⟨rfl, rfl⟩
    go_wp2_with fail
    go_ret2
    exact ⟨ret_ib' HR.out.symm rfl, hb⟩


set_option maxHeartbeats 1000000 in
theorem impl_GreatestShapeGap_is (v : Value) (s : List Int) (k mode order : Int) (w : World) (hs : Sl w v s) :
    Calls Try.prog 18 #[v, .int .i64 k, .int .i64 mode, .int .i64 order] w fun e w' => e = .returned (.tuple #[.int .i64 (ggI s k mode order), .bool (spB s k mode order)]) ∧ Below w.heap.size w w' := by
  cases hq : spB s k mode order
  · have HS := hid hs
    have HR := hid (show ggI s k mode order = 0 from by unfold ggI; rw [hq]; rfl)
    have HQ := hid hq
    clear hq hs
    go_enter Try.func18, Try.ntmps18
    go_wp2_with fail
    refine (canShape_q v s k mode order false _ HS.out HQ.out).mono ?_
    rintro e w' ⟨rfl, rfl⟩
    go_wp2_with fail
    go_ret2
    exact ⟨ret_ib' HR.out.symm rfl, Below.refl _ _⟩
  · obtain ⟨hsg, ⟨k1, k2⟩, hm, ho⟩ := spB_t hq
    obtain ⟨n, rfl⟩ : ∃ n : Nat, k = n := ⟨k.toNat, by omega⟩
    have HS := hid hs
    have HR := hid (show ggI s (n : Int) mode order = pkM (sgL s n mode order) from by unfold ggI; rw [hq]; rfl)
    have HQ := hid hq
    have HG := hid hsg
    have HL := hid (show (sgL s n mode order).length ≤ 2000 from by have := hsg.1; rw [sgL, tab_len]; omega)
    have hin := sgL_in s n mode order (pow10 n (by omega)).2 hsg.1
    have HIN := hid (show InP (-10000000000) 10000000000 (sgL s n mode order) from fun x hx => by have := hin x hx; omega)
    have HM := hid (show mode = 0 ∨ mode = 1 ∨ mode = 2 from by omega)
    have HO := hid ho
    clear hq hs hsg hm ho hin
    go_enter Try.func18, Try.ntmps18
    go_wp2_with fail
    refine (canShape_q v s n mode order true _ HS.out HQ.out).mono ?_
    rintro e w' ⟨rfl, rfl⟩
    go_wp2_with fail
    refine (shapedSums_any v s n mode order _ HS.out HG.out.1 HG.out.2 (by omega) HM.out HO.out).mono ?_
    rintro e w1 ⟨u1, rfl, hr1, hb⟩
    obtain ⟨aa, m, cap, rfl, hn, hrd⟩ := id hr1.sl.rd
    have Hn := hid hn
    have Hrd := hid hrd
    have HB := hid hb
    have hl' : m ≤ 64 := by have := HL.out; rw [hn, sgL, tab_len]; exact HG.out.1
    generalize hg0 : sgL s n mode order = g at *
    have HIN2 := hid HIN.out
    clear hn hrd hr1 hb hg0
    go_wp2_with fail
    go_loop [10, 25] (fun mx i => ∃ c : Nat, c ≤ m ∧ mx = .int .i64 (pkM (g.take c)) ∧ i = .int .i64 c)
      (fun _ i => m - (intOf i).toNat)
    case atStart => exact ⟨0, by omega, rfl, rfl⟩
    case round =>
      obtain ⟨c, hc, rfl, rfl⟩ := hrel
      by_cases hlk : c < m
      · obtain ⟨x, hkx⟩ := get_lt g c (by rw [← Hn.out]; exact hlk)
        obtain ⟨bb, oo, hix, hbb, hce⟩ := Hrd.out.at (P := Try.prog) (T := 22) m cap uslice sone hkx hlk
        obtain ⟨x1, x2⟩ := HIN2.out.at hkx
        have hst := pkM_step hkx
        rw [mostI_max] at hst
        have Hst := hid hst
        clear hst hkx
        generalize pkM (g.take c) = z at *
        go_wp2_with fail
        refine (sizeOf_any x _ (by omega) (by omega)).mono ?_
        rintro e w' ⟨rfl, rfl⟩
        go_wp2
        go_round
        case rel => exact ⟨c + 1, by omega, by rw [Hst.out]; exact congrArg _ (by split <;> omega), by go_num⟩
        case measure => simp [intOf]; omega
      · have hge : (m : Int) ≤ (c : Int) := by omega
        have hkn : c = g.length := by rw [← Hn.out]; omega
        have Hk := hid hkn
        clear hkn hlk
        go_wp2
        go_ret2
        exact ⟨ret_ib' (by rw [Hk.out, List.take_length]; exact HR.out.symm) rfl, HB.out⟩


set_option maxHeartbeats 1600000 in
theorem gen_FnExactGreatestShapeGap (s : List Int) (k : Int) (mode : Int) (order : Int) (u_s : Option Addr) (l_s c_s : Nat) (r0 : Int) (r1 : Bool) (w : World) (hs_s : Sl w (.slice u_s l_s c_s) s) (ll_s : l_s ≤ 1048576) (hl_s : s.length ≤ 1048576) (hspec : ∀ (w : World) (v_s : Value), Sl w v_s s → Calls Try.prog 17 #[v_s, .int .i64 k, .int .i64 mode, .int .i64 order] w fun e w' => e = .returned (.tuple #[.int .i64 r0, .bool r1]) ∧ Below w.heap.size w w') (himpl : ∀ (w : World) (v_s : Value), Sl w v_s s → Calls Try.prog 18 #[v_s, .int .i64 k, .int .i64 mode, .int .i64 order] w fun e w' => e = .returned (.tuple #[.int .i64 r0, .bool r1]) ∧ Below w.heap.size w w') :
    Calls Try.prog 6 #[.slice u_s l_s c_s, .int .i64 k, .int .i64 mode, .int .i64 order] w fun e w' => e = .returned (.bool true) ∧ Below w.heap.size w w' := by
  have HSs := hid hs_s
  clear hs_s
  have HSP := hid hspec
  have HIM := hid himpl
  clear hspec himpl
  all_goals cases r1
  all_goals
    go_enter Try.func6, Try.ntmps6
    go_wp2_with fail
    refine (toIntS_any _ s _ HSs.out (by omega)).mono ?_
    rintro e w1 ⟨g_As0, hg_As0, rfl, K_As0, hb⟩
    have B1 := hb
    have hz1 : w.heap.size ≤ w1.heap.size := by first | exact hb.size | (have := hb.size; simp at this; omega)
    have As0 := K_As0.res hg_As0
    go_wp2_with fail
    refine (HSP.out _ _ As0.sl).mono ?_
    rintro e w2 ⟨rfl, hb⟩
    have B2 := bel_step B1 hb
    have hz2 : w1.heap.size ≤ w2.heap.size := hb.size
    have As0_2 := As0.kept hb
    go_wp2_with fail
    refine (toIntS_any _ s _ (HSs.out.kept B2) (by omega)).mono ?_
    rintro e w3 ⟨g_Xs, hg_Xs, rfl, K_Xs, hb⟩
    have B3 := bel_step B2 hb
    have hz3 : w2.heap.size ≤ w3.heap.size := hb.size
    have Xs := K_Xs.res hg_Xs
    have hlt_Xs := K_Xs.lt
    have hxl_Xs : g_Xs < w3.heap.size := Xs.lt rfl
    go_wp2_with fail
    refine (HIM.out _ _ Xs.sl).mono ?_
    rintro e w4 ⟨rfl, hb⟩
    have B4 := bel_step B3 hb
    have hz4 : w3.heap.size ≤ w4.heap.size := hb.size
    have Xs_4 := Xs.kept hb
    go_wp2_with fail
    refine (toIntS_any _ s _ (HSs.out.kept B4) (by omega)).mono ?_
    rintro e w5 ⟨g_TXs, hg_TXs, rfl, K_TXs, hb⟩
    have B5 := bel_step B4 hb
    have hz5 : w4.heap.size ≤ w5.heap.size := hb.size
    have Xs_5 := Xs_4.kept hb
    have TXs := K_TXs.res hg_TXs
    go_wp2_with fail
    refine (eqIntS_same _ _ s _ Xs_5.sl TXs.sl (by omega)).mono ?_
    rintro e w6 ⟨rfl, hb⟩
    have B6 := bel_step B5 hb
    have hz6 : w5.heap.size ≤ w6.heap.size := hb.size
    have Xs_6 := Xs_5.kept hb
    have TXs_6 := TXs.kept hb
    go_wp2_with fail
    go_ret
    exact ⟨rfl, B6⟩


set_option maxHeartbeats 1600000 in
theorem walk_FnExactGreatestShapeGap (w : World) (u_s : Option Addr) (l_s c_s : Nat) (z_s : List Int) (hr_s : IsRow .i64 w u_s l_s c_s z_s) (k : Int) (w_k : (Lit.int .i64 k).wf = true) (mode : Int) (w_mode : (Lit.int .i64 mode).wf = true) (order : Int) (w_order : (Lit.int .i64 order).wf = true) :
    Calls Try.prog 6 #[.slice u_s l_s c_s, .int .i64 k, .int .i64 mode, .int .i64 order] w fun e w' => e = .returned (.bool true) ∧ Below w.heap.size w w' := by
  obtain ⟨hs_s, hlen_s, hin_s⟩ := hr_s.sl
  generalize z_s.take l_s = s at hs_s hlen_s hin_s
  clear hr_s
  obtain ⟨k_1, k_2⟩ := bounds_i64 w_k
  obtain ⟨mode_1, mode_2⟩ := bounds_i64 w_mode
  obtain ⟨order_1, order_2⟩ := bounds_i64 w_order
  by_cases hbig_s : 1048576 < l_s
  · clear hs_s hlen_s hin_s
    go_enter Try.func6, Try.ntmps6
    go_wp2
    go_ret
    exact ⟨rfl, Below.refl _ _⟩
  · have hq_s : l_s ≤ 1048576 := by omega
    exact gen_FnExactGreatestShapeGap s k mode order _ _ _ (ggI s k mode order) (spB s k mode order) w hs_s (by omega) (by omega)  (fun w v_s h_s => spec_GreatestShapeGap_is v_s s k mode order w h_s) (fun w v_s h_s => impl_GreatestShapeGap_is v_s s k mode order w h_s)

end Go.Proofs.Ytemlcgfmaikljaa
