
import Derived.Test.YthbjfidcaabliaaQo
namespace Go.Proofs.Ythbjfidcaabliaa
open Go.RowKit BitX Go.MemX Go.ChV
set_option linter.unusedVariables false


set_option maxHeartbeats 4000000 in
theorem spec_IsBalancedList_is (v : Value) (bs : List Int) (w : World) (hs : Sl w v bs) :
    Calls Try.prog 19 #[v] w fun e w' => e = .returned (.tuple #[.bool (isB bs), .bool (bitB bs)]) ∧ Below w.heap.size w w' := by
  cases hq : bitB bs
  · have HR := hid (show isB bs = false from by unfold isB; rw [hq]; rfl)
    have HQ := hid hq
    have HS := hid hs
    clear hq hs
    go_enter Try.func19, Try.ntmps19
    go_wp2_with fail
    refine (dmBits_q v bs false _ HS.out HQ.out).mono ?_
    rintro e w' ⟨rfl, rfl⟩
    go_wp2_with fail
    go_ret2
    exact ⟨ret_bb' HR.out.symm rfl, Below.refl _ _⟩
  · have hb := bitB_t hq
    have HB := hid hb
    obtain ⟨aa, n, cap, rfl, hn, hrd⟩ := id hs.rd
    have hl' : n ≤ 200 := by rw [hn]; exact hb.1
    have Hn := hid hn
    have HS := hid hs
    have HQ := hid hq
    clear hq hs hn hrd hb
    go_enter Try.func19, Try.ntmps19
    go_wp2_with fail
    refine (dmBits_q _ bs true _ HS.out HQ.out).mono ?_
    rintro e w' ⟨rfl, rfl⟩
    go_wp2_with fail
    refine (dmOnes_any _ bs _ HS.out HB.out).mono ?_
    rintro e w1 ⟨u1, rfl, hr1, hb1⟩
    obtain ⟨av, m, cv, rfl, hm, hrv⟩ := hr1.sl.rd
    rw [tab_len, ← Hn.out] at hm
    subst hm
    have Hrv := hid hrv
    have HB1 := hid hb1
    clear hr1 hrv hb1
    go_wp2_with fail
    go_loopw [5] (fun k wr => ∃ q : Nat, 1 ≤ q ∧ q ≤ n + 1 ∧ k = .int .i64 (q : Int) ∧ Hid (∀ j, j + 1 < q → gapO bs (j + 1) ≤ 1) ∧ Below w1.heap.size w1 wr)
      (fun k _ => (n + 1 - intOf k).toNat)
    case atStart => exact ⟨1, by omega, by omega, by simp, hid fun j hj => by omega, Below.refl _ _⟩
    case round =>
      obtain ⟨q, q1, q2, rfl, HG, hb⟩ := hrel
      by_cases hlk : q ≤ n
      · have hql : q ≤ bs.length := by rw [← Hn.out]; exact hlk
        have Hql := hid hql
        clear hql
        go_wp2_with fail
        go_loopw [6, 7, 8] (fun le mo i wr2 => ∃ t : Nat, t + q ≤ n + 1 ∧ le = .int .i64 (mnO bs q t) ∧ mo = .int .i64 (mxO bs q t) ∧ i = .int .i64 (t : Int) ∧ Below w1.heap.size w1 wr2)
          (fun _ _ i _ => (n + 1 - intOf i).toNat)
        case atStart => exact ⟨0, by omega, rfl, rfl, rfl, hb⟩
        case round =>
          clear hb
          obtain ⟨t, ht, rfl, rfl, rfl, hb2⟩ := hrel
          have hmm := mm_in HB.out (k := q) t (by rw [← Hn.out]; omega)
          obtain ⟨⟨x1, x2⟩, y1, y2⟩ := hmm
          by_cases htk : t + q ≤ n
          · have hky1 : (tab (bs.length + 1) (onS bs))[t + q]? = some (onS bs (t + q)) := tab_get _ _ _ (by rw [← Hn.out]; omega)
            have hky2 : (tab (bs.length + 1) (onS bs))[t]? = some (onS bs t) := tab_get _ _ _ (by rw [← Hn.out]; omega)
            obtain ⟨b1, o1, hix1, hbb1, hce1⟩ := (Hrv.out.kept hb2).at (P := Try.prog) (T := 25) (n + 1) cv uslice sone hky1 (by omega)
            obtain ⟨b2, o2, hix2, hbb2, hce2⟩ := (Hrv.out.kept hb2).at (P := Try.prog) (T := 25) (n + 1) cv uslice sone hky2 (by omega)
            rw [show ((t + q : Nat) : Int) = (t : Int) + (q : Int) from by omega] at hix1
            have hi1 := onS_in HB.out (t + q) (by rw [← Hn.out]; exact htk)
            have hi2 := onS_in HB.out t (by rw [← Hn.out]; omega)
            have hxs := mxO_succ bs q t
            have hns := mnO_succ bs q t
            have hwi : wiO bs q t = onS bs (t + q) - onS bs t := rfl
            rw [hwi] at hxs hns
            generalize onS bs (t + q) = x at *
            generalize onS bs t = y at *
            generalize mxO bs q t = X at *
            generalize mnO bs q t = Y at *
            have Hxs := hid hxs
            have Hns := hid hns
            obtain ⟨p1, p2⟩ := hi1
            obtain ⟨p3, p4⟩ := hi2
            have e1 : IntKind.i64.wrap ((t : Int) + (q : Int)) = (t : Int) + (q : Int) := IntWalk.i64_in _ (by omega)
            have e2 : IntKind.i64.wrap (x - y) = x - y := IntWalk.i64_in _ (by omega)
            have hlt : (t : Int) + (q : Int) ≤ (n : Int) := by omega
            have hl1 : (t : Int) + (q : Int) < ((n + 1 : Nat) : Int) := by omega
            have hl2 : (t : Int) < ((n + 1 : Nat) : Int) := by omega
            clear hky1 hky2 hxs hns hwi
            go_wp2_with fail
            go_quiet (first | (go_at_call 36; exact Calls.quiet_of_same ((l1Least_any _ _ _).mono fun e w' h => ⟨h.1, h.2.symm⟩)) | (go_at_call 36; exact Calls.quiet_of_same (l1Least_any _ _ _)))
            go_wp2_with fail
            have hcf1 : (wr.drewN nq).cell? ⟨b1, o1, none⟩ = some (.int .i64 x) := hce1
            have hcf2 : (wr.drewN nq).cell? ⟨b2, o2, none⟩ = some (.int .i64 y) := hce2
            have hb5 := below_drewN hb2 nq
            clear hce1 hce2 hbb1 hbb2 hb2
            generalize wr.drewN nq = w5 at hcf1 hcf2 hb5 ⊢
            go_quiet (first | (go_at_call 37; exact Calls.quiet_of_same ((l1Most_any _ _ _).mono fun e w' h => ⟨h.1, h.2.symm⟩)) | (go_at_call 37; exact Calls.quiet_of_same (l1Most_any _ _ _)))
            go_wp2
            go_roundw
            case rel => exact ⟨t + 1, by omega, by rw [Hns.out], by rw [Hxs.out], by go_num, below_drewN hb5 _⟩
            case measure => simp [intOf]; omega
          · have htn : t = bs.length + 1 - q := by rw [← Hn.out]; omega
            have hgp : gapO bs q = mxO bs q t - mnO bs q t := by rw [htn]; rfl
            have HGp := hid hgp
            have hge : (n : Int) < (t : Int) + (q : Int) := by omega
            clear htn hgp htk
            generalize mxO bs q t = X at *
            generalize mnO bs q t = Y at *
            by_cases hgap : X - Y ≤ 1
            · go_wp2
              go_roundw
              case rel => exact ⟨q + 1, by omega, by omega, by go_num, hid fun j hj => by
                by_cases he : j + 1 = q
                · rw [he, HGp.out]; exact hgap
                · exact HG.out j (by omega), hb2⟩
              case measure => simp [intOf]; omega
            · have HR := hid (show isB bs = false from by unfold isB balB; rw [HQ.out]; exact decide_eq_false fun h => hgap (by have := h (q - 1) (by have := Hql.out; omega); rw [show q - 1 + 1 = q from by omega, HGp.out] at this; exact this))
              have hgap2 : 2 ≤ X - Y := by omega
              clear hgap
              go_wp2
              go_ret2
              exact ⟨ret_bb' HR.out.symm rfl, bel_step HB1.out hb2⟩
      · have hge : (n : Int) < (q : Int) := by omega
        have hkn : q = bs.length + 1 := by rw [← Hn.out]; omega
        have HR := hid (show isB bs = true from by unfold isB balB; rw [HQ.out]; exact decide_eq_true fun j hj => HG.out j (by omega))
        clear hkn hlk
        go_wp2
        go_ret2
        exact ⟨ret_bb' HR.out.symm rfl, bel_step HB1.out hb⟩


set_option maxHeartbeats 1600000 in
theorem gen_FnExactIsBalancedList (s : List Int) (u_s : Option Addr) (l_s c_s : Nat) (r0 : Bool) (r1 : Bool) (w : World) (hs_s : Sl w (.slice u_s l_s c_s) s) (ll_s : l_s ≤ 1048576) (hl_s : s.length ≤ 1048576) (hspec : ∀ (w : World) (v_s : Value), Sl w v_s s → Calls Try.prog 19 #[v_s] w fun e w' => e = .returned (.tuple #[.bool r0, .bool r1]) ∧ Below w.heap.size w w') (himpl : ∀ (w : World) (v_s : Value), Sl w v_s s → Calls Try.prog 20 #[v_s] w fun e w' => e = .returned (.tuple #[.bool r0, .bool r1]) ∧ Below w.heap.size w w') :
    Calls Try.prog 6 #[.slice u_s l_s c_s] w fun e w' => e = .returned (.bool true) ∧ Below w.heap.size w w' := by
  have HSs := hid hs_s
  clear hs_s
  have HSP := hid hspec
  have HIM := hid himpl
  clear hspec himpl
  all_goals cases r0
  all_goals cases r1
  all_goals
    go_enter Try.func6, Try.ntmps6
    go_wp2_with fail
    refine (toIntS_any _ s _ HSs.out (by omega)).mono ?_
    rintro e w1 ⟨g_As0, hg_As0, rfl, K_As0, hb⟩
    have B1 := hb
    have hz1 : w.heap.size ≤ w1.heap.size := by first | exact hb.size | (have := hb.size; simp at this; omega)
    have As0 := K_As0.res hg_As0
    go_wp2_with fail
    refine (HSP.out _ _ As0.sl).mono ?_
    rintro e w2 ⟨rfl, hb⟩
    have B2 := bel_step B1 hb
    have hz2 : w1.heap.size ≤ w2.heap.size := hb.size
    have As0_2 := As0.kept hb
    go_wp2_with fail
    refine (toIntS_any _ s _ (HSs.out.kept B2) (by omega)).mono ?_
    rintro e w3 ⟨g_Xs, hg_Xs, rfl, K_Xs, hb⟩
    have B3 := bel_step B2 hb
    have hz3 : w2.heap.size ≤ w3.heap.size := hb.size
    have Xs := K_Xs.res hg_Xs
    have hlt_Xs := K_Xs.lt
    have hxl_Xs : g_Xs < w3.heap.size := Xs.lt rfl
    go_wp2_with fail
    refine (HIM.out _ _ Xs.sl).mono ?_
    rintro e w4 ⟨rfl, hb⟩
    have B4 := bel_step B3 hb
    have hz4 : w3.heap.size ≤ w4.heap.size := hb.size
    have Xs_4 := Xs.kept hb
    go_wp2_with fail
    refine (toIntS_any _ s _ (HSs.out.kept B4) (by omega)).mono ?_
    rintro e w5 ⟨g_TXs, hg_TXs, rfl, K_TXs, hb⟩
    have B5 := bel_step B4 hb
    have hz5 : w4.heap.size ≤ w5.heap.size := hb.size
    have Xs_5 := Xs_4.kept hb
    have TXs := K_TXs.res hg_TXs
    go_wp2_with fail
    refine (eqIntS_same _ _ s _ Xs_5.sl TXs.sl (by omega)).mono ?_
    rintro e w6 ⟨rfl, hb⟩
    have B6 := bel_step B5 hb
    have hz6 : w5.heap.size ≤ w6.heap.size := hb.size
    have Xs_6 := Xs_5.kept hb
    have TXs_6 := TXs.kept hb
    go_wp2_with fail
    go_ret
    exact ⟨rfl, B6⟩


set_option maxHeartbeats 1600000 in
theorem walk_FnExactIsBalancedList (w : World) (u_s : Option Addr) (l_s c_s : Nat) (z_s : List Int) (hr_s : IsRow .i64 w u_s l_s c_s z_s) :
    Calls Try.prog 6 #[.slice u_s l_s c_s] w fun e w' => e = .returned (.bool true) ∧ Below w.heap.size w w' := by
  obtain ⟨hs_s, hlen_s, hin_s⟩ := hr_s.sl
  generalize z_s.take l_s = s at hs_s hlen_s hin_s
  clear hr_s
  by_cases hbig_s : 1048576 < l_s
  · clear hs_s hlen_s hin_s
    go_enter Try.func6, Try.ntmps6
    go_wp2
    go_ret
    exact ⟨rfl, Below.refl _ _⟩
  · have hq_s : l_s ≤ 1048576 := by omega
    exact gen_FnExactIsBalancedList s _ _ _ (isB s) (bitB s) w hs_s (by omega) (by omega)  (fun w v_s h_s => spec_IsBalancedList_is v_s s w h_s) (fun w v_s h_s => impl_IsBalancedList_is v_s s w h_s)

end Go.Proofs.Ythbjfidcaabliaa
