
import Derived.Test.YtbhlailnefappaaQo
namespace Go.Proofs.Ytbhlailnefappaa
open Go.RowKit BitX Go.MemX Go.ChV
set_option linter.unusedVariables false


set_option maxHeartbeats 4000000 in
theorem spec_IsBalancedList_is (v : Value) (bs : List Int) (w : World) (hs : Sl w v bs) :
    Calls Try.prog 39 #[v] w fun e w' => e = .returned (.tuple #[.bool (isB bs), .bool (bitB bs)]) ∧ Below w.heap.size w w' := by
  cases hq : bitB bs
  · have HR := hid (show isB bs = false from by unfold isB; rw [hq]; rfl)
    have HQ := hid hq
    have HS := hid hs
    clear hq hs
    go_enter Try.func39, Try.ntmps39
    go_wp2_with fail
    refine (dmBits_q v bs false _ HS.out HQ.out).mono ?_
    rintro e w' ⟨rfl, rfl⟩
    go_wp2_with fail
    go_ret2
    exact ⟨ret_bb' HR.out.symm rfl, Below.refl _ _⟩
  · have hb := bitB_t hq
    have HB := hid hb
    obtain ⟨aa, n, cap, rfl, hn, hrd⟩ := id hs.rd
    have hl' : n ≤ 200 := by rw [hn]; exact hb.1
    have Hn := hid hn
    have HS := hid hs
    have HQ := hid hq
    clear hq hs hn hrd hb
    go_enter Try.func39, Try.ntmps39
    go_wp2_with fail
    refine (dmBits_q _ bs true _ HS.out HQ.out).mono ?_
    rintro e w' ⟨rfl, rfl⟩
    go_wp2_with fail
    refine (dmOnes_any _ bs _ HS.out HB.out).mono ?_
    rintro e w1 ⟨u1, rfl, hr1, hb1⟩
    obtain ⟨av, m, cv, rfl, hm, hrv⟩ := hr1.sl.rd
    rw [tab_len, ← Hn.out] at hm
    subst hm
    have Hrv := hid hrv
    have HB1 := hid hb1
    clear hr1 hrv hb1
    go_wp2_with fail
    go_loopw [5] (fun k wr => ∃ q : Nat, 1 ≤ q ∧ q ≤ n + 1 ∧ k = .int .i64 (q : Int) ∧ Hid (∀ j, j + 1 < q → gapO bs (j + 1) ≤ 1) ∧ Below w1.heap.size w1 wr)
      (fun k _ => (n + 1 - intOf k).toNat)
    case atStart => exact ⟨1, by omega, by omega, by simp, hid fun j hj => by omega, Below.refl _ _⟩
    case round =>
      obtain ⟨q, q1, q2, rfl, HG, hb⟩ := hrel
      by_cases hlk : q ≤ n
      · have hql : q ≤ bs.length := by rw [← Hn.out]; exact hlk
        have Hql := hid hql
        clear hql
        go_wp2_with fail
        go_loopw [6, 7, 8] (fun le mo i wr2 => ∃ t : Nat, t + q ≤ n + 1 ∧ le = .int .i64 (mnO bs q t) ∧ mo = .int .i64 (mxO bs q t) ∧ i = .int .i64 (t : Int) ∧ Below w1.heap.size w1 wr2)
          (fun _ _ i _ => (n + 1 - intOf i).toNat)
        case atStart => exact ⟨0, by omega, rfl, rfl, rfl, hb⟩
        case round =>
          clear hb
          obtain ⟨t, ht, rfl, rfl, rfl, hb2⟩ := hrel
          have hmm := mm_in HB.out (k := q) t (by rw [← Hn.out]; omega)
          obtain ⟨⟨x1, x2⟩, y1, y2⟩ := hmm
          by_cases htk : t + q ≤ n
          · have hky1 : (tab (bs.length + 1) (onS bs))[t + q]? = some (onS bs (t + q)) := tab_get _ _ _ (by rw [← Hn.out]; omega)
            have hky2 : (tab (bs.length + 1) (onS bs))[t]? = some (onS bs t) := tab_get _ _ _ (by rw [← Hn.out]; omega)
            obtain ⟨b1, o1, hix1, hbb1, hce1⟩ := (Hrv.out.kept hb2).at (P := Try.prog) (T := 24) (n + 1) cv uslice sone hky1 (by omega)
            obtain ⟨b2, o2, hix2, hbb2, hce2⟩ := (Hrv.out.kept hb2).at (P := Try.prog) (T := 24) (n + 1) cv uslice sone hky2 (by omega)
            rw [show ((t + q : Nat) : Int) = (t : Int) + (q : Int) from by omega] at hix1
            have hi1 := onS_in HB.out (t + q) (by rw [← Hn.out]; exact htk)
            have hi2 := onS_in HB.out t (by rw [← Hn.out]; omega)
            have hxs := mxO_succ bs q t
            have hns := mnO_succ bs q t
            have hwi : wiO bs q t = onS bs (t + q) - onS bs t := rfl
            rw [hwi] at hxs hns
            generalize onS bs (t + q) = x at *
            generalize onS bs t = y at *
            generalize mxO bs q t = X at *
            generalize mnO bs q t = Y at *
            have Hxs := hid hxs
            have Hns := hid hns
            obtain ⟨p1, p2⟩ := hi1
            obtain ⟨p3, p4⟩ := hi2
            have e1 : IntKind.i64.wrap ((t : Int) + (q : Int)) = (t : Int) + (q : Int) := IntWalk.i64_in _ (by omega)
            have e2 : IntKind.i64.wrap (x - y) = x - y := IntWalk.i64_in _ (by omega)
            have hlt : (t : Int) + (q : Int) ≤ (n : Int) := by omega
            have hl1 : (t : Int) + (q : Int) < ((n + 1 : Nat) : Int) := by omega
            have hl2 : (t : Int) < ((n + 1 : Nat) : Int) := by omega
            clear hky1 hky2 hxs hns hwi
            go_wp2_with fail
            go_quiet (first | (go_at_call 75; exact Calls.quiet_of_same ((l1Least_any _ _ _).mono fun e w' h => ⟨h.1, h.2.symm⟩)) | (go_at_call 75; exact Calls.quiet_of_same (l1Least_any _ _ _)))
            go_wp2_with fail
            have hcf1 : (wr.drewN nq).cell? ⟨b1, o1, none⟩ = some (.int .i64 x) := hce1
            have hcf2 : (wr.drewN nq).cell? ⟨b2, o2, none⟩ = some (.int .i64 y) := hce2
            have hb5 := below_drewN hb2 nq
            clear hce1 hce2 hbb1 hbb2 hb2
            generalize wr.drewN nq = w5 at hcf1 hcf2 hb5 ⊢
            go_quiet (first | (go_at_call 76; exact Calls.quiet_of_same ((l1Most_any _ _ _).mono fun e w' h => ⟨h.1, h.2.symm⟩)) | (go_at_call 76; exact Calls.quiet_of_same (l1Most_any _ _ _)))
            go_wp2
            go_roundw
            case rel => exact ⟨t + 1, by omega, by rw [Hns.out], by rw [Hxs.out], by go_num, below_drewN hb5 _⟩
            case measure => simp [intOf]; omega
          · have htn : t = bs.length + 1 - q := by rw [← Hn.out]; omega
            have hgp : gapO bs q = mxO bs q t - mnO bs q t := by rw [htn]; rfl
            have HGp := hid hgp
            have hge : (n : Int) < (t : Int) + (q : Int) := by omega
            clear htn hgp htk
            generalize mxO bs q t = X at *
            generalize mnO bs q t = Y at *
            by_cases hgap : X - Y ≤ 1
            · go_wp2
              go_roundw
              case rel => exact ⟨q + 1, by omega, by omega, by go_num, hid fun j hj => by
                by_cases he : j + 1 = q
                · rw [he, HGp.out]; exact hgap
                · exact HG.out j (by omega), hb2⟩
              case measure => simp [intOf]; omega
            · have HR := hid (show isB bs = false from by unfold isB balB; rw [HQ.out]; exact decide_eq_false fun h => hgap (by have := h (q - 1) (by have := Hql.out; omega); rw [show q - 1 + 1 = q from by omega, HGp.out] at this; exact this))
              have hgap2 : 2 ≤ X - Y := by omega
              clear hgap
              go_wp2
              go_ret2
              exact ⟨ret_bb' HR.out.symm rfl, bel_step HB1.out hb2⟩
      · have hge : (n : Int) < (q : Int) := by omega
        have hkn : q = bs.length + 1 := by rw [← Hn.out]; omega
        have HR := hid (show isB bs = true from by unfold isB balB; rw [HQ.out]; exact decide_eq_true fun j hj => HG.out j (by omega))
        clear hkn hlk
        go_wp2
        go_ret2
        exact ⟨ret_bb' HR.out.symm rfl, bel_step HB1.out hb⟩


end Go.Proofs.Ytbhlailnefappaa
