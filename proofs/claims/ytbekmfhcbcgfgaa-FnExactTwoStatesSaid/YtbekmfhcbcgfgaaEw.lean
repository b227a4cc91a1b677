
import Derived.Test.YtbekmfhcbcgfgaaEv
import Derived.Test.YtbekmfhcbcgfgaaVb
namespace Go.Proofs.Ytbekmfhcbcgfgaa
open Go.RowKit BitX Go.MemX Go.ChV
set_option linter.unusedVariables false
theorem SSr.mine_ge {E F : TypeId} {B : Nat} {w : World} {v : Value} {vs : List Value} {xss : List (List Int)} (h : SSr E F B w v vs xss) {k : Nat} (hk : SSr.mine v vs k) : B ≤ k := by
  rcases hk with hk | ⟨u, hu, hk⟩
  · rcases h.row with ⟨rfl, _⟩ | ⟨g, cap, rfl, h2, _⟩
    · cases hk
    · cases hk; exact h2
  · exact h.ge u hu k hk
def ytR (m : Int) (s : List Int) : List (List Int) := match sdB m s with | true => tsL m s | false => []
theorem ssi_nil (B : Nat) (w : World) : SSi B w (.slice none 0 0) [] [] := ⟨rfl, fun i u xs h => by simp at h, fun i j u u' h => by simp at h, .inl ⟨rfl, rfl⟩⟩
theorem yt_no {w w' : World} {m : Int} {s : List Int} (h : sdB m s = false) (hb : Below w.heap.size w w') : GivesSS w (ytR m s) (sdB m s) (.returned (.tuple #[.slice none 0 0, .bool false])) w' := by
  unfold ytR; rw [h]; exact ⟨_, _, rfl, ssi_nil _ _, hb⟩
theorem yt_yes {w w' : World} {v : Value} {vs : List Value} {m : Int} {s : List Int} (h : sdB m s = true) (hv : SSi w.heap.size w' v vs (tsL m s)) (hb : Below w.heap.size w w') : GivesSS w (ytR m s) (sdB m s) (.returned (.tuple #[v, .bool true])) w' := by
  unfold ytR; rw [h]; exact ⟨_, _, rfl, hv, hb⟩
theorem lenS_ts (m : Int) (s : List Int) : lenS (tsL m s) = 2 * s.length := by
  unfold lenS tsL
  rw [List.map_map]
  have : ((List.range s.length).map (List.length ∘ prL m s)) = List.replicate s.length 2 := by
    apply List.eq_replicate_iff.2
    refine ⟨by simp, fun b hb => ?_⟩
    obtain ⟨i, _, rfl⟩ := List.mem_map.1 hb
    rfl
  rw [this, List.sum_replicate_nat]; omega
theorem yt_len (m : Int) (s : List Int) : (ytR m s).length ≤ 2000000 ∧ lenS (ytR m s) ≤ 2000000 := by
  unfold ytR
  cases h : sdB m s
  · exact ⟨Nat.zero_le _, Nat.zero_le _⟩
  · have := (sdB_t h).2.1.1
    exact ⟨by rw [tsL_len]; omega, by rw [lenS_ts]; omega⟩


set_option maxHeartbeats 1000000 in
theorem spec_TwoStates_is (m : Int) (v : Value) (s : List Int) (w : World) (hs : Sl w v s) :
    Calls Try.prog 10 #[.int .i64 m, v] w (GivesSS w (ytR m s) (sdB m s)) := by
  cases hq : sdB m s
  · have HS := hid hs
    have HQ := hid hq
    have HP := hid (fun (w' : World) (hb : Below w.heap.size w w') => yt_no (m := m) (s := s) hq hb)
    rw [hq] at HP
    clear hq hs
    go_enter Try.func10, Try.ntmps10
    go_wp2_with fail
    refine (spec_dmScaled_q m v s false _ HS.out HQ.out).mono ?_
    rintro e w' ⟨rfl, rfl⟩
    go_wp2_with fail
    go_ret2
    exact HP.out _ (Below.refl _ _)
  · obtain ⟨⟨m1, m2⟩, hsg, hin⟩ := sdB_t hq
    have HS := hid hs
    have HQ := hid hq
    have HG := hid hsg
    have HI := hid hin
    have HP := hid (fun (w' : World) (v : Value) (vs : List Value) (hv : SSi w.heap.size w' v vs (tsL m s)) (hb : Below w.heap.size w w') => yt_yes (m := m) (s := s) hq hv hb)
    rw [hq] at HP
    clear hq hs hsg hin
    go_enter Try.func10, Try.ntmps10
    go_wp2_with fail
    refine (spec_dmScaled_q m v s true _ HS.out HQ.out).mono ?_
    rintro e w' ⟨rfl, rfl⟩
    go_wp2_with fail
    refine (dmTwo_ss m v s _ HS.out HG.out.1 HI.out m1 m2).mono ?_
    rintro e w1 ⟨u1, u2, vs, rfl, hr, hb⟩
    go_wp2_with fail
    go_ret2
    exact HP.out _ _ _ hr hb


set_option maxHeartbeats 1000000 in
theorem impl_TwoStates_is (m : Int) (v : Value) (s : List Int) (w : World) (hs : Sl w v s) :
    Calls Try.prog 12 #[.int .i64 m, v] w (GivesSS w (ytR m s) (sdB m s)) := by
  cases hq : sdB m s
  · have HS := hid hs
    have HQ := hid hq
    have HP := hid (fun (w' : World) (hb : Below w.heap.size w w') => yt_no (m := m) (s := s) hq hb)
    rw [hq] at HP
    clear hq hs
    go_enter Try.func12, Try.ntmps12
    go_wp2_with fail
    refine (impl_IsScaled_q m v s false _ HS.out HQ.out).mono ?_
    rintro e w' ⟨rfl, rfl⟩
    go_wp2_with fail
    go_ret2
    exact HP.out _ (Below.refl _ _)
  · obtain ⟨⟨m1, m2⟩, hsg, hin⟩ := sdB_t hq
    have HS := hid hs
    have HQ := hid hq
    have HG := hid hsg
    have HI := hid hin
    have HP := hid (fun (w' : World) (v : Value) (vs : List Value) (hv : SSi w.heap.size w' v vs (tsL m s)) (hb : Below w.heap.size w w') => yt_yes (m := m) (s := s) hq hv hb)
    rw [hq] at HP
    clear hq hs hsg hin
    go_enter Try.func12, Try.ntmps12
    go_wp2_with fail
    refine (impl_IsScaled_q m v s true _ HS.out HQ.out).mono ?_
    rintro e w' ⟨rfl, rfl⟩
    go_wp2_with fail
    refine (runTwoBit_ss m v s _ HS.out HG.out.1 HI.out m1 m2).mono ?_
    rintro e w1 ⟨u1, u2, vs, rfl, hr, hb⟩
    go_wp2_with fail
    go_ret2
    exact HP.out _ _ _ hr hb


set_option maxHeartbeats 3200000 in
theorem gen_FnExactTwoStates (m : Int) (s : List Int) (u_s : Option Addr) (l_s c_s : Nat) (xss : List (List Int)) (ok : Bool) (w : World) (hs_s : Sl w (.slice u_s l_s c_s) s) (ll_s : l_s ≤ 1048576) (hl_s : s.length ≤ 1048576) (hy : xss.length ≤ 2000000) (hl : lenS xss ≤ 2000000) (hspec : ∀ (w : World) (v_s : Value), Sl w v_s s → Calls Try.prog 10 #[.int .i64 m, v_s] w (GivesSS w xss ok)) (himpl : ∀ (w : World) (v_s : Value), Sl w v_s s → Calls Try.prog 12 #[.int .i64 m, v_s] w (GivesSS w xss ok)) :
    Calls Try.prog 4 #[.int .i64 m, .slice u_s l_s c_s] w fun e w' => e = .returned (.bool true) ∧ Below w.heap.size w w' := by
  have HSs := hid hs_s
  clear hs_s
  have HSP := hid hspec
  have HIM := hid himpl
  clear hspec himpl
  all_goals cases ok
  all_goals
    go_enter Try.func4, Try.ntmps4
    go_wp2_with fail
    refine (toIntS_any _ s _ HSs.out (by omega)).mono ?_
    rintro e w1 ⟨g_A0, hg_A0, rfl, K_A0, hb⟩
    have B1 := hb
    have hz1 : w.heap.size ≤ w1.heap.size := by first | exact hb.size | (have := hb.size; simp at this; omega)
    have A0 := K_A0.res hg_A0
    go_wp2_with fail
    refine (HSP.out _ _ A0.sl).mono ?_
    rintro e w2 ⟨v_R0, vs_R0, rfl, R0, hb⟩
    have B2 := bel_step B1 hb
    have hz2 : w1.heap.size ≤ w2.heap.size := hb.size
    have A0_2 := A0.kept hb
    have hltR0 := fun k (hk : SSr.mine v_R0 vs_R0 k) => R0.mine_lt hk
    have HltR0 := hid hltR0
    clear hltR0
    go_wp2_with fail
    refine (toIntS_any _ s _ (HSs.out.kept B2) (by omega)).mono ?_
    rintro e w3 ⟨g_Xs, hg_Xs, rfl, K_Xs, hb⟩
    have B3 := bel_step B2 hb
    have hz3 : w2.heap.size ≤ w3.heap.size := hb.size
    have R0_3 := R0.kept hb
    have Xs := K_Xs.res hg_Xs
    have hneX0 : ∀ k, SSr.mine v_R0 vs_R0 k → k ≠ g_Xs := fun k hk => by have a1 := HltR0.out k hk; omega
    have HneX0 := hid hneX0
    clear hneX0
    have hxl : g_Xs < w3.heap.size := Xs.lt rfl
    go_wp2_with fail
    refine (HIM.out _ _ Xs.sl).mono ?_
    rintro e w4 ⟨v_R1, vs_R1, rfl, R1, hb⟩
    have B4 := bel_step B3 hb
    have hz4 : w3.heap.size ≤ w4.heap.size := hb.size
    have R0_4 := R0_3.kept hb
    have Xs_4 := Xs.kept hb
    have hgeR1 : ∀ u ∈ vs_R1, ∀ g, u.ownBlock = some g → w3.heap.size ≤ g := R1.ge
    have HgeR1 := hid hgeR1
    clear hgeR1
    have hneX1 : ∀ k, SSr.mine v_R1 vs_R1 k → k ≠ g_Xs := fun k hk => by have a1 := SSr.mine_ge R1 hk; omega
    have HneX1 := hid hneX1
    clear hneX1
    go_wp2_with fail
    refine (eqIntSS_same _ _ _ _ xss _ _ _ R1 R0_4 hy hl).mono ?_
    rintro e w5 ⟨rfl, hb⟩
    have B5 := bel_step B4 hb
    have hz5 : w4.heap.size ≤ w5.heap.size := hb.size
    have R0_5 := R0_4.kept hb
    have Xs_5 := Xs_4.kept hb
    have R1_5 := R1.kept hb
    go_wp2_with fail
    refine (toIntS_any _ s _ (HSs.out.kept B5) (by omega)).mono ?_
    rintro e w6 ⟨g_T, hg_T, rfl, K_T, hb⟩
    have B6 := bel_step B5 hb
    have hz6 : w5.heap.size ≤ w6.heap.size := hb.size
    have R0_6 := R0_5.kept hb
    have Xs_6 := Xs_5.kept hb
    have R1_6 := R1_5.kept hb
    have T := K_T.res hg_T
    go_wp2_with fail
    refine (eqIntS_same _ _ s _ Xs_6.sl T.sl (by omega)).mono ?_
    rintro e w7 ⟨rfl, hb⟩
    have B7 := bel_step B6 hb
    have hz7 : w6.heap.size ≤ w7.heap.size := hb.size
    have R0_7 := R0_6.kept hb
    have Xs_7 := Xs_6.kept hb
    have R1_7 := R1_6.kept hb
    have T_7 := T.kept hb
    go_wp2_with fail
    refine (markIntS_one _ s _ _ Xs_7 (by omega)).mono ?_
    rintro e w8 ⟨rfl, ho, _⟩
    have B8 := B7.trans (ho.below fun g hg => by cases hg; exact Nat.le_trans B2.size hg_Xs)
    have hz8 : w7.heap.size ≤ w8.heap.size := Nat.le_of_eq ho.size.symm
    have R0_8 := R0_7.only ((OnlyVs.refl [_] _).step ho (List.mem_singleton.2 rfl)) fun k hk u hu e => by rw [List.mem_singleton.1 hu] at e; cases e; exact HneX0.out _ hk rfl
    have R1_8 := R1_7.only ((OnlyVs.refl [_] _).step ho (List.mem_singleton.2 rfl)) fun k hk u hu e => by rw [List.mem_singleton.1 hu] at e; cases e; exact HneX1.out _ hk rfl
    go_wp2_with fail
    refine (eqIntSS_same _ _ _ _ xss _ _ _ R1_8 R0_8 hy hl).mono ?_
    rintro e w9 ⟨rfl, hb⟩
    have B9 := bel_step B8 hb
    have hz9 : w8.heap.size ≤ w9.heap.size := hb.size
    have R0_9 := R0_8.kept hb
    have R1_9 := R1_8.kept hb
    go_wp2_with fail
    refine (markIntSS_one _ _ xss _ _ R1_9 hy hl).mono ?_
    rintro e w10 ⟨rfl, ho, M⟩
    have B10 := B9.trans (ho.below fun u hu g hg => Nat.le_trans B3.size (HgeR1.out u hu g hg))
    have hz10 : w9.heap.size ≤ w10.heap.size := Nat.le_of_eq ho.size.symm
    have R0_10 := R0_9.only ho fun k hk u hu e => by have a1 := HltR0.out k hk; have a2 := HgeR1.out u hu k e; omega
    go_wp2_with fail
    refine (heldIntSS_one _ _ xss _ _ M hy hl).mono ?_
    rintro e w' ⟨rfl, rfl⟩
    go_wp2_with fail
    refine (toIntS_any _ s _ (HSs.out.kept B10) (by omega)).mono ?_
    rintro e w11 ⟨g_A2, hg_A2, rfl, K_A2, hb⟩
    have B11 := bel_step B10 hb
    have hz11 : w10.heap.size ≤ w11.heap.size := hb.size
    have R0_11 := R0_10.kept hb
    have M_11 := M.kept hb
    have A2 := K_A2.res hg_A2
    go_wp2_with fail
    refine (HIM.out _ _ A2.sl).mono ?_
    rintro e w12 ⟨v_R2, vs_R2, rfl, R2, hb⟩
    have B12 := bel_step B11 hb
    have hz12 : w11.heap.size ≤ w12.heap.size := hb.size
    have R0_12 := R0_11.kept hb
    have M_12 := M_11.kept hb
    have A2_12 := A2.kept hb
    go_wp2_with fail
    refine (eqIntSS_same _ _ _ _ xss _ _ _ R2 R0_12 hy hl).mono ?_
    rintro e w13 ⟨rfl, hb⟩
    have B13 := bel_step B12 hb
    have hz13 : w12.heap.size ≤ w13.heap.size := hb.size
    have R0_13 := R0_12.kept hb
    have M_13 := M_12.kept hb
    have R2_13 := R2.kept hb
    go_wp2_with fail
    refine (heldIntSS_one _ _ xss _ _ M_13 hy hl).mono ?_
    rintro e w' ⟨rfl, rfl⟩
    go_wp2_with fail
    go_ret
    exact ⟨rfl, B13⟩


set_option maxHeartbeats 1600000 in
theorem walk_FnExactTwoStates (w : World) (m : Int) (w_m : (Lit.int .i64 m).wf = true) (u_s : Option Addr) (l_s c_s : Nat) (z_s : List Int) (hr_s : IsRow .i64 w u_s l_s c_s z_s) :
    Calls Try.prog 4 #[.int .i64 m, .slice u_s l_s c_s] w fun e w' => e = .returned (.bool true) ∧ Below w.heap.size w w' := by
  obtain ⟨hs_s, hlen_s, hin_s⟩ := hr_s.sl
  generalize z_s.take l_s = s at hs_s hlen_s hin_s
  clear hr_s
  by_cases hbig_s : 1048576 < l_s
  · clear hs_s hlen_s hin_s
    go_enter Try.func4, Try.ntmps4
    go_wp2
    go_ret
    exact ⟨rfl, Below.refl _ _⟩
  · have hq_s : l_s ≤ 1048576 := by omega
    exact gen_FnExactTwoStates m s _ _ _ (ytR m s) (sdB m s) w hs_s (by omega) (by omega) (yt_len m s).1 (yt_len m s).2 (fun w v_s h_s => spec_TwoStates_is m v_s s w h_s) (fun w v_s h_s => impl_TwoStates_is m v_s s w h_s)

end Go.Proofs.Ytbekmfhcbcgfgaa
