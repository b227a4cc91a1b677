
import Derived.Test.YtfeihplfcbjigaaUp
namespace Go.MemX
open Go Go.RowKit
theorem SSr.mono {E F : TypeId} {B C : Nat} {w : World} {v : Value} {vs : List Value} {xss : List (List Int)} (h : SSr E F B w v vs xss) (hC : C ≤ B) : SSr E F C w v vs xss :=
  ⟨h.len, fun i u xs hi hx => (h.each i u xs hi hx).mono hC, h.apart, by
    rcases h.row with h0 | ⟨g, cap, h1, h2, h3⟩
    · exact .inl h0
    · exact .inr ⟨g, cap, h1, Nat.le_trans hC h2, h3⟩⟩
end Go.MemX
namespace Go.Proofs.Ytfeihplfcbjigaa
open Go.RowKit BitX Go.MemX Go.Ch6 Go.Ch8
set_option linter.unusedVariables false
theorem SSr.mine_ge {E F : TypeId} {B : Nat} {w : World} {v : Value} {vs : List Value} {xss : List (List Int)} (h : SSr E F B w v vs xss) {k : Nat} (hk : SSr.mine v vs k) : B ≤ k := by
  rcases hk with hk | ⟨u, hu, hk⟩
  · rcases h.row with ⟨rfl, _⟩ | ⟨g, cap, rfl, h2, _⟩
    · cases hk
    · cases hk; exact h2
  · exact h.ge u hu k hk
theorem ssi_nil (B : Nat) (w : World) : SSi B w (.slice none 0 0) [] [] := ⟨rfl, fun i u xs h => by simp at h, fun i j u u' h => by simp at h, .inl ⟨rfl, rfl⟩⟩
def onSS (b : Bool) (x : List (List Int)) : List (List Int) := match b with | true => x | false => []
def poB (h : List Int) (p : Int) : Bool := wgtB h && decide (1 ≤ p ∧ p ≤ 8)
theorem rat1 {p : Int} {b : Bool} (h : ratB p 1 = b) : decide (1 ≤ p ∧ p ≤ 8) = b := by
  unfold ratB at h; simpa using h
theorem po_no {w w' : World} {h : List Int} {p : Int} {x : List (List Int)} (e : poB h p = false) (hb : Below w.heap.size w w') : GivesSS w (onSS (poB h p) x) (poB h p) (.returned (.tuple #[.slice none 0 0, .bool false])) w' := by
  rw [e]; exact ⟨_, _, rfl, ssi_nil _ _, hb⟩
theorem po_yes {w w' : World} {g : Nat} {vs : List Value} {h : List Int} {p : Int} {x : List (List Int)} (e : poB h p = true) (hv : PhS 29 (fun W u xs => Res 3 (g + 1) W u xs) g w' vs x) (hg : w.heap.size ≤ g) (hb : Below w.heap.size w w') : GivesSS w (onSS (poB h p) x) (poB h p) (.returned (.tuple #[.slice (some ⟨g, 0, none⟩) vs.length vs.length, .bool true])) w' := by
  rw [e]; exact ⟨_, _, rfl, (hv.ss (Nat.lt_succ_self _)).mono hg, hb⟩
theorem po_len {h : List Int} {p : Int} : (onSS (poB h p) (phL h p.toNat)).length ≤ 2000000 ∧ lenS (onSS (poB h p) (phL h p.toNat)) ≤ 2000000 := by
  cases e : poB h p
  · exact ⟨Nat.zero_le _, Nat.zero_le _⟩
  · unfold poB at e
    rw [Bool.and_eq_true] at e
    have h1 := (wgtB_t e.1).1
    have h2 := of_decide_eq_true e.2
    exact ⟨by show (phL h p.toNat).length ≤ _; simp [phL]; omega, lenS_ph (by omega) (by omega) (by omega)⟩


set_option maxHeartbeats 1000000 in
theorem spec_PhasesOf_any (v : Value) (h : List Int) (p : Int) (w : World) (hs : Sl w v h) :
    Calls Try.prog 15 #[v, .int .i64 p] w (GivesSS w (onSS (poB h p) (phL h p.toNat)) (poB h p)) := by
  have HS := hid hs
  clear hs
  cases h0 : wgtB h
  · have HB0 := hid h0
    clear h0
    go_enter Try.func15, Try.ntmps15
    go_wp2_with fail
    refine (weGood_is _ h false _ HS.out HB0.out).mono ?_
    rintro e w' ⟨rfl, rfl⟩
    go_wp2_with fail
    go_ret2
    exact po_no (and_n1 HB0.out) (Below.refl _ _)
  · have HB0 := hid h0
    clear h0
    cases h1 : decide (1 ≤ p ∧ p ≤ 8)
    · have HB1 := hid h1
      clear h1
      go_enter Try.func15, Try.ntmps15
      go_wp2_with fail
      refine (weGood_is _ h true _ HS.out HB0.out).mono ?_
      rintro e w' ⟨rfl, rfl⟩
      go_wp2_with fail
      refine (l1In_is _ _ _ false _ HB1.out).mono ?_
      rintro e w' ⟨rfl, rfl⟩
      go_wp2_with fail
      go_ret2
      exact po_no (and_n2 HB1.out) (Below.refl _ _)
    · have HB1 := hid h1
      clear h1
      obtain ⟨p1, p8⟩ := of_decide_eq_true (HB1.out)
      have HY := hid (show poB h p = true from and_t HB0.out (HB1.out))
      have HL := hid (show h.length ≤ 64 from by have := (wgtB_t HB0.out).1; omega)
      obtain ⟨P, rfl⟩ : ∃ P : Nat, p = P := ⟨p.toNat, by omega⟩
      have P1 : 1 ≤ P := by omega
      have P8 : P ≤ 8 := by omega
      go_enter Try.func15, Try.ntmps15
      go_wp2_with fail
      refine (weGood_is _ h true _ HS.out HB0.out).mono ?_
      rintro e w' ⟨rfl, rfl⟩
      go_wp2_with fail
      refine (l1In_is _ _ _ true _ HB1.out).mono ?_
      rintro e w' ⟨rfl, rfl⟩
      go_wp2_with fail
      refine (rsPhases_any _ h P _ HS.out HL.out P1 P8).mono ?_
      rintro e w1 ⟨g, vs, rfl, R, hg, hb⟩
      have HR := hid R
      clear R
      go_wp2_with fail
      go_ret2
      exact po_yes HY.out HR.out hg hb


set_option maxHeartbeats 1000000 in
theorem impl_PhasesOf_any (v : Value) (h : List Int) (p : Int) (w : World) (hs : Sl w v h) :
    Calls Try.prog 17 #[v, .int .i64 p] w (GivesSS w (onSS (poB h p) (phL h p.toNat)) (poB h p)) := by
  have HS := hid hs
  clear hs
  cases h0 : wgtB h
  · have HB0 := hid h0
    clear h0
    go_enter Try.func17, Try.ntmps17
    go_wp2_with fail
    refine (impl_IsWeights_is _ h false _ HS.out HB0.out).mono ?_
    rintro e w' ⟨rfl, rfl⟩
    go_wp2_with fail
    go_ret2
    exact po_no (and_n1 HB0.out) (Below.refl _ _)
  · have HB0 := hid h0
    clear h0
    cases h1 : ratB p 1
    · have HB1 := hid h1
      clear h1
      go_enter Try.func17, Try.ntmps17
      go_wp2_with fail
      refine (impl_IsWeights_is _ h true _ HS.out HB0.out).mono ?_
      rintro e w' ⟨rfl, rfl⟩
      go_wp2_with fail
      refine (isRatio_is _ _ false _ HB1.out).mono ?_
      rintro e w' ⟨rfl, rfl⟩
      go_wp2_with fail
      go_ret2
      exact po_no (and_n2 (rat1 HB1.out)) (Below.refl _ _)
    · have HB1 := hid h1
      clear h1
      obtain ⟨p1, p8⟩ := of_decide_eq_true (rat1 HB1.out)
      have HY := hid (show poB h p = true from and_t HB0.out (rat1 HB1.out))
      have HL := hid (show h.length ≤ 64 from by have := (wgtB_t HB0.out).1; omega)
      obtain ⟨P, rfl⟩ : ∃ P : Nat, p = P := ⟨p.toNat, by omega⟩
      have P1 : 1 ≤ P := by omega
      have P8 : P ≤ 8 := by omega
      go_enter Try.func17, Try.ntmps17
      go_wp2_with fail
      refine (impl_IsWeights_is _ h true _ HS.out HB0.out).mono ?_
      rintro e w' ⟨rfl, rfl⟩
      go_wp2_with fail
      refine (isRatio_is _ _ true _ HB1.out).mono ?_
      rintro e w' ⟨rfl, rfl⟩
      go_wp2_with fail
      refine (phasesOf_any _ h P _ HS.out HL.out P1 P8).mono ?_
      rintro e w1 ⟨g, vs, rfl, R, hg, hb⟩
      have HR := hid R
      clear R
      go_wp2_with fail
      go_ret2
      exact po_yes HY.out HR.out hg hb


set_option maxHeartbeats 3200000 in
theorem gen_FnExactPhasesOf (s : List Int) (p : Int) (u_s : Option Addr) (l_s c_s : Nat) (xss : List (List Int)) (ok : Bool) (w : World) (hs_s : Sl w (.slice u_s l_s c_s) s) (ll_s : l_s ≤ 1048576) (hl_s : s.length ≤ 1048576) (hy : xss.length ≤ 2000000) (hl : lenS xss ≤ 2000000) (hspec : ∀ (w : World) (v_s : Value), Sl w v_s s → Calls Try.prog 15 #[v_s, .int .i64 p] w (GivesSS w xss ok)) (himpl : ∀ (w : World) (v_s : Value), Sl w v_s s → Calls Try.prog 17 #[v_s, .int .i64 p] w (GivesSS w xss ok)) :
    Calls Try.prog 6 #[.slice u_s l_s c_s, .int .i64 p] w fun e w' => e = .returned (.bool true) ∧ Below w.heap.size w w' := by
  have HSs := hid hs_s
  clear hs_s
  have HSP := hid hspec
  have HIM := hid himpl
  clear hspec himpl
  all_goals cases ok
  all_goals
    go_enter Try.func6, Try.ntmps6
    go_wp2_with fail
    refine (toIntS_any _ s _ HSs.out (by omega)).mono ?_
    rintro e w1 ⟨g_A0, hg_A0, rfl, K_A0, hb⟩
    have B1 := hb
    have hz1 : w.heap.size ≤ w1.heap.size := by first | exact hb.size | (have := hb.size; simp at this; omega)
    have A0 := K_A0.res hg_A0
    go_wp2_with fail
    refine (HSP.out _ _ A0.sl).mono ?_
    rintro e w2 ⟨v_R0, vs_R0, rfl, R0, hb⟩
    have B2 := bel_step B1 hb
    have hz2 : w1.heap.size ≤ w2.heap.size := hb.size
    have A0_2 := A0.kept hb
    have hltR0 := fun k (hk : SSr.mine v_R0 vs_R0 k) => R0.mine_lt hk
    have HltR0 := hid hltR0
    clear hltR0
    go_wp2_with fail
    refine (toIntS_any _ s _ (HSs.out.kept B2) (by omega)).mono ?_
    rintro e w3 ⟨g_Xs, hg_Xs, rfl, K_Xs, hb⟩
    have B3 := bel_step B2 hb
    have hz3 : w2.heap.size ≤ w3.heap.size := hb.size
    have R0_3 := R0.kept hb
    have Xs := K_Xs.res hg_Xs
    have hneX0 : ∀ k, SSr.mine v_R0 vs_R0 k → k ≠ g_Xs := fun k hk => by have a1 := HltR0.out k hk; omega
    have HneX0 := hid hneX0
    clear hneX0
    have hxl : g_Xs < w3.heap.size := Xs.lt rfl
    go_wp2_with fail
    refine (HIM.out _ _ Xs.sl).mono ?_
    rintro e w4 ⟨v_R1, vs_R1, rfl, R1, hb⟩
    have B4 := bel_step B3 hb
    have hz4 : w3.heap.size ≤ w4.heap.size := hb.size
    have R0_4 := R0_3.kept hb
    have Xs_4 := Xs.kept hb
    have hgeR1 : ∀ u ∈ vs_R1, ∀ g, u.ownBlock = some g → w3.heap.size ≤ g := R1.ge
    have HgeR1 := hid hgeR1
    clear hgeR1
    have hneX1 : ∀ k, SSr.mine v_R1 vs_R1 k → k ≠ g_Xs := fun k hk => by have a1 := SSr.mine_ge R1 hk; omega
    have HneX1 := hid hneX1
    clear hneX1
    go_wp2_with fail
    refine (eqIntSS_same _ _ _ _ xss _ _ _ R1 R0_4 hy hl).mono ?_
    rintro e w5 ⟨rfl, hb⟩
    have B5 := bel_step B4 hb
    have hz5 : w4.heap.size ≤ w5.heap.size := hb.size
    have R0_5 := R0_4.kept hb
    have Xs_5 := Xs_4.kept hb
    have R1_5 := R1.kept hb
    go_wp2_with fail
    refine (toIntS_any _ s _ (HSs.out.kept B5) (by omega)).mono ?_
    rintro e w6 ⟨g_T, hg_T, rfl, K_T, hb⟩
    have B6 := bel_step B5 hb
    have hz6 : w5.heap.size ≤ w6.heap.size := hb.size
    have R0_6 := R0_5.kept hb
    have Xs_6 := Xs_5.kept hb
    have R1_6 := R1_5.kept hb
    have T := K_T.res hg_T
    go_wp2_with fail
    refine (eqIntS_same _ _ s _ Xs_6.sl T.sl (by omega)).mono ?_
    rintro e w7 ⟨rfl, hb⟩
    have B7 := bel_step B6 hb
    have hz7 : w6.heap.size ≤ w7.heap.size := hb.size
    have R0_7 := R0_6.kept hb
    have Xs_7 := Xs_6.kept hb
    have R1_7 := R1_6.kept hb
    have T_7 := T.kept hb
    go_wp2_with fail
    refine (markIntS_one _ s _ _ Xs_7 (by omega)).mono ?_
    rintro e w8 ⟨rfl, ho, _⟩
    have B8 := B7.trans (ho.below fun g hg => by cases hg; exact Nat.le_trans B2.size hg_Xs)
    have hz8 : w7.heap.size ≤ w8.heap.size := Nat.le_of_eq ho.size.symm
    have R0_8 := R0_7.only ((OnlyVs.refl [_] _).step ho (List.mem_singleton.2 rfl)) fun k hk u hu e => by rw [List.mem_singleton.1 hu] at e; cases e; exact HneX0.out _ hk rfl
    have R1_8 := R1_7.only ((OnlyVs.refl [_] _).step ho (List.mem_singleton.2 rfl)) fun k hk u hu e => by rw [List.mem_singleton.1 hu] at e; cases e; exact HneX1.out _ hk rfl
    go_wp2_with fail
    refine (eqIntSS_same _ _ _ _ xss _ _ _ R1_8 R0_8 hy hl).mono ?_
    rintro e w9 ⟨rfl, hb⟩
    have B9 := bel_step B8 hb
    have hz9 : w8.heap.size ≤ w9.heap.size := hb.size
    have R0_9 := R0_8.kept hb
    have R1_9 := R1_8.kept hb
    go_wp2_with fail
    refine (markIntSS_one _ _ xss _ _ R1_9 hy hl).mono ?_
    rintro e w10 ⟨rfl, ho, M⟩
    have B10 := B9.trans (ho.below fun u hu g hg => Nat.le_trans B3.size (HgeR1.out u hu g hg))
    have hz10 : w9.heap.size ≤ w10.heap.size := Nat.le_of_eq ho.size.symm
    have R0_10 := R0_9.only ho fun k hk u hu e => by have a1 := HltR0.out k hk; have a2 := HgeR1.out u hu k e; omega
    go_wp2_with fail
    refine (heldIntSS_one _ _ xss _ _ M hy hl).mono ?_
    rintro e w' ⟨rfl, rfl⟩
    go_wp2_with fail
    refine (toIntS_any _ s _ (HSs.out.kept B10) (by omega)).mono ?_
    rintro e w11 ⟨g_A2, hg_A2, rfl, K_A2, hb⟩
    have B11 := bel_step B10 hb
    have hz11 : w10.heap.size ≤ w11.heap.size := hb.size
    have R0_11 := R0_10.kept hb
    have M_11 := M.kept hb
    have A2 := K_A2.res hg_A2
    go_wp2_with fail
    refine (HIM.out _ _ A2.sl).mono ?_
    rintro e w12 ⟨v_R2, vs_R2, rfl, R2, hb⟩
    have B12 := bel_step B11 hb
    have hz12 : w11.heap.size ≤ w12.heap.size := hb.size
    have R0_12 := R0_11.kept hb
    have M_12 := M_11.kept hb
    have A2_12 := A2.kept hb
    go_wp2_with fail
    refine (eqIntSS_same _ _ _ _ xss _ _ _ R2 R0_12 hy hl).mono ?_
    rintro e w13 ⟨rfl, hb⟩
    have B13 := bel_step B12 hb
    have hz13 : w12.heap.size ≤ w13.heap.size := hb.size
    have R0_13 := R0_12.kept hb
    have M_13 := M_12.kept hb
    have R2_13 := R2.kept hb
    go_wp2_with fail
    refine (heldIntSS_one _ _ xss _ _ M_13 hy hl).mono ?_
    rintro e w' ⟨rfl, rfl⟩
    go_wp2_with fail
    go_ret
    exact ⟨rfl, B13⟩


set_option maxHeartbeats 1600000 in
theorem walk_FnExactPhasesOf (w : World) (u_s : Option Addr) (l_s c_s : Nat) (z_s : List Int) (hr_s : IsRow .i64 w u_s l_s c_s z_s) (p : Int) (w_p : (Lit.int .i64 p).wf = true) :
    Calls Try.prog 6 #[.slice u_s l_s c_s, .int .i64 p] w fun e w' => e = .returned (.bool true) ∧ Below w.heap.size w w' := by
  obtain ⟨hs_s, hlen_s, hin_s⟩ := hr_s.sl
  generalize z_s.take l_s = s at hs_s hlen_s hin_s
  clear hr_s
  by_cases hbig_s : 1048576 < l_s
  · clear hs_s hlen_s hin_s
    go_enter Try.func6, Try.ntmps6
    go_wp2
    go_ret
    exact ⟨rfl, Below.refl _ _⟩
  · have hq_s : l_s ≤ 1048576 := by omega
    exact gen_FnExactPhasesOf s p _ _ _ (onSS (poB s p) (phL s p.toNat)) (poB s p) w hs_s (by omega) (by omega) po_len.1 po_len.2 (fun w v_s h_s => spec_PhasesOf_any v_s s p w h_s) (fun w v_s h_s => impl_PhasesOf_any v_s s p w h_s)

end Go.Proofs.Ytfeihplfcbjigaa
