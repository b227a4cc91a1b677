
import Derived.Test.YtgkjncgaecfbgabFq
namespace Go.Proofs.Ytgkjncgaecfbgab
open Go.RowKit BitX Go.MemX
set_option linter.unusedVariables false


/-- the product of k times the same weights, if all of them are weights -/
def pow (h : List Int) : Nat → Option (List Int)
  | 0 => some [1]
  | k + 1 => match pow h k with
    | some p => if wgtB (ans h p) then some (ans h p) else none
    | none => none
theorem pow_zero (h : List Int) : pow h 0 = some [1] := rfl
theorem pow_yes {h p : List Int} {k : Nat} (hp : pow h k = some p) (hb : wgtB (ans h p) = true) : pow h (k + 1) = some (ans h p) := by rw [pow, hp]; simp [hb]
theorem pow_no {h p : List Int} {k : Nat} (hp : pow h k = some p) (hb : wgtB (ans h p) = false) : ∀ K, k + 1 ≤ K → pow h K = none := by
  intro K hK
  induction K with
  | zero => omega
  | succ K ih =>
    by_cases e : k = K
    · subst e; rw [pow, hp]; simp [hb]
    · rw [pow, ih (by omega)]
def powOk (h : List Int) (k : Nat) : Bool := (pow h k).isSome
def powL (h : List Int) (k : Nat) : List Int := (pow h k).getD []
theorem powOk_t {h p : List Int} {k : Nat} (hp : pow h k = some p) : powOk h k = true ∧ powL h k = p := by simp [powOk, powL, hp]
theorem powOk_f {h : List Int} {k : Nat} (hp : pow h k = none) : powOk h k = false ∧ powL h k = [] := by simp [powOk, powL, hp]
theorem gives_of {w w2 : World} {ys zs : List Int} {b c : Bool} {e : Ending} (h1 : b = c) (h2 : ys = zs) (h : Gives w zs c e w2) : Gives w ys b e w2 := by subst h1 h2; exact h
theorem wgt_one : WgtP [1] := ⟨by simp, fun x hx => by simp at hx; subst hx; omega⟩
theorem wgt_ne {h : List Int} (hw : WgtP h) : h ≠ [] := fun e => by have := hw.1.1; rw [e] at this; simp at this
/-- what a call of the product leaves, both factors being weights -/
theorem times_is (u v : Value) (p h : List Int) (b : Bool) (w : World) (hu : Sl w u p) (hv : Sl w v h) (hp : WgtP p) (hh : WgtP h) (hb : wgtB (ans h p) = b) :
    Calls Try.prog 19 #[u, v] w (Gives w (onB b (ans h p) []) b) := by
  have := impl_TimesWeights_in u v p h w hu hv
  rw [wgtB_of hp, wgtB_of hh, ans_comm p h (wgt_ne hp) (wgt_ne hh), hb] at this
  exact this


set_option maxHeartbeats 1600000 in
theorem spec_Power_in (v : Value) (h : List Int) (w : World) (hu : Sl w v h) (K : Nat) (hK : K ≤ 8) (hw : WgtP h) :
    Calls Try.prog 20 #[v, .int .i64 (K : Int)] w (Gives w (powL h K) (powOk h K)) := by
  have hk : decide ((0 : Int) ≤ (K : Int) ∧ (K : Int) ≤ 8) = true := decide_eq_true (by omega)
  have HK := hid hk
  have HU := hid hu
  have HW := hid hw
  have hown : Blk 3 (w.alloc (.cells (intsA [1]) 3)) w.heap.size [1] := heap_alloc_new _ _
  have hrs : Res 3 w.heap.size (w.alloc (.cells (intsA [1]) 3)) (.slice (some ⟨w.heap.size, 0, none⟩) 1 1) [1] := hown.res (Nat.le_refl _)
  have Hrs := hid hrs
  have hp0 : (0 : Int) ≤ (K : Int) := by omega
  have hp8 : (K : Int) ≤ 8 := by omega
  clear hk hu hw hown hrs
  go_enter Try.func20, Try.ntmps20
  go_wp2_with fail
  refine (weGood_is _ h true _ HU.out (wgtB_of HW.out)).mono ?_
  rintro e w' ⟨rfl, rfl⟩
  go_wp2_with fail
  refine (l1In_is _ _ _ true _ HK.out).mono ?_
  rintro e w' ⟨rfl, rfl⟩
  go_wp2_with fail
  go_loopw [1, 6] (fun kk v wr => ∃ (j : Nat) (q : List Int), j ≤ K ∧ kk = .int .i64 ((K : Int) - j) ∧ Res 3 w.heap.size wr v q ∧ Hid (pow h j = some q) ∧ Hid (WgtP q) ∧ Below w.heap.size w wr)
    (fun kk _ _ => (intOf kk).toNat)
  case atStart => exact ⟨0, [1], by omega, by go_num, Hrs.out, pow_zero h, wgt_one, bel_alloc _ _⟩
  case round =>
    obtain ⟨j, q, hj, rfl, hr, HP, HQ, hb⟩ := hrel
    have HR := hid hr
    have HQS := hid (wgt_sig HQ.out)
    clear hr
    by_cases hlj : j < K
    · have hlt : (0 : Int) < (K : Int) - j := by omega
      cases hB : wgtB (ans h q)
      · have HB := hid hB
        clear hB
        go_wp2_with fail
        refine (weAnswer_any _ _ h q _ (HU.out.kept hb) HR.out.sl HW.out HQS.out.1 HQS.out.2).mono ?_
        rintro e w2 ⟨v2, rfl, R2, hb2⟩
        have B2 := hb.trans (hb2.mono hb.size)
        have R3 := R2.mono hb.size
        go_wp2_with fail
        refine (weGood_is _ (ans h q) false _ R3.sl HB.out).mono ?_
        rintro e w' ⟨rfl, rfl⟩
        have Hno := hid (powOk_f (pow_no HP.out HB.out K (by omega)))
        go_wp2
        go_ret2
        exact gives_of Hno.out.1 Hno.out.2 ⟨_, rfl, .inl ⟨rfl, rfl⟩, B2⟩
      · have HB := hid hB
        clear hB
        go_wp2_with fail
        refine (weAnswer_any _ _ h q _ (HU.out.kept hb) HR.out.sl HW.out HQS.out.1 HQS.out.2).mono ?_
        rintro e w2 ⟨v2, rfl, R2, hb2⟩
        have B2 := hb.trans (hb2.mono hb.size)
        have R3 := R2.mono hb.size
        go_wp2_with fail
        refine (weGood_is _ (ans h q) true _ R3.sl HB.out).mono ?_
        rintro e w' ⟨rfl, rfl⟩
        have Hn := hid (pow_yes HP.out HB.out)
        have HWn := hid (wgtB_t HB.out)
        clear HP
        go_wp2
        go_roundw
        case rel => exact ⟨j + 1, _, by omega, by go_num, R3, Hn, HWn, B2⟩
        case measure => simp [intOf]; omega
    · have hjk : j = K := by omega
      have Hres := hid (powOk_t (show pow h K = some q from hjk ▸ HP.out))
      have hge : (K : Int) ≤ (j : Int) := by omega
      have hge2 : (K : Int) - j ≤ 0 := by omega
      clear hlj hjk HP
      go_wp2
      go_ret2
      exact gives_of Hres.out.1 Hres.out.2 ⟨_, rfl, HR.out, hb⟩


set_option maxHeartbeats 1600000 in
theorem impl_Power_in (v : Value) (h : List Int) (w : World) (hu : Sl w v h) (K : Nat) (hK : K ≤ 8) (hw : WgtP h) :
    Calls Try.prog 21 #[v, .int .i64 (K : Int)] w (Gives w (powL h K) (powOk h K)) := by
  have hk : decide ((0 : Int) ≤ (K : Int) ∧ (K : Int) ≤ 8) = true := decide_eq_true (by omega)
  have HK := hid hk
  have HU := hid hu
  have HW := hid hw
  have hown : Blk 3 (w.alloc (.cells (intsA [1]) 3)) w.heap.size [1] := heap_alloc_new _ _
  have hrs : Res 3 w.heap.size (w.alloc (.cells (intsA [1]) 3)) (.slice (some ⟨w.heap.size, 0, none⟩) 1 1) [1] := hown.res (Nat.le_refl _)
  have Hrs := hid hrs
  have hp0 : (0 : Int) ≤ (K : Int) := by omega
  have hp8 : (K : Int) ≤ 8 := by omega
  clear hk hu hw hown hrs
  go_enter Try.func21, Try.ntmps21
  go_wp2_with fail
  refine (impl_IsWeights_is _ h true _ HU.out (wgtB_of HW.out)).mono ?_
  rintro e w' ⟨rfl, rfl⟩
  go_wp2_with fail
  go_loopw [6, 22] (fun v kk wr => ∃ (j : Nat) (q : List Int), j ≤ K ∧ kk = .int .i64 j ∧ Res 3 w.heap.size wr v q ∧ Hid (pow h j = some q) ∧ Hid (WgtP q) ∧ Below w.heap.size w wr)
    (fun _ kk _ => K - (intOf kk).toNat)
  case atStart => exact ⟨0, [1], by omega, rfl, Hrs.out, pow_zero h, wgt_one, bel_alloc _ _⟩
  case round =>
    obtain ⟨j, q, hj, rfl, hr, HP, HQ, hb⟩ := hrel
    have HR := hid hr
    have HQS := hid (wgt_sig HQ.out)
    clear hr
    by_cases hlj : j < K
    · have hlt : (0 : Int) < (K : Int) - j := by omega
      cases hB : wgtB (ans h q)
      · have HB := hid hB
        clear hB
        go_wp2_with fail
        refine (times_is _ _ q h false _ HR.out.sl (HU.out.kept hb) HQ.out HW.out HB.out).mono ?_
        rintro e w2 ⟨v2, rfl, R2, hb2⟩
        have B2 := hb.trans (hb2.mono hb.size)
        have R3 := R2.mono hb.size
        have Hno := hid (powOk_f (pow_no HP.out HB.out K (by omega)))
        go_wp2
        go_ret2
        exact gives_of Hno.out.1 Hno.out.2 ⟨_, rfl, .inl ⟨rfl, rfl⟩, B2⟩
      · have HB := hid hB
        clear hB
        go_wp2_with fail
        refine (times_is _ _ q h true _ HR.out.sl (HU.out.kept hb) HQ.out HW.out HB.out).mono ?_
        rintro e w2 ⟨v2, rfl, R2, hb2⟩
        have B2 := hb.trans (hb2.mono hb.size)
        have R3 := R2.mono hb.size
        have Hn := hid (pow_yes HP.out HB.out)
        have HWn := hid (wgtB_t HB.out)
        clear HP
        go_wp2
        go_roundw
        case rel => exact ⟨j + 1, _, by omega, by go_num, R3, Hn, HWn, B2⟩
        case measure => simp [intOf]; omega
    · have hjk : j = K := by omega
      have Hres := hid (powOk_t (show pow h K = some q from hjk ▸ HP.out))
      have hge : (K : Int) ≤ (j : Int) := by omega
      have hge2 : (K : Int) - j ≤ 0 := by omega
      clear hlj hjk HP
      go_wp2
      go_ret2
      exact gives_of Hres.out.1 Hres.out.2 ⟨_, rfl, HR.out, hb⟩


def powA (h : List Int) (k : Int) : Bool := wgtB h && (decide (0 ≤ k ∧ k ≤ 8) && powOk h k.toNat)


theorem onB_powL (h : List Int) (K : Nat) : onB (powOk h K) (powL h K) [] = powL h K := by
  unfold powOk powL
  cases pow h K <;> rfl


set_option maxHeartbeats 400000 in
theorem spec_PowerWeights_any (v : Value) (h : List Int) (w : World) (hu : Sl w v h) (k : Int) :
    Calls Try.prog 20 #[v, .int .i64 k] w (Gives w (onB (wgtB h && (decide (0 ≤ k ∧ k ≤ 8) && powOk h k.toNat)) (powL h k.toNat) []) (wgtB h && (decide (0 ≤ k ∧ k ≤ 8) && powOk h k.toNat))) := by
  have HU := hid hu
  clear hu
  cases h0 : wgtB h
  · have HB0 := hid h0
    clear h0
    go_enter Try.func20, Try.ntmps20
    go_wp2_with fail
    refine (weGood_is _ h _ _ HU.out HB0.out).mono ?_
    rintro e w' ⟨rfl, rfl⟩
    go_wp2_with fail
    go_ret2
    exact ⟨_, rfl, .inl ⟨rfl, rfl⟩, Below.refl _ _⟩
  · have HB0 := hid h0
    clear h0
    by_cases hk : 0 ≤ k ∧ k ≤ 8
    · obtain ⟨K, rfl⟩ := Int.eq_ofNat_of_zero_le hk.1
      rw [decide_eq_true hk]
      have h3 := spec_Power_in v h w HU.out K (by omega) (wgtB_t HB0.out)
      rw [← onB_powL] at h3
      exact h3
    · have hd2 : decide (0 ≤ k ∧ k ≤ 8) = false := decide_eq_false hk
      rw [hd2]
      have HD := hid hd2
      clear hk hd2
      go_enter Try.func20, Try.ntmps20
      go_wp2_with fail
      refine (weGood_is _ h _ _ HU.out HB0.out).mono ?_
      rintro e w' ⟨rfl, rfl⟩
      go_wp2_with fail
      refine (l1In_is _ _ _ false _ HD.out).mono ?_
      rintro e w' ⟨rfl, rfl⟩
      go_wp2_with fail
      go_ret2
      exact ⟨_, rfl, .inl ⟨rfl, rfl⟩, Below.refl _ _⟩


set_option maxHeartbeats 400000 in
theorem impl_PowerWeights_any (v : Value) (h : List Int) (w : World) (hu : Sl w v h) (k : Int) :
    Calls Try.prog 21 #[v, .int .i64 k] w (Gives w (onB (wgtB h && (decide (0 ≤ k ∧ k ≤ 8) && powOk h k.toNat)) (powL h k.toNat) []) (wgtB h && (decide (0 ≤ k ∧ k ≤ 8) && powOk h k.toNat))) := by
  have HU := hid hu
  clear hu
  cases h0 : wgtB h
  · have HB0 := hid h0
    clear h0
    go_enter Try.func21, Try.ntmps21
    go_wp2_with fail
    refine (impl_IsWeights_is _ h _ _ HU.out HB0.out).mono ?_
    rintro e w' ⟨rfl, rfl⟩
    go_wp2_with fail
    go_ret2
    exact ⟨_, rfl, .inl ⟨rfl, rfl⟩, Below.refl _ _⟩
  · have HB0 := hid h0
    clear h0
    by_cases hk : 0 ≤ k ∧ k ≤ 8
    · obtain ⟨K, rfl⟩ := Int.eq_ofNat_of_zero_le hk.1
      rw [decide_eq_true hk]
      have h3 := impl_Power_in v h w HU.out K (by omega) (wgtB_t HB0.out)
      rw [← onB_powL] at h3
      exact h3
    · rw [decide_eq_false hk]
      by_cases h0 : k < 0
      · clear hk
        go_enter Try.func21, Try.ntmps21
        go_wp2_with fail
        refine (impl_IsWeights_is _ h _ _ HU.out HB0.out).mono ?_
        rintro e w' ⟨rfl, rfl⟩
        go_wp2_with fail
        go_ret2
        exact ⟨_, rfl, .inl ⟨rfl, rfl⟩, Below.refl _ _⟩
      · have h1 : 0 ≤ k := by omega
        have h2 : 8 < k := by omega
        clear hk h0
        go_enter Try.func21, Try.ntmps21
        go_wp2_with fail
        refine (impl_IsWeights_is _ h _ _ HU.out HB0.out).mono ?_
        rintro e w' ⟨rfl, rfl⟩
        go_wp2_with fail
        go_ret2
        exact ⟨_, rfl, .inl ⟨rfl, rfl⟩, Below.refl _ _⟩


theorem pow_wgt {h p : List Int} : ∀ {k : Nat}, pow h k = some p → WgtP p
  | 0, e => by cases e; exact wgt_one
  | k + 1, e => by
    rw [pow] at e
    split at e
    · split at e
      · rename_i hb; cases e; exact wgtB_t hb
      · cases e
    · cases e
theorem powA_len {h : List Int} {k : Int} (hb : powA h k = true) : (powL h k.toNat).length ≤ 2000000 := by
  unfold powL
  cases hp : pow h k.toNat with
  | none => simp
  | some p => have := (pow_wgt hp).1.2; simp; omega


set_option maxHeartbeats 1600000 in
theorem gen_FnExactPowerWeights (h : List Int) (k : Int) (u_h : Option Addr) (l_h c_h : Nat) (ys : List Int) (ok : Bool) (w : World) (hs_h : Sl w (.slice u_h l_h c_h) h) (ll_h : l_h ≤ 1048576) (hl_h : h.length ≤ 1048576) (hy : ys.length ≤ 2000000) (hspec : ∀ (w : World) (v_h : Value), Sl w v_h h → Calls Try.prog 20 #[v_h, .int .i64 k] w (Gives w ys ok)) (himpl : ∀ (w : World) (v_h : Value), Sl w v_h h → Calls Try.prog 21 #[v_h, .int .i64 k] w (Gives w ys ok)) :
    Calls Try.prog 6 #[.slice u_h l_h c_h, .int .i64 k] w fun e w' => e = .returned (.bool true) ∧ Below w.heap.size w w' := by
  have HSh := hid hs_h
  clear hs_h
  have HSP := hid hspec
  have HIM := hid himpl
  clear hspec himpl
  all_goals cases ok
  all_goals
    go_enter Try.func6, Try.ntmps6
    go_wp2_with fail
    refine (toIntS_any _ h _ HSh.out (by omega)).mono ?_
    rintro e w1 ⟨g_Ah0, hg_Ah0, rfl, K_Ah0, hb⟩
    have B1 := hb
    have hz1 : w.heap.size ≤ w1.heap.size := by first | exact hb.size | (have := hb.size; simp at this; omega)
    have Ah0 := K_Ah0.res hg_Ah0
    go_wp2_with fail
    refine (HSP.out _ _ Ah0.sl).mono ?_
    rintro e w2 ⟨v_R0, rfl, R0, hb⟩
    have B2 := bel_step B1 hb
    have hz2 : w1.heap.size ≤ w2.heap.size := hb.size
    have Ah0_2 := Ah0.kept hb
    have hlt0 : ∀ g, v_R0.ownBlock = some g → g < w2.heap.size := fun g hg => R0.lt hg
    have Hlt0 := hid hlt0
    clear hlt0
    go_wp2_with fail
    refine (toIntS_any _ h _ (HSh.out.kept B2) (by omega)).mono ?_
    rintro e w3 ⟨g_Xh, hg_Xh, rfl, K_Xh, hb⟩
    have B3 := bel_step B2 hb
    have hz3 : w2.heap.size ≤ w3.heap.size := hb.size
    have R0_3 := R0.kept hb
    have Xh := K_Xh.res hg_Xh
    have hlt_Xh := K_Xh.lt
    have hne_Xh : ∀ g, v_R0.ownBlock = some g → g ≠ g_Xh := fun g hg => by have a1 := Hlt0.out g hg; omega
    have Hne_Xh := hid hne_Xh
    clear hne_Xh
    have hxl_Xh : g_Xh < w3.heap.size := Xh.lt rfl
    go_wp2_with fail
    refine (HIM.out _ _ Xh.sl).mono ?_
    rintro e w4 ⟨v_R1, rfl, R1, hb⟩
    have B4 := bel_step B3 hb
    have hz4 : w3.heap.size ≤ w4.heap.size := hb.size
    have R0_4 := R0_3.kept hb
    have Xh_4 := Xh.kept hb
    have hne1_Xh : ∀ g, v_R1.ownBlock = some g → g ≠ g_Xh := fun g hg => by have a1 := R1.ge hg; omega
    have Hne1_Xh := hid hne1_Xh
    clear hne1_Xh
    have hne01 : ∀ g, v_R0.ownBlock = some g → v_R1.ownBlock ≠ some g := fun g hg e => by have a1 := R1.ge e; have a2 := Hlt0.out g hg; omega
    have Hne01 := hid hne01
    clear hne01
    have hge1 : ∀ g, v_R1.ownBlock = some g → w3.heap.size ≤ g := fun g hg => R1.ge hg
    have Hge1 := hid hge1
    clear hge1
    go_wp2_with fail
    refine (eqIntS_same _ _ ys _ R1.sl R0_4.sl hy).mono ?_
    rintro e w5 ⟨rfl, hb⟩
    have B5 := bel_step B4 hb
    have hz5 : w4.heap.size ≤ w5.heap.size := hb.size
    have R0_5 := R0_4.kept hb
    have Xh_5 := Xh_4.kept hb
    have R1_5 := R1.kept hb
    go_wp2_with fail
    refine (toIntS_any _ h _ (HSh.out.kept B5) (by omega)).mono ?_
    rintro e w6 ⟨g_TXh, hg_TXh, rfl, K_TXh, hb⟩
    have B6 := bel_step B5 hb
    have hz6 : w5.heap.size ≤ w6.heap.size := hb.size
    have R0_6 := R0_5.kept hb
    have Xh_6 := Xh_5.kept hb
    have R1_6 := R1_5.kept hb
    have TXh := K_TXh.res hg_TXh
    go_wp2_with fail
    refine (eqIntS_same _ _ h _ Xh_6.sl TXh.sl (by omega)).mono ?_
    rintro e w7 ⟨rfl, hb⟩
    have B7 := bel_step B6 hb
    have hz7 : w6.heap.size ≤ w7.heap.size := hb.size
    have R0_7 := R0_6.kept hb
    have Xh_7 := Xh_6.kept hb
    have R1_7 := R1_6.kept hb
    have TXh_7 := TXh.kept hb
    go_wp2_with fail
    refine (markIntS_one _ h _ _ Xh_7 (by omega)).mono ?_
    rintro e w8 ⟨rfl, ho, _⟩
    have B8 := B7.trans (ho.below fun g hg => by cases hg; exact Nat.le_trans B2.size hg_Xh)
    have hz8 : w7.heap.size ≤ w8.heap.size := Nat.le_of_eq ho.size.symm
    have R0_8 := R0_7.only ho fun g hg e => by cases e; exact Hne_Xh.out _ hg rfl
    have R1_8 := R1_7.only ho fun g hg e => by cases e; exact Hne1_Xh.out _ hg rfl
    go_wp2_with fail
    refine (eqIntS_same _ _ ys _ R1_8.sl R0_8.sl hy).mono ?_
    rintro e w9 ⟨rfl, hb⟩
    have B9 := bel_step B8 hb
    have hz9 : w8.heap.size ≤ w9.heap.size := hb.size
    have R0_9 := R0_8.kept hb
    have R1_9 := R1_8.kept hb
    go_wp2_with fail
    refine (markIntS_one _ ys _ _ R1_9 hy).mono ?_
    rintro e w10 ⟨rfl, ho, M⟩
    have B10 := B9.trans (ho.below fun g hg => Nat.le_trans B3.size (Hge1.out g hg))
    have hz10 : w9.heap.size ≤ w10.heap.size := Nat.le_of_eq ho.size.symm
    have R0_10 := R0_9.only ho Hne01.out
    go_wp2_with fail
    refine (heldIntS_one _ ys.length _ _ M hy).mono ?_
    rintro e w' ⟨rfl, rfl⟩
    go_wp2_with fail
    refine (toIntS_any _ h _ (HSh.out.kept B10) (by omega)).mono ?_
    rintro e w11 ⟨g_Ah10, hg_Ah10, rfl, K_Ah10, hb⟩
    have B11 := bel_step B10 hb
    have hz11 : w10.heap.size ≤ w11.heap.size := hb.size
    have R0_11 := R0_10.kept hb
    have M_11 := M.kept hb
    have Ah10 := K_Ah10.res hg_Ah10
    go_wp2_with fail
    refine (HIM.out _ _ Ah10.sl).mono ?_
    rintro e w12 ⟨v_R2, rfl, R2, hb⟩
    have B12 := bel_step B11 hb
    have hz12 : w11.heap.size ≤ w12.heap.size := hb.size
    have R0_12 := R0_11.kept hb
    have M_12 := M_11.kept hb
    have Ah10_12 := Ah10.kept hb
    go_wp2_with fail
    refine (eqIntS_same _ _ ys _ R2.sl R0_12.sl hy).mono ?_
    rintro e w13 ⟨rfl, hb⟩
    have B13 := bel_step B12 hb
    have hz13 : w12.heap.size ≤ w13.heap.size := hb.size
    have R0_13 := R0_12.kept hb
    have M_13 := M_12.kept hb
    have R2_13 := R2.kept hb
    go_wp2_with fail
    refine (heldIntS_one _ ys.length _ _ M_13 hy).mono ?_
    rintro e w' ⟨rfl, rfl⟩
    go_wp2_with fail
    go_ret
    exact ⟨rfl, B13⟩


set_option maxHeartbeats 1600000 in
theorem walk_FnExactPowerWeights (w : World) (u_h : Option Addr) (l_h c_h : Nat) (z_h : List Int) (hr_h : IsRow .i64 w u_h l_h c_h z_h) (k : Int) (w_k : (Lit.int .i64 k).wf = true) :
    Calls Try.prog 6 #[.slice u_h l_h c_h, .int .i64 k] w fun e w' => e = .returned (.bool true) ∧ Below w.heap.size w w' := by
  obtain ⟨hs_h, hlen_h, hin_h⟩ := hr_h.sl
  generalize z_h.take l_h = h at hs_h hlen_h hin_h
  clear hr_h
  obtain ⟨k_1, k_2⟩ := bounds_i64 w_k
  by_cases hbig_h : 1048576 < l_h
  · clear hs_h hlen_h hin_h
    go_enter Try.func6, Try.ntmps6
    go_wp2
    go_ret
    exact ⟨rfl, Below.refl _ _⟩
  · have hq_h : l_h ≤ 1048576 := by omega
    exact gen_FnExactPowerWeights h k _ _ _ (onB (powA h k) (powL h k.toNat) []) (powA h k) w hs_h (by omega) (by omega) (onB_len powA_len) (fun w v_h h_h => spec_PowerWeights_any v_h h w h_h k) (fun w v_h h_h => impl_PowerWeights_any v_h h w h_h k)

end Go.Proofs.Ytgkjncgaecfbgab
