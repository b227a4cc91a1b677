
import Derived.Test.YtichkianildkgaaGreatEe
import Derived.Test.YtichkianildkgaaGreatEo
namespace Go.Proofs.YtichkianildkgaaGreat
open Go.RowKit BitX Go.MemX Go.Ch6
set_option linter.unusedVariables false


def wsB (s : List Int) (b st : Int) : Bool := sigB s && (lonB b && decide (1 ≤ st ∧ st ≤ 4))
theorem wsB_g {s : List Int} {b st : Int} (h1 : (sigB s && askB st 1) = true) (h2 : lonB b = true) : wsB s b st = true := by
  simp only [askB, Bool.and_eq_true] at h1
  unfold wsB; rw [h1.1, h2, h1.2.1]; rfl
theorem wsB_n1 {s : List Int} {b st : Int} (h1 : (sigB s && askB st 1) = false) : wsB s b st = false := by
  unfold wsB
  unfold askB at h1
  cases h : sigB s
  · rfl
  · rw [h] at h1
    have : decide (1 ≤ st ∧ st ≤ 4) = false := by simpa using h1
    rw [this]; simp
theorem wsB_n2 {s : List Int} {b st : Int} (h1 : lonB b = false) : wsB s b st = false := by unfold wsB; rw [h1]; simp
theorem wsB_t {s : List Int} {b st : Int} (h : wsB s b st = true) : SigP s ∧ (2 ≤ b ∧ b ≤ 40) ∧ (1 ≤ st ∧ st ≤ 4) := by
  unfold wsB at h
  simp only [Bool.and_eq_true] at h
  exact ⟨sigB_t h.1, lonB_t h.2.1, of_decide_eq_true h.2.2⟩
theorem sig_39 {s : List Int} (h : SigP s) : InP (-549755813888) 549755813888 s := fun x hx => by have := h.2 x hx; omega


set_option maxHeartbeats 1000000 in
theorem spec_WrappedSums_any (v : Value) (s : List Int) (b st : Int) (w : World) (hs : Sl w v s) :
    Calls Tryz.prog 7 #[v, .int .i64 b, .int .i64 st] w (Gives w (onL (wsB s b st) (sumsL b.toNat st.toNat s)) (wsB s b st)) := by
  have HS := hid hs
  clear hs
  cases h0 : (sigB s && askB st 1)
  · have HB0 := hid h0
    clear h0
    go_enter Tryz.func7, Tryz.ntmps7
    go_wp2_with fail
    refine (cbGood_is _ s _ 1 false _ HS.out HB0.out).mono ?_
    rintro e w' ⟨rfl, rfl⟩
    go_wp2_with fail
    go_ret2
    exact gives_no (wsB_n1 HB0.out) (Below.refl _ _)
  · have HB0 := hid h0
    clear h0
    cases h1 : lonB b
    · have HB1 := hid h1
      clear h1
      go_enter Tryz.func7, Tryz.ntmps7
      go_wp2_with fail
      refine (cbGood_is _ s _ 1 true _ HS.out HB0.out).mono ?_
      rintro e w' ⟨rfl, rfl⟩
      go_wp2_with fail
      refine (cbBits_is _ false _ HB1.out).mono ?_
      rintro e w' ⟨rfl, rfl⟩
      go_wp2_with fail
      go_ret2
      exact gives_no (wsB_n2 HB1.out) (Below.refl _ _)
    · have HB1 := hid h1
      clear h1
      have HT := hid (wsB_g HB0.out HB1.out)
      obtain ⟨⟨q1, q2⟩, ⟨q3, q4⟩⟩ := (wsB_t HT.out).2
      obtain ⟨q, rfl⟩ : ∃ q : Nat, b = q := ⟨b.toNat, by omega⟩
      obtain ⟨t, rfl⟩ : ∃ t : Nat, st = t := ⟨st.toNat, by omega⟩
      have HL := hid (wsB_t HT.out).1.1
      have H39 := hid (sig_39 (wsB_t HT.out).1)
      clear q1 q2 q3 q4
      have q1 := (wsB_t HT.out).2.1.1
      have q2 := (wsB_t HT.out).2.1.2
      have q3 := (wsB_t HT.out).2.2.1
      have q4 := (wsB_t HT.out).2.2.2
      have q5 : 2 ≤ q := by omega
      have q6 : q ≤ 40 := by omega
      have q7 : 1 ≤ t := by omega
      have q8 : t ≤ 4 := by omega
      go_enter Tryz.func7, Tryz.ntmps7
      go_wp2_with fail
      refine (cbGood_is _ s _ 1 true _ HS.out HB0.out).mono ?_
      rintro e w' ⟨rfl, rfl⟩
      go_wp2_with fail
      refine (cbBits_is _ true _ HB1.out).mono ?_
      rintro e w' ⟨rfl, rfl⟩
      go_wp2_with fail
      refine (cbSums_any _ s _ HS.out HL.out q t H39.out q5 q6 q7 q8).mono ?_
      rintro e w1 ⟨v_R, rfl, R, hb⟩
      have B1 := hb
      go_wp2_with fail
      refine (l1Own_res _ _ _ _ _ R (by rw [sumsL_len]; exact Nat.le_trans HL.out (by omega))).mono ?_
      rintro e w2 ⟨v_T, rfl, T, hb⟩
      have B2 := bel_step B1 hb
      have R_2 := R.kept hb
      go_wp2_with fail
      go_ret2
      exact gives_yes HT.out (T.mono B1.size) B2


set_option maxHeartbeats 1000000 in
theorem impl_WrappedSums_any (v : Value) (s : List Int) (b st : Int) (w : World) (hs : Sl w v s) :
    Calls Tryz.prog 6 #[v, .int .i64 b, .int .i64 st] w (Gives w (onL (wsB s b st) (sumsL b.toNat st.toNat s)) (wsB s b st)) := by
  have HS := hid hs
  clear hs
  cases h0 : sigB s
  · have HB0 := hid h0
    clear h0
    go_enter Tryz.func6, Tryz.ntmps6
    go_wp2_with fail
    refine (impl_IsSignal_is _ s false _ HS.out HB0.out).mono ?_
    rintro e w' ⟨rfl, rfl⟩
    go_wp2_with fail
    go_ret2
    exact gives_no (by unfold wsB; rw [HB0.out]; rfl) (Below.refl _ _)
  · have HB0 := hid h0
    clear h0
    cases h1 : lonB b
    · have HB1 := hid h1
      clear h1
      go_enter Tryz.func6, Tryz.ntmps6
      go_wp2_with fail
      refine (impl_IsSignal_is _ s true _ HS.out HB0.out).mono ?_
      rintro e w' ⟨rfl, rfl⟩
      go_wp2_with fail
      refine (isLong_is _ false _ HB1.out).mono ?_
      rintro e w' ⟨rfl, rfl⟩
      go_wp2_with fail
      go_ret2
      exact gives_no (wsB_n2 HB1.out) (Below.refl _ _)
    · have HB1 := hid h1
      clear h1
      cases h2 : decide (1 ≤ st ∧ st ≤ 4)
      · have HB2 := hid h2
        clear h2
        go_enter Tryz.func6, Tryz.ntmps6
        go_wp2_with fail
        refine (impl_IsSignal_is _ s true _ HS.out HB0.out).mono ?_
        rintro e w' ⟨rfl, rfl⟩
        go_wp2_with fail
        refine (isLong_is _ true _ HB1.out).mono ?_
        rintro e w' ⟨rfl, rfl⟩
        go_wp2_with fail
        refine (areStages_is _ false _ HB2.out).mono ?_
        rintro e w' ⟨rfl, rfl⟩
        go_wp2_with fail
        go_ret2
        exact gives_no (by unfold wsB; rw [HB0.out, HB1.out, HB2.out]; rfl) (Below.refl _ _)
      · have HB2 := hid h2
        clear h2
        have HT := hid (show wsB s b st = true from by unfold wsB; rw [HB0.out, HB1.out, HB2.out]; rfl)
        obtain ⟨⟨q1, q2⟩, ⟨q3, q4⟩⟩ := (wsB_t HT.out).2
        obtain ⟨q, rfl⟩ : ∃ q : Nat, b = q := ⟨b.toNat, by omega⟩
        obtain ⟨t, rfl⟩ : ∃ t : Nat, st = t := ⟨st.toNat, by omega⟩
        have HL := hid (wsB_t HT.out).1.1
        have H39 := hid (sig_39 (wsB_t HT.out).1)
        clear q1 q2 q3 q4
        have q1 := (wsB_t HT.out).2.1.1
        have q2 := (wsB_t HT.out).2.1.2
        have q3 := (wsB_t HT.out).2.2.1
        have q4 := (wsB_t HT.out).2.2.2
        have q5 : 2 ≤ q := by omega
        have q6 : q ≤ 40 := by omega
        have q7 : 1 ≤ t := by omega
        have q8 : t ≤ 4 := by omega
        go_enter Tryz.func6, Tryz.ntmps6
        go_wp2_with fail
        refine (impl_IsSignal_is _ s true _ HS.out HB0.out).mono ?_
        rintro e w' ⟨rfl, rfl⟩
        go_wp2_with fail
        refine (isLong_is _ true _ HB1.out).mono ?_
        rintro e w' ⟨rfl, rfl⟩
        go_wp2_with fail
        refine (areStages_is _ true _ HB2.out).mono ?_
        rintro e w' ⟨rfl, rfl⟩
        go_wp2_with fail
        refine (wrappedSums_any _ s _ HS.out HL.out q t H39.out q5 q6 q7 q8).mono ?_
        rintro e w1 ⟨v_R, rfl, R, B1⟩
        go_wp2_with fail
        go_ret2
        exact gives_yes HT.out R B1


set_option maxHeartbeats 1000000 in
theorem spec_WrappedCombs_any (v : Value) (s : List Int) (b st : Int) (w : World) (hs : Sl w v s) :
    Calls Tryz.prog 9 #[v, .int .i64 b, .int .i64 st] w (Gives w (onL (wsB s b st) (difsL b.toNat st.toNat s)) (wsB s b st)) := by
  have HS := hid hs
  clear hs
  cases h0 : (sigB s && askB st 1)
  · have HB0 := hid h0
    clear h0
    go_enter Tryz.func9, Tryz.ntmps9
    go_wp2_with fail
    refine (cbGood_is _ s _ 1 false _ HS.out HB0.out).mono ?_
    rintro e w' ⟨rfl, rfl⟩
    go_wp2_with fail
    go_ret2
    exact gives_no (wsB_n1 HB0.out) (Below.refl _ _)
  · have HB0 := hid h0
    clear h0
    cases h1 : lonB b
    · have HB1 := hid h1
      clear h1
      go_enter Tryz.func9, Tryz.ntmps9
      go_wp2_with fail
      refine (cbGood_is _ s _ 1 true _ HS.out HB0.out).mono ?_
      rintro e w' ⟨rfl, rfl⟩
      go_wp2_with fail
      refine (cbBits_is _ false _ HB1.out).mono ?_
      rintro e w' ⟨rfl, rfl⟩
      go_wp2_with fail
      go_ret2
      exact gives_no (wsB_n2 HB1.out) (Below.refl _ _)
    · have HB1 := hid h1
      clear h1
      have HT := hid (wsB_g HB0.out HB1.out)
      obtain ⟨⟨q1, q2⟩, ⟨q3, q4⟩⟩ := (wsB_t HT.out).2
      obtain ⟨q, rfl⟩ : ∃ q : Nat, b = q := ⟨b.toNat, by omega⟩
      obtain ⟨t, rfl⟩ : ∃ t : Nat, st = t := ⟨st.toNat, by omega⟩
      have HL := hid (wsB_t HT.out).1.1
      have H39 := hid (sig_39 (wsB_t HT.out).1)
      clear q1 q2 q3 q4
      have q1 := (wsB_t HT.out).2.1.1
      have q2 := (wsB_t HT.out).2.1.2
      have q3 := (wsB_t HT.out).2.2.1
      have q4 := (wsB_t HT.out).2.2.2
      have q5 : 2 ≤ q := by omega
      have q6 : q ≤ 40 := by omega
      have q7 : 1 ≤ t := by omega
      have q8 : t ≤ 4 := by omega
      go_enter Tryz.func9, Tryz.ntmps9
      go_wp2_with fail
      refine (cbGood_is _ s _ 1 true _ HS.out HB0.out).mono ?_
      rintro e w' ⟨rfl, rfl⟩
      go_wp2_with fail
      refine (cbBits_is _ true _ HB1.out).mono ?_
      rintro e w' ⟨rfl, rfl⟩
      go_wp2_with fail
      refine (cbCombs_any _ s _ HS.out HL.out q t H39.out q5 q6 q7 q8).mono ?_
      rintro e w1 ⟨v_R, rfl, R, hb⟩
      have B1 := hb
      go_wp2_with fail
      refine (l1Own_res _ _ _ _ _ R (by rw [difsL_len]; exact Nat.le_trans HL.out (by omega))).mono ?_
      rintro e w2 ⟨v_T, rfl, T, hb⟩
      have B2 := bel_step B1 hb
      have R_2 := R.kept hb
      go_wp2_with fail
      go_ret2
      exact gives_yes HT.out (T.mono B1.size) B2


set_option maxHeartbeats 1000000 in
theorem impl_WrappedCombs_any (v : Value) (s : List Int) (b st : Int) (w : World) (hs : Sl w v s) :
    Calls Tryz.prog 8 #[v, .int .i64 b, .int .i64 st] w (Gives w (onL (wsB s b st) (difsL b.toNat st.toNat s)) (wsB s b st)) := by
  have HS := hid hs
  clear hs
  cases h0 : sigB s
  · have HB0 := hid h0
    clear h0
    go_enter Tryz.func8, Tryz.ntmps8
    go_wp2_with fail
    refine (impl_IsSignal_is _ s false _ HS.out HB0.out).mono ?_
    rintro e w' ⟨rfl, rfl⟩
    go_wp2_with fail
    go_ret2
    exact gives_no (by unfold wsB; rw [HB0.out]; rfl) (Below.refl _ _)
  · have HB0 := hid h0
    clear h0
    cases h1 : lonB b
    · have HB1 := hid h1
      clear h1
      go_enter Tryz.func8, Tryz.ntmps8
      go_wp2_with fail
      refine (impl_IsSignal_is _ s true _ HS.out HB0.out).mono ?_
      rintro e w' ⟨rfl, rfl⟩
      go_wp2_with fail
      refine (isLong_is _ false _ HB1.out).mono ?_
      rintro e w' ⟨rfl, rfl⟩
      go_wp2_with fail
      go_ret2
      exact gives_no (wsB_n2 HB1.out) (Below.refl _ _)
    · have HB1 := hid h1
      clear h1
      cases h2 : decide (1 ≤ st ∧ st ≤ 4)
      · have HB2 := hid h2
        clear h2
        go_enter Tryz.func8, Tryz.ntmps8
        go_wp2_with fail
        refine (impl_IsSignal_is _ s true _ HS.out HB0.out).mono ?_
        rintro e w' ⟨rfl, rfl⟩
        go_wp2_with fail
        refine (isLong_is _ true _ HB1.out).mono ?_
        rintro e w' ⟨rfl, rfl⟩
        go_wp2_with fail
        refine (areStages_is _ false _ HB2.out).mono ?_
        rintro e w' ⟨rfl, rfl⟩
        go_wp2_with fail
        go_ret2
        exact gives_no (by unfold wsB; rw [HB0.out, HB1.out, HB2.out]; rfl) (Below.refl _ _)
      · have HB2 := hid h2
        clear h2
        have HT := hid (show wsB s b st = true from by unfold wsB; rw [HB0.out, HB1.out, HB2.out]; rfl)
        obtain ⟨⟨q1, q2⟩, ⟨q3, q4⟩⟩ := (wsB_t HT.out).2
        obtain ⟨q, rfl⟩ : ∃ q : Nat, b = q := ⟨b.toNat, by omega⟩
        obtain ⟨t, rfl⟩ : ∃ t : Nat, st = t := ⟨st.toNat, by omega⟩
        have HL := hid (wsB_t HT.out).1.1
        have H39 := hid (sig_39 (wsB_t HT.out).1)
        clear q1 q2 q3 q4
        have q1 := (wsB_t HT.out).2.1.1
        have q2 := (wsB_t HT.out).2.1.2
        have q3 := (wsB_t HT.out).2.2.1
        have q4 := (wsB_t HT.out).2.2.2
        have q5 : 2 ≤ q := by omega
        have q6 : q ≤ 40 := by omega
        have q7 : 1 ≤ t := by omega
        have q8 : t ≤ 4 := by omega
        go_enter Tryz.func8, Tryz.ntmps8
        go_wp2_with fail
        refine (impl_IsSignal_is _ s true _ HS.out HB0.out).mono ?_
        rintro e w' ⟨rfl, rfl⟩
        go_wp2_with fail
        refine (isLong_is _ true _ HB1.out).mono ?_
        rintro e w' ⟨rfl, rfl⟩
        go_wp2_with fail
        refine (areStages_is _ true _ HB2.out).mono ?_
        rintro e w' ⟨rfl, rfl⟩
        go_wp2_with fail
        refine (wrappedDifferences_any _ s _ HS.out HL.out q t H39.out q5 q6 q7 q8).mono ?_
        rintro e w1 ⟨v_R, rfl, R, hb⟩
        have B1 := hb
        go_wp2_with fail
        go_ret2
        exact gives_yes HT.out R B1


set_option maxHeartbeats 1000000 in
theorem impl_CountWraps_any (v : Value) (s : List Int) (b st : Int) (w : World) (hs : Sl w v s) :
    Calls Tryz.prog 10 #[v, .int .i64 b, .int .i64 st] w fun e w' => e = .returned (.tuple #[.int .i64 (onI (wsB s b st) (wraps b.toNat st.toNat s.length (at0 s))), .bool (wsB s b st)]) ∧ Below w.heap.size w w' := by
  have HS := hid hs
  clear hs
  cases h0 : sigB s
  · have HB0 := hid h0
    clear h0
    go_enter Tryz.func10, Tryz.ntmps10
    go_wp2_with fail
    refine (impl_IsSignal_is _ s false _ HS.out HB0.out).mono ?_
    rintro e w' ⟨rfl, rfl⟩
    go_wp2_with fail
    go_ret2
    exact ⟨onI_no (by unfold wsB; rw [HB0.out]; rfl), Below.refl _ _⟩
  · have HB0 := hid h0
    clear h0
    cases h1 : lonB b
    · have HB1 := hid h1
      clear h1
      go_enter Tryz.func10, Tryz.ntmps10
      go_wp2_with fail
      refine (impl_IsSignal_is _ s true _ HS.out HB0.out).mono ?_
      rintro e w' ⟨rfl, rfl⟩
      go_wp2_with fail
      refine (isLong_is _ false _ HB1.out).mono ?_
      rintro e w' ⟨rfl, rfl⟩
      go_wp2_with fail
      go_ret2
      exact ⟨onI_no (wsB_n2 HB1.out), Below.refl _ _⟩
    · have HB1 := hid h1
      clear h1
      cases h2 : decide (1 ≤ st ∧ st ≤ 4)
      · have HB2 := hid h2
        clear h2
        go_enter Tryz.func10, Tryz.ntmps10
        go_wp2_with fail
        refine (impl_IsSignal_is _ s true _ HS.out HB0.out).mono ?_
        rintro e w' ⟨rfl, rfl⟩
        go_wp2_with fail
        refine (isLong_is _ true _ HB1.out).mono ?_
        rintro e w' ⟨rfl, rfl⟩
        go_wp2_with fail
        refine (areStages_is _ false _ HB2.out).mono ?_
        rintro e w' ⟨rfl, rfl⟩
        go_wp2_with fail
        go_ret2
        exact ⟨onI_no (by unfold wsB; rw [HB0.out, HB1.out, HB2.out]; rfl), Below.refl _ _⟩
      · have HB2 := hid h2
        clear h2
        have HT := hid (show wsB s b st = true from by unfold wsB; rw [HB0.out, HB1.out, HB2.out]; rfl)
        obtain ⟨⟨q1, q2⟩, ⟨q3, q4⟩⟩ := (wsB_t HT.out).2
        obtain ⟨q, rfl⟩ : ∃ q : Nat, b = q := ⟨b.toNat, by omega⟩
        obtain ⟨t, rfl⟩ : ∃ t : Nat, st = t := ⟨st.toNat, by omega⟩
        have HL := hid (wsB_t HT.out).1.1
        have H39 := hid (sig_39 (wsB_t HT.out).1)
        clear q1 q2 q3 q4
        have q1 := (wsB_t HT.out).2.1.1
        have q2 := (wsB_t HT.out).2.1.2
        have q3 := (wsB_t HT.out).2.2.1
        have q4 := (wsB_t HT.out).2.2.2
        have q5 : 2 ≤ q := by omega
        have q6 : q ≤ 40 := by omega
        have q7 : 1 ≤ t := by omega
        have q8 : t ≤ 4 := by omega
        go_enter Tryz.func10, Tryz.ntmps10
        go_wp2_with fail
        refine (impl_IsSignal_is _ s true _ HS.out HB0.out).mono ?_
        rintro e w' ⟨rfl, rfl⟩
        go_wp2_with fail
        refine (isLong_is _ true _ HB1.out).mono ?_
        rintro e w' ⟨rfl, rfl⟩
        go_wp2_with fail
        refine (areStages_is _ true _ HB2.out).mono ?_
        rintro e w' ⟨rfl, rfl⟩
        go_wp2_with fail
        refine (wrappedSums_any _ s _ HS.out HL.out q t H39.out q5 q6 q7 q8).mono ?_
        rintro e w1 ⟨v_R, rfl, R, B1⟩
        go_wp2_with fail
        go_ret2
        exact ⟨onI_yes HT.out rfl, B1⟩


theorem ws_len {s ys : List Int} {b st : Int} (h : ys.length = s.length) (hl : s.length ≤ 1048576) : (onL (wsB s b st) ys).length ≤ 2000000 := onL_len fun _ => by omega


end Go.Proofs.YtichkianildkgaaGreat
