
import Derived.Test.YtcicglebmmlkdaaEe
import Derived.Test.YtcicglebmmlkdaaEo
namespace Go.Proofs.Ytcicglebmmlkdaa
open Go.RowKit BitX Go.MemX Go.Ch6
set_option linter.unusedVariables false


def wsB (s : List Int) (b st : Int) : Bool := sigB s && (lonB b && decide (1 ≤ st ∧ st ≤ 4))
theorem wsB_g {s : List Int} {b st : Int} (h1 : (sigB s && askB st 1) = true) (h2 : lonB b = true) : wsB s b st = true := by
  simp only [askB, Bool.and_eq_true] at h1
  unfold wsB; rw [h1.1, h2, h1.2.1]; rfl
theorem wsB_n1 {s : List Int} {b st : Int} (h1 : (sigB s && askB st 1) = false) : wsB s b st = false := by
  unfold wsB
  unfold askB at h1
  cases h : sigB s
  · rfl
  · rw [h] at h1
    have : decide (1 ≤ st ∧ st ≤ 4) = false := by simpa using h1
    rw [this]; simp
theorem wsB_n2 {s : List Int} {b st : Int} (h1 : lonB b = false) : wsB s b st = false := by unfold wsB; rw [h1]; simp
theorem wsB_t {s : List Int} {b st : Int} (h : wsB s b st = true) : SigP s ∧ (2 ≤ b ∧ b ≤ 40) ∧ (1 ≤ st ∧ st ≤ 4) := by
  unfold wsB at h
  simp only [Bool.and_eq_true] at h
  exact ⟨sigB_t h.1, lonB_t h.2.1, of_decide_eq_true h.2.2⟩
theorem sig_39 {s : List Int} (h : SigP s) : InP (-549755813888) 549755813888 s := fun x hx => by have := h.2 x hx; omega


set_option maxHeartbeats 1000000 in
theorem spec_WrappedSums_any (v : Value) (s : List Int) (b st : Int) (w : World) (hs : Sl w v s) :
    Calls Try.prog 9 #[v, .int .i64 b, .int .i64 st] w (Gives w (onL (wsB s b st) (sumsL b.toNat st.toNat s)) (wsB s b st)) := by
  have HS := hid hs
  clear hs
  cases h0 : (sigB s && askB st 1)
  · have HB0 := hid h0
    clear h0
    go_enter Try.func9, Try.ntmps9
    go_wp2_with fail
    refine (cbGood_is _ s _ 1 false _ HS.out HB0.out).mono ?_
    rintro e w' ⟨rfl, rfl⟩
    go_wp2_with fail
    go_ret2
    exact gives_no (wsB_n1 HB0.out) (Below.refl _ _)
  · have HB0 := hid h0
    clear h0
    cases h1 : lonB b
    · have HB1 := hid h1
      clear h1
      go_enter Try.func9, Try.ntmps9
      go_wp2_with fail
      refine (cbGood_is _ s _ 1 true _ HS.out HB0.out).mono ?_
      rintro e w' ⟨rfl, rfl⟩
      go_wp2_with fail
      refine (cbBits_is _ false _ HB1.out).mono ?_
      rintro e w' ⟨rfl, rfl⟩
      go_wp2_with fail
      go_ret2
      exact gives_no (wsB_n2 HB1.out) (Below.refl _ _)
    · have HB1 := hid h1
      clear h1
      have HT := hid (wsB_g HB0.out HB1.out)
      obtain ⟨⟨q1, q2⟩, ⟨q3, q4⟩⟩ := (wsB_t HT.out).2
      obtain ⟨q, rfl⟩ : ∃ q : Nat, b = q := ⟨b.toNat, by omega⟩
      obtain ⟨t, rfl⟩ : ∃ t : Nat, st = t := ⟨st.toNat, by omega⟩
      have HL := hid (wsB_t HT.out).1.1
      have H39 := hid (sig_39 (wsB_t HT.out).1)
      clear q1 q2 q3 q4
      have q1 := (wsB_t HT.out).2.1.1
      have q2 := (wsB_t HT.out).2.1.2
      have q3 := (wsB_t HT.out).2.2.1
      have q4 := (wsB_t HT.out).2.2.2
      have q5 : 2 ≤ q := by omega
      have q6 : q ≤ 40 := by omega
      have q7 : 1 ≤ t := by omega
      have q8 : t ≤ 4 := by omega
      go_enter Try.func9, Try.ntmps9
      go_wp2_with fail
      refine (cbGood_is _ s _ 1 true _ HS.out HB0.out).mono ?_
      rintro e w' ⟨rfl, rfl⟩
      go_wp2_with fail
      refine (cbBits_is _ true _ HB1.out).mono ?_
      rintro e w' ⟨rfl, rfl⟩
      go_wp2_with fail
      refine (cbSums_any _ s _ HS.out HL.out q t H39.out q5 q6 q7 q8).mono ?_
      rintro e w1 ⟨v_R, rfl, R, hb⟩
      have B1 := hb
      go_wp2_with fail
      refine (l1Own_res _ _ _ _ _ R (by rw [sumsL_len]; exact Nat.le_trans HL.out (by omega))).mono ?_
      rintro e w2 ⟨v_T, rfl, T, hb⟩
      have B2 := bel_step B1 hb
      have R_2 := R.kept hb
      go_wp2_with fail
      go_ret2
      exact gives_yes HT.out (T.mono B1.size) B2


set_option maxHeartbeats 1000000 in
theorem impl_WrappedSums_any (v : Value) (s : List Int) (b st : Int) (w : World) (hs : Sl w v s) :
    Calls Try.prog 11 #[v, .int .i64 b, .int .i64 st] w (Gives w (onL (wsB s b st) (sumsL b.toNat st.toNat s)) (wsB s b st)) := by
  have HS := hid hs
  clear hs
  cases h0 : sigB s
  · have HB0 := hid h0
    clear h0
    go_enter Try.func11, Try.ntmps11
    go_wp2_with fail
    refine (impl_IsSignal_is _ s false _ HS.out HB0.out).mono ?_
    rintro e w' ⟨rfl, rfl⟩
    go_wp2_with fail
    go_ret2
    exact gives_no (by unfold wsB; rw [HB0.out]; rfl) (Below.refl _ _)
  · have HB0 := hid h0
    clear h0
    cases h1 : lonB b
    · have HB1 := hid h1
      clear h1
      go_enter Try.func11, Try.ntmps11
      go_wp2_with fail
      refine (impl_IsSignal_is _ s true _ HS.out HB0.out).mono ?_
      rintro e w' ⟨rfl, rfl⟩
      go_wp2_with fail
      refine (isLong_is _ false _ HB1.out).mono ?_
      rintro e w' ⟨rfl, rfl⟩
      go_wp2_with fail
      go_ret2
      exact gives_no (wsB_n2 HB1.out) (Below.refl _ _)
    · have HB1 := hid h1
      clear h1
      cases h2 : decide (1 ≤ st ∧ st ≤ 4)
      · have HB2 := hid h2
        clear h2
        go_enter Try.func11, Try.ntmps11
        go_wp2_with fail
        refine (impl_IsSignal_is _ s true _ HS.out HB0.out).mono ?_
        rintro e w' ⟨rfl, rfl⟩
        go_wp2_with fail
        refine (isLong_is _ true _ HB1.out).mono ?_
        rintro e w' ⟨rfl, rfl⟩
        go_wp2_with fail
        refine (areStages_is _ false _ HB2.out).mono ?_
        rintro e w' ⟨rfl, rfl⟩
        go_wp2_with fail
        go_ret2
        exact gives_no (by unfold wsB; rw [HB0.out, HB1.out, HB2.out]; rfl) (Below.refl _ _)
      · have HB2 := hid h2
        clear h2
        have HT := hid (show wsB s b st = true from by unfold wsB; rw [HB0.out, HB1.out, HB2.out]; rfl)
        obtain ⟨⟨q1, q2⟩, ⟨q3, q4⟩⟩ := (wsB_t HT.out).2
        obtain ⟨q, rfl⟩ : ∃ q : Nat, b = q := ⟨b.toNat, by omega⟩
        obtain ⟨t, rfl⟩ : ∃ t : Nat, st = t := ⟨st.toNat, by omega⟩
        have HL := hid (wsB_t HT.out).1.1
        have H39 := hid (sig_39 (wsB_t HT.out).1)
        clear q1 q2 q3 q4
        have q1 := (wsB_t HT.out).2.1.1
        have q2 := (wsB_t HT.out).2.1.2
        have q3 := (wsB_t HT.out).2.2.1
        have q4 := (wsB_t HT.out).2.2.2
        have q5 : 2 ≤ q := by omega
        have q6 : q ≤ 40 := by omega
        have q7 : 1 ≤ t := by omega
        have q8 : t ≤ 4 := by omega
        go_enter Try.func11, Try.ntmps11
        go_wp2_with fail
        refine (impl_IsSignal_is _ s true _ HS.out HB0.out).mono ?_
        rintro e w' ⟨rfl, rfl⟩
        go_wp2_with fail
        refine (isLong_is _ true _ HB1.out).mono ?_
        rintro e w' ⟨rfl, rfl⟩
        go_wp2_with fail
        refine (areStages_is _ true _ HB2.out).mono ?_
        rintro e w' ⟨rfl, rfl⟩
        go_wp2_with fail
        refine (wrappedSums_any _ s _ HS.out HL.out q t H39.out q5 q6 q7 q8).mono ?_
        rintro e w1 ⟨v_R, rfl, R, B1⟩
        go_wp2_with fail
        go_ret2
        exact gives_yes HT.out R B1


set_option maxHeartbeats 1000000 in
theorem spec_WrappedCombs_any (v : Value) (s : List Int) (b st : Int) (w : World) (hs : Sl w v s) :
    Calls Try.prog 15 #[v, .int .i64 b, .int .i64 st] w (Gives w (onL (wsB s b st) (difsL b.toNat st.toNat s)) (wsB s b st)) := by
  have HS := hid hs
  clear hs
  cases h0 : (sigB s && askB st 1)
  · have HB0 := hid h0
    clear h0
    go_enter Try.func15, Try.ntmps15
    go_wp2_with fail
    refine (cbGood_is _ s _ 1 false _ HS.out HB0.out).mono ?_
    rintro e w' ⟨rfl, rfl⟩
    go_wp2_with fail
    go_ret2
    exact gives_no (wsB_n1 HB0.out) (Below.refl _ _)
  · have HB0 := hid h0
    clear h0
    cases h1 : lonB b
    · have HB1 := hid h1
      clear h1
      go_enter Try.func15, Try.ntmps15
      go_wp2_with fail
      refine (cbGood_is _ s _ 1 true _ HS.out HB0.out).mono ?_
      rintro e w' ⟨rfl, rfl⟩
      go_wp2_with fail
      refine (cbBits_is _ false _ HB1.out).mono ?_
      rintro e w' ⟨rfl, rfl⟩
      go_wp2_with fail
      go_ret2
      exact gives_no (wsB_n2 HB1.out) (Below.refl _ _)
    · have HB1 := hid h1
      clear h1
      have HT := hid (wsB_g HB0.out HB1.out)
      obtain ⟨⟨q1, q2⟩, ⟨q3, q4⟩⟩ := (wsB_t HT.out).2
      obtain ⟨q, rfl⟩ : ∃ q : Nat, b = q := ⟨b.toNat, by omega⟩
      obtain ⟨t, rfl⟩ : ∃ t : Nat, st = t := ⟨st.toNat, by omega⟩
      have HL := hid (wsB_t HT.out).1.1
      have H39 := hid (sig_39 (wsB_t HT.out).1)
      clear q1 q2 q3 q4
      have q1 := (wsB_t HT.out).2.1.1
      have q2 := (wsB_t HT.out).2.1.2
      have q3 := (wsB_t HT.out).2.2.1
      have q4 := (wsB_t HT.out).2.2.2
      have q5 : 2 ≤ q := by omega
      have q6 : q ≤ 40 := by omega
      have q7 : 1 ≤ t := by omega
      have q8 : t ≤ 4 := by omega
      go_enter Try.func15, Try.ntmps15
      go_wp2_with fail
      refine (cbGood_is _ s _ 1 true _ HS.out HB0.out).mono ?_
      rintro e w' ⟨rfl, rfl⟩
      go_wp2_with fail
      refine (cbBits_is _ true _ HB1.out).mono ?_
      rintro e w' ⟨rfl, rfl⟩
      go_wp2_with fail
      refine (cbCombs_any _ s _ HS.out HL.out q t H39.out q5 q6 q7 q8).mono ?_
      rintro e w1 ⟨v_R, rfl, R, hb⟩
      have B1 := hb
      go_wp2_with fail
      refine (l1Own_res _ _ _ _ _ R (by rw [difsL_len]; exact Nat.le_trans HL.out (by omega))).mono ?_
      rintro e w2 ⟨v_T, rfl, T, hb⟩
      have B2 := bel_step B1 hb
      have R_2 := R.kept hb
      go_wp2_with fail
      go_ret2
      exact gives_yes HT.out (T.mono B1.size) B2


set_option maxHeartbeats 1000000 in
theorem impl_WrappedCombs_any (v : Value) (s : List Int) (b st : Int) (w : World) (hs : Sl w v s) :
    Calls Try.prog 16 #[v, .int .i64 b, .int .i64 st] w (Gives w (onL (wsB s b st) (difsL b.toNat st.toNat s)) (wsB s b st)) := by
  have HS := hid hs
  clear hs
  cases h0 : sigB s
  · have HB0 := hid h0
    clear h0
    go_enter Try.func16, Try.ntmps16
    go_wp2_with fail
    refine (impl_IsSignal_is _ s false _ HS.out HB0.out).mono ?_
    rintro e w' ⟨rfl, rfl⟩
    go_wp2_with fail
    go_ret2
    exact gives_no (by unfold wsB; rw [HB0.out]; rfl) (Below.refl _ _)
  · have HB0 := hid h0
    clear h0
    cases h1 : lonB b
    · have HB1 := hid h1
      clear h1
      go_enter Try.func16, Try.ntmps16
      go_wp2_with fail
      refine (impl_IsSignal_is _ s true _ HS.out HB0.out).mono ?_
      rintro e w' ⟨rfl, rfl⟩
      go_wp2_with fail
      refine (isLong_is _ false _ HB1.out).mono ?_
      rintro e w' ⟨rfl, rfl⟩
      go_wp2_with fail
      go_ret2
      exact gives_no (wsB_n2 HB1.out) (Below.refl _ _)
    · have HB1 := hid h1
      clear h1
      cases h2 : decide (1 ≤ st ∧ st ≤ 4)
      · have HB2 := hid h2
        clear h2
        go_enter Try.func16, Try.ntmps16
        go_wp2_with fail
        refine (impl_IsSignal_is _ s true _ HS.out HB0.out).mono ?_
        rintro e w' ⟨rfl, rfl⟩
        go_wp2_with fail
        refine (isLong_is _ true _ HB1.out).mono ?_
        rintro e w' ⟨rfl, rfl⟩
        go_wp2_with fail
        refine (areStages_is _ false _ HB2.out).mono ?_
        rintro e w' ⟨rfl, rfl⟩
        go_wp2_with fail
        go_ret2
        exact gives_no (by unfold wsB; rw [HB0.out, HB1.out, HB2.out]; rfl) (Below.refl _ _)
      · have HB2 := hid h2
        clear h2
        have HT := hid (show wsB s b st = true from by unfold wsB; rw [HB0.out, HB1.out, HB2.out]; rfl)
        obtain ⟨⟨q1, q2⟩, ⟨q3, q4⟩⟩ := (wsB_t HT.out).2
        obtain ⟨q, rfl⟩ : ∃ q : Nat, b = q := ⟨b.toNat, by omega⟩
        obtain ⟨t, rfl⟩ : ∃ t : Nat, st = t := ⟨st.toNat, by omega⟩
        have HL := hid (wsB_t HT.out).1.1
        have H39 := hid (sig_39 (wsB_t HT.out).1)
        clear q1 q2 q3 q4
        have q1 := (wsB_t HT.out).2.1.1
        have q2 := (wsB_t HT.out).2.1.2
        have q3 := (wsB_t HT.out).2.2.1
        have q4 := (wsB_t HT.out).2.2.2
        have q5 : 2 ≤ q := by omega
        have q6 : q ≤ 40 := by omega
        have q7 : 1 ≤ t := by omega
        have q8 : t ≤ 4 := by omega
        go_enter Try.func16, Try.ntmps16
        go_wp2_with fail
        refine (impl_IsSignal_is _ s true _ HS.out HB0.out).mono ?_
        rintro e w' ⟨rfl, rfl⟩
        go_wp2_with fail
        refine (isLong_is _ true _ HB1.out).mono ?_
        rintro e w' ⟨rfl, rfl⟩
        go_wp2_with fail
        refine (areStages_is _ true _ HB2.out).mono ?_
        rintro e w' ⟨rfl, rfl⟩
        go_wp2_with fail
        refine (wrappedDifferences_any _ s _ HS.out HL.out q t H39.out q5 q6 q7 q8).mono ?_
        rintro e w1 ⟨v_R, rfl, R, hb⟩
        have B1 := hb
        go_wp2_with fail
        go_ret2
        exact gives_yes HT.out R B1


set_option maxHeartbeats 1000000 in
theorem impl_CountWraps_any (v : Value) (s : List Int) (b st : Int) (w : World) (hs : Sl w v s) :
    Calls Try.prog 18 #[v, .int .i64 b, .int .i64 st] w fun e w' => e = .returned (.tuple #[.int .i64 (onI (wsB s b st) (wraps b.toNat st.toNat s.length (at0 s))), .bool (wsB s b st)]) ∧ Below w.heap.size w w' := by
  have HS := hid hs
  clear hs
  cases h0 : sigB s
  · have HB0 := hid h0
    clear h0
    go_enter Try.func18, Try.ntmps18
    go_wp2_with fail
    refine (impl_IsSignal_is _ s false _ HS.out HB0.out).mono ?_
    rintro e w' ⟨rfl, rfl⟩
    go_wp2_with fail
    go_ret2
    exact ⟨onI_no (by unfold wsB; rw [HB0.out]; rfl), Below.refl _ _⟩
  · have HB0 := hid h0
    clear h0
    cases h1 : lonB b
    · have HB1 := hid h1
      clear h1
      go_enter Try.func18, Try.ntmps18
      go_wp2_with fail
      refine (impl_IsSignal_is _ s true _ HS.out HB0.out).mono ?_
      rintro e w' ⟨rfl, rfl⟩
      go_wp2_with fail
      refine (isLong_is _ false _ HB1.out).mono ?_
      rintro e w' ⟨rfl, rfl⟩
      go_wp2_with fail
      go_ret2
      exact ⟨onI_no (wsB_n2 HB1.out), Below.refl _ _⟩
    · have HB1 := hid h1
      clear h1
      cases h2 : decide (1 ≤ st ∧ st ≤ 4)
      · have HB2 := hid h2
        clear h2
        go_enter Try.func18, Try.ntmps18
        go_wp2_with fail
        refine (impl_IsSignal_is _ s true _ HS.out HB0.out).mono ?_
        rintro e w' ⟨rfl, rfl⟩
        go_wp2_with fail
        refine (isLong_is _ true _ HB1.out).mono ?_
        rintro e w' ⟨rfl, rfl⟩
        go_wp2_with fail
        refine (areStages_is _ false _ HB2.out).mono ?_
        rintro e w' ⟨rfl, rfl⟩
        go_wp2_with fail
        go_ret2
        exact ⟨onI_no (by unfold wsB; rw [HB0.out, HB1.out, HB2.out]; rfl), Below.refl _ _⟩
      · have HB2 := hid h2
        clear h2
        have HT := hid (show wsB s b st = true from by unfold wsB; rw [HB0.out, HB1.out, HB2.out]; rfl)
        obtain ⟨⟨q1, q2⟩, ⟨q3, q4⟩⟩ := (wsB_t HT.out).2
        obtain ⟨q, rfl⟩ : ∃ q : Nat, b = q := ⟨b.toNat, by omega⟩
        obtain ⟨t, rfl⟩ : ∃ t : Nat, st = t := ⟨st.toNat, by omega⟩
        have HL := hid (wsB_t HT.out).1.1
        have H39 := hid (sig_39 (wsB_t HT.out).1)
        clear q1 q2 q3 q4
        have q1 := (wsB_t HT.out).2.1.1
        have q2 := (wsB_t HT.out).2.1.2
        have q3 := (wsB_t HT.out).2.2.1
        have q4 := (wsB_t HT.out).2.2.2
        have q5 : 2 ≤ q := by omega
        have q6 : q ≤ 40 := by omega
        have q7 : 1 ≤ t := by omega
        have q8 : t ≤ 4 := by omega
        go_enter Try.func18, Try.ntmps18
        go_wp2_with fail
        refine (impl_IsSignal_is _ s true _ HS.out HB0.out).mono ?_
        rintro e w' ⟨rfl, rfl⟩
        go_wp2_with fail
        refine (isLong_is _ true _ HB1.out).mono ?_
        rintro e w' ⟨rfl, rfl⟩
        go_wp2_with fail
        refine (areStages_is _ true _ HB2.out).mono ?_
        rintro e w' ⟨rfl, rfl⟩
        go_wp2_with fail
        refine (wrappedSums_any _ s _ HS.out HL.out q t H39.out q5 q6 q7 q8).mono ?_
        rintro e w1 ⟨v_R, rfl, R, B1⟩
        go_wp2_with fail
        go_ret2
        exact ⟨onI_yes HT.out rfl, B1⟩


theorem ws_len {s ys : List Int} {b st : Int} (h : ys.length = s.length) (hl : s.length ≤ 1048576) : (onL (wsB s b st) ys).length ≤ 2000000 := onL_len fun _ => by omega


set_option maxHeartbeats 1600000 in
theorem gen_FnExactWrappedSums (s : List Int) (b : Int) (st : Int) (u_s : Option Addr) (l_s c_s : Nat) (ys : List Int) (ok : Bool) (w : World) (hs_s : Sl w (.slice u_s l_s c_s) s) (ll_s : l_s ≤ 1048576) (hl_s : s.length ≤ 1048576) (hy : ys.length ≤ 2000000) (hspec : ∀ (w : World) (v_s : Value), Sl w v_s s → Calls Try.prog 9 #[v_s, .int .i64 b, .int .i64 st] w (Gives w ys ok)) (himpl : ∀ (w : World) (v_s : Value), Sl w v_s s → Calls Try.prog 11 #[v_s, .int .i64 b, .int .i64 st] w (Gives w ys ok)) :
    Calls Try.prog 3 #[.slice u_s l_s c_s, .int .i64 b, .int .i64 st] w fun e w' => e = .returned (.bool true) ∧ Below w.heap.size w w' := by
  have HSs := hid hs_s
  clear hs_s
  have HSP := hid hspec
  have HIM := hid himpl
  clear hspec himpl
  all_goals cases ok
  all_goals
    go_enter Try.func3, Try.ntmps3
    go_wp2_with fail
    refine (toIntS_any _ s _ HSs.out (by omega)).mono ?_
    rintro e w1 ⟨g_As0, hg_As0, rfl, K_As0, hb⟩
    have B1 := hb
    have hz1 : w.heap.size ≤ w1.heap.size := by first | exact hb.size | (have := hb.size; simp at this; omega)
    have As0 := K_As0.res hg_As0
    go_wp2_with fail
    refine (HSP.out _ _ As0.sl).mono ?_
    rintro e w2 ⟨v_R0, rfl, R0, hb⟩
    have B2 := bel_step B1 hb
    have hz2 : w1.heap.size ≤ w2.heap.size := hb.size
    have As0_2 := As0.kept hb
    have hlt0 : ∀ g, v_R0.ownBlock = some g → g < w2.heap.size := fun g hg => R0.lt hg
    have Hlt0 := hid hlt0
    clear hlt0
    go_wp2_with fail
    refine (toIntS_any _ s _ (HSs.out.kept B2) (by omega)).mono ?_
    rintro e w3 ⟨g_Xs, hg_Xs, rfl, K_Xs, hb⟩
    have B3 := bel_step B2 hb
    have hz3 : w2.heap.size ≤ w3.heap.size := hb.size
    have R0_3 := R0.kept hb
    have Xs := K_Xs.res hg_Xs
    have hlt_Xs := K_Xs.lt
    have hne_Xs : ∀ g, v_R0.ownBlock = some g → g ≠ g_Xs := fun g hg => by have a1 := Hlt0.out g hg; omega
    have Hne_Xs := hid hne_Xs
    clear hne_Xs
    have hxl_Xs : g_Xs < w3.heap.size := Xs.lt rfl
    go_wp2_with fail
    refine (HIM.out _ _ Xs.sl).mono ?_
    rintro e w4 ⟨v_R1, rfl, R1, hb⟩
    have B4 := bel_step B3 hb
    have hz4 : w3.heap.size ≤ w4.heap.size := hb.size
    have R0_4 := R0_3.kept hb
    have Xs_4 := Xs.kept hb
    have hne1_Xs : ∀ g, v_R1.ownBlock = some g → g ≠ g_Xs := fun g hg => by have a1 := R1.ge hg; omega
    have Hne1_Xs := hid hne1_Xs
    clear hne1_Xs
    have hne01 : ∀ g, v_R0.ownBlock = some g → v_R1.ownBlock ≠ some g := fun g hg e => by have a1 := R1.ge e; have a2 := Hlt0.out g hg; omega
    have Hne01 := hid hne01
    clear hne01
    have hge1 : ∀ g, v_R1.ownBlock = some g → w3.heap.size ≤ g := fun g hg => R1.ge hg
    have Hge1 := hid hge1
    clear hge1
    go_wp2_with fail
    refine (eqIntS_same _ _ ys _ R1.sl R0_4.sl hy).mono ?_
    rintro e w5 ⟨rfl, hb⟩
    have B5 := bel_step B4 hb
    have hz5 : w4.heap.size ≤ w5.heap.size := hb.size
    have R0_5 := R0_4.kept hb
    have Xs_5 := Xs_4.kept hb
    have R1_5 := R1.kept hb
    go_wp2_with fail
    refine (toIntS_any _ s _ (HSs.out.kept B5) (by omega)).mono ?_
    rintro e w6 ⟨g_TXs, hg_TXs, rfl, K_TXs, hb⟩
    have B6 := bel_step B5 hb
    have hz6 : w5.heap.size ≤ w6.heap.size := hb.size
    have R0_6 := R0_5.kept hb
    have Xs_6 := Xs_5.kept hb
    have R1_6 := R1_5.kept hb
    have TXs := K_TXs.res hg_TXs
    go_wp2_with fail
    refine (eqIntS_same _ _ s _ Xs_6.sl TXs.sl (by omega)).mono ?_
    rintro e w7 ⟨rfl, hb⟩
    have B7 := bel_step B6 hb
    have hz7 : w6.heap.size ≤ w7.heap.size := hb.size
    have R0_7 := R0_6.kept hb
    have Xs_7 := Xs_6.kept hb
    have R1_7 := R1_6.kept hb
    have TXs_7 := TXs.kept hb
    go_wp2_with fail
    refine (markIntS_one _ s _ _ Xs_7 (by omega)).mono ?_
    rintro e w8 ⟨rfl, ho, _⟩
    have B8 := B7.trans (ho.below fun g hg => by cases hg; exact Nat.le_trans B2.size hg_Xs)
    have hz8 : w7.heap.size ≤ w8.heap.size := Nat.le_of_eq ho.size.symm
    have R0_8 := R0_7.only ho fun g hg e => by cases e; exact Hne_Xs.out _ hg rfl
    have R1_8 := R1_7.only ho fun g hg e => by cases e; exact Hne1_Xs.out _ hg rfl
    go_wp2_with fail
    refine (eqIntS_same _ _ ys _ R1_8.sl R0_8.sl hy).mono ?_
    rintro e w9 ⟨rfl, hb⟩
    have B9 := bel_step B8 hb
    have hz9 : w8.heap.size ≤ w9.heap.size := hb.size
    have R0_9 := R0_8.kept hb
    have R1_9 := R1_8.kept hb
    go_wp2_with fail
    refine (markIntS_one _ ys _ _ R1_9 hy).mono ?_
    rintro e w10 ⟨rfl, ho, M⟩
    have B10 := B9.trans (ho.below fun g hg => Nat.le_trans B3.size (Hge1.out g hg))
    have hz10 : w9.heap.size ≤ w10.heap.size := Nat.le_of_eq ho.size.symm
    have R0_10 := R0_9.only ho Hne01.out
    go_wp2_with fail
    refine (heldIntS_one _ ys.length _ _ M hy).mono ?_
    rintro e w' ⟨rfl, rfl⟩
    go_wp2_with fail
    refine (toIntS_any _ s _ (HSs.out.kept B10) (by omega)).mono ?_
    rintro e w11 ⟨g_As10, hg_As10, rfl, K_As10, hb⟩
    have B11 := bel_step B10 hb
    have hz11 : w10.heap.size ≤ w11.heap.size := hb.size
    have R0_11 := R0_10.kept hb
    have M_11 := M.kept hb
    have As10 := K_As10.res hg_As10
    go_wp2_with fail
    refine (HIM.out _ _ As10.sl).mono ?_
    rintro e w12 ⟨v_R2, rfl, R2, hb⟩
    have B12 := bel_step B11 hb
    have hz12 : w11.heap.size ≤ w12.heap.size := hb.size
    have R0_12 := R0_11.kept hb
    have M_12 := M_11.kept hb
    have As10_12 := As10.kept hb
    go_wp2_with fail
    refine (eqIntS_same _ _ ys _ R2.sl R0_12.sl hy).mono ?_
    rintro e w13 ⟨rfl, hb⟩
    have B13 := bel_step B12 hb
    have hz13 : w12.heap.size ≤ w13.heap.size := hb.size
    have R0_13 := R0_12.kept hb
    have M_13 := M_12.kept hb
    have R2_13 := R2.kept hb
    go_wp2_with fail
    refine (heldIntS_one _ ys.length _ _ M_13 hy).mono ?_
    rintro e w' ⟨rfl, rfl⟩
    go_wp2_with fail
    go_ret
    exact ⟨rfl, B13⟩


set_option maxHeartbeats 1600000 in
theorem walk_FnExactWrappedSums (w : World) (u_s : Option Addr) (l_s c_s : Nat) (z_s : List Int) (hr_s : IsRow .i64 w u_s l_s c_s z_s) (b : Int) (w_b : (Lit.int .i64 b).wf = true) (st : Int) (w_st : (Lit.int .i64 st).wf = true) :
    Calls Try.prog 3 #[.slice u_s l_s c_s, .int .i64 b, .int .i64 st] w fun e w' => e = .returned (.bool true) ∧ Below w.heap.size w w' := by
  obtain ⟨hs_s, hlen_s, hin_s⟩ := hr_s.sl
  generalize z_s.take l_s = s at hs_s hlen_s hin_s
  clear hr_s
  obtain ⟨b_1, b_2⟩ := bounds_i64 w_b
  obtain ⟨st_1, st_2⟩ := bounds_i64 w_st
  by_cases hbig_s : 1048576 < l_s
  · clear hs_s hlen_s hin_s
    go_enter Try.func3, Try.ntmps3
    go_wp2
    go_ret
    exact ⟨rfl, Below.refl _ _⟩
  · have hq_s : l_s ≤ 1048576 := by omega
    exact gen_FnExactWrappedSums s b st _ _ _ _ _ w hs_s (by omega) (by omega) (ws_len (sumsL_len _ _ _) (by omega)) (fun w v_s h_s => spec_WrappedSums_any v_s s b st w h_s) (fun w v_s h_s => impl_WrappedSums_any v_s s b st w h_s)


set_option maxHeartbeats 1600000 in
theorem gen_FnExactWrappedCombs (s : List Int) (b : Int) (st : Int) (u_s : Option Addr) (l_s c_s : Nat) (ys : List Int) (ok : Bool) (w : World) (hs_s : Sl w (.slice u_s l_s c_s) s) (ll_s : l_s ≤ 1048576) (hl_s : s.length ≤ 1048576) (hy : ys.length ≤ 2000000) (hspec : ∀ (w : World) (v_s : Value), Sl w v_s s → Calls Try.prog 15 #[v_s, .int .i64 b, .int .i64 st] w (Gives w ys ok)) (himpl : ∀ (w : World) (v_s : Value), Sl w v_s s → Calls Try.prog 16 #[v_s, .int .i64 b, .int .i64 st] w (Gives w ys ok)) :
    Calls Try.prog 4 #[.slice u_s l_s c_s, .int .i64 b, .int .i64 st] w fun e w' => e = .returned (.bool true) ∧ Below w.heap.size w w' := by
  have HSs := hid hs_s
  clear hs_s
  have HSP := hid hspec
  have HIM := hid himpl
  clear hspec himpl
  all_goals cases ok
  all_goals
    go_enter Try.func4, Try.ntmps4
    go_wp2_with fail
    refine (toIntS_any _ s _ HSs.out (by omega)).mono ?_
    rintro e w1 ⟨g_As0, hg_As0, rfl, K_As0, hb⟩
    have B1 := hb
    have hz1 : w.heap.size ≤ w1.heap.size := by first | exact hb.size | (have := hb.size; simp at this; omega)
    have As0 := K_As0.res hg_As0
    go_wp2_with fail
    refine (HSP.out _ _ As0.sl).mono ?_
    rintro e w2 ⟨v_R0, rfl, R0, hb⟩
    have B2 := bel_step B1 hb
    have hz2 : w1.heap.size ≤ w2.heap.size := hb.size
    have As0_2 := As0.kept hb
    have hlt0 : ∀ g, v_R0.ownBlock = some g → g < w2.heap.size := fun g hg => R0.lt hg
    have Hlt0 := hid hlt0
    clear hlt0
    go_wp2_with fail
    refine (toIntS_any _ s _ (HSs.out.kept B2) (by omega)).mono ?_
    rintro e w3 ⟨g_Xs, hg_Xs, rfl, K_Xs, hb⟩
    have B3 := bel_step B2 hb
    have hz3 : w2.heap.size ≤ w3.heap.size := hb.size
    have R0_3 := R0.kept hb
    have Xs := K_Xs.res hg_Xs
    have hlt_Xs := K_Xs.lt
    have hne_Xs : ∀ g, v_R0.ownBlock = some g → g ≠ g_Xs := fun g hg => by have a1 := Hlt0.out g hg; omega
    have Hne_Xs := hid hne_Xs
    clear hne_Xs
    have hxl_Xs : g_Xs < w3.heap.size := Xs.lt rfl
    go_wp2_with fail
    refine (HIM.out _ _ Xs.sl).mono ?_
    rintro e w4 ⟨v_R1, rfl, R1, hb⟩
    have B4 := bel_step B3 hb
    have hz4 : w3.heap.size ≤ w4.heap.size := hb.size
    have R0_4 := R0_3.kept hb
    have Xs_4 := Xs.kept hb
    have hne1_Xs : ∀ g, v_R1.ownBlock = some g → g ≠ g_Xs := fun g hg => by have a1 := R1.ge hg; omega
    have Hne1_Xs := hid hne1_Xs
    clear hne1_Xs
    have hne01 : ∀ g, v_R0.ownBlock = some g → v_R1.ownBlock ≠ some g := fun g hg e => by have a1 := R1.ge e; have a2 := Hlt0.out g hg; omega
    have Hne01 := hid hne01
    clear hne01
    have hge1 : ∀ g, v_R1.ownBlock = some g → w3.heap.size ≤ g := fun g hg => R1.ge hg
    have Hge1 := hid hge1
    clear hge1
    go_wp2_with fail
    refine (eqIntS_same _ _ ys _ R1.sl R0_4.sl hy).mono ?_
    rintro e w5 ⟨rfl, hb⟩
    have B5 := bel_step B4 hb
    have hz5 : w4.heap.size ≤ w5.heap.size := hb.size
    have R0_5 := R0_4.kept hb
    have Xs_5 := Xs_4.kept hb
    have R1_5 := R1.kept hb
    go_wp2_with fail
    refine (toIntS_any _ s _ (HSs.out.kept B5) (by omega)).mono ?_
    rintro e w6 ⟨g_TXs, hg_TXs, rfl, K_TXs, hb⟩
    have B6 := bel_step B5 hb
    have hz6 : w5.heap.size ≤ w6.heap.size := hb.size
    have R0_6 := R0_5.kept hb
    have Xs_6 := Xs_5.kept hb
    have R1_6 := R1_5.kept hb
    have TXs := K_TXs.res hg_TXs
    go_wp2_with fail
    refine (eqIntS_same _ _ s _ Xs_6.sl TXs.sl (by omega)).mono ?_
    rintro e w7 ⟨rfl, hb⟩
    have B7 := bel_step B6 hb
    have hz7 : w6.heap.size ≤ w7.heap.size := hb.size
    have R0_7 := R0_6.kept hb
    have Xs_7 := Xs_6.kept hb
    have R1_7 := R1_6.kept hb
    have TXs_7 := TXs.kept hb
    go_wp2_with fail
    refine (markIntS_one _ s _ _ Xs_7 (by omega)).mono ?_
    rintro e w8 ⟨rfl, ho, _⟩
    have B8 := B7.trans (ho.below fun g hg => by cases hg; exact Nat.le_trans B2.size hg_Xs)
    have hz8 : w7.heap.size ≤ w8.heap.size := Nat.le_of_eq ho.size.symm
    have R0_8 := R0_7.only ho fun g hg e => by cases e; exact Hne_Xs.out _ hg rfl
    have R1_8 := R1_7.only ho fun g hg e => by cases e; exact Hne1_Xs.out _ hg rfl
    go_wp2_with fail
    refine (eqIntS_same _ _ ys _ R1_8.sl R0_8.sl hy).mono ?_
    rintro e w9 ⟨rfl, hb⟩
    have B9 := bel_step B8 hb
    have hz9 : w8.heap.size ≤ w9.heap.size := hb.size
    have R0_9 := R0_8.kept hb
    have R1_9 := R1_8.kept hb
    go_wp2_with fail
    refine (markIntS_one _ ys _ _ R1_9 hy).mono ?_
    rintro e w10 ⟨rfl, ho, M⟩
    have B10 := B9.trans (ho.below fun g hg => Nat.le_trans B3.size (Hge1.out g hg))
    have hz10 : w9.heap.size ≤ w10.heap.size := Nat.le_of_eq ho.size.symm
    have R0_10 := R0_9.only ho Hne01.out
    go_wp2_with fail
    refine (heldIntS_one _ ys.length _ _ M hy).mono ?_
    rintro e w' ⟨rfl, rfl⟩
    go_wp2_with fail
    refine (toIntS_any _ s _ (HSs.out.kept B10) (by omega)).mono ?_
    rintro e w11 ⟨g_As10, hg_As10, rfl, K_As10, hb⟩
    have B11 := bel_step B10 hb
    have hz11 : w10.heap.size ≤ w11.heap.size := hb.size
    have R0_11 := R0_10.kept hb
    have M_11 := M.kept hb
    have As10 := K_As10.res hg_As10
    go_wp2_with fail
    refine (HIM.out _ _ As10.sl).mono ?_
    rintro e w12 ⟨v_R2, rfl, R2, hb⟩
    have B12 := bel_step B11 hb
    have hz12 : w11.heap.size ≤ w12.heap.size := hb.size
    have R0_12 := R0_11.kept hb
    have M_12 := M_11.kept hb
    have As10_12 := As10.kept hb
    go_wp2_with fail
    refine (eqIntS_same _ _ ys _ R2.sl R0_12.sl hy).mono ?_
    rintro e w13 ⟨rfl, hb⟩
    have B13 := bel_step B12 hb
    have hz13 : w12.heap.size ≤ w13.heap.size := hb.size
    have R0_13 := R0_12.kept hb
    have M_13 := M_12.kept hb
    have R2_13 := R2.kept hb
    go_wp2_with fail
    refine (heldIntS_one _ ys.length _ _ M_13 hy).mono ?_
    rintro e w' ⟨rfl, rfl⟩
    go_wp2_with fail
    go_ret
    exact ⟨rfl, B13⟩


set_option maxHeartbeats 1600000 in
theorem walk_FnExactWrappedCombs (w : World) (u_s : Option Addr) (l_s c_s : Nat) (z_s : List Int) (hr_s : IsRow .i64 w u_s l_s c_s z_s) (b : Int) (w_b : (Lit.int .i64 b).wf = true) (st : Int) (w_st : (Lit.int .i64 st).wf = true) :
    Calls Try.prog 4 #[.slice u_s l_s c_s, .int .i64 b, .int .i64 st] w fun e w' => e = .returned (.bool true) ∧ Below w.heap.size w w' := by
  obtain ⟨hs_s, hlen_s, hin_s⟩ := hr_s.sl
  generalize z_s.take l_s = s at hs_s hlen_s hin_s
  clear hr_s
  obtain ⟨b_1, b_2⟩ := bounds_i64 w_b
  obtain ⟨st_1, st_2⟩ := bounds_i64 w_st
  by_cases hbig_s : 1048576 < l_s
  · clear hs_s hlen_s hin_s
    go_enter Try.func4, Try.ntmps4
    go_wp2
    go_ret
    exact ⟨rfl, Below.refl _ _⟩
  · have hq_s : l_s ≤ 1048576 := by omega
    exact gen_FnExactWrappedCombs s b st _ _ _ _ _ w hs_s (by omega) (by omega) (ws_len (difsL_len _ _ _) (by omega)) (fun w v_s h_s => spec_WrappedCombs_any v_s s b st w h_s) (fun w v_s h_s => impl_WrappedCombs_any v_s s b st w h_s)

end Go.Proofs.Ytcicglebmmlkdaa
