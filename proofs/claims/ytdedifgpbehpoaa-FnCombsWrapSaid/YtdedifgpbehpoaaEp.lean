
import Derived.Test.YtdedifgpbehpoaaEf
import Derived.Test.YtdedifgpbehpoaaEg
namespace Go.Proofs.Ytdedifgpbehpoaa
open Go.RowKit BitX Go.MemX Go.Ch6
set_option linter.unusedVariables false
theorem ret_ibx {a c : Int} {b : Bool} (h : a = c) : Ending.returned (.tuple #[.int .i64 a, .bool b]) = .returned (.tuple #[.int .i64 c, .bool b]) := by rw [h]
def ctI (q : Nat) (s : List Int) (k : Nat) : Int := sumF k (fun j => sumF s.length (fun i => chg q j (at0 s) i))
theorem ct_succ (q : Nat) (s : List Int) (k : Nat) : ctI q s (k + 1) = ctI q s k + sumF s.length (fun i => chg q k (at0 s) i) := rfl
theorem ct_in (q : Nat) (s : List Int) (k : Nat) (hk : k ≤ 4) (hl : s.length ≤ 64) : 0 ≤ ctI q s k ∧ ctI q s k ≤ 256 := by
  have := sumF_upto k (fun j => sumF s.length (fun i => chg q j (at0 s) i)) 64 fun j _ => by
    have := sumF_upto s.length (fun i => chg q j (at0 s) i) 1 fun i _ => chg_in _ _ _ _
    omega
  unfold ctI; omega
theorem ct_wraps (q : Nat) (s : List Int) (t : Nat) : ctI q s t = wraps q t s.length (at0 s) := (wraps_swap q t s.length (at0 s)).symm


def wcL (s : List Int) (b st r : Nat) : List Int := difsL b st (dropL r (r - 1) (sumsL b st s))
theorem wcL_len (s : List Int) (b st r : Nat) : (wcL s b st r).length = drN s.length r (r - 1) := by unfold wcL; rw [difsL_len, dropL_len, sumsL_len]
def wcB (s : List Int) (b st r : Int) : Bool := (sigB s && askB st r) && lonB b
theorem drop_in {B : Int} {xs : List Int} {r f : Nat} (h : InP (-B) B xs) (h0 : 0 ≤ B) : InP (-B) B (dropL r f xs) := tab_inp fun i _ => inp_at0 h h0 _


set_option maxHeartbeats 1000000 in
theorem cbWrapped_any (v : Value) (s : List Int) (b st r : Nat) (w : World) (hs : Sl w v s) (hg : SigP s) (b1 : 2 ≤ b) (b2 : b ≤ 40) (s1 : 1 ≤ st) (s2 : st ≤ 4) (r1 : 1 ≤ r) (r2 : r ≤ 8) :
    Calls Try.prog 30 #[v, .int .i64 (b : Int), .int .i64 (st : Int), .int .i64 (r : Int)] w (GivesL w (wcL s b st r)) := by
  have HS := hid hs
  have HL := hid hg.1
  have HI := hid (sig_39 hg)
  have hrz : (r : Int) - 1 = ((r - 1 : Nat) : Int) := by omega
  have e1 : IntKind.i64.wrap ((r : Int) - 1) = ((r - 1 : Nat) : Int) := by rw [hrz]; exact IntWalk.i64_in _ (by omega)
  have e2 : wrap64 ((r : Int) - 1) = ((r - 1 : Nat) : Int) := by rw [hrz]; exact IntWalk.wrap64_in _ (by omega)
  clear hs hg
  go_enter Try.func30, Try.ntmps30
  go_wp2_with fail
  refine (cbSums_any _ s _ HS.out HL.out b st HI.out b1 b2 s1 s2).mono ?_
  rintro e w1 ⟨u1, rfl, R1, B1⟩
  have Hs1 := hid R1.sl
  clear R1
  go_wp2_with fail
  refine (cbDrop_any _ (sumsL b st s) r (r - 1) _ Hs1.out (by rw [sumsL_len]; exact HL.out) r1 r2 (by omega)).mono ?_
  rintro e w2 ⟨u2, rfl, R2, hb2⟩
  have Hs2 := hid R2.sl
  have B2 := bel_step B1 hb2
  clear R2
  go_wp2_with fail
  refine (cbCombs_any _ (dropL r (r - 1) (sumsL b st s)) _ Hs2.out (Nat.le_trans (dropL_le _ _ _ r1) (by rw [sumsL_len]; exact HL.out)) b st (drop_in (sums_in b2 HI.out) (by omega)) b1 b2 s1 s2).mono ?_
  rintro e w3 ⟨u3, rfl, R3, hb3⟩
  have B3 := bel_step B2 hb3
  go_wp2_with fail
  go_ret
  exact ⟨_, rfl, R3.mono B2.size, B3⟩


set_option maxHeartbeats 1000000 in
theorem wrappedComb_any (v : Value) (s : List Int) (b st r : Nat) (w : World) (hs : Sl w v s) (hg : SigP s) (b1 : 2 ≤ b) (b2 : b ≤ 40) (s1 : 1 ≤ st) (s2 : st ≤ 4) (r1 : 1 ≤ r) (r2 : r ≤ 8) :
    Calls Try.prog 27 #[v, .int .i64 (b : Int), .int .i64 (st : Int), .int .i64 (r : Int)] w (GivesL w (wcL s b st r)) := by
  have HS := hid hs
  have HL := hid hg.1
  have HI := hid (sig_39 hg)
  have hrz : (r : Int) - 1 = ((r - 1 : Nat) : Int) := by omega
  have e1 : IntKind.i64.wrap ((r : Int) - 1) = ((r - 1 : Nat) : Int) := by rw [hrz]; exact IntWalk.i64_in _ (by omega)
  have e2 : wrap64 ((r : Int) - 1) = ((r - 1 : Nat) : Int) := by rw [hrz]; exact IntWalk.wrap64_in _ (by omega)
  clear hs hg
  go_enter Try.func27, Try.ntmps27
  go_wp2_with fail
  refine (wrappedSums_any _ s _ HS.out HL.out b st HI.out b1 b2 s1 s2).mono ?_
  rintro e w1 ⟨u1, rfl, R1, B1⟩
  have Hs1 := hid R1.sl
  clear R1
  go_wp2_with fail
  refine (dropFrom_any _ (sumsL b st s) r (r - 1) _ Hs1.out (by rw [sumsL_len]; exact HL.out) r1 r2 (by omega)).mono ?_
  rintro e w2 ⟨u2, rfl, R2, hb2⟩
  have Hs2 := hid R2.sl
  have B2 := bel_step B1 hb2
  clear R2
  go_wp2_with fail
  refine (wrappedDifferences_any _ (dropL r (r - 1) (sumsL b st s)) _ Hs2.out (Nat.le_trans (dropL_le _ _ _ r1) (by rw [sumsL_len]; exact HL.out)) b st (drop_in (sums_in b2 HI.out) (by omega)) b1 b2 s1 s2).mono ?_
  rintro e w3 ⟨u3, rfl, R3, hb3⟩
  have B3 := bel_step B2 hb3
  go_wp2_with fail
  go_ret
  exact ⟨_, rfl, R3.mono B2.size, B3⟩


theorem wcB_n1 {s : List Int} {b st r : Int} (h : (sigB s && askB st r) = false) : wcB s b st r = false := by unfold wcB; rw [h]; rfl
theorem wcB_n2 {s : List Int} {b st r : Int} (h : lonB b = false) : wcB s b st r = false := by unfold wcB; rw [h]; cases (sigB s && askB st r) <;> rfl
theorem wcB_g {s : List Int} {b st r : Int} (h : (sigB s && askB st r) = true) (h2 : lonB b = true) : wcB s b st r = true := by unfold wcB; rw [h, h2]; rfl
theorem wsa_n1 {s : List Int} {st r : Int} (h : sigB s = false) : (sigB s && askB st r) = false := by rw [h]; rfl
theorem wsa_n2 {s : List Int} {st r : Int} (h : askB st r = false) : (sigB s && askB st r) = false := by rw [h]; cases sigB s <;> rfl
theorem wsa_g {s : List Int} {st r : Int} (h : sigB s = true) (h2 : askB st r = true) : (sigB s && askB st r) = true := by rw [h, h2]; rfl
theorem wsa_t {s : List Int} {st r : Int} (h : (sigB s && askB st r) = true) : SigP s ∧ (1 ≤ st ∧ st ≤ 4) ∧ (1 ≤ r ∧ r ≤ 8) := by
  simp only [Bool.and_eq_true] at h
  exact ⟨sigB_t h.1, askB_t h.2⟩
theorem wc_len {s : List Int} {b st r : Int} (hl : s.length ≤ 1048576) : (onL (wcB s b st r) (wcL s b.toNat st.toNat r.toNat)).length ≤ 2000000 := onL_len fun h => by
  unfold wcB at h
  simp only [Bool.and_eq_true] at h
  have := askB_t h.1.2
  rw [wcL_len]
  have := drN_le s.length r.toNat (r.toNat - 1) (by omega)
  omega


set_option maxHeartbeats 1000000 in
theorem spec_WrappedComb_any (v : Value) (s : List Int) (b st r : Int) (w : World) (hs : Sl w v s) :
    Calls Try.prog 7 #[v, .int .i64 b, .int .i64 st, .int .i64 r] w (Gives w (onL (wcB s b st r) (wcL s b.toNat st.toNat r.toNat)) (wcB s b st r)) := by
  have HS := hid hs
  clear hs
  cases h0 : (sigB s && askB st r)
  · have HB0 := hid h0
    clear h0
    go_enter Try.func7, Try.ntmps7
    go_wp2_with fail
    refine (cbGood_is _ s _ _ false _ HS.out HB0.out).mono ?_
    rintro e w' ⟨rfl, rfl⟩
    go_wp2_with fail
    go_ret2
    exact gives_no (wcB_n1 HB0.out) (Below.refl _ _)
  · have HB0 := hid h0
    clear h0
    cases h1 : lonB b
    · have HB1 := hid h1
      clear h1
      go_enter Try.func7, Try.ntmps7
      go_wp2_with fail
      refine (cbGood_is _ s _ _ true _ HS.out HB0.out).mono ?_
      rintro e w' ⟨rfl, rfl⟩
      go_wp2_with fail
      refine (cbBits_is _ false _ HB1.out).mono ?_
      rintro e w' ⟨rfl, rfl⟩
      go_wp2_with fail
      go_ret2
      exact gives_no (wcB_n2 HB1.out) (Below.refl _ _)
    · have HB1 := hid h1
      clear h1
      have HA := hid HB0.out
      have HLO := hid HB1.out
      have HT := hid (wcB_g HB0.out HB1.out)
      obtain ⟨HG0, ⟨a1, a2⟩, ⟨a3, a4⟩⟩ := wsa_t HA.out
      obtain ⟨a5, a6⟩ := lonB_t HLO.out
      obtain ⟨t, rfl⟩ : ∃ t : Nat, st = t := ⟨st.toNat, by omega⟩
      obtain ⟨q, rfl⟩ : ∃ q : Nat, r = q := ⟨r.toNat, by omega⟩
      obtain ⟨c, rfl⟩ : ∃ c : Nat, b = c := ⟨b.toNat, by omega⟩
      have s1 : 1 ≤ t := by omega
      have s2 : t ≤ 4 := by omega
      have r1 : 1 ≤ q := by omega
      have r2 : q ≤ 8 := by omega
      have b1 : 2 ≤ c := by omega
      have b2 : c ≤ 40 := by omega
      have HG := hid HG0
      clear a1 a2 a3 a4 a5 a6 HG0
      go_enter Try.func7, Try.ntmps7
      go_wp2_with fail
      refine (cbGood_is _ s _ _ true _ HS.out HB0.out).mono ?_
      rintro e w' ⟨rfl, rfl⟩
      go_wp2_with fail
      refine (cbBits_is _ true _ HB1.out).mono ?_
      rintro e w' ⟨rfl, rfl⟩
      go_wp2_with fail
      refine (cbWrapped_any _ s c t q _ HS.out HG.out b1 b2 s1 s2 r1 r2).mono ?_
      rintro e w1 ⟨v_R, rfl, R, hb⟩
      have B1 := hb
      go_wp2_with fail
      go_ret2
      exact gives_yes HT.out R B1


set_option maxHeartbeats 1000000 in
theorem impl_WrappedComb_any (v : Value) (s : List Int) (b st r : Int) (w : World) (hs : Sl w v s) :
    Calls Try.prog 6 #[v, .int .i64 b, .int .i64 st, .int .i64 r] w (Gives w (onL (wcB s b st r) (wcL s b.toNat st.toNat r.toNat)) (wcB s b st r)) := by
  have HS := hid hs
  clear hs
  cases h0 : sigB s
  · have HB0 := hid h0
    clear h0
    go_enter Try.func6, Try.ntmps6
    go_wp2_with fail
    refine (impl_IsSignal_is _ s false _ HS.out HB0.out).mono ?_
    rintro e w' ⟨rfl, rfl⟩
    go_wp2_with fail
    go_ret2
    exact gives_no (wcB_n1 (wsa_n1 HB0.out)) (Below.refl _ _)
  · have HB0 := hid h0
    clear h0
    cases h1 : lonB b
    · have HB1 := hid h1
      clear h1
      go_enter Try.func6, Try.ntmps6
      go_wp2_with fail
      refine (impl_IsSignal_is _ s true _ HS.out HB0.out).mono ?_
      rintro e w' ⟨rfl, rfl⟩
      go_wp2_with fail
      refine (isLong_is _ false _ HB1.out).mono ?_
      rintro e w' ⟨rfl, rfl⟩
      go_wp2_with fail
      go_ret2
      exact gives_no (wcB_n2 HB1.out) (Below.refl _ _)
    · have HB1 := hid h1
      clear h1
      cases h2 : askB st r
      · have HB2 := hid h2
        clear h2
        go_enter Try.func6, Try.ntmps6
        go_wp2_with fail
        refine (impl_IsSignal_is _ s true _ HS.out HB0.out).mono ?_
        rintro e w' ⟨rfl, rfl⟩
        go_wp2_with fail
        refine (isLong_is _ true _ HB1.out).mono ?_
        rintro e w' ⟨rfl, rfl⟩
        go_wp2_with fail
        refine (isComb_is _ _ false _ HB2.out).mono ?_
        rintro e w' ⟨rfl, rfl⟩
        go_wp2_with fail
        go_ret2
        exact gives_no (wcB_n1 (wsa_n2 HB2.out)) (Below.refl _ _)
      · have HB2 := hid h2
        clear h2
        have HA := hid (wsa_g HB0.out HB2.out)
        have HLO := hid HB1.out
        have HT := hid (wcB_g HA.out HB1.out)
        obtain ⟨HG0, ⟨a1, a2⟩, ⟨a3, a4⟩⟩ := wsa_t HA.out
        obtain ⟨a5, a6⟩ := lonB_t HLO.out
        obtain ⟨t, rfl⟩ : ∃ t : Nat, st = t := ⟨st.toNat, by omega⟩
        obtain ⟨q, rfl⟩ : ∃ q : Nat, r = q := ⟨r.toNat, by omega⟩
        obtain ⟨c, rfl⟩ : ∃ c : Nat, b = c := ⟨b.toNat, by omega⟩
        have s1 : 1 ≤ t := by omega
        have s2 : t ≤ 4 := by omega
        have r1 : 1 ≤ q := by omega
        have r2 : q ≤ 8 := by omega
        have b1 : 2 ≤ c := by omega
        have b2 : c ≤ 40 := by omega
        have HG := hid HG0
        clear a1 a2 a3 a4 a5 a6 HG0
        go_enter Try.func6, Try.ntmps6
        go_wp2_with fail
        refine (impl_IsSignal_is _ s true _ HS.out HB0.out).mono ?_
        rintro e w' ⟨rfl, rfl⟩
        go_wp2_with fail
        refine (isLong_is _ true _ HB1.out).mono ?_
        rintro e w' ⟨rfl, rfl⟩
        go_wp2_with fail
        refine (isComb_is _ _ true _ HB2.out).mono ?_
        rintro e w' ⟨rfl, rfl⟩
        go_wp2_with fail
        refine (wrappedComb_any _ s c t q _ HS.out HG.out b1 b2 s1 s2 r1 r2).mono ?_
        rintro e w1 ⟨v_R, rfl, R, hb⟩
        have B1 := hb
        go_wp2_with fail
        go_ret2
        exact gives_yes HT.out R B1


end Go.Proofs.Ytdedifgpbehpoaa
