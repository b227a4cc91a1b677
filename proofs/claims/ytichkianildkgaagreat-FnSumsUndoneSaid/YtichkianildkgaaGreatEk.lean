
import Derived.Test.YtichkianildkgaaGreatEb
import Derived.Test.YtichkianildkgaaGreatEj
namespace Go.Proofs.YtichkianildkgaaGreat
open Go.RowKit BitX Go.MemX Go.Ch6
set_option linter.unusedVariables false
/-- the guard, hidden -/
def caB (st r : Int) : Bool := askB st r
theorem caB_of {st r : Int} {b : Bool} (h : askB st r = b) : caB st r = b := h
theorem cbW_len {st r : Int} : (onL (caB st r) (cbW r.toNat st.toNat)).length ≤ 2000000 := onL_len fun h => by
  obtain ⟨⟨a, b⟩, ⟨c, d⟩⟩ := askB_t (show askB st r = true from h)
  have := (cbW_q (r := r.toNat) (st := st.toNat) (by omega) (by omega) (by omega)).1.2
  omega


set_option maxHeartbeats 1000000 in
theorem spec_CombGain_any (st r : Int) (w : World) :
    Calls Tryz.prog 19 #[.int .i64 st, .int .i64 r] w fun e w' => e = .returned (.tuple #[.int .i64 (onI (caB st r) (cbG r.toNat st.toNat)), .bool (caB st r)]) ∧ Below w.heap.size w w' := by
  cases h0 : askB st r
  · have HB0 := hid h0
    clear h0
    go_enter Tryz.func19, Tryz.ntmps19
    go_wp2_with fail
    refine (cbAsked_is _ _ false _ HB0.out).mono ?_
    rintro e w' ⟨rfl, rfl⟩
    go_wp2_with fail
    go_ret2
    exact ⟨onI_no (caB_of HB0.out), Below.refl _ _⟩
  · have HB0 := hid h0
    clear h0
    have HT := hid (caB_of HB0.out)
    obtain ⟨⟨a1, a2⟩, ⟨a3, a4⟩⟩ := askB_t HB0.out
    obtain ⟨t, rfl⟩ : ∃ t : Nat, st = t := ⟨st.toNat, by omega⟩
    obtain ⟨q, rfl⟩ : ∃ q : Nat, r = q := ⟨r.toNat, by omega⟩
    have s1 : 1 ≤ t := by omega
    have s2 : t ≤ 4 := by omega
    have r1 : 1 ≤ q := by omega
    have r2 : q ≤ 8 := by omega
    clear a1 a2 a3 a4
    go_enter Tryz.func19, Tryz.ntmps19
    go_wp2_with fail
    refine (cbAsked_is _ _ true _ HB0.out).mono ?_
    rintro e w' ⟨rfl, rfl⟩
    go_wp2_with fail
    refine (cbGain_any t q _ s1 s2 r1 r2).mono ?_
    rintro e w' ⟨rfl, rfl⟩
    go_wp2_with fail
    go_ret2
    exact ⟨onI_yes HT.out rfl, Below.refl _ _⟩


set_option maxHeartbeats 1000000 in
theorem spec_BoxAnswer_any (st r : Int) (w : World) :
    Calls Tryz.prog 17 #[.int .i64 st, .int .i64 r] w (Gives w (onL (caB st r) (cbW r.toNat st.toNat)) (caB st r)) := by
  cases h0 : askB st r
  · have HB0 := hid h0
    clear h0
    go_enter Tryz.func17, Tryz.ntmps17
    go_wp2_with fail
    refine (cbAsked_is _ _ false _ HB0.out).mono ?_
    rintro e w' ⟨rfl, rfl⟩
    go_wp2_with fail
    go_ret2
    exact gives_no (caB_of HB0.out) (Below.refl _ _)
  · have HB0 := hid h0
    clear h0
    have HT := hid (caB_of HB0.out)
    obtain ⟨⟨a1, a2⟩, ⟨a3, a4⟩⟩ := askB_t HB0.out
    obtain ⟨t, rfl⟩ : ∃ t : Nat, st = t := ⟨st.toNat, by omega⟩
    obtain ⟨q, rfl⟩ : ∃ q : Nat, r = q := ⟨r.toNat, by omega⟩
    have s1 : 1 ≤ t := by omega
    have s2 : t ≤ 4 := by omega
    have r1 : 1 ≤ q := by omega
    have r2 : q ≤ 8 := by omega
    clear a1 a2 a3 a4
    go_enter Tryz.func17, Tryz.ntmps17
    go_wp2_with fail
    refine (cbAsked_is _ _ true _ HB0.out).mono ?_
    rintro e w' ⟨rfl, rfl⟩
    go_wp2_with fail
    refine (cbBox_any t q _ s1 s2 r1 r2).mono ?_
    rintro e w1 ⟨v_R, rfl, R, hb⟩
    have B1 := hb
    go_wp2_with fail
    go_ret2
    exact gives_yes HT.out R B1


set_option maxHeartbeats 1000000 in
theorem impl_CombGain_any (st r : Int) (w : World) :
    Calls Tryz.prog 18 #[.int .i64 st, .int .i64 r] w fun e w' => e = .returned (.tuple #[.int .i64 (onI (caB st r) (cbG r.toNat st.toNat)), .bool (caB st r)]) ∧ Below w.heap.size w w' := by
  cases h0 : askB st r
  · have HB0 := hid h0
    clear h0
    go_enter Tryz.func18, Tryz.ntmps18
    go_wp2_with fail
    refine (isComb_is _ _ false _ HB0.out).mono ?_
    rintro e w' ⟨rfl, rfl⟩
    go_wp2_with fail
    go_ret2
    exact ⟨onI_no (caB_of HB0.out), Below.refl _ _⟩
  · have HB0 := hid h0
    clear h0
    have HT := hid (caB_of HB0.out)
    obtain ⟨⟨a1, a2⟩, ⟨a3, a4⟩⟩ := askB_t HB0.out
    obtain ⟨t, rfl⟩ : ∃ t : Nat, st = t := ⟨st.toNat, by omega⟩
    obtain ⟨q, rfl⟩ : ∃ q : Nat, r = q := ⟨r.toNat, by omega⟩
    have s1 : 1 ≤ t := by omega
    have s2 : t ≤ 4 := by omega
    have r1 : 1 ≤ q := by omega
    have r2 : q ≤ 8 := by omega
    clear a1 a2 a3 a4
    go_enter Tryz.func18, Tryz.ntmps18
    go_wp2_with fail
    refine (isComb_is _ _ true _ HB0.out).mono ?_
    rintro e w' ⟨rfl, rfl⟩
    go_wp2_with fail
    refine (combGain_any t q _ s1 s2 r1 r2).mono ?_
    rintro e w' ⟨rfl, rfl⟩
    go_wp2_with fail
    go_ret2
    exact ⟨onI_yes HT.out rfl, Below.refl _ _⟩


set_option maxHeartbeats 1000000 in
theorem impl_BoxAnswer_any (st r : Int) (w : World) :
    Calls Tryz.prog 16 #[.int .i64 st, .int .i64 r] w (Gives w (onL (caB st r) (cbW r.toNat st.toNat)) (caB st r)) := by
  cases h0 : askB st r
  · have HB0 := hid h0
    clear h0
    go_enter Tryz.func16, Tryz.ntmps16
    go_wp2_with fail
    refine (isComb_is _ _ false _ HB0.out).mono ?_
    rintro e w' ⟨rfl, rfl⟩
    go_wp2_with fail
    go_ret2
    exact gives_no (caB_of HB0.out) (Below.refl _ _)
  · have HB0 := hid h0
    clear h0
    have HT := hid (caB_of HB0.out)
    obtain ⟨⟨a1, a2⟩, ⟨a3, a4⟩⟩ := askB_t HB0.out
    obtain ⟨t, rfl⟩ : ∃ t : Nat, st = t := ⟨st.toNat, by omega⟩
    obtain ⟨q, rfl⟩ : ∃ q : Nat, r = q := ⟨r.toNat, by omega⟩
    have s1 : 1 ≤ t := by omega
    have s2 : t ≤ 4 := by omega
    have r1 : 1 ≤ q := by omega
    have r2 : q ≤ 8 := by omega
    clear a1 a2 a3 a4
    go_enter Tryz.func16, Tryz.ntmps16
    go_wp2_with fail
    refine (isComb_is _ _ true _ HB0.out).mono ?_
    rintro e w' ⟨rfl, rfl⟩
    go_wp2_with fail
    refine (combWeights_any t q _ s1 s2 r1 r2).mono ?_
    rintro e w1 ⟨v_R, rfl, R, hb⟩
    have B1 := hb
    go_wp2_with fail
    go_ret2
    exact gives_yes HT.out R B1


end Go.Proofs.YtichkianildkgaaGreat
