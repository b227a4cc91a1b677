
import Derived.Test.YtdedifgpbehpoaaEg
import Derived.Test.YtdedifgpbehpoaaEo
namespace Go.Proofs.Ytdedifgpbehpoaa
open Go.RowKit BitX Go.MemX Go.Ch6
set_option linter.unusedVariables false


theorem gives_if {w w' : World} {v : Value} {ys : List Int} {b q : Bool} (h : b = q) (hv : Res 3 w.heap.size w' v ys) (hb : Below w.heap.size w w') : Gives w (onL b ys) b (.returned (.tuple #[onB q v (.slice none 0 0), .bool q])) w' := by
  subst h
  cases b
  · exact ⟨_, rfl, .inl ⟨rfl, rfl⟩, hb⟩
  · exact ⟨_, rfl, hv, hb⟩
theorem and3_f1 {b c : Bool} : (false && (b && c)) = false := rfl
def raB (r : Int) : Bool := decide (1 ≤ r ∧ r ≤ 8)
def dsB (s : List Int) (r f : Int) : Bool := sigB s && (raB r && decide (0 ≤ f ∧ f ≤ r - 1))
def szB (s : List Int) (r : Int) : Bool := (sigB s && raB r) && sigB (stuffL r.toNat s)
theorem raB_t {r : Int} (h : raB r = true) : 1 ≤ r ∧ r ≤ 8 := of_decide_eq_true h
theorem szB_n1 {s : List Int} {r : Int} (h : sigB s = false) : szB s r = false := by unfold szB; rw [h]; rfl
theorem szB_n2 {s : List Int} {r : Int} (h : raB r = false) : szB s r = false := by unfold szB; rw [h]; cases sigB s <;> rfl
theorem szB_g {s : List Int} {r : Int} (h1 : sigB s = true) (h2 : raB r = true) : szB s r = sigB (stuffL r.toNat s) := by unfold szB; rw [h1, h2]; rfl
theorem dsB_n1 {s : List Int} {r f : Int} (h : sigB s = false) : dsB s r f = false := by unfold dsB; rw [h]; rfl
theorem dsB_n2 {s : List Int} {r f : Int} (h : raB r = false) : dsB s r f = false := by unfold dsB; rw [h]; cases sigB s <;> rfl
theorem dsB_n3 {s : List Int} {r f : Int} (h : decide (0 ≤ f ∧ f ≤ r - 1) = false) : dsB s r f = false := by unfold dsB; rw [h]; cases sigB s <;> cases raB r <;> rfl
theorem dsB_g {s : List Int} {r f : Int} (h1 : sigB s = true) (h2 : raB r = true) (h3 : decide (0 ≤ f ∧ f ≤ r - 1) = true) : dsB s r f = true := by unfold dsB; rw [h1, h2, h3]; rfl


set_option maxHeartbeats 1000000 in
theorem impl_StuffZeros_any (v : Value) (s : List Int) (r : Int) (w : World) (hs : Sl w v s) :
    Calls Try.prog 39 #[v, .int .i64 r] w (Gives w (onL (szB s r) (stuffL r.toNat s)) (szB s r)) := by
  have HS := hid hs
  clear hs
  cases h0 : sigB s
  · have HB0 := hid h0
    clear h0
    go_enter Try.func39, Try.ntmps39
    go_wp2_with fail
    refine (impl_IsSignal_is _ s false _ HS.out HB0.out).mono ?_
    rintro e w' ⟨rfl, rfl⟩
    go_wp2_with fail
    go_ret2
    exact gives_no (szB_n1 HB0.out) (Below.refl _ _)
  · have HB0 := hid h0
    clear h0
    cases h1 : raB r
    · have HB1 := hid h1
      clear h1
      go_enter Try.func39, Try.ntmps39
      go_wp2_with fail
      refine (impl_IsSignal_is _ s true _ HS.out HB0.out).mono ?_
      rintro e w' ⟨rfl, rfl⟩
      go_wp2_with fail
      refine (isRate_is _ false _ HB1.out).mono ?_
      rintro e w' ⟨rfl, rfl⟩
      go_wp2_with fail
      go_ret2
      exact gives_no (szB_n2 HB1.out) (Below.refl _ _)
    · have HB1 := hid h1
      clear h1
      have HT := hid (szB_g HB0.out HB1.out)
      obtain ⟨r1, r2⟩ := raB_t HB1.out
      obtain ⟨q, rfl⟩ : ∃ q : Nat, r = q := ⟨r.toNat, by omega⟩
      have q1 : 1 ≤ q := by omega
      have q2 : q ≤ 8 := by omega
      have HL := hid (sigB_t HB0.out).1
      go_enter Try.func39, Try.ntmps39
      go_wp2_with fail
      refine (impl_IsSignal_is _ s true _ HS.out HB0.out).mono ?_
      rintro e w' ⟨rfl, rfl⟩
      go_wp2_with fail
      refine (isRate_is _ true _ HB1.out).mono ?_
      rintro e w' ⟨rfl, rfl⟩
      go_wp2_with fail
      refine (stuffWithZeros_any _ s q _ HS.out HL.out q1 q2).mono ?_
      rintro e w1 ⟨v_R, rfl, R, hb⟩
      have B1 := hb
      go_wp2_with fail
      refine (onlySignal_is _ (stuffL q s) (sigB (stuffL q s)) _ R.sl rfl).mono ?_
      rintro e w' ⟨rfl, rfl⟩
      go_wp2_with fail
      go_ret2
      exact gives_if HT.out R B1


theorem ds_len {s : List Int} {r f : Int} (hl : s.length ≤ 1048576) : (onL (dsB s r f) (dropL r.toNat f.toNat s)).length ≤ 2000000 := onL_len fun h => by
  have hr : 1 ≤ r.toNat := by
    unfold dsB at h
    simp only [Bool.and_eq_true] at h
    have := raB_t h.2.1; omega
  have := dropL_le r.toNat f.toNat s hr
  omega
theorem sz_len {s : List Int} {r : Int} : (onL (szB s r) (stuffL r.toNat s)).length ≤ 2000000 := onL_len fun h => by
  unfold szB at h
  simp only [Bool.and_eq_true] at h
  have := (sigB_t h.2).1; omega


end Go.Proofs.Ytdedifgpbehpoaa
