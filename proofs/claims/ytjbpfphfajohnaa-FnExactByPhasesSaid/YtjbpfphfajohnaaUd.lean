
import Derived.Test.YtjbpfphfajohnaaUb
namespace Go.Proofs.Ytjbpfphfajohnaa
open Go.RowKit BitX Go.MemX Go.Ch6 Go.Ch8
set_option linter.unusedVariables false
theorem onI8_no {x : Int} {b : Bool} (h : b = false) : Ending.returned (.tuple #[.int .i64 0, .bool false]) = .returned (.tuple #[.int .i64 (onI b x), .bool b]) := by subst h; rfl
theorem onI8_yes {x y : Int} {b : Bool} (h : b = true) (e : y = x) : Ending.returned (.tuple #[.int .i64 y, .bool true]) = .returned (.tuple #[.int .i64 (onI b x), .bool b]) := by subst h e; rfl
theorem fits_ln {n p m : Int} {b : Bool} (h : n * p = m) (h0 : 0 ≤ m) (hb : fits n p = b) : lnB m = b := by
  subst hb h; unfold lnB fits; exact decide_eq_decide.2 ⟨fun h => h.2, fun h => ⟨h0, h⟩⟩
theorem fits_le {n p m : Int} {b : Bool} (h : n * p = m) (hb : fits n p = b) : decide (m ≤ 64) = b := by subst hb h; rfl
theorem cf_n1 {h : List Int} {n p q : Int} (e : wgtB h = false) : cfB h n p q = false := and_n1 e
theorem cf_n2 {h : List Int} {n p q : Int} (e : lnB n = false) : cfB h n p q = false := and_n2 (and_n1 e)
theorem cf_n3 {h : List Int} {n p q : Int} (e : ratB p q = false) : cfB h n p q = false := and_n2 (and_n2 (and_n1 e))
theorem cf_n4 {h : List Int} {n p q : Int} (e : fits n p = false) : cfB h n p q = false := and_n2 (and_n2 (and_n2 e))
theorem cf_y {h : List Int} {n p q : Int} (e1 : wgtB h = true) (e2 : lnB n = true) (e3 : ratB p q = true) (e4 : fits n p = true) : cfB h n p q = true := and_t e1 (and_t e2 (and_t e3 e4))
theorem cf_t {h : List Int} {n p q : Int} (e : cfB h n p q = true) : WgtP h ∧ (0 ≤ n ∧ n ≤ 64) ∧ ((1 ≤ p ∧ p ≤ 8) ∧ (1 ≤ q ∧ q ≤ 8)) ∧ n * p ≤ 64 := by
  unfold cfB at e
  simp only [Bool.and_eq_true] at e
  exact ⟨wgtB_t e.1, lnB_t e.2.1, ratB_t e.2.2.1, of_decide_eq_true e.2.2.2⟩
theorem tails_b {b c : Bool} (h : b = c) : Ending.returned (.bool b) = .returned (.bool c) := by rw [h]


set_option maxHeartbeats 1000000 in
theorem canFilterUp_any (v : Value) (h : List Int) (n p q : Int) (w : World) (hs : Sl w v h) :
    Calls Try.prog 23 #[v, .int .i64 n, .int .i64 p, .int .i64 q] w fun e w' => e = .returned (.bool (cfB h n p q)) ∧ w = w' := by
  have HS := hid hs
  clear hs
  cases h0 : wgtB h
  · have HB0 := hid h0
    clear h0
    go_enter Try.func23, Try.ntmps23
    go_wp2_with fail
    refine (impl_IsWeights_is _ h false _ HS.out HB0.out).mono ?_
    rintro e w' ⟨rfl, rfl⟩
    go_wp2_with fail
    go_ret
    exact ⟨ret_b (cf_n1 HB0.out).symm, rfl⟩
  · have HB0 := hid h0
    clear h0
    cases h1 : lnB n
    · have HB1 := hid h1
      clear h1
      go_enter Try.func23, Try.ntmps23
      go_wp2_with fail
      refine (impl_IsWeights_is _ h true _ HS.out HB0.out).mono ?_
      rintro e w' ⟨rfl, rfl⟩
      go_wp2_with fail
      refine (isLength_is _ false _ HB1.out).mono ?_
      rintro e w' ⟨rfl, rfl⟩
      go_wp2_with fail
      go_ret
      exact ⟨ret_b (cf_n2 HB1.out).symm, rfl⟩
    · have HB1 := hid h1
      clear h1
      cases h2 : ratB p q
      · have HB2 := hid h2
        clear h2
        go_enter Try.func23, Try.ntmps23
        go_wp2_with fail
        refine (impl_IsWeights_is _ h true _ HS.out HB0.out).mono ?_
        rintro e w' ⟨rfl, rfl⟩
        go_wp2_with fail
        refine (isLength_is _ true _ HB1.out).mono ?_
        rintro e w' ⟨rfl, rfl⟩
        go_wp2_with fail
        refine (isRatio_is _ _ false _ HB2.out).mono ?_
        rintro e w' ⟨rfl, rfl⟩
        go_wp2_with fail
        go_ret
        exact ⟨ret_b (cf_n3 HB2.out).symm, rfl⟩
      · have HB2 := hid h2
        clear h2
        obtain ⟨n0, n1⟩ := lnB_t HB1.out
        obtain ⟨N, rfl⟩ : ∃ N : Nat, n = N := ⟨n.toNat, by omega⟩
        obtain ⟨p1, p8, q1, q8⟩ : 1 ≤ p ∧ p ≤ 8 ∧ 1 ≤ q ∧ q ≤ 8 := by have := ratB_t HB2.out; omega
        obtain ⟨P, rfl⟩ : ∃ P : Nat, p = P := ⟨p.toNat, by omega⟩
        obtain ⟨m, hm⟩ : ∃ m, m = N * P := ⟨_, rfl⟩
        have hm5 : m ≤ 512 := by rw [hm]; exact np_le (by omega) (by omega)
        have hmi : (N : Int) * (P : Int) = (m : Int) := by rw [hm]; exact (Int.natCast_mul N P).symm
        have HM := hid hmi
        have HMN := hid hm
        have b1 : -9223372036854775808 ≤ (m : Int) ∧ (m : Int) ≤ 9223372036854775807 := by clear hmi hm; omega
        have e1 : wrap64 ((N : Int) * (P : Int)) = (m : Int) := by rw [hmi]; exact IntWalk.wrap64_in _ b1
        have e2 : IntKind.i64.wrap ((N : Int) * (P : Int)) = (m : Int) := by rw [hmi]; exact IntWalk.i64_in _ b1
        clear hm hmi b1
        cases h3 : fits (N : Int) (P : Int)
        · have HB3 := hid h3
          clear h3
          have HF := hid (fits_ln HM.out (by omega) HB3.out)
          go_enter Try.func23, Try.ntmps23
          go_wp2_with fail
          refine (impl_IsWeights_is _ h true _ HS.out HB0.out).mono ?_
          rintro e w' ⟨rfl, rfl⟩
          go_wp2_with fail
          refine (isLength_is _ true _ HB1.out).mono ?_
          rintro e w' ⟨rfl, rfl⟩
          go_wp2_with fail
          refine (isRatio_is _ _ true _ HB2.out).mono ?_
          rintro e w' ⟨rfl, rfl⟩
          go_wp2_with fail
          refine (isLength_is _ false _ HF.out).mono ?_
          rintro e w' ⟨rfl, rfl⟩
          go_wp2_with fail
          go_ret
          first | exact ⟨ret_b (cf_n4 HB3.out).symm, rfl⟩ | exact ⟨tails_b ((fits_le HM.out HB3.out).trans (cf_n4 HB3.out).symm), rfl⟩
        · have HB3 := hid h3
          clear h3
          have HF := hid (fits_ln HM.out (by omega) HB3.out)
          go_enter Try.func23, Try.ntmps23
          go_wp2_with fail
          refine (impl_IsWeights_is _ h true _ HS.out HB0.out).mono ?_
          rintro e w' ⟨rfl, rfl⟩
          go_wp2_with fail
          refine (isLength_is _ true _ HB1.out).mono ?_
          rintro e w' ⟨rfl, rfl⟩
          go_wp2_with fail
          refine (isRatio_is _ _ true _ HB2.out).mono ?_
          rintro e w' ⟨rfl, rfl⟩
          go_wp2_with fail
          refine (isLength_is _ true _ HF.out).mono ?_
          rintro e w' ⟨rfl, rfl⟩
          go_wp2
          go_ret
          first | exact ⟨ret_b (cf_y HB0.out HB1.out HB2.out HB3.out).symm, rfl⟩ | exact ⟨tails_b ((fits_le HM.out HB3.out).trans (cf_y HB0.out HB1.out HB2.out HB3.out).symm), rfl⟩

theorem canFilterUp_is (v : Value) (h : List Int) (n p q : Int) (b : Bool) (w : World) (hs : Sl w v h) (e : cfB h n p q = b) :
    Calls Try.prog 23 #[v, .int .i64 n, .int .i64 p, .int .i64 q] w fun e w' => e = .returned (.bool (b)) ∧ w = w' := by subst e; exact canFilterUp_any v h n p q w hs


/-- products made for so many places -/
def pdF (L k : Nat) : Int := sumF k (fun i => ((min (i + 1) L : Nat) : Int))
theorem pdF_succ (L k : Nat) : pdF L (k + 1) = pdF L k + ((min (k + 1) L : Nat) : Int) := sumF_succ k _
theorem pdF_in {L k : Nat} (hL : L ≤ 9) : 0 ≤ pdF L k ∧ pdF L k ≤ (k : Int) * 9 := sumF_upto k _ 9 fun i _ => by omega
def pdB (h : List Int) (n p q : Int) : Bool := cfB h n p q
theorem pdb {h : List Int} {n p q : Int} {b : Bool} (e : cfB h n p q = b) : pdB h n p q = b := e
end Go.Proofs.Ytjbpfphfajohnaa
