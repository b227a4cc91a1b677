
import Derived.Test.YtfeihplfcbjigaaUb
namespace Go.Proofs.Ytfeihplfcbjigaa
open Go.RowKit BitX Go.MemX Go.Ch6 Go.Ch8
set_option linter.unusedVariables false
theorem onI8_no {x : Int} {b : Bool} (h : b = false) : Ending.returned (.tuple #[.int .i64 0, .bool false]) = .returned (.tuple #[.int .i64 (onI b x), .bool b]) := by subst h; rfl
theorem onI8_yes {x y : Int} {b : Bool} (h : b = true) (e : y = x) : Ending.returned (.tuple #[.int .i64 y, .bool true]) = .returned (.tuple #[.int .i64 (onI b x), .bool b]) := by subst h e; rfl
theorem fits_ln {n p m : Int} {b : Bool} (h : n * p = m) (h0 : 0 ≤ m) (hb : fits n p = b) : lnB m = b := by
  subst hb h; unfold lnB fits; exact decide_eq_decide.2 ⟨fun h => h.2, fun h => ⟨h0, h⟩⟩
theorem fits_le {n p m : Int} {b : Bool} (h : n * p = m) (hb : fits n p = b) : decide (m ≤ 64) = b := by subst hb h; rfl
theorem cf_n1 {h : List Int} {n p q : Int} (e : wgtB h = false) : cfB h n p q = false := and_n1 e
theorem cf_n2 {h : List Int} {n p q : Int} (e : lnB n = false) : cfB h n p q = false := and_n2 (and_n1 e)
theorem cf_n3 {h : List Int} {n p q : Int} (e : ratB p q = false) : cfB h n p q = false := and_n2 (and_n2 (and_n1 e))
theorem cf_n4 {h : List Int} {n p q : Int} (e : fits n p = false) : cfB h n p q = false := and_n2 (and_n2 (and_n2 e))
theorem cf_y {h : List Int} {n p q : Int} (e1 : wgtB h = true) (e2 : lnB n = true) (e3 : ratB p q = true) (e4 : fits n p = true) : cfB h n p q = true := and_t e1 (and_t e2 (and_t e3 e4))
theorem cf_t {h : List Int} {n p q : Int} (e : cfB h n p q = true) : WgtP h ∧ (0 ≤ n ∧ n ≤ 64) ∧ ((1 ≤ p ∧ p ≤ 8) ∧ (1 ≤ q ∧ q ≤ 8)) ∧ n * p ≤ 64 := by
  unfold cfB at e
  simp only [Bool.and_eq_true] at e
  exact ⟨wgtB_t e.1, lnB_t e.2.1, ratB_t e.2.2.1, of_decide_eq_true e.2.2.2⟩
theorem tails_b {b c : Bool} (h : b = c) : Ending.returned (.bool b) = .returned (.bool c) := by rw [h]


set_option maxHeartbeats 1000000 in
theorem canFilterUp_any (v : Value) (h : List Int) (n p q : Int) (w : World) (hs : Sl w v h) :
    Calls Try.prog 42 #[v, .int .i64 n, .int .i64 p, .int .i64 q] w fun e w' => e = .returned (.bool (cfB h n p q)) ∧ w = w' := by
  have HS := hid hs
  clear hs
  cases h0 : wgtB h
  · have HB0 := hid h0
    clear h0
    go_enter Try.func42, Try.ntmps42
    go_wp2_with fail
    refine (impl_IsWeights_is _ h false _ HS.out HB0.out).mono ?_
    rintro e w' ⟨rfl, rfl⟩
    go_wp2_with fail
    go_ret
    exact ⟨ret_b (cf_n1 HB0.out).symm, rfl⟩
  · have HB0 := hid h0
    clear h0
    cases h1 : lnB n
    · have HB1 := hid h1
      clear h1
      go_enter Try.func42, Try.ntmps42
      go_wp2_with fail
      refine (impl_IsWeights_is _ h true _ HS.out HB0.out).mono ?_
      rintro e w' ⟨rfl, rfl⟩
      go_wp2_with fail
      refine (isLength_is _ false _ HB1.out).mono ?_
      rintro e w' ⟨rfl, rfl⟩
      go_wp2_with fail
      go_ret
      exact ⟨ret_b (cf_n2 HB1.out).symm, rfl⟩
    · have HB1 := hid h1
      clear h1
      cases h2 : ratB p q
      · have HB2 := hid h2
        clear h2
        go_enter Try.func42, Try.ntmps42
        go_wp2_with fail
        refine (impl_IsWeights_is _ h true _ HS.out HB0.out).mono ?_
        rintro e w' ⟨rfl, rfl⟩
        go_wp2_with fail
        refine (isLength_is _ true _ HB1.out).mono ?_
        rintro e w' ⟨rfl, rfl⟩
        go_wp2_with fail
        refine (isRatio_is _ _ false _ HB2.out).mono ?_
        rintro e w' ⟨rfl, rfl⟩
        go_wp2_with fail
        go_ret
        exact ⟨ret_b (cf_n3 HB2.out).symm, rfl⟩
      · have HB2 := hid h2
        clear h2
        obtain ⟨n0, n1⟩ := lnB_t HB1.out
        obtain ⟨N, rfl⟩ : ∃ N : Nat, n = N := ⟨n.toNat, by omega⟩
        obtain ⟨p1, p8, q1, q8⟩ : 1 ≤ p ∧ p ≤ 8 ∧ 1 ≤ q ∧ q ≤ 8 := by have := ratB_t HB2.out; omega
        obtain ⟨P, rfl⟩ : ∃ P : Nat, p = P := ⟨p.toNat, by omega⟩
        obtain ⟨m, hm⟩ : ∃ m, m = N * P := ⟨_, rfl⟩
        have hm5 : m ≤ 512 := by rw [hm]; exact np_le (by omega) (by omega)
        have hmi : (N : Int) * (P : Int) = (m : Int) := by rw [hm]; exact (Int.natCast_mul N P).symm
        have HM := hid hmi
        have HMN := hid hm
        have b1 : -9223372036854775808 ≤ (m : Int) ∧ (m : Int) ≤ 9223372036854775807 := by clear hmi hm; omega
        have e1 : wrap64 ((N : Int) * (P : Int)) = (m : Int) := by rw [hmi]; exact IntWalk.wrap64_in _ b1
        have e2 : IntKind.i64.wrap ((N : Int) * (P : Int)) = (m : Int) := by rw [hmi]; exact IntWalk.i64_in _ b1
        clear hm hmi b1
        cases h3 : fits (N : Int) (P : Int)
        · have HB3 := hid h3
          clear h3
          have HF := hid (fits_ln HM.out (by omega) HB3.out)
          go_enter Try.func42, Try.ntmps42
          go_wp2_with fail
          refine (impl_IsWeights_is _ h true _ HS.out HB0.out).mono ?_
          rintro e w' ⟨rfl, rfl⟩
          go_wp2_with fail
          refine (isLength_is _ true _ HB1.out).mono ?_
          rintro e w' ⟨rfl, rfl⟩
          go_wp2_with fail
          refine (isRatio_is _ _ true _ HB2.out).mono ?_
          rintro e w' ⟨rfl, rfl⟩
          go_wp2_with fail
          refine (isLength_is _ false _ HF.out).mono ?_
          rintro e w' ⟨rfl, rfl⟩
          go_wp2_with fail
          go_ret
          first | exact ⟨ret_b (cf_n4 HB3.out).symm, rfl⟩ | exact ⟨tails_b ((fits_le HM.out HB3.out).trans (cf_n4 HB3.out).symm), rfl⟩
        · have HB3 := hid h3
          clear h3
          have HF := hid (fits_ln HM.out (by omega) HB3.out)
          go_enter Try.func42, Try.ntmps42
          go_wp2_with fail
          refine (impl_IsWeights_is _ h true _ HS.out HB0.out).mono ?_
          rintro e w' ⟨rfl, rfl⟩
          go_wp2_with fail
          refine (isLength_is _ true _ HB1.out).mono ?_
          rintro e w' ⟨rfl, rfl⟩
          go_wp2_with fail
          refine (isRatio_is _ _ true _ HB2.out).mono ?_
          rintro e w' ⟨rfl, rfl⟩
          go_wp2_with fail
          refine (isLength_is _ true _ HF.out).mono ?_
          rintro e w' ⟨rfl, rfl⟩
          go_wp2
          go_ret
          first | exact ⟨ret_b (cf_y HB0.out HB1.out HB2.out HB3.out).symm, rfl⟩ | exact ⟨tails_b ((fits_le HM.out HB3.out).trans (cf_y HB0.out HB1.out HB2.out HB3.out).symm), rfl⟩

theorem canFilterUp_is (v : Value) (h : List Int) (n p q : Int) (b : Bool) (w : World) (hs : Sl w v h) (e : cfB h n p q = b) :
    Calls Try.prog 42 #[v, .int .i64 n, .int .i64 p, .int .i64 q] w fun e w' => e = .returned (.bool (b)) ∧ w = w' := by subst e; exact canFilterUp_any v h n p q w hs


set_option maxHeartbeats 1000000 in
theorem rsCount_any (v : Value) (h : List Int) (n p q : Int) (w : World) (hs : Sl w v h) :
    Calls Try.prog 40 #[v, .int .i64 n, .int .i64 p, .int .i64 q] w fun e w' => e = .returned (.bool (cfB h n p q)) ∧ w = w' := by
  have HS := hid hs
  clear hs
  cases h0 : wgtB h
  · have HB0 := hid h0
    clear h0
    go_enter Try.func40, Try.ntmps40
    go_wp2_with fail
    refine (weGood_is _ h false _ HS.out HB0.out).mono ?_
    rintro e w' ⟨rfl, rfl⟩
    go_wp2_with fail
    go_ret
    exact ⟨ret_b (cf_n1 HB0.out).symm, rfl⟩
  · have HB0 := hid h0
    clear h0
    cases h1 : lnB n
    · have HB1 := hid h1
      clear h1
      go_enter Try.func40, Try.ntmps40
      go_wp2_with fail
      refine (weGood_is _ h true _ HS.out HB0.out).mono ?_
      rintro e w' ⟨rfl, rfl⟩
      go_wp2_with fail
      refine (l1In_is _ _ _ false _ HB1.out).mono ?_
      rintro e w' ⟨rfl, rfl⟩
      go_wp2_with fail
      go_ret
      exact ⟨ret_b (cf_n2 HB1.out).symm, rfl⟩
    · have HB1 := hid h1
      clear h1
      cases h2 : ratB p q
      · have HB2 := hid h2
        clear h2
        go_enter Try.func40, Try.ntmps40
        go_wp2_with fail
        refine (weGood_is _ h true _ HS.out HB0.out).mono ?_
        rintro e w' ⟨rfl, rfl⟩
        go_wp2_with fail
        refine (l1In_is _ _ _ true _ HB1.out).mono ?_
        rintro e w' ⟨rfl, rfl⟩
        go_wp2_with fail
        refine (rsRatio_is _ _ false _ HB2.out).mono ?_
        rintro e w' ⟨rfl, rfl⟩
        go_wp2_with fail
        go_ret
        exact ⟨ret_b (cf_n3 HB2.out).symm, rfl⟩
      · have HB2 := hid h2
        clear h2
        obtain ⟨n0, n1⟩ := lnB_t HB1.out
        obtain ⟨N, rfl⟩ : ∃ N : Nat, n = N := ⟨n.toNat, by omega⟩
        obtain ⟨p1, p8, q1, q8⟩ : 1 ≤ p ∧ p ≤ 8 ∧ 1 ≤ q ∧ q ≤ 8 := by have := ratB_t HB2.out; omega
        obtain ⟨P, rfl⟩ : ∃ P : Nat, p = P := ⟨p.toNat, by omega⟩
        obtain ⟨m, hm⟩ : ∃ m, m = N * P := ⟨_, rfl⟩
        have hm5 : m ≤ 512 := by rw [hm]; exact np_le (by omega) (by omega)
        have hmi : (N : Int) * (P : Int) = (m : Int) := by rw [hm]; exact (Int.natCast_mul N P).symm
        have HM := hid hmi
        have HMN := hid hm
        have b1 : -9223372036854775808 ≤ (m : Int) ∧ (m : Int) ≤ 9223372036854775807 := by clear hmi hm; omega
        have e1 : wrap64 ((N : Int) * (P : Int)) = (m : Int) := by rw [hmi]; exact IntWalk.wrap64_in _ b1
        have e2 : IntKind.i64.wrap ((N : Int) * (P : Int)) = (m : Int) := by rw [hmi]; exact IntWalk.i64_in _ b1
        clear hm hmi b1
        cases h3 : fits (N : Int) (P : Int)
        · have HB3 := hid h3
          clear h3
          have hle := Int.not_le.1 (of_decide_eq_false (fits_le HM.out HB3.out))
          go_enter Try.func40, Try.ntmps40
          go_wp2_with fail
          refine (weGood_is _ h true _ HS.out HB0.out).mono ?_
          rintro e w' ⟨rfl, rfl⟩
          go_wp2_with fail
          refine (l1In_is _ _ _ true _ HB1.out).mono ?_
          rintro e w' ⟨rfl, rfl⟩
          go_wp2_with fail
          refine (rsRatio_is _ _ true _ HB2.out).mono ?_
          rintro e w' ⟨rfl, rfl⟩
          go_wp2_with fail
          go_ret
          first | exact ⟨ret_b (cf_n4 HB3.out).symm, rfl⟩ | exact ⟨tails_b ((fits_le HM.out HB3.out).trans (cf_n4 HB3.out).symm), rfl⟩
        · have HB3 := hid h3
          clear h3
          have hle := of_decide_eq_true (fits_le HM.out HB3.out)
          go_enter Try.func40, Try.ntmps40
          go_wp2_with fail
          refine (weGood_is _ h true _ HS.out HB0.out).mono ?_
          rintro e w' ⟨rfl, rfl⟩
          go_wp2_with fail
          refine (l1In_is _ _ _ true _ HB1.out).mono ?_
          rintro e w' ⟨rfl, rfl⟩
          go_wp2_with fail
          refine (rsRatio_is _ _ true _ HB2.out).mono ?_
          rintro e w' ⟨rfl, rfl⟩
          go_wp2
          go_ret
          first | exact ⟨ret_b (cf_y HB0.out HB1.out HB2.out HB3.out).symm, rfl⟩ | exact ⟨tails_b ((fits_le HM.out HB3.out).trans (cf_y HB0.out HB1.out HB2.out HB3.out).symm), rfl⟩

theorem rsCount_is (v : Value) (h : List Int) (n p q : Int) (b : Bool) (w : World) (hs : Sl w v h) (e : cfB h n p q = b) :
    Calls Try.prog 40 #[v, .int .i64 n, .int .i64 p, .int .i64 q] w fun e w' => e = .returned (.bool (b)) ∧ w = w' := by subst e; exact rsCount_any v h n p q w hs


/-- products made for so many places -/
def pdF (L k : Nat) : Int := sumF k (fun i => ((min (i + 1) L : Nat) : Int))
theorem pdF_succ (L k : Nat) : pdF L (k + 1) = pdF L k + ((min (k + 1) L : Nat) : Int) := sumF_succ k _
theorem pdF_in {L k : Nat} (hL : L ≤ 9) : 0 ≤ pdF L k ∧ pdF L k ≤ (k : Int) * 9 := sumF_upto k _ 9 fun i _ => by omega
def pdB (h : List Int) (n p q : Int) : Bool := cfB h n p q
theorem pdb {h : List Int} {n p q : Int} {b : Bool} (e : cfB h n p q = b) : pdB h n p q = b := e
set_option maxHeartbeats 400000 in
theorem l1Least_m (x y m : Int) (w : World) (e : min y x = m) : Calls Try.prog 41 #[.int .i64 x, .int .i64 y] w fun e w' => e = .returned (.int .i64 m) ∧ w = w' := by
  by_cases h : x < y
  · have HE := hid (show x = m from by omega)
    clear e
    go_enter Try.func41, Try.ntmps41
    go_wp2
    go_ret
    exact ⟨ret_i HE.out, rfl⟩
  · have hi : y ≤ x := by omega
    have HE := hid (show y = m from by omega)
    clear h e
    go_enter Try.func41, Try.ntmps41
    go_wp2
    go_ret
    exact ⟨ret_i HE.out, rfl⟩


set_option maxHeartbeats 1000000 in
theorem impl_ProductsDirect_any (v : Value) (h : List Int) (n p q : Int) (w : World) (hs : Sl w v h) :
    Calls Try.prog 24 #[v, .int .i64 n, .int .i64 p, .int .i64 q] w fun e w' => e = .returned (.tuple #[.int .i64 (onI (pdB h n p q) (pdF h.length (n.toNat * p.toNat))), .bool (pdB h n p q)]) ∧ Below w.heap.size w w' := by
  have HS := hid hs
  clear hs
  cases h0 : cfB h n p q
  · have HB0 := hid h0
    clear h0
    go_enter Try.func24, Try.ntmps24
    go_wp2_with fail
    refine (canFilterUp_is _ h _ _ _ false _ HS.out HB0.out).mono ?_
    rintro e w' ⟨rfl, rfl⟩
    go_wp2_with fail
    go_ret2
    exact ⟨onI8_no (pdb HB0.out), Below.refl _ _⟩
  · have HB0 := hid h0
    clear h0
    obtain ⟨hw, ⟨n0, n1⟩, ⟨⟨p1, p8⟩, ⟨q1, q8⟩⟩, hnp⟩ := cf_t HB0.out
    obtain ⟨N, rfl⟩ : ∃ N : Nat, n = N := ⟨n.toNat, by omega⟩
    obtain ⟨P, rfl⟩ : ∃ P : Nat, p = P := ⟨p.toNat, by omega⟩
    obtain ⟨m, hm⟩ : ∃ m, m = N * P := ⟨_, rfl⟩
    have hmi : (N : Int) * (P : Int) = (m : Int) := by rw [hm]; exact (Int.natCast_mul N P).symm
    rw [hmi] at hnp
    have hm64 : m ≤ 64 := by clear hm hmi; omega
    have HMN := hid hm
    have b1 : -9223372036854775808 ≤ (m : Int) ∧ (m : Int) ≤ 9223372036854775807 := by clear hmi hm; omega
    have e1 : wrap64 ((N : Int) * (P : Int)) = (m : Int) := by rw [hmi]; exact IntWalk.wrap64_in _ b1
    have e2 : IntKind.i64.wrap ((N : Int) * (P : Int)) = (m : Int) := by rw [hmi]; exact IntWalk.i64_in _ b1
    obtain ⟨u, L, cap, rfl, hL, hrd⟩ := HS.out.rd
    have hL9 : L ≤ 9 := by rw [hL]; exact hw.1.2
    have HL := hid hL
    clear hm hmi b1 hnp hw hL hrd
    go_enter Try.func24, Try.ntmps24
    go_wp2_with fail
    refine (canFilterUp_is _ h _ _ _ true _ HS.out HB0.out).mono ?_
    rintro e w' ⟨rfl, rfl⟩
    go_wp2_with fail
    go_loopw [10, 21] (fun s0 i wr => ∃ k : Nat, k ≤ m ∧ i = .int .i64 (k : Int) ∧ s0 = .int .i64 (pdF L k) ∧ Below w.heap.size w wr)
      (fun _ i _ => m - (intOf i).toNat)
    case atStart => exact ⟨0, by omega, rfl, rfl, Below.refl _ _⟩
    case round =>
      obtain ⟨k, hk, rfl, rfl, hb⟩ := hrel
      by_cases hlk : k < m
      · have hst := pdF_succ L k
        have hin := pdF_in (k := k) hL9
        obtain ⟨mn, hmn⟩ : ∃ mn, mn = min (k + 1) L := ⟨_, rfl⟩
        have hmi : min ((k : Int) + 1) (L : Int) = (mn : Int) := by omega
        have hmj : min (L : Int) ((k : Int) + 1) = (mn : Int) := by omega
        have hm9 : mn ≤ 9 := by omega
        rw [← hmn] at hst
        generalize hz : pdF L k = z at *
        have hz2 : z ≤ 576 := by omega
        have hz1 : 0 ≤ z := hin.1
        have Hst := hid hst
        clear hst hz hin
        clear hmn
        go_wp2
        go_roundw
        case rel => exact ⟨k + 1, by omega, by go_num, by first | (rw [Hst.out]; done) | (rw [Hst.out]; congr 2; split <;> omega), hb⟩
        case measure => simp [intOf]; omega
      · have hge : (m : Int) ≤ (k : Int) := by omega
        have hkn : k = m := by omega
        have Hk := hid hkn
        clear hlk hkn
        go_wp2
        go_ret2
        exact ⟨onI8_yes (pdb HB0.out) (by rw [Hk.out, HMN.out, HL.out]; rfl), hb⟩


set_option maxHeartbeats 1000000 in
theorem spec_ProductsDirect_any (v : Value) (h : List Int) (n p q : Int) (w : World) (hs : Sl w v h) :
    Calls Try.prog 23 #[v, .int .i64 n, .int .i64 p, .int .i64 q] w fun e w' => e = .returned (.tuple #[.int .i64 (onI (pdB h n p q) (pdF h.length (n.toNat * p.toNat))), .bool (pdB h n p q)]) ∧ Below w.heap.size w w' := by
  have HS := hid hs
  clear hs
  cases h0 : cfB h n p q
  · have HB0 := hid h0
    clear h0
    go_enter Try.func23, Try.ntmps23
    go_wp2_with fail
    refine (rsCount_is _ h _ _ _ false _ HS.out HB0.out).mono ?_
    rintro e w' ⟨rfl, rfl⟩
    go_wp2_with fail
    go_ret2
    exact ⟨onI8_no (pdb HB0.out), Below.refl _ _⟩
  · have HB0 := hid h0
    clear h0
    obtain ⟨hw, ⟨n0, n1⟩, ⟨⟨p1, p8⟩, ⟨q1, q8⟩⟩, hnp⟩ := cf_t HB0.out
    obtain ⟨N, rfl⟩ : ∃ N : Nat, n = N := ⟨n.toNat, by omega⟩
    obtain ⟨P, rfl⟩ : ∃ P : Nat, p = P := ⟨p.toNat, by omega⟩
    obtain ⟨m, hm⟩ : ∃ m, m = N * P := ⟨_, rfl⟩
    have hmi : (N : Int) * (P : Int) = (m : Int) := by rw [hm]; exact (Int.natCast_mul N P).symm
    rw [hmi] at hnp
    have hm64 : m ≤ 64 := by clear hm hmi; omega
    have HMN := hid hm
    have b1 : -9223372036854775808 ≤ (m : Int) ∧ (m : Int) ≤ 9223372036854775807 := by clear hmi hm; omega
    have e1 : wrap64 ((N : Int) * (P : Int)) = (m : Int) := by rw [hmi]; exact IntWalk.wrap64_in _ b1
    have e2 : IntKind.i64.wrap ((N : Int) * (P : Int)) = (m : Int) := by rw [hmi]; exact IntWalk.i64_in _ b1
    obtain ⟨u, L, cap, rfl, hL, hrd⟩ := HS.out.rd
    have hL9 : L ≤ 9 := by rw [hL]; exact hw.1.2
    have HL := hid hL
    clear hm hmi b1 hnp hw hL hrd
    go_enter Try.func23, Try.ntmps23
    go_wp2_with fail
    refine (rsCount_is _ h _ _ _ true _ HS.out HB0.out).mono ?_
    rintro e w' ⟨rfl, rfl⟩
    go_wp2_with fail
    go_loopw [10, 11] (fun s0 i wr => ∃ k : Nat, k ≤ m ∧ i = .int .i64 (k : Int) ∧ s0 = .int .i64 (pdF L k) ∧ Below w.heap.size w wr)
      (fun _ i _ => m - (intOf i).toNat)
    case atStart => exact ⟨0, by omega, rfl, rfl, Below.refl _ _⟩
    case round =>
      obtain ⟨k, hk, rfl, rfl, hb⟩ := hrel
      by_cases hlk : k < m
      · have hst := pdF_succ L k
        have hin := pdF_in (k := k) hL9
        obtain ⟨mn, hmn⟩ : ∃ mn, mn = min (k + 1) L := ⟨_, rfl⟩
        have hmi : min ((k : Int) + 1) (L : Int) = (mn : Int) := by omega
        have hmj : min (L : Int) ((k : Int) + 1) = (mn : Int) := by omega
        have hm9 : mn ≤ 9 := by omega
        rw [← hmn] at hst
        generalize hz : pdF L k = z at *
        have hz2 : z ≤ 576 := by omega
        have hz1 : 0 ≤ z := hin.1
        have Hst := hid hst
        clear hst hz hin
        have Hmi := hid hmi
        clear hmn hmi hmj
        go_wp2_with fail
        refine (l1Least_m _ _ (mn : Int) _ Hmi.out).mono ?_
        rintro e w' ⟨rfl, rfl⟩
        go_wp2
        go_roundw
        case rel => exact ⟨k + 1, by omega, by go_num, by first | (rw [Hst.out]; done) | (rw [Hst.out]; congr 2; split <;> omega), hb⟩
        case measure => simp [intOf]; omega
      · have hge : (m : Int) ≤ (k : Int) := by omega
        have hkn : k = m := by omega
        have Hk := hid hkn
        clear hlk hkn
        go_wp2
        go_ret2
        exact ⟨onI8_yes (pdb HB0.out) (by rw [Hk.out, HMN.out, HL.out]; rfl), hb⟩


set_option maxHeartbeats 1600000 in
theorem gen_FnExactProductsDirect (h : List Int) (n : Int) (p : Int) (q : Int) (u_h : Option Addr) (l_h c_h : Nat) (r0 : Int) (r1 : Bool) (w : World) (hs_h : Sl w (.slice u_h l_h c_h) h) (ll_h : l_h ≤ 1048576) (hl_h : h.length ≤ 1048576) (hspec : ∀ (w : World) (v_h : Value), Sl w v_h h → Calls Try.prog 23 #[v_h, .int .i64 n, .int .i64 p, .int .i64 q] w fun e w' => e = .returned (.tuple #[.int .i64 r0, .bool r1]) ∧ Below w.heap.size w w') (himpl : ∀ (w : World) (v_h : Value), Sl w v_h h → Calls Try.prog 24 #[v_h, .int .i64 n, .int .i64 p, .int .i64 q] w fun e w' => e = .returned (.tuple #[.int .i64 r0, .bool r1]) ∧ Below w.heap.size w w') :
    Calls Try.prog 7 #[.slice u_h l_h c_h, .int .i64 n, .int .i64 p, .int .i64 q] w fun e w' => e = .returned (.bool true) ∧ Below w.heap.size w w' := by
  have HSh := hid hs_h
  clear hs_h
  have HSP := hid hspec
  have HIM := hid himpl
  clear hspec himpl
  all_goals cases r1
  all_goals
    go_enter Try.func7, Try.ntmps7
    go_wp2_with fail
    refine (toIntS_any _ h _ HSh.out (by omega)).mono ?_
    rintro e w1 ⟨g_Ah0, hg_Ah0, rfl, K_Ah0, hb⟩
    have B1 := hb
    have hz1 : w.heap.size ≤ w1.heap.size := by first | exact hb.size | (have := hb.size; simp at this; omega)
    have Ah0 := K_Ah0.res hg_Ah0
    go_wp2_with fail
    refine (HSP.out _ _ Ah0.sl).mono ?_
    rintro e w2 ⟨rfl, hb⟩
    have B2 := bel_step B1 hb
    have hz2 : w1.heap.size ≤ w2.heap.size := hb.size
    have Ah0_2 := Ah0.kept hb
    go_wp2_with fail
    refine (toIntS_any _ h _ (HSh.out.kept B2) (by omega)).mono ?_
    rintro e w3 ⟨g_Xh, hg_Xh, rfl, K_Xh, hb⟩
    have B3 := bel_step B2 hb
    have hz3 : w2.heap.size ≤ w3.heap.size := hb.size
    have Xh := K_Xh.res hg_Xh
    have hlt_Xh := K_Xh.lt
    have hxl_Xh : g_Xh < w3.heap.size := Xh.lt rfl
    go_wp2_with fail
    refine (HIM.out _ _ Xh.sl).mono ?_
    rintro e w4 ⟨rfl, hb⟩
    have B4 := bel_step B3 hb
    have hz4 : w3.heap.size ≤ w4.heap.size := hb.size
    have Xh_4 := Xh.kept hb
    go_wp2_with fail
    refine (toIntS_any _ h _ (HSh.out.kept B4) (by omega)).mono ?_
    rintro e w5 ⟨g_TXh, hg_TXh, rfl, K_TXh, hb⟩
    have B5 := bel_step B4 hb
    have hz5 : w4.heap.size ≤ w5.heap.size := hb.size
    have Xh_5 := Xh_4.kept hb
    have TXh := K_TXh.res hg_TXh
    go_wp2_with fail
    refine (eqIntS_same _ _ h _ Xh_5.sl TXh.sl (by omega)).mono ?_
    rintro e w6 ⟨rfl, hb⟩
    have B6 := bel_step B5 hb
    have hz6 : w5.heap.size ≤ w6.heap.size := hb.size
    have Xh_6 := Xh_5.kept hb
    have TXh_6 := TXh.kept hb
    go_wp2_with fail
    go_ret
    exact ⟨rfl, B6⟩


set_option maxHeartbeats 1600000 in
theorem walk_FnExactProductsDirect (w : World) (u_h : Option Addr) (l_h c_h : Nat) (z_h : List Int) (hr_h : IsRow .i64 w u_h l_h c_h z_h) (n : Int) (w_n : (Lit.int .i64 n).wf = true) (p : Int) (w_p : (Lit.int .i64 p).wf = true) (q : Int) (w_q : (Lit.int .i64 q).wf = true) :
    Calls Try.prog 7 #[.slice u_h l_h c_h, .int .i64 n, .int .i64 p, .int .i64 q] w fun e w' => e = .returned (.bool true) ∧ Below w.heap.size w w' := by
  obtain ⟨hs_h, hlen_h, hin_h⟩ := hr_h.sl
  generalize z_h.take l_h = h at hs_h hlen_h hin_h
  clear hr_h
  obtain ⟨n_1, n_2⟩ := bounds_i64 w_n
  obtain ⟨p_1, p_2⟩ := bounds_i64 w_p
  obtain ⟨q_1, q_2⟩ := bounds_i64 w_q
  by_cases hbig_h : 1048576 < l_h
  · clear hs_h hlen_h hin_h
    go_enter Try.func7, Try.ntmps7
    go_wp2
    go_ret
    exact ⟨rfl, Below.refl _ _⟩
  · have hq_h : l_h ≤ 1048576 := by omega
    exact gen_FnExactProductsDirect h n p q _ _ _ _ _ w hs_h (by omega) (by omega)  (fun w v_h h_h => spec_ProductsDirect_any v_h h n p q w h_h) (fun w v_h h_h => impl_ProductsDirect_any v_h h n p q w h_h)

end Go.Proofs.Ytfeihplfcbjigaa
