
import Derived.Test.YtedhclicjkjlfaaKd
import Derived.Test.YtedhclicjkjlfaaLt
import Derived.Test.YtedhclicjkjlfaaLg
import Derived.Test.YtedhclicjkjlfaaLe
import Derived.Test.YtedhclicjkjlfaaKf
namespace Go.Proofs.Ytedhclicjkjlfaa
open Go.RowKit BitX Go.MemX Go.ShX
set_option linter.unusedVariables false

set_option maxHeartbeats 400000 in
theorem spec_IsWord_yes (b : Int) (wr : Bool) (w : World) (h1 : 2 ≤ b) (h2 : b ≤ 16) :
    Calls Try.prog 12 #[.agg #[.int .i64 b, .bool wr]] w fun e w' => e = .returned (.bool true) ∧ Below w.heap.size w w' := by
  go_enter Try.func12, Try.ntmps12
  go_wp2_with (go_at_call 31; refine (wdGood_yes b wr _ h1 h2).mono ?_; rintro e w1 ⟨rfl, hb1⟩)
  go_ret
  exact ⟨rfl, ((Below.refl _ _).alloc (Nat.le_refl _) _).trans (hb1.mono (by simp))⟩

set_option maxHeartbeats 400000 in
theorem spec_IsWord_no (b : Int) (wr : Bool) (w : World) (h : ¬ (2 ≤ b ∧ b ≤ 16)) :
    Calls Try.prog 12 #[.agg #[.int .i64 b, .bool wr]] w fun e w' => e = .returned (.bool false) ∧ Below w.heap.size w w' := by
  have H := hid h
  clear h
  go_enter Try.func12, Try.ntmps12
  go_wp2_with (go_at_call 31; refine (wdGood_no b wr _ H.out).mono ?_; rintro e w1 ⟨rfl, hb1⟩)
  go_ret
  exact ⟨rfl, ((Below.refl _ _).alloc (Nat.le_refl _) _).trans (hb1.mono (by simp))⟩


set_option maxHeartbeats 400000 in
theorem spec_RangeOf_yes (b : Nat) (wr : Bool) (w : World) (h1 : 2 ≤ b) (h2 : b ≤ 16) :
    Calls Try.prog 10 #[.agg #[.int .i64 (b : Int), .bool wr]] w fun e w' => e = .returned (.tuple #[.int .i64 (-(2 : Int) ^ (b - 1)), .int .i64 (2 ^ (b - 1) - 1), .bool true]) ∧ Below w.heap.size w w' := by
  go_enter Try.func10, Try.ntmps10
  go_wp2_with fail
  refine (wdGood_yes _ _ _ (by omega) (by omega)).mono ?_
  rintro e w1 ⟨rfl, B1⟩
  obtain ⟨c0, c1⟩ := box2_cells B1
  go_wp2_with fail
  go_region_with (first | (go_at_call 36; refine (wdLow_any b wr _ (by omega) h2).mono ?_; rintro e w2 ⟨rfl, B2⟩; have B3 := bel_step B1.drew B2; obtain ⟨d0, d1⟩ := box2_cells B3) | (go_at_call 37; refine (wdHigh_any b wr _ (by omega) h2).mono ?_; rintro e w4 ⟨rfl, B4⟩; have B5 := bel_step B3 B4))
  all_goals go_wp2
  all_goals go_ret3
  all_goals exact ⟨rfl, bel_step (bel_alloc _ _) B5⟩

set_option maxHeartbeats 400000 in
theorem spec_RangeOf_no (b : Int) (wr : Bool) (w : World) (h : ¬ (2 ≤ b ∧ b ≤ 16)) :
    Calls Try.prog 10 #[.agg #[.int .i64 b, .bool wr]] w fun e w' => e = .returned (.tuple #[.int .i64 0, .int .i64 0, .bool false]) ∧ Below w.heap.size w w' := by
  have H := hid h
  clear h
  go_enter Try.func10, Try.ntmps10
  go_wp2_with fail
  refine (wdGood_no _ _ _ H.out).mono ?_
  rintro e w1 ⟨rfl, B1⟩
  go_wp2
  go_ret3
  exact ⟨rfl, bel_step (bel_alloc _ _) B1⟩


set_option maxHeartbeats 400000 in
theorem impl_RangeOf_yes (b : Nat) (wr : Bool) (w : World) (h1 : 2 ≤ b) (h2 : b ≤ 16) :
    Calls Try.prog 9 #[.agg #[.int .i64 (b : Int), .bool wr]] w fun e w' => e = .returned (.tuple #[.int .i64 (-(2 : Int) ^ (b - 1)), .int .i64 (2 ^ (b - 1) - 1), .bool true]) ∧ Below w.heap.size w w' := by
  go_enter Try.func9, Try.ntmps9
  go_wp2_with fail
  refine (impl_IsWord_yes _ _ _ (by omega) (by omega)).mono ?_
  rintro e w1 ⟨rfl, B1⟩
  obtain ⟨c0, c1⟩ := box2_cells B1
  go_wp2_with fail
  go_region_with (first | (go_at_call 34; refine (leastOf_any b wr _ (by omega) h2).mono ?_; rintro e w2 ⟨rfl, B2⟩; have B3 := bel_step B1.drew B2; obtain ⟨d0, d1⟩ := box2_cells B3) | (go_at_call 35; refine (greatestOf_any b wr _ (by omega) h2).mono ?_; rintro e w4 ⟨rfl, B4⟩; have B5 := bel_step B3 B4))
  all_goals go_wp2
  all_goals go_ret3
  all_goals exact ⟨rfl, bel_step (bel_alloc _ _) B5⟩

set_option maxHeartbeats 400000 in
theorem impl_RangeOf_no (b : Int) (wr : Bool) (w : World) (h : ¬ (2 ≤ b ∧ b ≤ 16)) :
    Calls Try.prog 9 #[.agg #[.int .i64 b, .bool wr]] w fun e w' => e = .returned (.tuple #[.int .i64 0, .int .i64 0, .bool false]) ∧ Below w.heap.size w w' := by
  have H := hid h
  clear h
  go_enter Try.func9, Try.ntmps9
  go_wp2_with fail
  refine (impl_IsWord_no _ _ _ H.out).mono ?_
  rintro e w1 ⟨rfl, B1⟩
  go_wp2
  go_ret3
  exact ⟨rfl, bel_step (bel_alloc _ _) B1⟩



theorem spec_IsWord_is (b : Int) (wr : Bool) (w : World) :
    Calls Try.prog 12 #[.agg #[.int .i64 b, .bool wr]] w fun e w' => e = .returned (.bool (wordB b)) ∧ Below w.heap.size w w' := by
  cases h : wordB b
  · exact spec_IsWord_no b wr w (wordB_f h)
  · exact spec_IsWord_yes b wr w (wordB_t h).1 (wordB_t h).2
def loV (b : Int) : Int := onB (wordB b) (-(2 : Int) ^ (b.toNat - 1)) 0
def hiV (b : Int) : Int := onB (wordB b) ((2 : Int) ^ (b.toNat - 1) - 1) 0
def nuB (x : Int) : Bool := decide (-1000000000000 ≤ x ∧ x ≤ 1000000000000)
def fnB (b x : Int) : Bool := wordB b && nuB x
def fnV (b : Int) (wr : Bool) (x : Int) : Int := onB (fnB b x) (fitI b.toNat wr x) 0
def aiB (b x y : Int) : Bool := wordB b && (inW b x && inW b y)
def aiV (b : Int) (wr : Bool) (x y : Int) : Int := onB (aiB b x y) (fitI b.toNat wr (x + y)) 0
def liV (b : Int) (wr : Bool) (x y : Int) : Int := onB (aiB b x y) (fitI b.toNat wr (x - y)) 0
def tiB (b x y k m : Int) : Bool := wordB b && (inW b x && (inW b y && (shB k && moB m)))
def tiV (b : Int) (wr : Bool) (x y k m : Int) : Int := onB (tiB b x y k m) (fitI b.toNat wr (shiftI (x * y) k.toNat m)) 0
theorem inW_n (n : Nat) (y : Int) : inW (n : Int) y = decide (-(2 : Int) ^ (n - 1) ≤ y ∧ y ≤ 2 ^ (n - 1) - 1) := by unfold inW; rw [Int.toNat_natCast]
theorem word_n {b : Int} (h : wordB b = true) : ∃ n : Nat, b = n ∧ 2 ≤ n ∧ n ≤ 16 := ⟨b.toNat, by have := wordB_t h; omega, by have := wordB_t h; omega, by have := wordB_t h; omega⟩
theorem tup_of {P : Program} {f : FuncId} {args : Array Value} {w : World} {u v : Value} (hv : u = v) (h : Calls P f args w fun e w' => e = .returned u ∧ Below w.heap.size w w') :
    Calls P f args w fun e w' => e = .returned v ∧ Below w.heap.size w w' := by subst hv; exact h


theorem spec_RangeOf_u (b : Int) (wr : Bool) (w : World) :
    Calls Try.prog 10 #[.agg #[.int .i64 b, .bool wr]] w fun e w' => e = .returned (.tuple #[.int .i64 (loV b), .int .i64 (hiV b), .bool (wordB b)]) ∧ Below w.heap.size w w' := by
  cases hb : wordB b
  · exact tup_of (by unfold loV hiV; rw [hb]; rfl) (spec_RangeOf_no b wr w (wordB_f hb))
  · obtain ⟨n, rfl, h1, h2⟩ := word_n hb
    exact tup_of (by unfold loV hiV; rw [hb, Int.toNat_natCast]; rfl) (spec_RangeOf_yes n wr w h1 h2)


theorem spec_FitNumber_u (b : Int) (wr : Bool) (x : Int) (w : World) :
    Calls Try.prog 8 #[.agg #[.int .i64 b, .bool wr], .int .i64 x] w fun e w' => e = .returned (.tuple #[.int .i64 (fnV b wr x), .bool (fnB b x)]) ∧ Below w.heap.size w w' := by
  cases hb : wordB b
  · exact tup_of (by unfold fnV fnB; rw [hb]; rfl) (spec_FitNumber_bad b x wr w (wordB_f hb))
  · obtain ⟨n, rfl, h1, h2⟩ := word_n hb
    cases hx : nuB x
    · exact tup_of (by unfold fnV fnB; rw [hb, hx]; rfl) (spec_FitNumber_no n x wr w h1 h2 (of_decide_eq_false hx))
    · exact tup_of (by unfold fnV fnB; rw [hb, hx, Int.toNat_natCast]; rfl) (spec_FitNumber_yes n x wr w h1 h2 (of_decide_eq_true hx).1 (of_decide_eq_true hx).2)


theorem spec_AddIn_u (b : Int) (wr : Bool) (x y : Int) (w : World) (xy : -4611686018427387904 ≤ x ∧ x ≤ 4611686018427387904) (yy : -4611686018427387904 ≤ y ∧ y ≤ 4611686018427387904) :
    Calls Try.prog 15 #[.agg #[.int .i64 b, .bool wr], .int .i64 x, .int .i64 y] w fun e w' => e = .returned (.tuple #[.int .i64 (aiV b wr x y), .bool (aiB b x y)]) ∧ Below w.heap.size w w' := by
  cases hb : wordB b
  · exact tup_of (by unfold aiV aiB; rw [hb]; rfl) (spec_AddIn_bad b x y wr w (wordB_f hb))
  · obtain ⟨n, rfl, h1, h2⟩ := word_n hb
    cases hx : inW n x
    · exact tup_of (by unfold aiV aiB; rw [hb, hx]; rfl) (spec_AddIn_no1 n x y wr w h1 h2 (of_decide_eq_false (by rw [← inW_n]; exact hx)))
    · have hx2 := of_decide_eq_true ((inW_n n x).symm.trans hx)
      cases hy : inW n y
      · exact tup_of (by unfold aiV aiB; rw [hb, hx, hy]; rfl) (spec_AddIn_no2 n x y wr w h1 h2 hx2 (of_decide_eq_false (by rw [← inW_n]; exact hy)))
      · exact tup_of (by unfold aiV aiB; rw [hb, hx, hy, Int.toNat_natCast]; rfl) (spec_AddIn_yes n x y wr w h1 h2 hx2 (of_decide_eq_true ((inW_n n y).symm.trans hy)))


theorem spec_LessIn_u (b : Int) (wr : Bool) (x y : Int) (w : World) (xy : -4611686018427387904 ≤ x ∧ x ≤ 4611686018427387904) (yy : -4611686018427387904 ≤ y ∧ y ≤ 4611686018427387904) :
    Calls Try.prog 17 #[.agg #[.int .i64 b, .bool wr], .int .i64 x, .int .i64 y] w fun e w' => e = .returned (.tuple #[.int .i64 (liV b wr x y), .bool (aiB b x y)]) ∧ Below w.heap.size w w' := by
  cases hb : wordB b
  · exact tup_of (by unfold liV aiB; rw [hb]; rfl) (spec_LessIn_bad b x y wr w (wordB_f hb))
  · obtain ⟨n, rfl, h1, h2⟩ := word_n hb
    cases hx : inW n x
    · exact tup_of (by unfold liV aiB; rw [hb, hx]; rfl) (spec_LessIn_no1 n x y wr w h1 h2 (of_decide_eq_false (by rw [← inW_n]; exact hx)))
    · have hx2 := of_decide_eq_true ((inW_n n x).symm.trans hx)
      cases hy : inW n y
      · exact tup_of (by unfold liV aiB; rw [hb, hx, hy]; rfl) (spec_LessIn_no2 n x y wr w h1 h2 hx2 (of_decide_eq_false (by rw [← inW_n]; exact hy)))
      · exact tup_of (by unfold liV aiB; rw [hb, hx, hy, Int.toNat_natCast]; rfl) (spec_LessIn_yes n x y wr w h1 h2 hx2 (of_decide_eq_true ((inW_n n y).symm.trans hy)))


theorem spec_TimesIn_u (b : Int) (wr : Bool) (x y k m : Int) (w : World) (xy : -4611686018427387904 ≤ x ∧ x ≤ 4611686018427387904) (yy : -4611686018427387904 ≤ y ∧ y ≤ 4611686018427387904) :
    Calls Try.prog 20 #[.agg #[.int .i64 b, .bool wr], .int .i64 x, .int .i64 y, .int .i64 k, .int .i64 m] w fun e w' => e = .returned (.tuple #[.int .i64 (tiV b wr x y k m), .bool (tiB b x y k m)]) ∧ Below w.heap.size w w' := by
  cases hb : wordB b
  · exact tup_of (by unfold tiV tiB; rw [hb]; rfl) (spec_TimesIn_bad b x y k m wr w (wordB_f hb))
  · obtain ⟨n, rfl, h1, h2⟩ := word_n hb
    cases hx : inW n x
    · exact tup_of (by unfold tiV tiB; rw [hb, hx]; rfl) (spec_TimesIn_no1 n x y k m wr w h1 h2 (of_decide_eq_false (by rw [← inW_n]; exact hx)))
    · have hx2 := of_decide_eq_true ((inW_n n x).symm.trans hx)
      cases hy : inW n y
      · exact tup_of (by unfold tiV tiB; rw [hb, hx, hy]; rfl) (spec_TimesIn_no2 n x y k m wr w h1 h2 hx2 (of_decide_eq_false (by rw [← inW_n]; exact hy)))
      · have hy2 := of_decide_eq_true ((inW_n n y).symm.trans hy)
        cases hk : (shB k && moB m)
        · exact tup_of (by unfold tiV tiB; rw [hb, hx, hy, hk]; rfl) (spec_TimesIn_no3 n x y k m wr w h1 h2 hx2 hy2 (fun a => by unfold shB moB at hk; rw [decide_eq_true a.1, decide_eq_true a.2] at hk; cases hk))
        · have hk2 := hk
          rw [Bool.and_eq_true] at hk2
          obtain ⟨q, rfl⟩ : ∃ q : Nat, k = q := ⟨k.toNat, by have := shB_t hk2.1; omega⟩
          have a1 := shB_t hk2.1
          have a2 := moB_t hk2.2
          exact tup_of (by unfold tiV tiB; rw [hb, hx, hy, hk, Int.toNat_natCast, Int.toNat_natCast]; rfl) (spec_TimesIn_yes n x y q m wr w h1 h2 hx2 hy2 (by omega) a2.1 a2.2)


theorem impl_RangeOf_u (b : Int) (wr : Bool) (w : World) :
    Calls Try.prog 9 #[.agg #[.int .i64 b, .bool wr]] w fun e w' => e = .returned (.tuple #[.int .i64 (loV b), .int .i64 (hiV b), .bool (wordB b)]) ∧ Below w.heap.size w w' := by
  cases hb : wordB b
  · exact tup_of (by unfold loV hiV; rw [hb]; rfl) (impl_RangeOf_no b wr w (wordB_f hb))
  · obtain ⟨n, rfl, h1, h2⟩ := word_n hb
    exact tup_of (by unfold loV hiV; rw [hb, Int.toNat_natCast]; rfl) (impl_RangeOf_yes n wr w h1 h2)


theorem impl_FitNumber_u (b : Int) (wr : Bool) (x : Int) (w : World) :
    Calls Try.prog 7 #[.agg #[.int .i64 b, .bool wr], .int .i64 x] w fun e w' => e = .returned (.tuple #[.int .i64 (fnV b wr x), .bool (fnB b x)]) ∧ Below w.heap.size w w' := by
  cases hb : wordB b
  · exact tup_of (by unfold fnV fnB; rw [hb]; rfl) (impl_FitNumber_bad b x wr w (wordB_f hb))
  · obtain ⟨n, rfl, h1, h2⟩ := word_n hb
    cases hx : nuB x
    · exact tup_of (by unfold fnV fnB; rw [hb, hx]; rfl) (impl_FitNumber_no n x wr w h1 h2 (of_decide_eq_false hx))
    · exact tup_of (by unfold fnV fnB; rw [hb, hx, Int.toNat_natCast]; rfl) (impl_FitNumber_yes n x wr w h1 h2 (of_decide_eq_true hx).1 (of_decide_eq_true hx).2)


theorem impl_AddIn_u (b : Int) (wr : Bool) (x y : Int) (w : World) (xy : -4611686018427387904 ≤ x ∧ x ≤ 4611686018427387904) (yy : -4611686018427387904 ≤ y ∧ y ≤ 4611686018427387904) :
    Calls Try.prog 14 #[.agg #[.int .i64 b, .bool wr], .int .i64 x, .int .i64 y] w fun e w' => e = .returned (.tuple #[.int .i64 (aiV b wr x y), .bool (aiB b x y)]) ∧ Below w.heap.size w w' := by
  cases hb : wordB b
  · exact tup_of (by unfold aiV aiB; rw [hb]; rfl) (impl_AddIn_bad b x y wr w (wordB_f hb))
  · obtain ⟨n, rfl, h1, h2⟩ := word_n hb
    cases hx : inW n x
    · exact tup_of (by unfold aiV aiB; rw [hb, hx]; rfl) (impl_AddIn_no1 n x y wr w h1 h2 (by omega) (by omega) (of_decide_eq_false (by rw [← inW_n]; exact hx)))
    · have hx2 := of_decide_eq_true ((inW_n n x).symm.trans hx)
      cases hy : inW n y
      · exact tup_of (by unfold aiV aiB; rw [hb, hx, hy]; rfl) (impl_AddIn_no2 n x y wr w h1 h2 (by omega) (by omega) (by omega) (by omega) hx2 (of_decide_eq_false (by rw [← inW_n]; exact hy)))
      · exact tup_of (by unfold aiV aiB; rw [hb, hx, hy, Int.toNat_natCast]; rfl) (impl_AddIn_yes n x y wr w h1 h2 hx2 (of_decide_eq_true ((inW_n n y).symm.trans hy)))


theorem impl_LessIn_u (b : Int) (wr : Bool) (x y : Int) (w : World) (xy : -4611686018427387904 ≤ x ∧ x ≤ 4611686018427387904) (yy : -4611686018427387904 ≤ y ∧ y ≤ 4611686018427387904) :
    Calls Try.prog 16 #[.agg #[.int .i64 b, .bool wr], .int .i64 x, .int .i64 y] w fun e w' => e = .returned (.tuple #[.int .i64 (liV b wr x y), .bool (aiB b x y)]) ∧ Below w.heap.size w w' := by
  cases hb : wordB b
  · exact tup_of (by unfold liV aiB; rw [hb]; rfl) (impl_LessIn_bad b x y wr w (wordB_f hb))
  · obtain ⟨n, rfl, h1, h2⟩ := word_n hb
    cases hx : inW n x
    · exact tup_of (by unfold liV aiB; rw [hb, hx]; rfl) (impl_LessIn_no1 n x y wr w h1 h2 (by omega) (by omega) (of_decide_eq_false (by rw [← inW_n]; exact hx)))
    · have hx2 := of_decide_eq_true ((inW_n n x).symm.trans hx)
      cases hy : inW n y
      · exact tup_of (by unfold liV aiB; rw [hb, hx, hy]; rfl) (impl_LessIn_no2 n x y wr w h1 h2 (by omega) (by omega) (by omega) (by omega) hx2 (of_decide_eq_false (by rw [← inW_n]; exact hy)))
      · exact tup_of (by unfold liV aiB; rw [hb, hx, hy, Int.toNat_natCast]; rfl) (impl_LessIn_yes n x y wr w h1 h2 hx2 (of_decide_eq_true ((inW_n n y).symm.trans hy)))


theorem impl_TimesIn_u (b : Int) (wr : Bool) (x y k m : Int) (w : World) (xy : -4611686018427387904 ≤ x ∧ x ≤ 4611686018427387904) (yy : -4611686018427387904 ≤ y ∧ y ≤ 4611686018427387904) :
    Calls Try.prog 19 #[.agg #[.int .i64 b, .bool wr], .int .i64 x, .int .i64 y, .int .i64 k, .int .i64 m] w fun e w' => e = .returned (.tuple #[.int .i64 (tiV b wr x y k m), .bool (tiB b x y k m)]) ∧ Below w.heap.size w w' := by
  cases hb : wordB b
  · exact tup_of (by unfold tiV tiB; rw [hb]; rfl) (impl_TimesIn_bad b x y k m wr w (wordB_f hb))
  · obtain ⟨n, rfl, h1, h2⟩ := word_n hb
    cases hx : inW n x
    · exact tup_of (by unfold tiV tiB; rw [hb, hx]; rfl) (impl_TimesIn_no1 n x y k m wr w h1 h2 (by omega) (by omega) (of_decide_eq_false (by rw [← inW_n]; exact hx)))
    · have hx2 := of_decide_eq_true ((inW_n n x).symm.trans hx)
      cases hy : inW n y
      · exact tup_of (by unfold tiV tiB; rw [hb, hx, hy]; rfl) (impl_TimesIn_no2 n x y k m wr w h1 h2 (by omega) (by omega) (by omega) (by omega) hx2 (of_decide_eq_false (by rw [← inW_n]; exact hy)))
      · have hy2 := of_decide_eq_true ((inW_n n y).symm.trans hy)
        cases hk : (shB k && moB m)
        · exact tup_of (by unfold tiV tiB; rw [hb, hx, hy, hk]; rfl) (impl_TimesIn_no3 n x y k m wr w h1 h2 (by omega) (by omega) (by omega) (by omega) hx2 hy2 (fun a => by unfold shB moB at hk; rw [decide_eq_true a.1, decide_eq_true a.2] at hk; cases hk))
        · have hk2 := hk
          rw [Bool.and_eq_true] at hk2
          obtain ⟨q, rfl⟩ : ∃ q : Nat, k = q := ⟨k.toNat, by have := shB_t hk2.1; omega⟩
          have a1 := shB_t hk2.1
          have a2 := moB_t hk2.2
          exact tup_of (by unfold tiV tiB; rw [hb, hx, hy, hk, Int.toNat_natCast, Int.toNat_natCast]; rfl) (impl_TimesIn_yes n x y q m wr w h1 h2 hx2 hy2 (by omega) a2.1 a2.2)

end Go.Proofs.Ytedhclicjkjlfaa
