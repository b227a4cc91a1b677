
import Derived.Test.YtdedifgpbehpoaaEa
namespace Go.Proofs.Ytdedifgpbehpoaa
open Go.RowKit BitX Go.MemX Go.Ch6
set_option linter.unusedVariables false


theorem gives_of {w w2 : World} {ys zs : List Int} {b c : Bool} {e : Ending} (h1 : b = c) (h2 : ys = zs) (h : Gives w zs c e w2) : Gives w ys b e w2 := by subst h1 h2; exact h
theorem gives_no {w w' : World} {ys : List Int} {b : Bool} (h : b = false) (hb : Below w.heap.size w w') : Gives w (onL b ys) b (.returned (.tuple #[.slice none 0 0, .bool false])) w' := by subst h; exact ⟨_, rfl, .inl ⟨rfl, rfl⟩, hb⟩
theorem gives_yes {w w' : World} {v : Value} {ys : List Int} {b : Bool} (h : b = true) (hv : Res 3 w.heap.size w' v ys) (hb : Below w.heap.size w w') : Gives w (onL b ys) b (.returned (.tuple #[v, .bool true])) w' := by subst h; exact ⟨_, rfl, hv, hb⟩
theorem onI_no {x : Int} {b : Bool} (h : b = false) : Ending.returned (.tuple #[.int .i64 0, .bool false]) = .returned (.tuple #[.int .i64 (onI b x), .bool b]) := by subst h; rfl
theorem onI_yes {x y : Int} {b : Bool} (h : b = true) (e : y = x) : Ending.returned (.tuple #[.int .i64 y, .bool true]) = .returned (.tuple #[.int .i64 (onI b x), .bool b]) := by subst h e; rfl


set_option maxHeartbeats 400000 in
theorem areStages_is (x : Int) (q : Bool) (w : World) (h : decide (1 ≤ x ∧ x ≤ 4) = q) :
    Calls Try.prog 40 #[.int .i64 x] w fun e w' => e = .returned (.bool (q)) ∧ w = w' := by
  cases q
  · have h := of_decide_eq_false h
    by_cases h1 : x < 1
    · clear h
      go_enter Try.func40, Try.ntmps40
      go_wp2
      go_ret
      exact ⟨by first | rfl | exact ret_b (decide_eq_false (by omega)) | exact ret_b (decide_eq_true (by omega)), rfl⟩
    · have h2 : 4 < x := by omega
      have h3 : 1 ≤ x := by omega
      clear h h1
      go_enter Try.func40, Try.ntmps40
      go_wp2
      go_ret
      exact ⟨by first | rfl | exact ret_b (decide_eq_false (by omega)) | exact ret_b (decide_eq_true (by omega)), rfl⟩
  · have h := of_decide_eq_true h
    obtain ⟨h1, h2⟩ := h
    go_enter Try.func40, Try.ntmps40
    go_wp2
    go_ret
    exact ⟨by first | rfl | exact ret_b (decide_eq_false (by omega)) | exact ret_b (decide_eq_true (by omega)), rfl⟩


set_option maxHeartbeats 400000 in
theorem isRate_is (x : Int) (q : Bool) (w : World) (h : decide (1 ≤ x ∧ x ≤ 8) = q) :
    Calls Try.prog 56 #[.int .i64 x] w fun e w' => e = .returned (.bool (q)) ∧ w = w' := by
  cases q
  · have h := of_decide_eq_false h
    by_cases h1 : x < 1
    · clear h
      go_enter Try.func56, Try.ntmps56
      go_wp2
      go_ret
      exact ⟨by first | rfl | exact ret_b (decide_eq_false (by omega)) | exact ret_b (decide_eq_true (by omega)), rfl⟩
    · have h2 : 8 < x := by omega
      have h3 : 1 ≤ x := by omega
      clear h h1
      go_enter Try.func56, Try.ntmps56
      go_wp2
      go_ret
      exact ⟨by first | rfl | exact ret_b (decide_eq_false (by omega)) | exact ret_b (decide_eq_true (by omega)), rfl⟩
  · have h := of_decide_eq_true h
    obtain ⟨h1, h2⟩ := h
    go_enter Try.func56, Try.ntmps56
    go_wp2
    go_ret
    exact ⟨by first | rfl | exact ret_b (decide_eq_false (by omega)) | exact ret_b (decide_eq_true (by omega)), rfl⟩


set_option maxHeartbeats 400000 in
theorem isLong_is (x : Int) (q : Bool) (w : World) (h : lonB x = q) :
    Calls Try.prog 25 #[.int .i64 x] w fun e w' => e = .returned (.bool (q)) ∧ w = w' := by
  cases q
  · have h := of_decide_eq_false h
    by_cases h1 : x < 2
    · clear h
      go_enter Try.func25, Try.ntmps25
      go_wp2
      go_ret
      exact ⟨by first | rfl | exact ret_b (decide_eq_false (by omega)) | exact ret_b (decide_eq_true (by omega)), rfl⟩
    · have h2 : 40 < x := by omega
      have h3 : 2 ≤ x := by omega
      clear h h1
      go_enter Try.func25, Try.ntmps25
      go_wp2
      go_ret
      exact ⟨by first | rfl | exact ret_b (decide_eq_false (by omega)) | exact ret_b (decide_eq_true (by omega)), rfl⟩
  · have h := of_decide_eq_true h
    obtain ⟨h1, h2⟩ := h
    go_enter Try.func25, Try.ntmps25
    go_wp2
    go_ret
    exact ⟨by first | rfl | exact ret_b (decide_eq_false (by omega)) | exact ret_b (decide_eq_true (by omega)), rfl⟩


set_option maxHeartbeats 400000 in
theorem isComb_is (st r : Int) (q : Bool) (w : World) (h : askB st r = q) :
    Calls Try.prog 26 #[.int .i64 st, .int .i64 r] w fun e w' => e = .returned (.bool (q)) ∧ w = w' := by
  cases ha : decide (1 ≤ st ∧ st ≤ 4)
  · have HA := hid ha
    obtain rfl : q = false := by rw [← h]; simp only [askB, ha, Bool.false_and]
    clear ha h
    go_enter Try.func26, Try.ntmps26
    go_wp2_with fail
    refine (areStages_is _ false _ HA.out).mono ?_
    rintro e w' ⟨rfl, rfl⟩
    go_wp2
    go_ret
    exact ⟨rfl, rfl⟩
  · have HA := hid ha
    have HB := hid (show decide (1 ≤ r ∧ r ≤ 8) = q from by rw [← h]; simp only [askB, ha, Bool.true_and])
    clear ha h
    go_enter Try.func26, Try.ntmps26
    go_wp2_with fail
    refine (areStages_is _ true _ HA.out).mono ?_
    rintro e w' ⟨rfl, rfl⟩
    go_wp2_with fail
    refine (isRate_is _ q _ HB.out).mono ?_
    rintro e w' ⟨rfl, rfl⟩
    go_wp2
    go_ret
    exact ⟨rfl, rfl⟩


set_option maxHeartbeats 400000 in
theorem cbAsked_is (st r : Int) (q : Bool) (w : World) (h : askB st r = q) :
    Calls Try.prog 58 #[.int .i64 st, .int .i64 r] w fun e w' => e = .returned (.bool (q)) ∧ w = w' := by
  cases ha : decide (1 ≤ st ∧ st ≤ 4)
  · have HA := hid ha
    obtain rfl : q = false := by rw [← h]; simp only [askB, ha, Bool.false_and]
    clear ha h
    go_enter Try.func58, Try.ntmps58
    go_wp2_with fail
    refine (l1In_is _ _ _ false _ HA.out).mono ?_
    rintro e w' ⟨rfl, rfl⟩
    go_wp2
    go_ret
    exact ⟨rfl, rfl⟩
  · have HA := hid ha
    have HB := hid (show decide (1 ≤ r ∧ r ≤ 8) = q from by rw [← h]; simp only [askB, ha, Bool.true_and])
    clear ha h
    go_enter Try.func58, Try.ntmps58
    go_wp2_with fail
    refine (l1In_is _ _ _ true _ HA.out).mono ?_
    rintro e w' ⟨rfl, rfl⟩
    go_wp2_with fail
    refine (l1In_is _ _ _ q _ HB.out).mono ?_
    rintro e w' ⟨rfl, rfl⟩
    go_wp2
    go_ret
    exact ⟨rfl, rfl⟩


set_option maxHeartbeats 400000 in
theorem cbBits_is (x : Int) (q : Bool) (w : World) (h : lonB x = q) :
    Calls Try.prog 29 #[.int .i64 x] w fun e w' => e = .returned (.bool (q)) ∧ w = w' := by
  have H := hid (show decide (2 ≤ x ∧ x ≤ 40) = q from h)
  clear h
  go_enter Try.func29, Try.ntmps29
  go_wp2_with fail
  refine (l1In_is _ _ _ q _ H.out).mono ?_
  rintro e w' ⟨rfl, rfl⟩
  go_wp2
  go_ret
  exact ⟨rfl, rfl⟩


set_option maxHeartbeats 400000 in
theorem cbGood_is (v : Value) (s : List Int) (st r : Int) (q : Bool) (w : World) (hs : Sl w v s) (h : (sigB s && askB st r) = q) :
    Calls Try.prog 28 #[v, .int .i64 st, .int .i64 r] w fun e w' => e = .returned (.bool (q)) ∧ w = w' := by
  have HS := hid hs
  cases ha : sigB s
  · have HA := hid ha
    obtain rfl : q = false := by rw [← h]; simp only [askB, ha, Bool.false_and]
    clear ha h hs
    go_enter Try.func28, Try.ntmps28
    go_wp2_with fail
    refine (wdSignal_is v s false _ HS.out HA.out).mono ?_
    rintro e w' ⟨rfl, rfl⟩
    go_wp2
    go_ret
    exact ⟨rfl, rfl⟩
  · have HA := hid ha
    have HB := hid (show askB st r = q from by rw [← h]; simp only [askB, ha, Bool.true_and])
    clear ha h hs
    go_enter Try.func28, Try.ntmps28
    go_wp2_with fail
    refine (wdSignal_is v s true _ HS.out HA.out).mono ?_
    rintro e w' ⟨rfl, rfl⟩
    go_wp2_with fail
    refine (cbAsked_is _ _ q _ HB.out).mono ?_
    rintro e w' ⟨rfl, rfl⟩
    go_wp2
    go_ret
    exact ⟨rfl, rfl⟩

end Go.Proofs.Ytdedifgpbehpoaa
