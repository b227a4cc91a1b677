
import Derived.Test.YtbhlailnefappaaOa
import Derived.Test.YtbhlailnefappaaOi
import Derived.Test.YtbhlailnefappaaQb
namespace Go.Proofs.Ytbhlailnefappaa
open Go.RowKit BitX Go.MemX Go.ChV
set_option linter.unusedVariables false
def scB (m : Int) : Bool := decide (1 ≤ m ∧ m ≤ 1000)
def nuB (m x : Int) : Bool := scB m && decide (-m ≤ x ∧ x ≤ m)
theorem scB_t {m : Int} (h : scB m = true) : 1 ≤ m ∧ m ≤ 1000 := of_decide_eq_true h
theorem nuB_t {m x : Int} (h : nuB m x = true) : (1 ≤ m ∧ m ≤ 1000) ∧ (-m ≤ x ∧ x ≤ m) := by
  unfold nuB scB at h
  rw [Bool.and_eq_true] at h
  exact ⟨of_decide_eq_true h.1, of_decide_eq_true h.2⟩
theorem nuB_f {m x : Int} (h1 : scB m = true) (h : nuB m x = false) : ¬ (-m ≤ x ∧ x ≤ m) := by
  unfold nuB at h
  rw [h1, Bool.true_and] at h
  exact of_decide_eq_false h
theorem nuB_s {m x : Int} (h1 : scB m = false) : nuB m x = false := by unfold nuB; rw [h1]; rfl
theorem ret_ib' {a b : Int} {c d : Bool} (h1 : a = b) (h2 : c = d) : Ending.returned (.tuple #[.int .i64 a, .bool c]) = .returned (.tuple #[.int .i64 b, .bool d]) := by rw [h1, h2]
theorem ret_ii' {a b c d : Int} (h1 : a = b) (h2 : c = d) : Ending.returned (.tuple #[.int .i64 a, .int .i64 c]) = .returned (.tuple #[.int .i64 b, .int .i64 d]) := by rw [h1, h2]


set_option maxHeartbeats 400000 in
theorem dmScale_is (m : Int) (w : World) :
    Calls Try.prog 70 #[.int .i64 m] w fun e w' => e = .returned (.bool (scB m)) ∧ w = w' := by
  go_enter Try.func70, Try.ntmps70
  go_wp2_with fail
  refine (l1In_is _ _ _ (scB m) _ rfl).mono ?_
  rintro e w' ⟨rfl, rfl⟩
  go_wp2_with fail
  go_ret
  exact ⟨rfl, rfl⟩


set_option maxHeartbeats 400000 in
theorem isScale_is (m : Int) (w : World) :
    Calls Try.prog 50 #[.int .i64 m] w fun e w' => e = .returned (.bool (scB m)) ∧ w = w' := by
  by_cases hlo : m < 1
  · have HR := hid (show scB m = false from decide_eq_false (by omega))
    go_enter Try.func50, Try.ntmps50
    go_wp2
    go_ret
    exact ⟨ret_b HR.out.symm, rfl⟩
  · by_cases hhi : 1000 < m
    · have HR := hid (show scB m = false from decide_eq_false (by omega))
      go_enter Try.func50, Try.ntmps50
      go_wp2
      go_ret
      exact ⟨ret_b (by first | exact HR.out.symm | (rw [HR.out]; exact decide_eq_false (by omega))), rfl⟩
    · have HR := hid (show scB m = true from decide_eq_true (by omega))
      go_enter Try.func50, Try.ntmps50
      go_wp2
      go_ret
      exact ⟨ret_b (by first | exact HR.out.symm | (rw [HR.out]; exact decide_eq_true (by omega))), rfl⟩


theorem dmScale_q (m : Int) (q : Bool) (w : World) (h : scB m = q) : Calls Try.prog 70 #[.int .i64 m] w fun e w' => e = .returned (.bool (q)) ∧ w = w' := h ▸ dmScale_is m w
theorem isScale_q (m : Int) (q : Bool) (w : World) (h : scB m = q) : Calls Try.prog 50 #[.int .i64 m] w fun e w' => e = .returned (.bool (q)) ∧ w = w' := h ▸ isScale_is m w


set_option maxHeartbeats 400000 in
theorem dmNumber_is (m x : Int) (w : World) :
    Calls Try.prog 62 #[.int .i64 m, .int .i64 x] w fun e w' => e = .returned (.bool (nuB m x)) ∧ w = w' := by
  cases hq : scB m
  · have HR := hid (nuB_s (x := x) hq)
    have HQ := hid hq
    clear hq
    go_enter Try.func62, Try.ntmps62
    go_wp2_with fail
    refine (dmScale_q m false _ HQ.out).mono ?_
    rintro e w' ⟨rfl, rfl⟩
    go_wp2_with fail
    go_ret
    exact ⟨ret_b HR.out.symm, rfl⟩
  · obtain ⟨m1, m2⟩ := scB_t hq
    cases hx : decide (-m ≤ x ∧ x ≤ m)
    · have HX := hid hx
      have HR := hid (show nuB m x = false from by unfold nuB; rw [hq, hx]; rfl)
      have HQ := hid hq
      clear hx hq
      go_enter Try.func62, Try.ntmps62
      go_wp2_with fail
      refine (dmScale_q m true _ HQ.out).mono ?_
      rintro e w' ⟨rfl, rfl⟩
      go_wp2_with fail
      refine (l1In_is _ _ _ false _ HX.out).mono ?_
      rintro e w' ⟨rfl, rfl⟩
      go_wp2_with fail
      go_ret
      exact ⟨ret_b HR.out.symm, rfl⟩
    · have HX := hid hx
      have HR := hid (show nuB m x = true from by unfold nuB; rw [hq, hx]; rfl)
      have HQ := hid hq
      clear hx hq
      go_enter Try.func62, Try.ntmps62
      go_wp2_with fail
      refine (dmScale_q m true _ HQ.out).mono ?_
      rintro e w' ⟨rfl, rfl⟩
      go_wp2_with fail
      refine (l1In_is _ _ _ true _ HX.out).mono ?_
      rintro e w' ⟨rfl, rfl⟩
      go_wp2_with fail
      go_ret
      exact ⟨ret_b HR.out.symm, rfl⟩

theorem dmNumber_q (m x : Int) (q : Bool) (w : World) (h : nuB m x = q) : Calls Try.prog 62 #[.int .i64 m, .int .i64 x] w fun e w' => e = .returned (.bool (q)) ∧ w = w' := h ▸ dmNumber_is m x w


set_option maxHeartbeats 400000 in
theorem isConstant_is (m x : Int) (w : World) :
    Calls Try.prog 60 #[.int .i64 m, .int .i64 x] w fun e w' => e = .returned (.bool (nuB m x)) ∧ w = w' := by
  cases hq : scB m
  · have HR := hid (nuB_s (x := x) hq)
    have HQ := hid hq
    clear hq
    go_enter Try.func60, Try.ntmps60
    go_wp2_with fail
    refine (isScale_q m false _ HQ.out).mono ?_
    rintro e w' ⟨rfl, rfl⟩
    go_wp2_with fail
    go_ret
    exact ⟨ret_b HR.out.symm, rfl⟩
  · obtain ⟨m1, m2⟩ := scB_t hq
    by_cases hlo : x < -m
    · have HR := hid (show nuB m x = false from by unfold nuB; rw [hq]; exact decide_eq_false (by omega))
      have HQ := hid hq
      clear hq
      go_enter Try.func60, Try.ntmps60
      go_wp2_with fail
      refine (isScale_q m true _ HQ.out).mono ?_
      rintro e w' ⟨rfl, rfl⟩
      go_wp2_with fail
      go_ret
      exact ⟨ret_b (by first | exact HR.out.symm | (rw [HR.out]; exact decide_eq_true (by omega)) | (rw [HR.out]; exact decide_eq_false (by omega))), rfl⟩
    · by_cases hhi : m < x
      · have HR := hid (show nuB m x = false from by unfold nuB; rw [hq]; exact decide_eq_false (by omega))
        have HQ := hid hq
        clear hq
        go_enter Try.func60, Try.ntmps60
        go_wp2_with fail
        refine (isScale_q m true _ HQ.out).mono ?_
        rintro e w' ⟨rfl, rfl⟩
        go_wp2_with fail
        go_ret
        exact ⟨ret_b (by first | exact HR.out.symm | (rw [HR.out]; exact decide_eq_true (by omega)) | (rw [HR.out]; exact decide_eq_false (by omega))), rfl⟩
      · have HR := hid (show nuB m x = true from by unfold nuB; rw [hq]; exact decide_eq_true (by omega))
        have HQ := hid hq
        clear hq
        go_enter Try.func60, Try.ntmps60
        go_wp2_with fail
        refine (isScale_q m true _ HQ.out).mono ?_
        rintro e w' ⟨rfl, rfl⟩
        go_wp2_with fail
        go_ret
        exact ⟨ret_b (by first | exact HR.out.symm | (rw [HR.out]; exact decide_eq_true (by omega)) | (rw [HR.out]; exact decide_eq_false (by omega))), rfl⟩

theorem isConstant_q (m x : Int) (q : Bool) (w : World) (h : nuB m x = q) : Calls Try.prog 60 #[.int .i64 m, .int .i64 x] w fun e w' => e = .returned (.bool (q)) ∧ w = w' := h ▸ isConstant_is m x w


set_option maxHeartbeats 1000000 in
theorem dmPeriod_any (m x : Int) (p : Nat) (w : World) (m1 : 1 ≤ m) (m2 : m ≤ 1000) (x1 : -m ≤ x) (x2 : x ≤ m) (p1 : 1 ≤ p) (p2 : p ≤ 2000) (hl : dpS m x p = 0) (hf : ∀ n, 1 ≤ n → n < p → dpS m x n ≠ 0) :
    Calls Try.prog 73 #[.int .i64 m, .int .i64 x] w fun e w' => e = .returned (.tuple #[.int .i64 (p : Int), .int .i64 (dpO m x p)]) ∧ w = w' := by
  have HL := hid hl
  have HF := hid hf
  clear hl hf
  go_enter Try.func73, Try.ntmps73
  go_wp2_with fail
  go_loop [6, 7, 8] (fun st on n => ∃ c : Nat, c < p ∧ st = .int .i64 (dpS m x c) ∧ on = .int .i64 (dpO m x c) ∧ n = .int .i64 c)
    (fun _ _ n => p - (intOf n).toNat)
  case atStart => exact ⟨0, by omega, rfl, rfl, rfl⟩
  case round =>
    obtain ⟨c, hc, rfl, rfl, rfl⟩ := hrel
    obtain ⟨⟨s1, s2⟩, o1, o2⟩ := dp_in m1 x1 x2 c
    by_cases hs : 0 ≤ dpS m x c + x
    · have hz := (dp_t hs).1
      have ho := (dp_t hs).2
      by_cases hlast : c + 1 = p
      · have hzl : dpS m x (c + 1) = 0 := by rw [hlast]; exact HL.out
        rw [hz] at hzl
        have Hzl := hid hzl
        have Hlast := hid hlast
        have Ho := hid ho
        generalize dpS m x c = st at *
        generalize dpO m x c = on at *
        clear hz ho hzl hlast
        have hzl := Hzl.out
        go_wp2
        go_ret2
        exact ⟨ret_ii' (by rw [← Hlast.out]; omega) (by rw [← Hlast.out, Ho.out]), rfl⟩
      · have hzn : dpS m x (c + 1) ≠ 0 := HF.out (c + 1) (by omega) (by omega)
        rw [hz] at hzn
        have Hz := hid hz
        have Ho := hid ho
        generalize dpS m x c = st at *
        generalize dpO m x c = on at *
        clear hz ho
        go_wp2
        go_round
        case rel => exact ⟨c + 1, by omega, by rw [Hz.out], by rw [Ho.out], by go_num⟩
        case measure => simp [intOf]; omega
    · replace hs : dpS m x c + x < 0 := by omega
      have hz := (dp_f hs).1
      have ho := (dp_f hs).2
      by_cases hlast : c + 1 = p
      · have hzl : dpS m x (c + 1) = 0 := by rw [hlast]; exact HL.out
        rw [hz] at hzl
        have Hzl := hid hzl
        have Hlast := hid hlast
        have Ho := hid ho
        generalize dpS m x c = st at *
        generalize dpO m x c = on at *
        clear hz ho hzl hlast
        have hzl := Hzl.out
        go_wp2
        go_ret2
        exact ⟨ret_ii' (by rw [← Hlast.out]; omega) (by rw [← Hlast.out, Ho.out]), rfl⟩
      · have hzn : dpS m x (c + 1) ≠ 0 := HF.out (c + 1) (by omega) (by omega)
        rw [hz] at hzn
        have Hz := hid hz
        have Ho := hid ho
        generalize dpS m x c = st at *
        generalize dpO m x c = on at *
        clear hz ho
        go_wp2
        go_round
        case rel => exact ⟨c + 1, by omega, by rw [Hz.out], by rw [Ho.out], by go_num⟩
        case measure => simp [intOf]; omega


end Go.Proofs.Ytbhlailnefappaa
