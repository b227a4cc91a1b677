
import Derived.Test.YtbbfigbfkhlddaaBo
namespace Go.Proofs.Ytbbfigbfkhlddaa
open Go.RowKit BitX

theorem pow_small (b : Nat) (h1 : 1 ≤ b) (h2 : b ≤ 16) : (1 : Int) ≤ 2 ^ (b - 1) ∧ (2 : Int) ^ (b - 1) ≤ 32768 := by
  have hp : (0 : Int) < 2 ^ (b - 1) := Int.pow_pos (by decide)
  have : (2 : Nat) ^ (b - 1) ≤ 2 ^ 15 := Nat.pow_le_pow_right (by decide) (by omega)
  have h3 : (2 : Int) ^ (b - 1) ≤ 2 ^ 15 := by exact_mod_cast this
  omega
theorem ret_i {a b : Int} (h : a = b) : Ending.returned (.int .i64 a) = .returned (.int .i64 b) := by rw [h]

/-- a number fitted to a word -/
def fitI (b : Nat) (wr : Bool) (x : Int) : Int :=
  if wr then x.bmod (2 ^ b) else if x < -(2 : Int) ^ (b - 1) then -(2 : Int) ^ (b - 1) else if 2 ^ (b - 1) - 1 < x then 2 ^ (b - 1) - 1 else x

set_option maxHeartbeats 400000 in
theorem leastOf_any (b : Nat) (wr : Bool) (w : World) (h1 : 1 ≤ b) (h2 : b ≤ 16) :
    Calls Try.prog 45 #[.agg #[.int .i64 (b : Int), .bool wr]] w fun e w' => e = .returned (.int .i64 (-(2 : Int) ^ (b - 1))) ∧ Below w.heap.size w w' := by
  go_enter Try.func45, Try.ntmps45
  go_wp2
  go_ret
  have := pow_small b h1 h2
  exact ⟨ret_i (IntWalk.wrap64_in _ (by omega)), (Below.refl _ _).alloc (Nat.le_refl _) _⟩
set_option maxHeartbeats 400000 in
theorem greatestOf_any (b : Nat) (wr : Bool) (w : World) (h1 : 1 ≤ b) (h2 : b ≤ 16) :
    Calls Try.prog 46 #[.agg #[.int .i64 (b : Int), .bool wr]] w fun e w' => e = .returned (.int .i64 ((2 : Int) ^ (b - 1) - 1)) ∧ Below w.heap.size w w' := by
  go_enter Try.func46, Try.ntmps46
  go_wp2
  go_ret
  have := pow_small b h1 h2
  exact ⟨ret_i (by rw [IntWalk.wrap64_in (2 ^ (b - 1)) (by omega)]; exact IntWalk.wrap64_in _ (by omega)), (Below.refl _ _).alloc (Nat.le_refl _) _⟩

theorem isIn_yes (b : Nat) (wr : Bool) (x : Int) (w : World) (h1 : 1 ≤ b) (h2 : b ≤ 16) (hx1 : -9223372036854775808 ≤ x) (hx2 : x ≤ 9223372036854775807) (hi : -(2 : Int) ^ (b - 1) ≤ x ∧ x ≤ 2 ^ (b - 1) - 1) :
    Calls Try.prog 26 #[.agg #[.int .i64 (b : Int), .bool wr], .int .i64 x] w fun e w' => e = .returned (.bool true) ∧ Below w.heap.size w w' := by
  refine (isIn_any b wr x w h1 (by omega)).mono fun e w' ⟨he, hb⟩ => ⟨?_, hb⟩
  rw [he, cutV_id b x h1 (by omega) hx1 hx2, decide_eq_true hi]
theorem isIn_no (b : Nat) (wr : Bool) (x : Int) (w : World) (h1 : 1 ≤ b) (h2 : b ≤ 16) (hx1 : -9223372036854775808 ≤ x) (hx2 : x ≤ 9223372036854775807) (hi : ¬ (-(2 : Int) ^ (b - 1) ≤ x ∧ x ≤ 2 ^ (b - 1) - 1)) :
    Calls Try.prog 26 #[.agg #[.int .i64 (b : Int), .bool wr], .int .i64 x] w fun e w' => e = .returned (.bool false) ∧ Below w.heap.size w w' := by
  refine (isIn_any b wr x w h1 (by omega)).mono fun e w' ⟨he, hb⟩ => ⟨?_, hb⟩
  rw [he, cutV_id b x h1 (by omega) hx1 hx2, decide_eq_false hi]

set_option maxHeartbeats 400000 in
theorem fit_wrap (b : Nat) (x : Int) (w : World) (h1 : 1 ≤ b) (h2 : b ≤ 16) :
    Calls Try.prog 30 #[.agg #[.int .i64 (b : Int), .bool true], .int .i64 x] w fun e w' => e = .returned (.int .i64 (fitI b true x)) ∧ Below w.heap.size w w' := by
  have hfin : (cutV b (bv x)).toInt = fitI b true x := by rw [cutV_toInt b x (by omega)]; rfl
  have Hfin := hid hfin
  clear hfin
  go_enter Try.func30, Try.ntmps30
  go_wp2_with fail
  go_region_with (first | (go_at_call 40; refine (bitsOf_any _ _).mono ?_; rintro e w1 ⟨rfl, hb1⟩; have hc1 := hb1.cell (p := ⟨w.heap.size, 0, none⟩) (by simp)) | (go_at_call 41; refine (cutTo_any b (bv x) _ h1 (by omega)).mono ?_; rintro e w2 ⟨rfl, hb2⟩) | (go_at_call 44; refine (numberOf_any _ _).mono ?_; rintro e w3 ⟨rfl, hb3⟩))
  all_goals go_wp2
  all_goals go_ret
  all_goals exact ⟨ret_i Hfin.out, ((((Below.refl _ _).alloc (Nat.le_refl _) _).drew.trans (hb1.mono (by show w.heap.size ≤ _; simp))).trans (hb2.mono (by have := hb1.size; simp at this; omega))).trans (hb3.mono (by have := hb1.size; have := hb2.size; simp at *; omega))⟩

set_option maxHeartbeats 400000 in
theorem fit_hold (b : Nat) (x : Int) (w : World) (h1 : 1 ≤ b) (h2 : b ≤ 16) (hx1 : -9223372036854775808 ≤ x) (hx2 : x ≤ 9223372036854775807) :
    Calls Try.prog 30 #[.agg #[.int .i64 (b : Int), .bool false], .int .i64 x] w fun e w' => e = .returned (.int .i64 (fitI b false x)) ∧ Below w.heap.size w w' := by
  have hps := pow_small b h1 h2
  by_cases hin : -(2 : Int) ^ (b - 1) ≤ x ∧ x ≤ 2 ^ (b - 1) - 1
  · have hfin : x = fitI b false x := by simp only [fitI]; split <;> (try split) <;> (try split) <;> first | omega | simp_all
    have Hfin := hid hfin
    have Hin := hid hin
    clear hfin hin hps
    go_enter Try.func30, Try.ntmps30
    go_wp2_with (first | (go_at_call 26; refine (isIn_yes b false x _ h1 h2 hx1 hx2 Hin.out).mono ?_; rintro e w1 ⟨rfl, hb1⟩))
    go_ret
    exact ⟨ret_i Hfin.out, ((Below.refl _ _).alloc (Nat.le_refl _) _).trans (hb1.mono (by simp))⟩
  · by_cases hneg : x < 0
    · have hfin : -(2 : Int) ^ (b - 1) = fitI b false x := by simp only [fitI]; split <;> (try split) <;> (try split) <;> first | omega | simp_all
      have Hfin := hid hfin
      have Hin := hid hin
      clear hfin hin hps
      go_enter Try.func30, Try.ntmps30
      go_wp2_with (first | (go_at_call 26; refine (isIn_no b false x _ h1 h2 hx1 hx2 Hin.out).mono ?_; rintro e w1 ⟨rfl, hb1⟩; have hc1 := hb1.cell (p := ⟨w.heap.size, 0, none⟩) (by simp); have hc2 := hb1.cell (p := ⟨w.heap.size, 1, none⟩) (by simp)) | (go_at_call 45; refine (leastOf_any b false _ h1 h2).mono ?_; rintro e w2 ⟨rfl, hb2⟩))
      go_ret
      exact ⟨ret_i Hfin.out, (((Below.refl _ _).alloc (Nat.le_refl _) _).trans (hb1.mono (by simp))).trans (hb2.mono (by have := hb1.size; simp at this; omega))⟩
    · have hfin : (2 : Int) ^ (b - 1) - 1 = fitI b false x := by simp only [fitI]; split <;> (try split) <;> (try split) <;> first | omega | simp_all
      have Hfin := hid hfin
      have Hin := hid hin
      clear hfin hin hps
      go_enter Try.func30, Try.ntmps30
      go_wp2_with (first | (go_at_call 26; refine (isIn_no b false x _ h1 h2 hx1 hx2 Hin.out).mono ?_; rintro e w1 ⟨rfl, hb1⟩; have hc1 := hb1.cell (p := ⟨w.heap.size, 0, none⟩) (by simp); have hc2 := hb1.cell (p := ⟨w.heap.size, 1, none⟩) (by simp)) | (go_at_call 46; refine (greatestOf_any b false _ h1 h2).mono ?_; rintro e w2 ⟨rfl, hb2⟩))
      go_ret
      exact ⟨ret_i Hfin.out, (((Below.refl _ _).alloc (Nat.le_refl _) _).trans (hb1.mono (by simp))).trans (hb2.mono (by have := hb1.size; simp at this; omega))⟩

theorem fit_any (b : Nat) (wr : Bool) (x : Int) (w : World) (h1 : 1 ≤ b) (h2 : b ≤ 16) (hx1 : -9223372036854775808 ≤ x) (hx2 : x ≤ 9223372036854775807) :
    Calls Try.prog 30 #[.agg #[.int .i64 (b : Int), .bool wr], .int .i64 x] w fun e w' => e = .returned (.int .i64 (fitI b wr x)) ∧ Below w.heap.size w w' := by
  cases wr
  · exact fit_hold b x w h1 h2 hx1 hx2
  · exact fit_wrap b x w h1 h2
end Go.Proofs.Ytbbfigbfkhlddaa
