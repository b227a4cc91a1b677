
import Derived.Test.YtedhclicjkjlfaaKl
import Derived.Deep.RegionHeld3
import Derived.Deep.CutRange
import Derived.Deep.Cut
namespace Go.Proofs.Ytedhclicjkjlfaa
open Go.RowKit BitX Go.MemX Go.ShX
set_option linter.unusedVariables false
theorem pow_half (n : Nat) (h1 : 1 ≤ n) : (2 : Int) ^ n = 2 * 2 ^ (n - 1) := by
  rw [show n = (n - 1) + 1 from by omega, Int.pow_succ]; simp; omega
/-- what a fitted number is -/
structure FitOf (n : Nat) (wr : Bool) (x P f : Int) : Prop where
  p1 : 1 ≤ P
  p2 : P ≤ 32768
  lo : -P ≤ f
  hi : f ≤ P - 1
  same : fitI n wr f = f
  rest : wr = true → (x - f).tmod (2 * P) = 0
  keep : wr = false → -P ≤ x → x ≤ P - 1 → f = x
  low : wr = false → x < -P → f = -P
  high : wr = false → P - 1 < x → f = P - 1
theorem fit_of (n : Nat) (wr : Bool) (x : Int) (n1 : 2 ≤ n) (n2 : n ≤ 16) : FitOf n wr x (2 ^ (n - 1)) (fitI n wr x) := by
  obtain ⟨q1, q2⟩ := pow_small n (by omega) n2
  have hh := pow_half n (by omega)
  have hN : ((2 ^ n : Nat) : Int) = 2 * 2 ^ (n - 1) := by rw [← hh]; norm_cast
  cases wr
  · have key : ∀ y, fitI n false y = if y < -(2 : Int) ^ (n - 1) then -(2 : Int) ^ (n - 1) else if 2 ^ (n - 1) - 1 < y then 2 ^ (n - 1) - 1 else y := fun y => by simp [fitI]
    rw [key x]
    generalize (2 : Int) ^ (n - 1) = P at *
    split
    · refine ⟨q1, q2, by omega, by omega, ?_, (fun h => nomatch h), fun _ h => by omega, fun _ _ => rfl, fun _ h => by omega⟩
      rw [key, if_neg (by omega), if_neg (by omega)]
    · split
      · refine ⟨q1, q2, by omega, by omega, ?_, (fun h => nomatch h), fun _ h => by omega, fun _ _ => by omega, fun _ h => rfl⟩
        rw [key, if_neg (by omega), if_neg (by omega)]
      · refine ⟨q1, q2, by omega, by omega, ?_, (fun h => nomatch h), fun _ _ _ => rfl, fun _ _ => by omega, fun _ h => by omega⟩
        rw [key, if_neg (by omega), if_neg (by omega)]
  · have key : ∀ y, fitI n true y = y.bmod (2 ^ n) := fun y => by simp [fitI]
    rw [key x]
    have a := Int.le_bmod (x := x) (m := 2 ^ n) (Nat.two_pow_pos _)
    have b := Int.bmod_lt (x := x) (m := 2 ^ n) (Nat.two_pow_pos _)
    have d : (2 * (2 : Int) ^ (n - 1)) ∣ x - x.bmod (2 ^ n) := by rw [← hN]; exact Int.dvd_self_sub_bmod
    refine ⟨q1, q2, ?_, ?_, by rw [key, Int.bmod_bmod], fun _ => ?_, (fun h => nomatch h), (fun h => nomatch h), (fun h => nomatch h)⟩
    · rw [hN] at a b; omega
    · rw [hN] at a b; omega
    · exact Int.tmod_eq_zero_of_dvd d
theorem fit_back (n : Nat) (m q : Int) (n1 : 2 ≤ n) (n2 : n ≤ 16) (h1 : -(2 : Int) ^ (n - 1) ≤ m) (h2 : m ≤ 2 ^ (n - 1) - 1) : fitI n true (fitI n true (m + q) - q) = m := by
  have hh := pow_half n (by omega)
  have hN : ((2 ^ n : Nat) : Int) = 2 * 2 ^ (n - 1) := by rw [← hh]; norm_cast
  have key : ∀ y, fitI n true y = y.bmod (2 ^ n) := fun y => by simp [fitI]
  rw [key, key, Int.bmod_sub_bmod, show m + q - q = m from by omega]
  exact Int.bmod_eq_of_le_mul_two (by rw [hN]; omega) (by rw [hN]; omega)

theorem By.later {w w' : World} {a : Option Addr} {len : Nat} (h : By w.heap.size w a len) (hb : Below w.heap.size w w') : By w'.heap.size w' a len := fun i hi => by
  obtain ⟨b, off, x, ha, hlt, hx, hc⟩ := h.kept hb i hi
  exact ⟨b, off, x, ha, Nat.lt_of_lt_of_le hlt hb.size, hx, hc⟩
theorem shl_facts (n : Nat) (h1 : 2 ≤ n) (h2 : n ≤ 16) : ∃ P PP : Int, P = (2 : Int) ^ (n - 1) ∧ PP = 2 * P ∧ wrap64 ((2 : Int) ^ n) = PP ∧ wrap64 ((2 : Int) ^ min n 64) = PP ∧ 1 ≤ P ∧ P ≤ 32768 := by
  obtain ⟨q1, q2⟩ := pow_small n (by omega) h2
  have hh := pow_half n (by omega)
  have hw : wrap64 ((2 : Int) ^ n) = 2 * (2 : Int) ^ (n - 1) := by rw [hh]; exact IntWalk.wrap64_in _ (by omega)
  exact ⟨_, _, rfl, rfl, hw, by rw [Nat.min_eq_left (by omega)]; exact hw, q1, q2⟩
theorem box2S {w W : World} {u v : Value} {t : TypeId} (hb : Below (w.alloc (.cells #[u, v] t)).heap.size (w.alloc (.cells #[u, v] t)) W) :
    W.cell? ⟨w.heap.size, 0, none⟩ = some u ∧ W.cell? ⟨w.heap.size, 1, none⟩ = some v := box2_cells hb


set_option maxRecDepth 20000 in
set_option maxHeartbeats 8000000 in
theorem law_FnWordsFit (u1 u2 : Option Addr) (n1 c1 n2 c2 : Nat) (w : World) (hb1 : By w.heap.size w u1 n1) (hb2 : By w.heap.size w u2 n2) (hl1 : n1 ≤ 1048576) (hl2 : n2 ≤ 1048576 - n1) :
    Calls Try.prog 3 #[.slice u1 n1 c1, .slice u2 n2 c2] w fun e w' => e = .returned (.bool true) ∧ Below w.heap.size w w' := by
  have HY1 := hid hb1
  have HY2 := hid hb2
  have hl3 : n2 ≤ 1048576 := by omega
  clear hb1 hb2
  go_enter Try.func3, Try.ntmps3
  go_wp2_with fail
  refine (big_any _ _ _ _ _ _ _ hl1 hl2).mono ?_
  rintro e w' ⟨rfl, rfl⟩
  go_wp2_with fail
  refine (DrawFitNumber_any u1 n1 c1 _ HY1.out hl1).mono ?_
  rintro e w1 ⟨⟨b, wr, x, rfl, ⟨b1, b2⟩, x1, x2⟩, hb⟩
  have HB1 := hid hb
  clear hb
  obtain ⟨f, hf⟩ : ∃ f, f = fnV b wr x := ⟨_, rfl⟩
  obtain ⟨g, hg⟩ : ∃ g, g = fnB b x := ⟨_, rfl⟩
  obtain ⟨lo, hlo⟩ : ∃ lo, lo = loV b := ⟨_, rfl⟩
  obtain ⟨hi, hhi⟩ : ∃ hi, hi = hiV b := ⟨_, rfl⟩
  obtain ⟨q, hq⟩ : ∃ q, q = wordB b := ⟨_, rfl⟩
  have K1 := fun (W : World) => impl_FitNumber_u b wr x W
  have K2 := fun (W : World) => spec_FitNumber_u b wr x W
  have K3 := fun (W : World) => impl_RangeOf_u b wr W
  have K4 := fun (W : World) => spec_RangeOf_u b wr W
  have K5 := fun (W : World) => IsWord_is b wr q W hq.symm
  have K6 := fun (W : World) => spec_IsWord_is b wr W
  rw [← hf, ← hg] at K1 K2
  rw [← hlo, ← hhi, ← hq] at K3 K4
  rw [← hq] at K6
  have Hf := hid hf
  have Hg := hid hg
  have Hlo := hid hlo
  have Hhi := hid hhi
  have Hq := hid hq
  have K1 := hid K1
  have K2 := hid K2
  have K3 := hid K3
  have K4 := hid K4
  have K5 := hid K5
  have K6 := hid K6
  clear hf hg hlo hhi hq
  go_wp2_with fail
  refine (K1.out _).mono ?_
  rintro e w2 ⟨rfl, hb⟩
  have C2 := hb
  obtain ⟨ca2, cb2⟩ := box2S C2
  clear hb
  go_wp2_with fail
  refine (K2.out _).mono ?_
  rintro e w3 ⟨rfl, hb⟩
  have C3 := bel_step C2 hb
  obtain ⟨ca3, cb3⟩ := box2S C3
  clear hb ca2 cb2
  go_wp2_with fail
  refine (K3.out _).mono ?_
  rintro e w4 ⟨rfl, hb⟩
  have C4 := bel_step C3 hb
  obtain ⟨ca4, cb4⟩ := box2S C4
  clear hb ca3 cb3
  go_wp2_with fail
  refine (K4.out _).mono ?_
  rintro e w5 ⟨rfl, hb⟩
  have C5 := bel_step C4 hb
  obtain ⟨ca5, cb5⟩ := box2S C5
  clear hb ca4 cb4
  go_upto_region 8 with fail
  have Hgq := hid (show g = true → q = true from fun h => by
    have h2 := Hg.out; rw [h] at h2; unfold fnB at h2
    rw [Hq.out]; exact (Bool.and_eq_true _ _ ▸ h2.symm : wordB b = true ∧ _).1)
  have HC5 := hid C5
  have HS5 := hid (And.intro ca5 cb5)
  go_cut [123] from 81 to 122 (fun c wx => c = .bool false ∧ Below (w1.alloc (.cells #[.int .i64 b, .bool wr] 25)).heap.size (w1.alloc (.cells #[.int .i64 b, .bool wr] 25)) wx)
  case first =>
    have hS := HS5.out
    have hB := C5
    cases g
    all_goals cases q
    case true.false => exact absurd (Hgq.out rfl) (by decide)
    case true.true =>
      go_region_held3 (fun X => X.cell? ⟨w1.heap.size, 0, none⟩ = some (.int .i64 b) ∧ X.cell? ⟨w1.heap.size, 1, none⟩ = some (.bool wr)) (first | exact hS | assumption | go_keep) (first | (go_at_call 11; refine (K5.out _).mono ?_; rintro e w6 ⟨rfl, hb6⟩; (first | have hB := hB.trans (hb6.mono hB.size) | have hB := hB.drew.trans (hb6.mono hB.size)); have hS := box2S hB) | (go_at_call 12; refine (K6.out _).mono ?_; rintro e w6 ⟨rfl, hb6⟩; (first | have hB := hB.trans (hb6.mono hB.size) | have hB := hB.drew.trans (hb6.mono hB.size)); have hS := box2S hB))
      go_wp2
      go_meet
      exact ⟨rfl, hB⟩
    case false.false =>
      refine wp_region_held_drew (S := fun X => X.cell? ⟨w1.heap.size, 0, none⟩ = some (.int .i64 b) ∧ X.cell? ⟨w1.heap.size, 1, none⟩ = some (.bool wr)) (by kernel_rfl) hS (fun hHeld => ?_)
      refine wpAnyH_take (i := 0) (oi := { dst := some 81, op := _, type := _, pos := _, after := _, guard := _ }) (v := .bool false) rfl (by kernel_rfl) (by kernel_rfl) (by kernel_rfl) (fun _ _ _ h => h) (Or.inl ⟨by kernel_rfl, ?_⟩) hHeld ?_
      · intro w hSw; (try dsimp only at hSw); go_simp
      try simp only [Act.put, List.setIfInBounds_toArray, List.set_cons_zero, List.set_cons_succ]
      refine wpAnyH_take (i := 1) (oi := { dst := some 82, op := _, type := _, pos := _, after := _, guard := _ }) (v := .bool false) rfl (by kernel_rfl) (by kernel_rfl) (by kernel_rfl) (fun _ _ _ h => h) (Or.inl ⟨by kernel_rfl, ?_⟩) hHeld ?_
      · intro w hSw; (try dsimp only at hSw); go_simp
      try simp only [Act.put, List.setIfInBounds_toArray, List.set_cons_zero, List.set_cons_succ]
      refine wpAnyH_take (i := 2) (oi := { dst := some 83, op := _, type := _, pos := _, after := _, guard := _ }) (v := .bool false) rfl (by kernel_rfl) (by kernel_rfl) (by kernel_rfl) (fun _ _ _ h => h) (Or.inl ⟨by kernel_rfl, ?_⟩) hHeld ?_
      · intro w hSw; (try dsimp only at hSw); go_simp
      try simp only [Act.put, List.setIfInBounds_toArray, List.set_cons_zero, List.set_cons_succ]
      refine wpAnyH_take (i := 3) (oi := { dst := some 84, op := _, type := _, pos := _, after := _, guard := _ }) (v := .bool false) rfl (by kernel_rfl) (by kernel_rfl) (by kernel_rfl) (fun _ _ _ h => h) (Or.inl ⟨by kernel_rfl, ?_⟩) hHeld ?_
      · intro w hSw; (try dsimp only at hSw); go_simp
      try simp only [Act.put, List.setIfInBounds_toArray, List.set_cons_zero, List.set_cons_succ]
      refine wpAnyH_take (i := 4) (oi := { dst := some 85, op := _, type := _, pos := _, after := _, guard := _ }) (v := .int .i64 f) rfl (by kernel_rfl) (by kernel_rfl) (by kernel_rfl) (fun _ _ _ h => h) (Or.inl ⟨by kernel_rfl, ?_⟩) hHeld ?_
      · intro w hSw; (try dsimp only at hSw); go_simp
      try simp only [Act.put, List.setIfInBounds_toArray, List.set_cons_zero, List.set_cons_succ]
      refine wpAnyH_take (i := 5) (oi := { dst := some 86, op := _, type := _, pos := _, after := _, guard := _ }) (v := .int .i64 f) rfl (by kernel_rfl) (by kernel_rfl) (by kernel_rfl) (fun _ _ _ h => h) (Or.inl ⟨by kernel_rfl, ?_⟩) hHeld ?_
      · intro w hSw; (try dsimp only at hSw); go_simp
      try simp only [Act.put, List.setIfInBounds_toArray, List.set_cons_zero, List.set_cons_succ]
      refine wpAnyH_take (i := 6) (oi := { dst := some 87, op := _, type := _, pos := _, after := _, guard := _ }) (v := .bool false) rfl (by kernel_rfl) (by kernel_rfl) (by kernel_rfl) (fun _ _ _ h => h) (Or.inl ⟨by kernel_rfl, ?_⟩) hHeld ?_
      · intro w hSw; (try dsimp only at hSw); go_simp
      try simp only [Act.put, List.setIfInBounds_toArray, List.set_cons_zero, List.set_cons_succ]
      refine wpAnyH_take (i := 7) (oi := { dst := some 88, op := _, type := _, pos := _, after := _, guard := _ }) (v := .bool false) rfl (by kernel_rfl) (by kernel_rfl) (by kernel_rfl) (fun _ _ _ h => h) (Or.inl ⟨by kernel_rfl, ?_⟩) hHeld ?_
      · intro w hSw; (try dsimp only at hSw); go_simp
      try simp only [Act.put, List.setIfInBounds_toArray, List.set_cons_zero, List.set_cons_succ]
      refine wpAnyH_take (i := 8) (oi := { dst := some 89, op := _, type := _, pos := _, after := _, guard := _ }) (v := .bool false) rfl (by kernel_rfl) (by kernel_rfl) (by kernel_rfl) (fun _ _ _ h => h) (Or.inl ⟨by kernel_rfl, ?_⟩) hHeld ?_
      · intro w hSw; (try dsimp only at hSw); go_simp
      try simp only [Act.put, List.setIfInBounds_toArray, List.set_cons_zero, List.set_cons_succ]
      refine wpAnyH_take (i := 9) (oi := { dst := some 90, op := _, type := _, pos := _, after := _, guard := _ }) (v := .bool false) rfl (by kernel_rfl) (by kernel_rfl) (by kernel_rfl) (fun _ _ _ h => h) (Or.inl ⟨by kernel_rfl, ?_⟩) hHeld ?_
      · intro w hSw; (try dsimp only at hSw); go_simp
      try simp only [Act.put, List.setIfInBounds_toArray, List.set_cons_zero, List.set_cons_succ]
      refine wpAnyH_take (i := 10) (oi := { dst := some 91, op := _, type := _, pos := _, after := _, guard := _ }) (v := .bool false) rfl (by kernel_rfl) (by kernel_rfl) (by kernel_rfl) (fun _ _ _ h => h) (Or.inl ⟨by kernel_rfl, ?_⟩) hHeld ?_
      · intro w hSw; (try dsimp only at hSw); go_simp
      try simp only [Act.put, List.setIfInBounds_toArray, List.set_cons_zero, List.set_cons_succ]
      refine wpAnyH_take (i := 11) (oi := { dst := some 92, op := _, type := _, pos := _, after := _, guard := _ }) (v := .bool false) rfl (by kernel_rfl) (by kernel_rfl) (by kernel_rfl) (fun _ _ _ h => h) (Or.inl ⟨by kernel_rfl, ?_⟩) hHeld ?_
      · intro w hSw; (try dsimp only at hSw); go_simp
      try simp only [Act.put, List.setIfInBounds_toArray, List.set_cons_zero, List.set_cons_succ]
      refine wpAnyH_take (i := 12) (oi := { dst := some 93, op := _, type := _, pos := _, after := _, guard := _ }) (v := .bool false) rfl (by kernel_rfl) (by kernel_rfl) (by kernel_rfl) (fun _ _ _ h => h) (Or.inl ⟨by kernel_rfl, ?_⟩) hHeld ?_
      · intro w hSw; (try dsimp only at hSw); go_simp
      try simp only [Act.put, List.setIfInBounds_toArray, List.set_cons_zero, List.set_cons_succ]
      refine wpAnyH_take (i := 13) (oi := { dst := some 94, op := _, type := _, pos := _, after := _, guard := _ }) (v := .bool false) rfl (by kernel_rfl) (by kernel_rfl) (by kernel_rfl) (fun _ _ _ h => h) (Or.inl ⟨by kernel_rfl, ?_⟩) hHeld ?_
      · intro w hSw; (try dsimp only at hSw); go_simp
      try simp only [Act.put, List.setIfInBounds_toArray, List.set_cons_zero, List.set_cons_succ]
      refine wpAnyH_take (i := 14) (oi := { dst := some 95, op := _, type := _, pos := _, after := _, guard := _ }) (v := .int .i64 lo) rfl (by kernel_rfl) (by kernel_rfl) (by kernel_rfl) (fun _ _ _ h => h) (Or.inl ⟨by kernel_rfl, ?_⟩) hHeld ?_
      · intro w hSw; (try dsimp only at hSw); go_simp
      try simp only [Act.put, List.setIfInBounds_toArray, List.set_cons_zero, List.set_cons_succ]
      refine wpAnyH_take (i := 15) (oi := { dst := some 96, op := _, type := _, pos := _, after := _, guard := _ }) (v := .int .i64 lo) rfl (by kernel_rfl) (by kernel_rfl) (by kernel_rfl) (fun _ _ _ h => h) (Or.inl ⟨by kernel_rfl, ?_⟩) hHeld ?_
      · intro w hSw; (try dsimp only at hSw); go_simp
      try simp only [Act.put, List.setIfInBounds_toArray, List.set_cons_zero, List.set_cons_succ]
      refine wpAnyH_take (i := 16) (oi := { dst := some 97, op := _, type := _, pos := _, after := _, guard := _ }) (v := .bool false) rfl (by kernel_rfl) (by kernel_rfl) (by kernel_rfl) (fun _ _ _ h => h) (Or.inl ⟨by kernel_rfl, ?_⟩) hHeld ?_
      · intro w hSw; (try dsimp only at hSw); go_simp
      try simp only [Act.put, List.setIfInBounds_toArray, List.set_cons_zero, List.set_cons_succ]
      refine wpAnyH_take (i := 17) (oi := { dst := some 98, op := _, type := _, pos := _, after := _, guard := _ }) (v := .bool false) rfl (by kernel_rfl) (by kernel_rfl) (by kernel_rfl) (fun _ _ _ h => h) (Or.inl ⟨by kernel_rfl, ?_⟩) hHeld ?_
      · intro w hSw; (try dsimp only at hSw); go_simp
      try simp only [Act.put, List.setIfInBounds_toArray, List.set_cons_zero, List.set_cons_succ]
      refine wpAnyH_take (i := 18) (oi := { dst := some 99, op := _, type := _, pos := _, after := _, guard := _ }) (v := .bool false) rfl (by kernel_rfl) (by kernel_rfl) (by kernel_rfl) (fun _ _ _ h => h) (Or.inl ⟨by kernel_rfl, ?_⟩) hHeld ?_
      · intro w hSw; (try dsimp only at hSw); go_simp
      try simp only [Act.put, List.setIfInBounds_toArray, List.set_cons_zero, List.set_cons_succ]
      refine wpAnyH_take (i := 19) (oi := { dst := some 100, op := _, type := _, pos := _, after := _, guard := _ }) (v := .int .i64 hi) rfl (by kernel_rfl) (by kernel_rfl) (by kernel_rfl) (fun _ _ _ h => h) (Or.inl ⟨by kernel_rfl, ?_⟩) hHeld ?_
      · intro w hSw; (try dsimp only at hSw); go_simp
      try simp only [Act.put, List.setIfInBounds_toArray, List.set_cons_zero, List.set_cons_succ]
      refine wpAnyH_take (i := 20) (oi := { dst := some 101, op := _, type := _, pos := _, after := _, guard := _ }) (v := .int .i64 hi) rfl (by kernel_rfl) (by kernel_rfl) (by kernel_rfl) (fun _ _ _ h => h) (Or.inl ⟨by kernel_rfl, ?_⟩) hHeld ?_
      · intro w hSw; (try dsimp only at hSw); go_simp
      try simp only [Act.put, List.setIfInBounds_toArray, List.set_cons_zero, List.set_cons_succ]
      refine wpAnyH_take (i := 21) (oi := { dst := some 102, op := _, type := _, pos := _, after := _, guard := _ }) (v := .bool false) rfl (by kernel_rfl) (by kernel_rfl) (by kernel_rfl) (fun _ _ _ h => h) (Or.inl ⟨by kernel_rfl, ?_⟩) hHeld ?_
      · intro w hSw; (try dsimp only at hSw); go_simp
      try simp only [Act.put, List.setIfInBounds_toArray, List.set_cons_zero, List.set_cons_succ]
      refine wpAnyH_take (i := 22) (oi := { dst := some 103, op := _, type := _, pos := _, after := _, guard := _ }) (v := .bool false) rfl (by kernel_rfl) (by kernel_rfl) (by kernel_rfl) (fun _ _ _ h => h) (Or.inl ⟨by kernel_rfl, ?_⟩) hHeld ?_
      · intro w hSw; (try dsimp only at hSw); go_simp
      try simp only [Act.put, List.setIfInBounds_toArray, List.set_cons_zero, List.set_cons_succ]
      refine wpAnyH_take (i := 23) (oi := { dst := some 104, op := _, type := _, pos := _, after := _, guard := _ }) (v := .bool false) rfl (by kernel_rfl) (by kernel_rfl) (by kernel_rfl) (fun _ _ _ h => h) (Or.inl ⟨by kernel_rfl, ?_⟩) hHeld ?_
      · intro w hSw; (try dsimp only at hSw); go_simp
      try simp only [Act.put, List.setIfInBounds_toArray, List.set_cons_zero, List.set_cons_succ]
      refine wpAnyH_take (i := 24) (oi := { dst := some 105, op := _, type := _, pos := _, after := _, guard := _ }) (v := .bool false) rfl (by kernel_rfl) (by kernel_rfl) (by kernel_rfl) (fun _ _ _ h => h) (Or.inl ⟨by kernel_rfl, ?_⟩) hHeld ?_
      · intro w hSw; (try dsimp only at hSw); go_simp
      try simp only [Act.put, List.setIfInBounds_toArray, List.set_cons_zero, List.set_cons_succ]
      refine wpAnyH_take (i := 25) (oi := { dst := some 106, op := _, type := _, pos := _, after := _, guard := _ }) (v := .agg #[.int .i64 b, .bool wr]) rfl (by kernel_rfl) (by kernel_rfl) (by kernel_rfl) (fun _ _ _ h => h) (Or.inl ⟨by kernel_rfl, ?_⟩) hHeld ?_
      · intro w hSw; (try dsimp only at hSw); go_simp
      try simp only [Act.put, List.setIfInBounds_toArray, List.set_cons_zero, List.set_cons_succ]
      refine wpAnyH_ready (rs := [26]) (by kernel_rfl) (by simp) ?_
      refine AllReadyH.cons (o := { dst := some 107, op := _, type := _, pos := _, after := _, guard := _ }) rfl (fun K hK => ?_) AllReadyH.nil
      go_simp
      go_wp2_with (go_at_call 11; refine (K5.out _).mono ?_; rintro e w6 ⟨rfl, hb6⟩; (first | have hB := hB.trans (hb6.mono hB.size) | have hB := hB.drew.trans (hb6.mono hB.size)); have hS := box2S hB)
      refine hK.out _ _ hS (fun hHeld => ?_)
      clear hK K
      try simp only [Act.put, List.setIfInBounds_toArray, List.set_cons_zero, List.set_cons_succ]
      refine wpAnyH_take (i := 27) (oi := { dst := some 108, op := _, type := _, pos := _, after := _, guard := _ }) (v := .bool false) rfl (by kernel_rfl) (by kernel_rfl) (by kernel_rfl) (fun _ _ _ h => h) (Or.inl ⟨by kernel_rfl, ?_⟩) hHeld ?_
      · intro w hSw; (try dsimp only at hSw); go_simp
      try simp only [Act.put, List.setIfInBounds_toArray, List.set_cons_zero, List.set_cons_succ]
      refine wpAnyH_take (i := 28) (oi := { dst := some 109, op := _, type := _, pos := _, after := _, guard := _ }) (v := .bool false) rfl (by kernel_rfl) (by kernel_rfl) (by kernel_rfl) (fun _ _ _ h => h) (Or.inl ⟨by kernel_rfl, ?_⟩) hHeld ?_
      · intro w hSw; (try dsimp only at hSw); go_simp
      try simp only [Act.put, List.setIfInBounds_toArray, List.set_cons_zero, List.set_cons_succ]
      refine wpAnyH_take (i := 29) (oi := { dst := some 110, op := _, type := _, pos := _, after := _, guard := _ }) (v := .bool false) rfl (by kernel_rfl) (by kernel_rfl) (by kernel_rfl) (fun _ _ _ h => h) (Or.inl ⟨by kernel_rfl, ?_⟩) hHeld ?_
      · intro w hSw; (try dsimp only at hSw); go_simp
      try simp only [Act.put, List.setIfInBounds_toArray, List.set_cons_zero, List.set_cons_succ]
      refine wpAnyH_take (i := 30) (oi := { dst := some 111, op := _, type := _, pos := _, after := _, guard := _ }) (v := .agg #[.int .i64 b, .bool wr]) rfl (by kernel_rfl) (by kernel_rfl) (by kernel_rfl) (fun _ _ _ h => h) (Or.inl ⟨by kernel_rfl, ?_⟩) hHeld ?_
      · intro w hSw; (try dsimp only at hSw); go_simp
      try simp only [Act.put, List.setIfInBounds_toArray, List.set_cons_zero, List.set_cons_succ]
      refine wpAnyH_take (i := 32) (oi := { dst := some 113, op := _, type := _, pos := _, after := _, guard := _ }) (v := .agg #[.int .i64 b, .bool wr]) rfl (by kernel_rfl) (by kernel_rfl) (by kernel_rfl) (fun _ _ _ h => h) (Or.inl ⟨by kernel_rfl, ?_⟩) hHeld ?_
      · intro w hSw; (try dsimp only at hSw); go_simp
      try simp only [Act.put, List.setIfInBounds_toArray, List.set_cons_zero, List.set_cons_succ]
      refine wpAnyH_ready (rs := [31]) (by kernel_rfl) (by simp) ?_
      refine AllReadyH.cons (o := { dst := some 112, op := _, type := _, pos := _, after := _, guard := _ }) rfl (fun K hK => ?_) AllReadyH.nil
      go_simp
      go_wp2_with (go_at_call 11; refine (K5.out _).mono ?_; rintro e w7 ⟨rfl, hb6⟩; (first | have hB := hB.trans (hb6.mono hB.size) | have hB := hB.drew.trans (hb6.mono hB.size)); have hS := box2S hB)
      refine hK.out _ _ hS (fun hHeld => ?_)
      clear hK K
      try simp only [Act.put, List.setIfInBounds_toArray, List.set_cons_zero, List.set_cons_succ]
      refine wpAnyH_ready (rs := [33]) (by kernel_rfl) (by simp) ?_
      refine AllReadyH.cons (o := { dst := some 114, op := _, type := _, pos := _, after := _, guard := _ }) rfl (fun K hK => ?_) AllReadyH.nil
      go_simp
      go_wp2_with (go_at_call 12; refine (K6.out _).mono ?_; rintro e w8 ⟨rfl, hb6⟩; (first | have hB := hB.trans (hb6.mono hB.size) | have hB := hB.drew.trans (hb6.mono hB.size)); have hS := box2S hB)
      refine hK.out _ _ hS (fun hHeld => ?_)
      clear hK K
      try simp only [Act.put, List.setIfInBounds_toArray, List.set_cons_zero, List.set_cons_succ]
      refine wpAnyH_take (i := 34) (oi := { dst := some 115, op := _, type := _, pos := _, after := _, guard := _ }) (v := .bool false) rfl (by kernel_rfl) (by kernel_rfl) (by kernel_rfl) (fun _ _ _ h => h) (Or.inl ⟨by kernel_rfl, ?_⟩) hHeld ?_
      · intro w hSw; (try dsimp only at hSw); go_simp
      try simp only [Act.put, List.setIfInBounds_toArray, List.set_cons_zero, List.set_cons_succ]
      refine wpAnyH_take (i := 35) (oi := { dst := some 116, op := _, type := _, pos := _, after := _, guard := _ }) (v := .bool false) rfl (by kernel_rfl) (by kernel_rfl) (by kernel_rfl) (fun _ _ _ h => h) (Or.inl ⟨by kernel_rfl, ?_⟩) hHeld ?_
      · intro w hSw; (try dsimp only at hSw); go_simp
      try simp only [Act.put, List.setIfInBounds_toArray, List.set_cons_zero, List.set_cons_succ]
      refine wpAnyH_take (i := 36) (oi := { dst := some 117, op := _, type := _, pos := _, after := _, guard := _ }) (v := .bool false) rfl (by kernel_rfl) (by kernel_rfl) (by kernel_rfl) (fun _ _ _ h => h) (Or.inl ⟨by kernel_rfl, ?_⟩) hHeld ?_
      · intro w hSw; (try dsimp only at hSw); go_simp
      try simp only [Act.put, List.setIfInBounds_toArray, List.set_cons_zero, List.set_cons_succ]
      refine wpAnyH_take (i := 37) (oi := { dst := some 118, op := _, type := _, pos := _, after := _, guard := _ }) (v := .bool false) rfl (by kernel_rfl) (by kernel_rfl) (by kernel_rfl) (fun _ _ _ h => h) (Or.inl ⟨by kernel_rfl, ?_⟩) hHeld ?_
      · intro w hSw; (try dsimp only at hSw); go_simp
      try simp only [Act.put, List.setIfInBounds_toArray, List.set_cons_zero, List.set_cons_succ]
      refine wpAnyH_take (i := 38) (oi := { dst := some 119, op := _, type := _, pos := _, after := _, guard := _ }) (v := .bool false) rfl (by kernel_rfl) (by kernel_rfl) (by kernel_rfl) (fun _ _ _ h => h) (Or.inl ⟨by kernel_rfl, ?_⟩) hHeld ?_
      · intro w hSw; (try dsimp only at hSw); go_simp
      try simp only [Act.put, List.setIfInBounds_toArray, List.set_cons_zero, List.set_cons_succ]
      refine wpAnyH_take (i := 39) (oi := { dst := some 120, op := _, type := _, pos := _, after := _, guard := _ }) (v := undef) rfl (by kernel_rfl) (by kernel_rfl) (by kernel_rfl) (fun _ _ _ h => h) (Or.inr ⟨by kernel_rfl, rfl⟩) hHeld ?_
      try simp only [Act.put, List.setIfInBounds_toArray, List.set_cons_zero, List.set_cons_succ]
      refine wpAnyH_take (i := 40) (oi := { dst := some 121, op := _, type := _, pos := _, after := _, guard := _ }) (v := undef) rfl (by kernel_rfl) (by kernel_rfl) (by kernel_rfl) (fun _ _ _ h => h) (Or.inr ⟨by kernel_rfl, rfl⟩) hHeld ?_
      try simp only [Act.put, List.setIfInBounds_toArray, List.set_cons_zero, List.set_cons_succ]
      refine wpAnyH_take (i := 41) (oi := { dst := some 122, op := _, type := _, pos := _, after := _, guard := _ }) (v := .bool false) rfl (by kernel_rfl) (by kernel_rfl) (by kernel_rfl) (fun _ _ _ h => h) (Or.inl ⟨by kernel_rfl, ?_⟩) hHeld ?_
      · intro w hSw; (try dsimp only at hSw); go_simp
      try simp only [Act.put, List.setIfInBounds_toArray, List.set_cons_zero, List.set_cons_succ]
      refine wpAnyH_take (i := 42) (oi := { dst := some 123, op := _, type := _, pos := _, after := _, guard := _ }) (v := .bool false) rfl (by kernel_rfl) (by kernel_rfl) (by kernel_rfl) (fun _ _ _ h => h) (Or.inl ⟨by kernel_rfl, ?_⟩) hHeld ?_
      · intro w hSw; (try dsimp only at hSw); go_simp
      try simp only [Act.put, List.setIfInBounds_toArray, List.set_cons_zero, List.set_cons_succ]
      refine wpAnyH_done (by kernel_rfl) ?_ _
      go_wp2
      go_meet
      exact ⟨rfl, hB⟩
    case false.true =>
      refine wp_region_held_drew (S := fun X => X.cell? ⟨w1.heap.size, 0, none⟩ = some (.int .i64 b) ∧ X.cell? ⟨w1.heap.size, 1, none⟩ = some (.bool wr)) (by kernel_rfl) hS (fun hHeld => ?_)
      refine wpAnyH_take (i := 0) (oi := { dst := some 81, op := _, type := _, pos := _, after := _, guard := _ }) (v := .bool false) rfl (by kernel_rfl) (by kernel_rfl) (by kernel_rfl) (fun _ _ _ h => h) (Or.inl ⟨by kernel_rfl, ?_⟩) hHeld ?_
      · intro w hSw; (try dsimp only at hSw); go_simp
      try simp only [Act.put, List.setIfInBounds_toArray, List.set_cons_zero, List.set_cons_succ]
      refine wpAnyH_take (i := 1) (oi := { dst := some 82, op := _, type := _, pos := _, after := _, guard := _ }) (v := .bool false) rfl (by kernel_rfl) (by kernel_rfl) (by kernel_rfl) (fun _ _ _ h => h) (Or.inl ⟨by kernel_rfl, ?_⟩) hHeld ?_
      · intro w hSw; (try dsimp only at hSw); go_simp
      try simp only [Act.put, List.setIfInBounds_toArray, List.set_cons_zero, List.set_cons_succ]
      refine wpAnyH_take (i := 2) (oi := { dst := some 83, op := _, type := _, pos := _, after := _, guard := _ }) (v := .bool false) rfl (by kernel_rfl) (by kernel_rfl) (by kernel_rfl) (fun _ _ _ h => h) (Or.inl ⟨by kernel_rfl, ?_⟩) hHeld ?_
      · intro w hSw; (try dsimp only at hSw); go_simp
      try simp only [Act.put, List.setIfInBounds_toArray, List.set_cons_zero, List.set_cons_succ]
      refine wpAnyH_take (i := 3) (oi := { dst := some 84, op := _, type := _, pos := _, after := _, guard := _ }) (v := .bool false) rfl (by kernel_rfl) (by kernel_rfl) (by kernel_rfl) (fun _ _ _ h => h) (Or.inl ⟨by kernel_rfl, ?_⟩) hHeld ?_
      · intro w hSw; (try dsimp only at hSw); go_simp
      try simp only [Act.put, List.setIfInBounds_toArray, List.set_cons_zero, List.set_cons_succ]
      refine wpAnyH_take (i := 4) (oi := { dst := some 85, op := _, type := _, pos := _, after := _, guard := _ }) (v := .int .i64 f) rfl (by kernel_rfl) (by kernel_rfl) (by kernel_rfl) (fun _ _ _ h => h) (Or.inl ⟨by kernel_rfl, ?_⟩) hHeld ?_
      · intro w hSw; (try dsimp only at hSw); go_simp
      try simp only [Act.put, List.setIfInBounds_toArray, List.set_cons_zero, List.set_cons_succ]
      refine wpAnyH_take (i := 5) (oi := { dst := some 86, op := _, type := _, pos := _, after := _, guard := _ }) (v := .int .i64 f) rfl (by kernel_rfl) (by kernel_rfl) (by kernel_rfl) (fun _ _ _ h => h) (Or.inl ⟨by kernel_rfl, ?_⟩) hHeld ?_
      · intro w hSw; (try dsimp only at hSw); go_simp
      try simp only [Act.put, List.setIfInBounds_toArray, List.set_cons_zero, List.set_cons_succ]
      refine wpAnyH_take (i := 6) (oi := { dst := some 87, op := _, type := _, pos := _, after := _, guard := _ }) (v := .bool false) rfl (by kernel_rfl) (by kernel_rfl) (by kernel_rfl) (fun _ _ _ h => h) (Or.inl ⟨by kernel_rfl, ?_⟩) hHeld ?_
      · intro w hSw; (try dsimp only at hSw); go_simp
      try simp only [Act.put, List.setIfInBounds_toArray, List.set_cons_zero, List.set_cons_succ]
      refine wpAnyH_take (i := 7) (oi := { dst := some 88, op := _, type := _, pos := _, after := _, guard := _ }) (v := .bool false) rfl (by kernel_rfl) (by kernel_rfl) (by kernel_rfl) (fun _ _ _ h => h) (Or.inl ⟨by kernel_rfl, ?_⟩) hHeld ?_
      · intro w hSw; (try dsimp only at hSw); go_simp
      try simp only [Act.put, List.setIfInBounds_toArray, List.set_cons_zero, List.set_cons_succ]
      refine wpAnyH_take (i := 8) (oi := { dst := some 89, op := _, type := _, pos := _, after := _, guard := _ }) (v := .bool false) rfl (by kernel_rfl) (by kernel_rfl) (by kernel_rfl) (fun _ _ _ h => h) (Or.inl ⟨by kernel_rfl, ?_⟩) hHeld ?_
      · intro w hSw; (try dsimp only at hSw); go_simp
      try simp only [Act.put, List.setIfInBounds_toArray, List.set_cons_zero, List.set_cons_succ]
      refine wpAnyH_take (i := 9) (oi := { dst := some 90, op := _, type := _, pos := _, after := _, guard := _ }) (v := .bool true) rfl (by kernel_rfl) (by kernel_rfl) (by kernel_rfl) (fun _ _ _ h => h) (Or.inl ⟨by kernel_rfl, ?_⟩) hHeld ?_
      · intro w hSw; (try dsimp only at hSw); go_simp
      try simp only [Act.put, List.setIfInBounds_toArray, List.set_cons_zero, List.set_cons_succ]
      refine wpAnyH_take (i := 10) (oi := { dst := some 91, op := _, type := _, pos := _, after := _, guard := _ }) (v := .bool true) rfl (by kernel_rfl) (by kernel_rfl) (by kernel_rfl) (fun _ _ _ h => h) (Or.inl ⟨by kernel_rfl, ?_⟩) hHeld ?_
      · intro w hSw; (try dsimp only at hSw); go_simp
      try simp only [Act.put, List.setIfInBounds_toArray, List.set_cons_zero, List.set_cons_succ]
      refine wpAnyH_take (i := 11) (oi := { dst := some 92, op := _, type := _, pos := _, after := _, guard := _ }) (v := .bool false) rfl (by kernel_rfl) (by kernel_rfl) (by kernel_rfl) (fun _ _ _ h => h) (Or.inl ⟨by kernel_rfl, ?_⟩) hHeld ?_
      · intro w hSw; (try dsimp only at hSw); go_simp
      try simp only [Act.put, List.setIfInBounds_toArray, List.set_cons_zero, List.set_cons_succ]
      refine wpAnyH_take (i := 12) (oi := { dst := some 93, op := _, type := _, pos := _, after := _, guard := _ }) (v := .bool false) rfl (by kernel_rfl) (by kernel_rfl) (by kernel_rfl) (fun _ _ _ h => h) (Or.inl ⟨by kernel_rfl, ?_⟩) hHeld ?_
      · intro w hSw; (try dsimp only at hSw); go_simp
      try simp only [Act.put, List.setIfInBounds_toArray, List.set_cons_zero, List.set_cons_succ]
      refine wpAnyH_take (i := 13) (oi := { dst := some 94, op := _, type := _, pos := _, after := _, guard := _ }) (v := .bool false) rfl (by kernel_rfl) (by kernel_rfl) (by kernel_rfl) (fun _ _ _ h => h) (Or.inl ⟨by kernel_rfl, ?_⟩) hHeld ?_
      · intro w hSw; (try dsimp only at hSw); go_simp
      try simp only [Act.put, List.setIfInBounds_toArray, List.set_cons_zero, List.set_cons_succ]
      refine wpAnyH_take (i := 14) (oi := { dst := some 95, op := _, type := _, pos := _, after := _, guard := _ }) (v := .int .i64 lo) rfl (by kernel_rfl) (by kernel_rfl) (by kernel_rfl) (fun _ _ _ h => h) (Or.inl ⟨by kernel_rfl, ?_⟩) hHeld ?_
      · intro w hSw; (try dsimp only at hSw); go_simp
      try simp only [Act.put, List.setIfInBounds_toArray, List.set_cons_zero, List.set_cons_succ]
      refine wpAnyH_take (i := 15) (oi := { dst := some 96, op := _, type := _, pos := _, after := _, guard := _ }) (v := .int .i64 lo) rfl (by kernel_rfl) (by kernel_rfl) (by kernel_rfl) (fun _ _ _ h => h) (Or.inl ⟨by kernel_rfl, ?_⟩) hHeld ?_
      · intro w hSw; (try dsimp only at hSw); go_simp
      try simp only [Act.put, List.setIfInBounds_toArray, List.set_cons_zero, List.set_cons_succ]
      refine wpAnyH_take (i := 16) (oi := { dst := some 97, op := _, type := _, pos := _, after := _, guard := _ }) (v := .bool false) rfl (by kernel_rfl) (by kernel_rfl) (by kernel_rfl) (fun _ _ _ h => h) (Or.inl ⟨by kernel_rfl, ?_⟩) hHeld ?_
      · intro w hSw; (try dsimp only at hSw); go_simp
      try simp only [Act.put, List.setIfInBounds_toArray, List.set_cons_zero, List.set_cons_succ]
      refine wpAnyH_take (i := 17) (oi := { dst := some 98, op := _, type := _, pos := _, after := _, guard := _ }) (v := .bool false) rfl (by kernel_rfl) (by kernel_rfl) (by kernel_rfl) (fun _ _ _ h => h) (Or.inl ⟨by kernel_rfl, ?_⟩) hHeld ?_
      · intro w hSw; (try dsimp only at hSw); go_simp
      try simp only [Act.put, List.setIfInBounds_toArray, List.set_cons_zero, List.set_cons_succ]
      refine wpAnyH_take (i := 18) (oi := { dst := some 99, op := _, type := _, pos := _, after := _, guard := _ }) (v := .bool false) rfl (by kernel_rfl) (by kernel_rfl) (by kernel_rfl) (fun _ _ _ h => h) (Or.inl ⟨by kernel_rfl, ?_⟩) hHeld ?_
      · intro w hSw; (try dsimp only at hSw); go_simp
      try simp only [Act.put, List.setIfInBounds_toArray, List.set_cons_zero, List.set_cons_succ]
      refine wpAnyH_take (i := 19) (oi := { dst := some 100, op := _, type := _, pos := _, after := _, guard := _ }) (v := .int .i64 hi) rfl (by kernel_rfl) (by kernel_rfl) (by kernel_rfl) (fun _ _ _ h => h) (Or.inl ⟨by kernel_rfl, ?_⟩) hHeld ?_
      · intro w hSw; (try dsimp only at hSw); go_simp
      try simp only [Act.put, List.setIfInBounds_toArray, List.set_cons_zero, List.set_cons_succ]
      refine wpAnyH_take (i := 20) (oi := { dst := some 101, op := _, type := _, pos := _, after := _, guard := _ }) (v := .int .i64 hi) rfl (by kernel_rfl) (by kernel_rfl) (by kernel_rfl) (fun _ _ _ h => h) (Or.inl ⟨by kernel_rfl, ?_⟩) hHeld ?_
      · intro w hSw; (try dsimp only at hSw); go_simp
      try simp only [Act.put, List.setIfInBounds_toArray, List.set_cons_zero, List.set_cons_succ]
      refine wpAnyH_take (i := 21) (oi := { dst := some 102, op := _, type := _, pos := _, after := _, guard := _ }) (v := .bool false) rfl (by kernel_rfl) (by kernel_rfl) (by kernel_rfl) (fun _ _ _ h => h) (Or.inl ⟨by kernel_rfl, ?_⟩) hHeld ?_
      · intro w hSw; (try dsimp only at hSw); go_simp
      try simp only [Act.put, List.setIfInBounds_toArray, List.set_cons_zero, List.set_cons_succ]
      refine wpAnyH_take (i := 22) (oi := { dst := some 103, op := _, type := _, pos := _, after := _, guard := _ }) (v := .bool false) rfl (by kernel_rfl) (by kernel_rfl) (by kernel_rfl) (fun _ _ _ h => h) (Or.inl ⟨by kernel_rfl, ?_⟩) hHeld ?_
      · intro w hSw; (try dsimp only at hSw); go_simp
      try simp only [Act.put, List.setIfInBounds_toArray, List.set_cons_zero, List.set_cons_succ]
      refine wpAnyH_take (i := 23) (oi := { dst := some 104, op := _, type := _, pos := _, after := _, guard := _ }) (v := .bool false) rfl (by kernel_rfl) (by kernel_rfl) (by kernel_rfl) (fun _ _ _ h => h) (Or.inl ⟨by kernel_rfl, ?_⟩) hHeld ?_
      · intro w hSw; (try dsimp only at hSw); go_simp
      try simp only [Act.put, List.setIfInBounds_toArray, List.set_cons_zero, List.set_cons_succ]
      refine wpAnyH_take (i := 24) (oi := { dst := some 105, op := _, type := _, pos := _, after := _, guard := _ }) (v := .bool true) rfl (by kernel_rfl) (by kernel_rfl) (by kernel_rfl) (fun _ _ _ h => h) (Or.inl ⟨by kernel_rfl, ?_⟩) hHeld ?_
      · intro w hSw; (try dsimp only at hSw); go_simp
      try simp only [Act.put, List.setIfInBounds_toArray, List.set_cons_zero, List.set_cons_succ]
      refine wpAnyH_take (i := 25) (oi := { dst := some 106, op := _, type := _, pos := _, after := _, guard := _ }) (v := .agg #[.int .i64 b, .bool wr]) rfl (by kernel_rfl) (by kernel_rfl) (by kernel_rfl) (fun _ _ _ h => h) (Or.inl ⟨by kernel_rfl, ?_⟩) hHeld ?_
      · intro w hSw; (try dsimp only at hSw); go_simp
      try simp only [Act.put, List.setIfInBounds_toArray, List.set_cons_zero, List.set_cons_succ]
      refine wpAnyH_ready (rs := [26]) (by kernel_rfl) (by simp) ?_
      refine AllReadyH.cons (o := { dst := some 107, op := _, type := _, pos := _, after := _, guard := _ }) rfl (fun K hK => ?_) AllReadyH.nil
      go_simp
      go_wp2_with (go_at_call 11; refine (K5.out _).mono ?_; rintro e w6 ⟨rfl, hb6⟩; (first | have hB := hB.trans (hb6.mono hB.size) | have hB := hB.drew.trans (hb6.mono hB.size)); have hS := box2S hB)
      refine hK.out _ _ hS (fun hHeld => ?_)
      clear hK K
      try simp only [Act.put, List.setIfInBounds_toArray, List.set_cons_zero, List.set_cons_succ]
      refine wpAnyH_take (i := 27) (oi := { dst := some 108, op := _, type := _, pos := _, after := _, guard := _ }) (v := .bool false) rfl (by kernel_rfl) (by kernel_rfl) (by kernel_rfl) (fun _ _ _ h => h) (Or.inl ⟨by kernel_rfl, ?_⟩) hHeld ?_
      · intro w hSw; (try dsimp only at hSw); go_simp
      try simp only [Act.put, List.setIfInBounds_toArray, List.set_cons_zero, List.set_cons_succ]
      refine wpAnyH_take (i := 28) (oi := { dst := some 109, op := _, type := _, pos := _, after := _, guard := _ }) (v := .bool false) rfl (by kernel_rfl) (by kernel_rfl) (by kernel_rfl) (fun _ _ _ h => h) (Or.inl ⟨by kernel_rfl, ?_⟩) hHeld ?_
      · intro w hSw; (try dsimp only at hSw); go_simp
      try simp only [Act.put, List.setIfInBounds_toArray, List.set_cons_zero, List.set_cons_succ]
      refine wpAnyH_take (i := 29) (oi := { dst := some 110, op := _, type := _, pos := _, after := _, guard := _ }) (v := .bool false) rfl (by kernel_rfl) (by kernel_rfl) (by kernel_rfl) (fun _ _ _ h => h) (Or.inl ⟨by kernel_rfl, ?_⟩) hHeld ?_
      · intro w hSw; (try dsimp only at hSw); go_simp
      try simp only [Act.put, List.setIfInBounds_toArray, List.set_cons_zero, List.set_cons_succ]
      refine wpAnyH_take (i := 30) (oi := { dst := some 111, op := _, type := _, pos := _, after := _, guard := _ }) (v := .agg #[.int .i64 b, .bool wr]) rfl (by kernel_rfl) (by kernel_rfl) (by kernel_rfl) (fun _ _ _ h => h) (Or.inl ⟨by kernel_rfl, ?_⟩) hHeld ?_
      · intro w hSw; (try dsimp only at hSw); go_simp
      try simp only [Act.put, List.setIfInBounds_toArray, List.set_cons_zero, List.set_cons_succ]
      refine wpAnyH_take (i := 32) (oi := { dst := some 113, op := _, type := _, pos := _, after := _, guard := _ }) (v := .agg #[.int .i64 b, .bool wr]) rfl (by kernel_rfl) (by kernel_rfl) (by kernel_rfl) (fun _ _ _ h => h) (Or.inl ⟨by kernel_rfl, ?_⟩) hHeld ?_
      · intro w hSw; (try dsimp only at hSw); go_simp
      try simp only [Act.put, List.setIfInBounds_toArray, List.set_cons_zero, List.set_cons_succ]
      refine wpAnyH_ready (rs := [31]) (by kernel_rfl) (by simp) ?_
      refine AllReadyH.cons (o := { dst := some 112, op := _, type := _, pos := _, after := _, guard := _ }) rfl (fun K hK => ?_) AllReadyH.nil
      go_simp
      go_wp2_with (go_at_call 11; refine (K5.out _).mono ?_; rintro e w7 ⟨rfl, hb6⟩; (first | have hB := hB.trans (hb6.mono hB.size) | have hB := hB.drew.trans (hb6.mono hB.size)); have hS := box2S hB)
      refine hK.out _ _ hS (fun hHeld => ?_)
      clear hK K
      try simp only [Act.put, List.setIfInBounds_toArray, List.set_cons_zero, List.set_cons_succ]
      refine wpAnyH_ready (rs := [33]) (by kernel_rfl) (by simp) ?_
      refine AllReadyH.cons (o := { dst := some 114, op := _, type := _, pos := _, after := _, guard := _ }) rfl (fun K hK => ?_) AllReadyH.nil
      go_simp
      go_wp2_with (go_at_call 12; refine (K6.out _).mono ?_; rintro e w8 ⟨rfl, hb6⟩; (first | have hB := hB.trans (hb6.mono hB.size) | have hB := hB.drew.trans (hb6.mono hB.size)); have hS := box2S hB)
      refine hK.out _ _ hS (fun hHeld => ?_)
      clear hK K
      try simp only [Act.put, List.setIfInBounds_toArray, List.set_cons_zero, List.set_cons_succ]
      refine wpAnyH_take (i := 34) (oi := { dst := some 115, op := _, type := _, pos := _, after := _, guard := _ }) (v := .bool false) rfl (by kernel_rfl) (by kernel_rfl) (by kernel_rfl) (fun _ _ _ h => h) (Or.inl ⟨by kernel_rfl, ?_⟩) hHeld ?_
      · intro w hSw; (try dsimp only at hSw); go_simp
      try simp only [Act.put, List.setIfInBounds_toArray, List.set_cons_zero, List.set_cons_succ]
      refine wpAnyH_take (i := 35) (oi := { dst := some 116, op := _, type := _, pos := _, after := _, guard := _ }) (v := .bool false) rfl (by kernel_rfl) (by kernel_rfl) (by kernel_rfl) (fun _ _ _ h => h) (Or.inl ⟨by kernel_rfl, ?_⟩) hHeld ?_
      · intro w hSw; (try dsimp only at hSw); go_simp
      try simp only [Act.put, List.setIfInBounds_toArray, List.set_cons_zero, List.set_cons_succ]
      refine wpAnyH_take (i := 36) (oi := { dst := some 117, op := _, type := _, pos := _, after := _, guard := _ }) (v := .bool false) rfl (by kernel_rfl) (by kernel_rfl) (by kernel_rfl) (fun _ _ _ h => h) (Or.inl ⟨by kernel_rfl, ?_⟩) hHeld ?_
      · intro w hSw; (try dsimp only at hSw); go_simp
      try simp only [Act.put, List.setIfInBounds_toArray, List.set_cons_zero, List.set_cons_succ]
      refine wpAnyH_take (i := 37) (oi := { dst := some 118, op := _, type := _, pos := _, after := _, guard := _ }) (v := .bool false) rfl (by kernel_rfl) (by kernel_rfl) (by kernel_rfl) (fun _ _ _ h => h) (Or.inl ⟨by kernel_rfl, ?_⟩) hHeld ?_
      · intro w hSw; (try dsimp only at hSw); go_simp
      try simp only [Act.put, List.setIfInBounds_toArray, List.set_cons_zero, List.set_cons_succ]
      refine wpAnyH_take (i := 38) (oi := { dst := some 119, op := _, type := _, pos := _, after := _, guard := _ }) (v := .bool false) rfl (by kernel_rfl) (by kernel_rfl) (by kernel_rfl) (fun _ _ _ h => h) (Or.inl ⟨by kernel_rfl, ?_⟩) hHeld ?_
      · intro w hSw; (try dsimp only at hSw); go_simp
      try simp only [Act.put, List.setIfInBounds_toArray, List.set_cons_zero, List.set_cons_succ]
      refine wpAnyH_take (i := 39) (oi := { dst := some 120, op := _, type := _, pos := _, after := _, guard := _ }) (v := undef) rfl (by kernel_rfl) (by kernel_rfl) (by kernel_rfl) (fun _ _ _ h => h) (Or.inr ⟨by kernel_rfl, rfl⟩) hHeld ?_
      try simp only [Act.put, List.setIfInBounds_toArray, List.set_cons_zero, List.set_cons_succ]
      refine wpAnyH_take (i := 40) (oi := { dst := some 121, op := _, type := _, pos := _, after := _, guard := _ }) (v := undef) rfl (by kernel_rfl) (by kernel_rfl) (by kernel_rfl) (fun _ _ _ h => h) (Or.inr ⟨by kernel_rfl, rfl⟩) hHeld ?_
      try simp only [Act.put, List.setIfInBounds_toArray, List.set_cons_zero, List.set_cons_succ]
      refine wpAnyH_take (i := 41) (oi := { dst := some 122, op := _, type := _, pos := _, after := _, guard := _ }) (v := .bool false) rfl (by kernel_rfl) (by kernel_rfl) (by kernel_rfl) (fun _ _ _ h => h) (Or.inl ⟨by kernel_rfl, ?_⟩) hHeld ?_
      · intro w hSw; (try dsimp only at hSw); go_simp
      try simp only [Act.put, List.setIfInBounds_toArray, List.set_cons_zero, List.set_cons_succ]
      refine wpAnyH_take (i := 42) (oi := { dst := some 123, op := _, type := _, pos := _, after := _, guard := _ }) (v := .bool false) rfl (by kernel_rfl) (by kernel_rfl) (by kernel_rfl) (fun _ _ _ h => h) (Or.inl ⟨by kernel_rfl, ?_⟩) hHeld ?_
      · intro w hSw; (try dsimp only at hSw); go_simp
      try simp only [Act.put, List.setIfInBounds_toArray, List.set_cons_zero, List.set_cons_succ]
      refine wpAnyH_done (by kernel_rfl) ?_ _
      go_wp2
      go_meet
      exact ⟨rfl, hB⟩
  case rest =>
    obtain ⟨rfl, hBx⟩ := hcut
    obtain ⟨cx, dx⟩ := box2S hBx
    have HBx := hid hBx
    clear hBx
    go_upto_if 124 with fail
    go_cut [17, 18] from 125 to 215 (fun _ _ wx => Below (w1.alloc (.cells #[.int .i64 b, .bool wr] 25)).heap.size (w1.alloc (.cells #[.int .i64 b, .bool wr] 25)) wx)
    case first =>
      cases g
      · go_wp2
        go_meet
        exact HBx.out
      · have hq1 := Hgq.out rfl
        have hg1 := Hg.out
        have hw : wordB b = true := Hq.out.symm.trans hq1
        have hnu : nuB x = true := by
          unfold fnB at hg1; rw [hw] at hg1; exact hg1.symm
        obtain ⟨n, rfl, n1', n2'⟩ := word_n hw
        have hff : f = fitI n wr x := by rw [Hf.out]; unfold fnV; rw [← hg1, Int.toNat_natCast]; rfl
        have hl0 : lo = -(2 : Int) ^ (n - 1) := by rw [Hlo.out]; unfold loV; rw [hw, Int.toNat_natCast]; rfl
        have hh0 : hi = (2 : Int) ^ (n - 1) - 1 := by rw [Hhi.out]; unfold hiV; rw [hw, Int.toNat_natCast]; rfl
        have F := fit_of n wr x n1' n2'
        rw [← hff] at F
        obtain ⟨P, PP, hP, hPP, hw1, hw2, -, -⟩ := shl_facts n n1' n2'
        rw [← hP] at F hl0 hh0
        obtain ⟨p1, p2, f1, f2, fs, frest, fkeep, flow, fhigh⟩ := F
        have hnf : nuB f = true := decide_eq_true (by omega)
        have K7 := fun (W : World) => impl_FitNumber_u n wr f W
        have e7 : fnB n f = true := by unfold fnB; rw [hw, hnf]; rfl
        have e8 : fnV n wr f = f := by unfold fnV; rw [e7, Int.toNat_natCast]; exact fs
        rw [e7, e8] at K7
        have K7 := hid K7
        subst hq1
        have hlo1 : lo ≤ -P := by omega
        have hlo2 : -P ≤ lo := by omega
        have hhi1 : hi ≤ P - 1 := by omega
        have hhi2 : P - 1 ≤ hi := by omega
        have hq1 : PP ≤ 2 * P := by omega
        have hq2 : 2 * P ≤ PP := by omega
        have b1 : (hi - lo + 1 != PP) = false := by rw [bne_eq_false_iff_eq]; omega
        have b2 : (lo + hi != -1) = false := by rw [bne_eq_false_iff_eq]; omega
        rw [← hPP] at frest
        have Hrest := hid frest
        have Hkeep := hid fkeep
        have Hlow := hid flow
        have Hhigh := hid fhigh
        clear hP frest fkeep flow fhigh e7 e8 hnf hff hg1 hw hnu fs hl0 hh0 hPP
        go_wp2_with fail
        refine (K7.out _).mono ?_
        rintro e w7 ⟨rfl, hb⟩
        have hB7 := HBx.out.trans (hb.mono HBx.out.size)
        obtain ⟨cy, dy⟩ := box2S hB7
        have HB7 := hid hB7
        clear hb cx dx hB7
        cases wr
        · have k1 := Hkeep.out rfl
          have k2 := Hlow.out rfl
          have k3 := Hhigh.out rfl
          by_cases c1 : x < -P
          · have b3 : (f != lo) = false := by rw [bne_eq_false_iff_eq]; have := k2 c1; omega
            have b4 : x < lo := by omega
            clear k1 k2 k3
            go_wp2
            all_goals first
              | (exfalso; omega)
              | (go_meet; exact HB7.out)
          · by_cases c2 : P - 1 < x
            · have b3 : (f != hi) = false := by rw [bne_eq_false_iff_eq]; have := k3 c2; omega
              have b4 : hi < x := by omega
              clear k1 k2 k3
              go_wp2
              all_goals first
                | (exfalso; omega)
                | (go_meet; exact HB7.out)
            · have b3 : (f != x) = false := by rw [bne_eq_false_iff_eq]; have := k1 (by omega) (by omega); omega
              have b4 : lo ≤ x := by omega
              have b5 : x ≤ hi := by omega
              clear k1 k2 k3
              go_wp2
              all_goals first
                | (exfalso; omega)
                | (go_meet; exact HB7.out)
        · have k1 := Hrest.out rfl
          go_wp2
          all_goals first
            | (exfalso; omega)
            | (go_meet; exact HB7.out)
    case rest =>
      have HBy := hid (bel_step HB1.out (bel_step (bel_alloc _ _) hcut))
      clear HBx hcut cx dx K1 K2 K3 K4 K5 K6 Hf Hg Hlo Hhi Hq Hgq HC5 HS5
      go_wp2_with fail
      refine (DrawAddIn_any u2 n2 c2 _ (By.later HY2.out HBy.out) hl3).mono ?_
      rintro e v1 ⟨⟨b, wr, y, z, rfl, ⟨b1, b2⟩, ⟨y1, y2⟩, z1, z2⟩, hb⟩
      have HB1 := hid (bel_step HBy.out hb)
      clear hb HBy
      obtain ⟨s, hs⟩ : ∃ s, s = aiV b wr y z := ⟨_, rfl⟩
      obtain ⟨d, hd⟩ : ∃ d, d = liV b wr y z := ⟨_, rfl⟩
      obtain ⟨g, hg⟩ : ∃ g, g = aiB b y z := ⟨_, rfl⟩
      have K1 := fun (W : World) => impl_AddIn_u b wr y z W ⟨y1, y2⟩ ⟨z1, z2⟩
      have K2 := fun (W : World) => spec_AddIn_u b wr y z W ⟨y1, y2⟩ ⟨z1, z2⟩
      have K3 := fun (W : World) => impl_LessIn_u b wr y z W ⟨y1, y2⟩ ⟨z1, z2⟩
      have K4 := fun (W : World) => spec_LessIn_u b wr y z W ⟨y1, y2⟩ ⟨z1, z2⟩
      rw [← hs, ← hg] at K1 K2
      rw [← hd, ← hg] at K3 K4
      have Hs := hid hs
      have Hg := hid hg
      have K1 := hid K1
      have K2 := hid K2
      have K3 := hid K3
      have K4 := hid K4
      clear hs hd hg
      go_wp2_with fail
      refine (K1.out _).mono ?_
      rintro e v2 ⟨rfl, hb⟩
      have C2 := hb
      obtain ⟨ca2, cb2⟩ := box2S C2
      clear hb
      go_wp2_with fail
      refine (K2.out _).mono ?_
      rintro e v3 ⟨rfl, hb⟩
      have C3 := bel_step C2 hb
      obtain ⟨ca3, cb3⟩ := box2S C3
      clear hb ca2 cb2
      go_wp2_with fail
      refine (K3.out _).mono ?_
      rintro e v4 ⟨rfl, hb⟩
      have C4 := bel_step C3 hb
      obtain ⟨ca4, cb4⟩ := box2S C4
      clear hb ca3 cb3
      go_wp2_with fail
      refine (K4.out _).mono ?_
      rintro e v5 ⟨rfl, hb⟩
      have C5 := bel_step C4 hb
      obtain ⟨ca5, cb5⟩ := box2S C5
      clear hb ca4 cb4
      go_upto_if 273 with fail
      have HBx := hid C5
      go_cut [30, 31, 32, 33, 34, 35] from 274 to 318 (fun _ _ _ _ _ _ wx => Below (v1.alloc (.cells #[.int .i64 b, .bool wr] 25)).heap.size (v1.alloc (.cells #[.int .i64 b, .bool wr] 25)) wx)
      case first =>
        cases g
        · go_wp2
          go_meet
          exact HBx.out
        · have hg1 := Hg.out
          have hg2 := hg1.symm
          unfold aiB at hg2
          rw [Bool.and_eq_true, Bool.and_eq_true] at hg2
          obtain ⟨hw, hy, hz⟩ := hg2
          obtain ⟨n, rfl, n1', n2'⟩ := word_n hw
          have hss : s = fitI n wr (y + z) := by rw [Hs.out]; unfold aiV; rw [← hg1, Int.toNat_natCast]; rfl
          have F := fit_of n wr (y + z) n1' n2'
          rw [← hss] at F
          obtain ⟨p1, p2, f1, f2, fs, -, -, -, -⟩ := F
          have hy2 := of_decide_eq_true ((inW_n n y).symm.trans hy)
          have hz2 := of_decide_eq_true ((inW_n n z).symm.trans hz)
          have e1 : aiB n z y = true := by unfold aiB; rw [hw, hy, hz]; rfl
          have e2 : aiV n wr z y = s := by unfold aiV; rw [e1, Int.toNat_natCast, Int.add_comm, hss]; rfl
          have hsw : inW n s = true := by rw [inW_n]; exact decide_eq_true ⟨by omega, f2⟩
          have e3 : aiB n s z = true := by unfold aiB; rw [hw, hsw, hz]; rfl
          have e4 : wr = true → liV n wr s z = y := fun h => by
            subst h
            unfold liV; rw [e3, Int.toNat_natCast, hss]
            exact fit_back n y z n1' n2' hy2.1 hy2.2
          have hnu : nuB (y + z) = true := decide_eq_true (by omega)
          have e5 : fnB n (y + z) = true := by unfold fnB; rw [hw, hnu]; rfl
          have e6 : fnV n wr (y + z) = s := by unfold fnV; rw [e5, Int.toNat_natCast, hss]; rfl
          have K5 := fun (W : World) => impl_AddIn_u n wr z y W ⟨z1, z2⟩ ⟨y1, y2⟩
          rw [e1, e2] at K5
          have K6 := fun (W : World) => impl_LessIn_u n wr s z W ⟨by omega, by omega⟩ ⟨z1, z2⟩
          rw [e3] at K6
          have K7 := fun (W : World) => impl_FitNumber_u n wr (y + z) W
          rw [e5, e6] at K7
          have K5 := hid K5
          have K6 := hid K6
          have K7 := hid K7
          have HE4 := hid e4
          have yz1 : -65536 ≤ y + z := by omega
          have yz2 : y + z ≤ 65536 := by omega
          clear e1 e2 e3 e4 e5 e6 hnu hsw hss fs hg1 hw hy hz hy2 hz2 f1 f2 p1 p2
          go_wp2_with fail
          refine (K5.out _).mono ?_
          rintro e v7 ⟨rfl, hb⟩
          have hB7 := HBx.out.trans (hb.mono HBx.out.size)
          obtain ⟨cy, dy⟩ := box2S hB7
          have HB7 := hid hB7
          clear hb hB7 ca5 cb5 C5
          cases wr
          · go_wp2_with fail
            refine (K7.out _).mono ?_
            rintro e v8 ⟨rfl, hb⟩
            have HB8 := hid (HB7.out.trans (hb.mono HB7.out.size))
            clear hb cy dy
            go_wp2
            go_meet
            exact HB8.out
          · have e4 := HE4.out rfl
            rw [e4] at K6
            clear e4
            go_wp2_with fail
            refine (K6.out _).mono ?_
            rintro e v8 ⟨rfl, hb⟩
            have HB8 := hid (HB7.out.trans (hb.mono HB7.out.size))
            clear hb cy dy
            go_wp2
            go_meet
            exact HB8.out
      case rest =>
        have HBy := hid (bel_step HB1.out (bel_step (bel_alloc _ _) hcut))
        clear HBx hcut K1 K2 K3 K4 Hs Hg ca5 cb5 C5
        go_wp2_with fail
        refine (DrawTimesIn_any u2 n2 c2 _ (By.later HY2.out HBy.out) hl3).mono ?_
        rintro e r1 ⟨⟨b, wr, y, z, k, m, rfl, ⟨b1, b2⟩, ⟨y1, y2⟩, ⟨z1, z2⟩, ⟨k1, k2⟩, m1, m2⟩, hb⟩
        have HB1 := hid (bel_step HBy.out hb)
        clear hb HBy
        obtain ⟨s, hs⟩ : ∃ s, s = tiV b wr y z k m := ⟨_, rfl⟩
        obtain ⟨g, hg⟩ : ∃ g, g = tiB b y z k m := ⟨_, rfl⟩
        have K1 := fun (W : World) => impl_TimesIn_u b wr y z k m W ⟨y1, y2⟩ ⟨z1, z2⟩
        have K2 := fun (W : World) => spec_TimesIn_u b wr y z k m W ⟨y1, y2⟩ ⟨z1, z2⟩
        rw [← hs, ← hg] at K1 K2
        have Hs := hid hs
        have Hg := hid hg
        have K1 := hid K1
        have K2 := hid K2
        clear hs hg
        go_wp2_with fail
        refine (K1.out _).mono ?_
        rintro e r2 ⟨rfl, hb⟩
        have C2 := hb
        obtain ⟨ca2, cb2⟩ := box2S C2
        clear hb
        go_wp2_with fail
        refine (K2.out _).mono ?_
        rintro e r3 ⟨rfl, hb⟩
        have C3 := bel_step C2 hb
        obtain ⟨ca3, cb3⟩ := box2S C3
        clear hb ca2 cb2
        have HBx := hid (bel_step HB1.out (bel_step (bel_alloc _ _) C3))
        cases g
        · go_wp2
          go_ret
          exact ⟨rfl, HBx.out⟩
        · have hg1 := Hg.out
          have hg2 := hg1.symm
          unfold tiB at hg2
          rw [Bool.and_eq_true, Bool.and_eq_true, Bool.and_eq_true, Bool.and_eq_true] at hg2
          obtain ⟨hw, hy, hz, hk, hm⟩ := hg2
          obtain ⟨n, rfl, n1', n2'⟩ := word_n hw
          have ka := shB_t hk
          have ma := moB_t hm
          obtain ⟨j, rfl⟩ : ∃ j : Nat, k = j := ⟨k.toNat, by omega⟩
          have hss : s = fitI n wr (shiftI (y * z) j m) := by rw [Hs.out]; unfold tiV; rw [← hg1, Int.toNat_natCast, Int.toNat_natCast]; rfl
          have hy2 := of_decide_eq_true ((inW_n n y).symm.trans hy)
          have hz2 := of_decide_eq_true ((inW_n n z).symm.trans hz)
          obtain ⟨q1, q2⟩ := pow_small n (by omega) n2'
          obtain ⟨v1, v2⟩ := mul_small (x := y) (y := z) (by omega) (by omega) (by omega) (by omega)
          obtain ⟨r, hr⟩ : ∃ r, r = shiftI (y * z) j m := ⟨_, rfl⟩
          obtain ⟨t1, t2⟩ := shift_in (y * z) j m 1073741824 v1 v2 (by omega)
          have K5 := fun (W : World) => impl_RoundShift_yes (y * z) j m W (by omega) (by omega) (by omega) ma.1 ma.2
          rw [← hr] at K5 hss t1 t2
          have hnu : nuB r = true := decide_eq_true (by omega)
          have e5 : fnB n r = true := by unfold fnB; rw [hw, hnu]; rfl
          have e6 : fnV n wr r = s := by unfold fnV; rw [e5, Int.toNat_natCast, hss]; rfl
          have K7 := fun (W : World) => impl_FitNumber_u n wr r W
          rw [e5, e6] at K7
          have K5 := hid K5
          have K7 := hid K7
          clear e5 e6 hnu hss hg1 hw hy hz hk hm hy2 hz2 hr q1 q2
          go_wp2_with fail
          refine (K5.out _).mono ?_
          rintro e w' ⟨rfl, rfl⟩
          go_wp2_with fail
          refine (K7.out _).mono ?_
          rintro e r8 ⟨rfl, hb⟩
          have HB8 := hid (bel_step HBx.out hb)
          clear hb
          go_wp2
          go_ret
          exact ⟨rfl, HB8.out⟩

end Go.Proofs.Ytedhclicjkjlfaa
