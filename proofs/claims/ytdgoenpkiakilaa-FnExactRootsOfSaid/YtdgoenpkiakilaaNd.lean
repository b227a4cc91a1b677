
import Derived.Test.YtdgoenpkiakilaaNc
import Derived.Test.YtdgoenpkiakilaaAb
import Derived.Deep.QuietTactic
import Derived.BigQuiet
namespace Go.Proofs.Ytdgoenpkiakilaa
open Go.RowKit BitX Go.MemX Go.ShX
set_option linter.unusedVariables false

theorem pow_nat (k : Nat) (h : k ≤ 10) : ∃ P : Nat, P = 2 ^ k ∧ (2 : Int) ^ k = (P : Int) ∧ 1 ≤ P ∧ P ≤ 1024 := by
  have h1 : (2 : Nat) ^ k ≤ 2 ^ 10 := Nat.pow_le_pow_right (by decide) h
  exact ⟨2 ^ k, rfl, by norm_cast, Nat.two_pow_pos _, by omega⟩
theorem ret_bb {b c d e : Bool} (h1 : b = c) (h2 : d = e) : Ending.returned (.tuple #[.bool b, .bool d]) = .returned (.tuple #[.bool c, .bool e]) := by rw [h1, h2]
theorem abs_in {a : Int} (a1 : -1024 ≤ a) (a2 : a ≤ 1024) : 0 ≤ absI a ∧ absI a ≤ 1024 := by unfold absI; omega




def trR (a d k mode b : Int) : Bool := soB a d k mode b && decide (absI d < 2 ^ k.toNat ∧ absI a < 2 ^ k.toNat - d)
def rtV (a d : Int) (k : Nat) : Int := a * a + 4 * d * 2 ^ k
def rtS (a d k mode b : Int) : ByteArray := onB (soB a d k mode b) (if 0 < rtV a d k.toNat then ⟨#[116, 119, 111]⟩ else if rtV a d k.toNat = 0 then ⟨#[111, 110, 101]⟩ else ⟨#[116, 117, 114, 110]⟩) ByteArray.empty
theorem ret_sb {s t : ByteArray} {b c : Bool} (h1 : s = t) (h2 : b = c) : Ending.returned (.tuple #[.string s, .bool b]) = .returned (.tuple #[.string t, .bool c]) := by rw [h1, h2]


set_option maxHeartbeats 2000000 in
theorem spec_IsInTriangle_is (a d k mode b : Int) (wr : Bool) (w : World) :
    Calls Try.prog 12 #[.agg #[.int .i64 a, .int .i64 d, .int .i64 k, .int .i64 mode, .int .i64 b, .bool wr]] w fun e w' => e = .returned (.tuple #[.bool (trR a d k mode b), .bool (soB a d k mode b)]) ∧ Below w.heap.size w w' := by
  cases hq : soB a d k mode b
  · have HQ := hid hq
    have HS := hid (show trR a d k mode b = false from by unfold trR; rw [hq]; rfl)
    clear hq
    go_enter Try.func12, Try.ntmps12
    go_wp2_with fail
    refine (sdGood_q _ _ _ _ _ _ false _ HQ.out).mono ?_
    rintro e w1 ⟨rfl, hb⟩
    have B1 := hb
    go_wp2_with fail
    go_ret2
    exact ⟨ret_bb HS.out.symm rfl, bel_step (bel_alloc _ _) B1⟩
  · have hs0 : trR a d k mode b = decide (absI d < 2 ^ k.toNat ∧ absI a < 2 ^ k.toNat - d) := by unfold trR; rw [hq]; rfl
    have HS := hid hs0
    clear hs0
    obtain ⟨k, n, rfl, rfl, ho⟩ := soB_n hq
    have HQ := hid hq
    have HO := hid ho
    obtain ⟨⟨⟨a1, a2⟩, k1, ⟨m1, m2⟩, _⟩, d1, d2⟩ := ho
    obtain ⟨P, hP0, hP, p1, p2⟩ := pow_nat k k1
    have hw : wrap64 ((2 : Int) ^ k) = (P : Int) := by rw [hP]; exact IntWalk.wrap64_in _ (by omega)
    have hw2 : wrap64 ((2 : Int) ^ min k 64) = (P : Int) := by rw [Nat.min_eq_left (by omega)]; exact hw
    have hw3 : IntKind.i64.wrap (P : Int) = (P : Int) := IntWalk.i64_in _ (by omega)
    have hw5 : wrap64 (P : Int) = (P : Int) := IntWalk.wrap64_in _ (by omega)
    have hw4 : IntKind.i64.wrap ((2 : Int) ^ k) = (P : Int) := by rw [hP]; exact hw3
    obtain ⟨z1, z2⟩ := abs_in a1 a2
    obtain ⟨z3, z4⟩ := abs_in d1 d2
    have HP := hid hP
    clear hq hP hP0
    by_cases hl : absI d < (P : Int)
    · have e1 : IntKind.i64.wrap ((P : Int) - d) = (P : Int) - d := IntWalk.i64_in _ (by omega)
      by_cases hl2 : absI a < (P : Int) - d
      · have HSv := hid (show trR a d (k : Int) mode (n : Int) = true from by rw [HS.out, Int.toNat_natCast, HP.out]; exact decide_eq_true ⟨hl, hl2⟩)
        go_enter Try.func12, Try.ntmps12
        go_wp2_with fail
        refine (sdGood_q _ _ _ _ _ _ true _ HQ.out).mono ?_
        rintro e w1 ⟨rfl, hb⟩
        have B1 := hb
        obtain ⟨c0, c1, c2, c3, c4, c5⟩ := box6_cells B1
        go_wp2_with fail
        have hS := And.intro c0 c1
        go_region_held3 (fun W => W.cell? ⟨w.heap.size, 0, none⟩ = some (.int .i64 a) ∧ W.cell? ⟨w.heap.size, 1, none⟩ = some (.int .i64 d)) (first | exact hS | assumption | go_keep) (first | (go_at_call 31; refine (l1Abs_any _ _ (by omega) (by omega)).mono ?_; rintro e w' ⟨rfl, rfl⟩))
        all_goals go_wp2
        all_goals go_ret2
        all_goals exact ⟨ret_bb (Eq.trans (b := true) (by first | rfl | exact decide_eq_true hl2 | simp [hl, hl2]) HSv.out.symm) (by first | exact HQ.out.symm | rfl), below_drewN (bel_step (bel_alloc _ _) B1) _⟩
      · have hl3 : (P : Int) - d ≤ absI a := by omega
        have HSv := hid (show trR a d (k : Int) mode (n : Int) = false from by rw [HS.out, Int.toNat_natCast, HP.out]; exact decide_eq_false (fun h => absurd h.2 (Int.not_lt.2 hl3)))
        clear hl2
        go_enter Try.func12, Try.ntmps12
        go_wp2_with fail
        refine (sdGood_q _ _ _ _ _ _ true _ HQ.out).mono ?_
        rintro e w1 ⟨rfl, hb⟩
        have B1 := hb
        obtain ⟨c0, c1, c2, c3, c4, c5⟩ := box6_cells B1
        go_wp2_with fail
        have hS := And.intro c0 c1
        go_region_held3 (fun W => W.cell? ⟨w.heap.size, 0, none⟩ = some (.int .i64 a) ∧ W.cell? ⟨w.heap.size, 1, none⟩ = some (.int .i64 d)) (first | exact hS | assumption | go_keep) (first | (go_at_call 31; refine (l1Abs_any _ _ (by omega) (by omega)).mono ?_; rintro e w' ⟨rfl, rfl⟩))
        all_goals go_wp2
        all_goals go_ret2
        all_goals exact ⟨ret_bb (Eq.trans (b := false) (by first | rfl | exact decide_eq_false (Int.not_lt.2 hl3) | simp [hl, hl3]) HSv.out.symm) (by first | exact HQ.out.symm | rfl), below_drewN (bel_step (bel_alloc _ _) B1) _⟩
    · have hl1 : (P : Int) ≤ absI d := by omega
      have HSv := hid (show trR a d (k : Int) mode (n : Int) = false from by rw [HS.out, Int.toNat_natCast, HP.out]; exact decide_eq_false (fun h => absurd h.1 (Int.not_lt.2 hl1)))
      clear hl
      go_enter Try.func12, Try.ntmps12
      go_wp2_with fail
      refine (sdGood_q _ _ _ _ _ _ true _ HQ.out).mono ?_
      rintro e w1 ⟨rfl, hb⟩
      have B1 := hb
      obtain ⟨c0, c1, c2, c3, c4, c5⟩ := box6_cells B1
      go_wp2_with fail
      refine wp_region_any (by kernel_rfl) ?_
      change wpAny _ _ _ _ _ _ _ (World.drew _)
      refine wpAny_take (i := 3) (v := .int .i64 (P : Int)) rfl (by kernel_rfl) (by kernel_rfl) (by kernel_rfl) (fun _ _ _ h => h) (Or.inl ⟨by kernel_rfl, ?_⟩) ?_
      · intro w; go_simp
      refine wpAny_ready (rs := [0]) (by kernel_rfl) (by simp) ?_
      refine AllReady.cons rfl (fun K hK => ?_) AllReady.nil
      go_simp
      refine hK _ _ ?_
      clear hK K
      refine wpAny_ready (rs := [1]) (by kernel_rfl) (by simp) ?_
      refine AllReady.cons rfl (fun K hK => ?_) AllReady.nil
      go_simp
      refine hK _ _ ?_
      clear hK K
      refine wpAny_ready (rs := [2]) (by kernel_rfl) (by simp) ?_
      refine AllReady.cons rfl (fun K hK => ?_) AllReady.nil
      go_simp
      go_wp2_with (go_at_call 31; refine (l1Abs_any _ _ (by omega) (by omega)).mono ?_; rintro e w' ⟨rfl, rfl⟩)
      try (refine hK _ _ ?_; clear hK K)
      refine wpAny_take (i := 4) (v := .bool false) rfl (by kernel_rfl) (by kernel_rfl) (by kernel_rfl) (fun _ _ _ h => h) (Or.inl ⟨by kernel_rfl, ?_⟩) ?_
      · intro w; go_simp
      refine wpAny_take (i := 5) (v := .bool false) rfl (by kernel_rfl) (by kernel_rfl) (by kernel_rfl) (fun _ _ _ h => h) (Or.inl ⟨by kernel_rfl, ?_⟩) ?_
      · intro w; go_simp
      refine wpAny_take (i := 6) (v := undef) rfl (by kernel_rfl) (by kernel_rfl) (by kernel_rfl) (fun _ _ _ h => h) (Or.inr ⟨by kernel_rfl, rfl⟩) ?_
      refine wpAny_take (i := 7) (v := undef) rfl (by kernel_rfl) (by kernel_rfl) (by kernel_rfl) (fun _ _ _ h => h) (Or.inr ⟨by kernel_rfl, rfl⟩) ?_
      refine wpAny_take (i := 8) (v := undef) rfl (by kernel_rfl) (by kernel_rfl) (by kernel_rfl) (fun _ _ _ h => h) (Or.inr ⟨by kernel_rfl, rfl⟩) ?_
      refine wpAny_take (i := 9) (v := undef) rfl (by kernel_rfl) (by kernel_rfl) (by kernel_rfl) (fun _ _ _ h => h) (Or.inr ⟨by kernel_rfl, rfl⟩) ?_
      refine wpAny_take (i := 10) (v := undef) rfl (by kernel_rfl) (by kernel_rfl) (by kernel_rfl) (fun _ _ _ h => h) (Or.inr ⟨by kernel_rfl, rfl⟩) ?_
      refine wpAny_take (i := 11) (v := undef) rfl (by kernel_rfl) (by kernel_rfl) (by kernel_rfl) (fun _ _ _ h => h) (Or.inr ⟨by kernel_rfl, rfl⟩) ?_
      refine wpAny_take (i := 12) (v := undef) rfl (by kernel_rfl) (by kernel_rfl) (by kernel_rfl) (fun _ _ _ h => h) (Or.inr ⟨by kernel_rfl, rfl⟩) ?_
      refine wpAny_take (i := 13) (v := undef) rfl (by kernel_rfl) (by kernel_rfl) (by kernel_rfl) (fun _ _ _ h => h) (Or.inr ⟨by kernel_rfl, rfl⟩) ?_
      refine wpAny_take (i := 14) (v := .bool false) rfl (by kernel_rfl) (by kernel_rfl) (by kernel_rfl) (fun _ _ _ h => h) (Or.inl ⟨by kernel_rfl, ?_⟩) ?_
      · intro w; go_simp
      refine wpAny_take (i := 15) (v := .bool false) rfl (by kernel_rfl) (by kernel_rfl) (by kernel_rfl) (fun _ _ _ h => h) (Or.inl ⟨by kernel_rfl, ?_⟩) ?_
      · intro w; go_simp
      refine wpAny_take (i := 16) (v := .bool true) rfl (by kernel_rfl) (by kernel_rfl) (by kernel_rfl) (fun _ _ _ h => h) (Or.inl ⟨by kernel_rfl, ?_⟩) ?_
      · intro w; go_simp
      refine wpAny_done (by kernel_rfl) ?_ _
      go_simp
      go_wp2
      go_ret2
      exact ⟨ret_bb HSv.out.symm (by first | exact HQ.out.symm | rfl), below_drewN (bel_step (bel_alloc _ _) B1) _⟩


set_option maxHeartbeats 2000000 in
theorem impl_IsInTriangle_is (a d k mode b : Int) (wr : Bool) (w : World) :
    Calls Try.prog 13 #[.agg #[.int .i64 a, .int .i64 d, .int .i64 k, .int .i64 mode, .int .i64 b, .bool wr]] w fun e w' => e = .returned (.tuple #[.bool (trR a d k mode b), .bool (soB a d k mode b)]) ∧ Below w.heap.size w w' := by
  cases hq : soB a d k mode b
  · have HQ := hid hq
    have HS := hid (show trR a d k mode b = false from by unfold trR; rw [hq]; rfl)
    clear hq
    go_enter Try.func13, Try.ntmps13
    go_wp2_with fail
    refine (IsSecond_q _ _ _ _ _ _ false _ HQ.out).mono ?_
    rintro e w1 ⟨rfl, hb⟩
    have B1 := hb
    go_wp2_with fail
    go_ret2
    exact ⟨ret_bb HS.out.symm rfl, bel_step (bel_alloc _ _) B1⟩
  · have hs0 : trR a d k mode b = decide (absI d < 2 ^ k.toNat ∧ absI a < 2 ^ k.toNat - d) := by unfold trR; rw [hq]; rfl
    have HS := hid hs0
    clear hs0
    obtain ⟨k, n, rfl, rfl, ho⟩ := soB_n hq
    have HQ := hid hq
    have HO := hid ho
    obtain ⟨⟨⟨a1, a2⟩, k1, ⟨m1, m2⟩, _⟩, d1, d2⟩ := ho
    obtain ⟨P, hP0, hP, p1, p2⟩ := pow_nat k k1
    have hw : wrap64 ((2 : Int) ^ k) = (P : Int) := by rw [hP]; exact IntWalk.wrap64_in _ (by omega)
    have hw2 : wrap64 ((2 : Int) ^ min k 64) = (P : Int) := by rw [Nat.min_eq_left (by omega)]; exact hw
    have hw3 : IntKind.i64.wrap (P : Int) = (P : Int) := IntWalk.i64_in _ (by omega)
    have hw5 : wrap64 (P : Int) = (P : Int) := IntWalk.wrap64_in _ (by omega)
    have hw4 : IntKind.i64.wrap ((2 : Int) ^ k) = (P : Int) := by rw [hP]; exact hw3
    obtain ⟨z1, z2⟩ := abs_in a1 a2
    obtain ⟨z3, z4⟩ := abs_in d1 d2
    have HP := hid hP
    clear hq hP hP0
    by_cases hl : absI d < (P : Int)
    · have e1 : IntKind.i64.wrap ((P : Int) - d) = (P : Int) - d := IntWalk.i64_in _ (by omega)
      by_cases hl2 : absI a < (P : Int) - d
      · have HSv := hid (show trR a d (k : Int) mode (n : Int) = true from by rw [HS.out, Int.toNat_natCast, HP.out]; exact decide_eq_true ⟨hl, hl2⟩)
        go_enter Try.func13, Try.ntmps13
        go_wp2_with fail
        refine (IsSecond_q _ _ _ _ _ _ true _ HQ.out).mono ?_
        rintro e w1 ⟨rfl, hb⟩
        have B1 := hb
        obtain ⟨c0, c1, c2, c3, c4, c5⟩ := box6_cells B1
        go_wp2_with fail
        have hS := And.intro c0 c1
        go_region_held3 (fun W => W.cell? ⟨w.heap.size, 0, none⟩ = some (.int .i64 a) ∧ W.cell? ⟨w.heap.size, 1, none⟩ = some (.int .i64 d)) (first | exact hS | assumption | go_keep) (first | (go_at_call 32; refine (sizeOf_any _ _ (by omega) (by omega)).mono ?_; rintro e w' ⟨rfl, rfl⟩))
        all_goals go_wp2
        all_goals go_ret2
        all_goals exact ⟨ret_bb (Eq.trans (b := true) (by first | rfl | exact decide_eq_true hl2 | simp [hl, hl2]) HSv.out.symm) (by first | exact HQ.out.symm | rfl), below_drewN (bel_step (bel_alloc _ _) B1) _⟩
      · have hl3 : (P : Int) - d ≤ absI a := by omega
        have HSv := hid (show trR a d (k : Int) mode (n : Int) = false from by rw [HS.out, Int.toNat_natCast, HP.out]; exact decide_eq_false (fun h => absurd h.2 (Int.not_lt.2 hl3)))
        clear hl2
        go_enter Try.func13, Try.ntmps13
        go_wp2_with fail
        refine (IsSecond_q _ _ _ _ _ _ true _ HQ.out).mono ?_
        rintro e w1 ⟨rfl, hb⟩
        have B1 := hb
        obtain ⟨c0, c1, c2, c3, c4, c5⟩ := box6_cells B1
        go_wp2_with fail
        have hS := And.intro c0 c1
        go_region_held3 (fun W => W.cell? ⟨w.heap.size, 0, none⟩ = some (.int .i64 a) ∧ W.cell? ⟨w.heap.size, 1, none⟩ = some (.int .i64 d)) (first | exact hS | assumption | go_keep) (first | (go_at_call 32; refine (sizeOf_any _ _ (by omega) (by omega)).mono ?_; rintro e w' ⟨rfl, rfl⟩))
        all_goals go_wp2
        all_goals go_ret2
        all_goals exact ⟨ret_bb (Eq.trans (b := false) (by first | rfl | exact decide_eq_false (Int.not_lt.2 hl3) | simp [hl, hl3]) HSv.out.symm) (by first | exact HQ.out.symm | rfl), below_drewN (bel_step (bel_alloc _ _) B1) _⟩
    · have hl1 : (P : Int) ≤ absI d := by omega
      have HSv := hid (show trR a d (k : Int) mode (n : Int) = false from by rw [HS.out, Int.toNat_natCast, HP.out]; exact decide_eq_false (fun h => absurd h.1 (Int.not_lt.2 hl1)))
      clear hl
      go_enter Try.func13, Try.ntmps13
      go_wp2_with fail
      refine (IsSecond_q _ _ _ _ _ _ true _ HQ.out).mono ?_
      rintro e w1 ⟨rfl, hb⟩
      have B1 := hb
      obtain ⟨c0, c1, c2, c3, c4, c5⟩ := box6_cells B1
      go_wp2_with fail
      refine wp_region_any (by kernel_rfl) ?_
      change wpAny _ _ _ _ _ _ _ (World.drew _)
      refine wpAny_take (i := 3) (v := .int .i64 (P : Int)) rfl (by kernel_rfl) (by kernel_rfl) (by kernel_rfl) (fun _ _ _ h => h) (Or.inl ⟨by kernel_rfl, ?_⟩) ?_
      · intro w; go_simp
      refine wpAny_ready (rs := [0]) (by kernel_rfl) (by simp) ?_
      refine AllReady.cons rfl (fun K hK => ?_) AllReady.nil
      go_simp
      refine hK _ _ ?_
      clear hK K
      refine wpAny_ready (rs := [1]) (by kernel_rfl) (by simp) ?_
      refine AllReady.cons rfl (fun K hK => ?_) AllReady.nil
      go_simp
      refine hK _ _ ?_
      clear hK K
      refine wpAny_ready (rs := [2]) (by kernel_rfl) (by simp) ?_
      refine AllReady.cons rfl (fun K hK => ?_) AllReady.nil
      go_simp
      go_wp2_with (go_at_call 32; refine (sizeOf_any _ _ (by omega) (by omega)).mono ?_; rintro e w' ⟨rfl, rfl⟩)
      try (refine hK _ _ ?_; clear hK K)
      refine wpAny_take (i := 4) (v := .bool false) rfl (by kernel_rfl) (by kernel_rfl) (by kernel_rfl) (fun _ _ _ h => h) (Or.inl ⟨by kernel_rfl, ?_⟩) ?_
      · intro w; go_simp
      refine wpAny_take (i := 5) (v := .bool false) rfl (by kernel_rfl) (by kernel_rfl) (by kernel_rfl) (fun _ _ _ h => h) (Or.inl ⟨by kernel_rfl, ?_⟩) ?_
      · intro w; go_simp
      refine wpAny_take (i := 6) (v := undef) rfl (by kernel_rfl) (by kernel_rfl) (by kernel_rfl) (fun _ _ _ h => h) (Or.inr ⟨by kernel_rfl, rfl⟩) ?_
      refine wpAny_take (i := 7) (v := undef) rfl (by kernel_rfl) (by kernel_rfl) (by kernel_rfl) (fun _ _ _ h => h) (Or.inr ⟨by kernel_rfl, rfl⟩) ?_
      refine wpAny_take (i := 8) (v := undef) rfl (by kernel_rfl) (by kernel_rfl) (by kernel_rfl) (fun _ _ _ h => h) (Or.inr ⟨by kernel_rfl, rfl⟩) ?_
      refine wpAny_take (i := 9) (v := undef) rfl (by kernel_rfl) (by kernel_rfl) (by kernel_rfl) (fun _ _ _ h => h) (Or.inr ⟨by kernel_rfl, rfl⟩) ?_
      refine wpAny_take (i := 10) (v := undef) rfl (by kernel_rfl) (by kernel_rfl) (by kernel_rfl) (fun _ _ _ h => h) (Or.inr ⟨by kernel_rfl, rfl⟩) ?_
      refine wpAny_take (i := 11) (v := undef) rfl (by kernel_rfl) (by kernel_rfl) (by kernel_rfl) (fun _ _ _ h => h) (Or.inr ⟨by kernel_rfl, rfl⟩) ?_
      refine wpAny_take (i := 12) (v := undef) rfl (by kernel_rfl) (by kernel_rfl) (by kernel_rfl) (fun _ _ _ h => h) (Or.inr ⟨by kernel_rfl, rfl⟩) ?_
      refine wpAny_take (i := 13) (v := undef) rfl (by kernel_rfl) (by kernel_rfl) (by kernel_rfl) (fun _ _ _ h => h) (Or.inr ⟨by kernel_rfl, rfl⟩) ?_
      refine wpAny_take (i := 14) (v := .bool false) rfl (by kernel_rfl) (by kernel_rfl) (by kernel_rfl) (fun _ _ _ h => h) (Or.inl ⟨by kernel_rfl, ?_⟩) ?_
      · intro w; go_simp
      refine wpAny_take (i := 15) (v := .bool false) rfl (by kernel_rfl) (by kernel_rfl) (by kernel_rfl) (fun _ _ _ h => h) (Or.inl ⟨by kernel_rfl, ?_⟩) ?_
      · intro w; go_simp
      refine wpAny_take (i := 16) (v := .bool true) rfl (by kernel_rfl) (by kernel_rfl) (by kernel_rfl) (fun _ _ _ h => h) (Or.inl ⟨by kernel_rfl, ?_⟩) ?_
      · intro w; go_simp
      refine wpAny_done (by kernel_rfl) ?_ _
      go_simp
      go_wp2
      go_ret2
      exact ⟨ret_bb HSv.out.symm (by first | exact HQ.out.symm | rfl), below_drewN (bel_step (bel_alloc _ _) B1) _⟩


set_option maxHeartbeats 1600000 in
theorem gen_FnExactIsInTriangle (a d k mode b : Int) (wr : Bool)  (r0 : Bool) (r1 : Bool) (w : World)  (hspec : ∀ (w : World) , Calls Try.prog 12 #[.agg #[.int .i64 a, .int .i64 d, .int .i64 k, .int .i64 mode, .int .i64 b, .bool wr]] w fun e w' => e = .returned (.tuple #[.bool r0, .bool r1]) ∧ Below w.heap.size w w') (himpl : ∀ (w : World) , Calls Try.prog 13 #[.agg #[.int .i64 a, .int .i64 d, .int .i64 k, .int .i64 mode, .int .i64 b, .bool wr]] w fun e w' => e = .returned (.tuple #[.bool r0, .bool r1]) ∧ Below w.heap.size w w') :
    Calls Try.prog 4 #[.agg #[.int .i64 a, .int .i64 d, .int .i64 k, .int .i64 mode, .int .i64 b, .bool wr]] w fun e w' => e = .returned (.bool true) ∧ Below w.heap.size w w' := by
  have HSP := hid hspec
  have HIM := hid himpl
  clear hspec himpl
  all_goals cases r0
  all_goals cases r1
  all_goals
    go_enter Try.func4, Try.ntmps4
    go_wp2_with fail
    refine (toSecond_any _ _ _ _ _ _ _).mono ?_
    rintro e w1 ⟨rfl, hb⟩
    have B1 := hb
    have hz1 : w.heap.size ≤ w1.heap.size := by first | exact hb.size | (have := hb.size; simp at this; omega)
    obtain ⟨ca1, cb1, cc1, cd1, ce1, cf1⟩ := box6_cells B1
    go_wp2_with fail
    refine (HSP.out _).mono ?_
    rintro e w2 ⟨rfl, hb⟩
    have B2 := bel_step B1 hb
    have hz2 : w1.heap.size ≤ w2.heap.size := hb.size
    obtain ⟨ca2, cb2, cc2, cd2, ce2, cf2⟩ := box6_cells B2
    go_wp2_with fail
    refine (toSecond_any _ _ _ _ _ _ _).mono ?_
    rintro e w3 ⟨rfl, hb⟩
    have B3 := bel_step B2 hb
    have hz3 : w2.heap.size ≤ w3.heap.size := hb.size
    obtain ⟨ca3, cb3, cc3, cd3, ce3, cf3⟩ := box6_cells B3
    go_wp2_with fail
    refine (HIM.out _).mono ?_
    rintro e w4 ⟨rfl, hb⟩
    have B4 := bel_step B3 hb
    have hz4 : w3.heap.size ≤ w4.heap.size := hb.size
    obtain ⟨ca4, cb4, cc4, cd4, ce4, cf4⟩ := box6_cells B4
    go_wp2_with fail
    go_ret
    exact ⟨rfl, bel_step (bel_alloc _ _) B4⟩


set_option maxHeartbeats 1600000 in
theorem walk_FnExactIsInTriangle (w : World) (a d k mode b : Int) (wr : Bool) (wa : (Lit.int .i64 a).wf = true) (wd : (Lit.int .i64 d).wf = true) (wk : (Lit.int .i64 k).wf = true) (wm : (Lit.int .i64 mode).wf = true) (wb : (Lit.int .i64 b).wf = true) :
    Calls Try.prog 4 #[.agg #[.int .i64 a, .int .i64 d, .int .i64 k, .int .i64 mode, .int .i64 b, .bool wr]] w fun e w' => e = .returned (.bool true) ∧ Below w.heap.size w w' := by

  exact gen_FnExactIsInTriangle a d k mode b wr (trR a d k mode b) (soB a d k mode b) w  (fun w  => spec_IsInTriangle_is _ _ _ _ _ _ _) (fun w  => impl_IsInTriangle_is _ _ _ _ _ _ _)

end Go.Proofs.Ytdgoenpkiakilaa
