
import Derived.Test.YtcaoomcmfckhcaaOi
namespace Go.Proofs.Ytcaoomcmfckhcaa
open Go.RowKit BitX Go.MemX Go.ShX
set_option linter.unusedVariables false


def ratT (P : Nat) (d : Int) : Int := if 0 < d then ((P / Nat.gcd P d.toNat : Nat) : Int) else -((P / Nat.gcd P (-d).toNat : Nat) : Int)
def ratB (P : Nat) (d : Int) : Int := if 0 < d then ((d.toNat / Nat.gcd P d.toNat : Nat) : Int) else (((-d).toNat / Nat.gcd P (-d).toNat : Nat) : Int)


theorem foRatio_any (P : Nat) (d : Int) (w : World) (h1 : 1 ≤ P) (h2 : P ≤ 5000) (d0 : d ≠ 0) (d1 : -5000 ≤ d) (d2 : d ≤ 5000) :
    Calls Try.prog 35 #[.int .i64 (P : Int), .int .i64 d] w fun e w' => e = .returned (.tuple #[.int .i64 (ratT P d), .int .i64 (ratB P d)]) ∧ Below w.heap.size w w' := by
  unfold ratT ratB
  by_cases hd : 0 < d
  · rw [if_pos hd, if_pos hd]
    have := foRatio_pos P d.toNat w h1 h2 (by omega) (by omega)
    rw [show ((d.toNat : Nat) : Int) = d from by omega] at this
    exact this
  · rw [if_neg hd, if_neg hd]
    have := foRatio_neg P (-d).toNat w h1 h2 (by omega) (by omega)
    rw [show -(((-d).toNat : Nat) : Int) = d from by omega] at this
    exact this


theorem lowest_any (P : Nat) (d : Int) (w : World) (h1 : 1 ≤ P) (h2 : P ≤ 5000) (d0 : d ≠ 0) (d1 : -5000 ≤ d) (d2 : d ≤ 5000) :
    Calls Try.prog 36 #[.int .i64 (P : Int), .int .i64 d] w fun e w' => e = .returned (.tuple #[.int .i64 (ratT P d), .int .i64 (ratB P d)]) ∧ Below w.heap.size w w' := by
  unfold ratT ratB
  by_cases hd : 0 < d
  · rw [if_pos hd, if_pos hd]
    have := lowest_pos P d.toNat w h1 h2 (by omega) (by omega)
    rw [show ((d.toNat : Nat) : Int) = d from by omega] at this
    exact this
  · rw [if_neg hd, if_neg hd]
    have := lowest_neg P (-d).toNat w h1 h2 (by omega) (by omega)
    rw [show -(((-d).toNat : Nat) : Int) = d from by omega] at this
    exact this


theorem pow_nat (k : Nat) (h : k ≤ 10) : ∃ P : Nat, P = 2 ^ k ∧ (2 : Int) ^ k = (P : Int) ∧ 1 ≤ P ∧ P ≤ 1024 := by
  have h1 : (2 : Nat) ^ k ≤ 2 ^ 10 := Nat.pow_le_pow_right (by decide) h
  exact ⟨2 ^ k, rfl, by norm_cast, Nat.two_pow_pos _, by omega⟩
theorem ret_bb {b c d e : Bool} (h1 : b = c) (h2 : d = e) : Ending.returned (.tuple #[.bool b, .bool d]) = .returned (.tuple #[.bool c, .bool e]) := by rw [h1, h2]
theorem ret_iib {i j k l : Int} {b c : Bool} (h1 : i = j) (h2 : k = l) (h3 : b = c) : Ending.returned (.tuple #[.int .i64 i, .int .i64 k, .bool b]) = .returned (.tuple #[.int .i64 j, .int .i64 l, .bool c]) := by rw [h1, h2, h3]
def shR (a k mode b : Int) : Bool := foB a k mode b && decide (absI a < 2 ^ k.toNat)
def gnB (a k mode b : Int) : Bool := foB a k mode b && !(a == 2 ^ k.toNat)
def gnT (a k mode b : Int) : Int := onB (gnB a k mode b) (ratT (2 ^ k.toNat) (2 ^ k.toNat - a)) 0
def gnD (a k mode b : Int) : Int := onB (gnB a k mode b) (ratB (2 ^ k.toNat) (2 ^ k.toNat - a)) 0
def ebX (a k mode : Int) : Int := if mode = 1 then (2 ^ k.toNat - absI a) * 2 else 2 ^ k.toNat - absI a
def ebT (a k mode b : Int) : Int := onB (shR a k mode b) (ratT (2 ^ k.toNat) (ebX a k mode)) 0
def ebD (a k mode b : Int) : Int := onB (shR a k mode b) (ratB (2 ^ k.toNat) (ebX a k mode)) 0
theorem abs_in {a : Int} (a1 : -1024 ≤ a) (a2 : a ≤ 1024) : 0 ≤ absI a ∧ absI a ≤ 1024 := by unfold absI; omega


set_option maxHeartbeats 1000000 in
theorem spec_IsShrinking_is (a k mode b : Int) (wr : Bool) (w : World) :
    Calls Try.prog 13 #[.agg #[.int .i64 a, .int .i64 k, .int .i64 mode, .int .i64 b, .bool wr]] w fun e w' => e = .returned (.tuple #[.bool (shR a k mode b), .bool (foB a k mode b)]) ∧ Below w.heap.size w w' := by
  cases hq : foB a k mode b
  · have HQ := hid hq
    have HS := hid (show shR a k mode b = false from by unfold shR; rw [hq]; rfl)
    clear hq
    go_enter Try.func13, Try.ntmps13
    go_wp2_with fail
    refine (foGood_q _ _ _ _ _ false _ HQ.out).mono ?_
    rintro e w1 ⟨rfl, hb⟩
    have B1 := hb
    go_wp2_with fail
    go_ret2
    exact ⟨ret_bb HS.out.symm rfl, bel_step (bel_alloc _ _) B1⟩
  · have hs0 : shR a k mode b = decide (absI a < 2 ^ k.toNat) := by unfold shR; rw [hq]; rfl
    have HS := hid hs0
    clear hs0
    obtain ⟨k, n, rfl, rfl, ho⟩ := foB_n hq
    have HQ := hid hq
    have HO := hid ho
    obtain ⟨⟨a1, a2⟩, k1, ⟨m1, m2⟩, _⟩ := ho
    obtain ⟨P, hP0, hP, p1, p2⟩ := pow_nat k k1
    have hw : wrap64 ((2 : Int) ^ k) = (P : Int) := by rw [hP]; exact IntWalk.wrap64_in _ (by omega)
    have hw2 : wrap64 ((2 : Int) ^ min k 64) = (P : Int) := by rw [Nat.min_eq_left (by omega)]; exact hw
    have hw3 : IntKind.i64.wrap (P : Int) = (P : Int) := IntWalk.i64_in _ (by omega)
    have hw5 : wrap64 (P : Int) = (P : Int) := IntWalk.wrap64_in _ (by omega)
    have hw4 : IntKind.i64.wrap ((2 : Int) ^ k) = (P : Int) := by rw [hP]; exact hw3
    obtain ⟨z1, z2⟩ := abs_in a1 a2
    have HP := hid hP
    have HP0 := hid hP0
    clear hq hP hP0
    go_enter Try.func13, Try.ntmps13
    go_wp2_with fail
    refine (foGood_q _ _ _ _ _ true _ HQ.out).mono ?_
    rintro e w1 ⟨rfl, hb⟩
    have B1 := hb
    obtain ⟨c0, c1, c2, c3, c4⟩ := box5_cells B1
    go_wp2_with fail
    go_region_with (go_at_call 33; refine (l1Abs_any _ _ (by omega) (by omega)).mono ?_; rintro e w' ⟨rfl, rfl⟩)
    all_goals go_wp2
    all_goals go_ret2
    all_goals exact ⟨ret_bb (by rw [HS.out, Int.toNat_natCast, HP.out]) rfl, below_drewN (bel_step (bel_alloc _ _) B1) _⟩


set_option maxHeartbeats 1000000 in
theorem impl_IsShrinking_is (a k mode b : Int) (wr : Bool) (w : World) :
    Calls Try.prog 14 #[.agg #[.int .i64 a, .int .i64 k, .int .i64 mode, .int .i64 b, .bool wr]] w fun e w' => e = .returned (.tuple #[.bool (shR a k mode b), .bool (foB a k mode b)]) ∧ Below w.heap.size w w' := by
  cases hq : foB a k mode b
  · have HQ := hid hq
    have HS := hid (show shR a k mode b = false from by unfold shR; rw [hq]; rfl)
    clear hq
    go_enter Try.func14, Try.ntmps14
    go_wp2_with fail
    refine (IsFirst_q _ _ _ _ _ false _ HQ.out).mono ?_
    rintro e w1 ⟨rfl, hb⟩
    have B1 := hb
    go_wp2_with fail
    go_ret2
    exact ⟨ret_bb HS.out.symm rfl, bel_step (bel_alloc _ _) B1⟩
  · have hs0 : shR a k mode b = decide (absI a < 2 ^ k.toNat) := by unfold shR; rw [hq]; rfl
    have HS := hid hs0
    clear hs0
    obtain ⟨k, n, rfl, rfl, ho⟩ := foB_n hq
    have HQ := hid hq
    have HO := hid ho
    obtain ⟨⟨a1, a2⟩, k1, ⟨m1, m2⟩, _⟩ := ho
    obtain ⟨P, hP0, hP, p1, p2⟩ := pow_nat k k1
    have hw : wrap64 ((2 : Int) ^ k) = (P : Int) := by rw [hP]; exact IntWalk.wrap64_in _ (by omega)
    have hw2 : wrap64 ((2 : Int) ^ min k 64) = (P : Int) := by rw [Nat.min_eq_left (by omega)]; exact hw
    have hw3 : IntKind.i64.wrap (P : Int) = (P : Int) := IntWalk.i64_in _ (by omega)
    have hw5 : wrap64 (P : Int) = (P : Int) := IntWalk.wrap64_in _ (by omega)
    have hw4 : IntKind.i64.wrap ((2 : Int) ^ k) = (P : Int) := by rw [hP]; exact hw3
    obtain ⟨z1, z2⟩ := abs_in a1 a2
    have HP := hid hP
    have HP0 := hid hP0
    clear hq hP hP0
    go_enter Try.func14, Try.ntmps14
    go_wp2_with fail
    refine (IsFirst_q _ _ _ _ _ true _ HQ.out).mono ?_
    rintro e w1 ⟨rfl, hb⟩
    have B1 := hb
    obtain ⟨c0, c1, c2, c3, c4⟩ := box5_cells B1
    go_wp2_with fail
    go_region_with (go_at_call 34; refine (sizeOf_any _ _ (by omega) (by omega)).mono ?_; rintro e w' ⟨rfl, rfl⟩)
    all_goals go_wp2
    all_goals go_ret2
    all_goals exact ⟨ret_bb (by rw [HS.out, Int.toNat_natCast, HP.out]) rfl, below_drewN (bel_step (bel_alloc _ _) B1) _⟩


set_option maxHeartbeats 2000000 in
theorem spec_Gain_bad (a k mode b : Int) (wr : Bool) (w : World) (hq : foB a k mode b = false) :
    Calls Try.prog 15 #[.agg #[.int .i64 a, .int .i64 k, .int .i64 mode, .int .i64 b, .bool wr]] w fun e w' => e = .returned (.tuple #[.int .i64 0, .int .i64 0, .bool false]) ∧ Below w.heap.size w w' := by
  have HQ := hid hq
  clear hq
  go_enter Try.func15, Try.ntmps15
  go_wp2_with fail
  refine wp_region_any (by kernel_rfl) ?_
  change wpAny _ _ _ _ _ _ _ (World.drew _)
  refine wpAny_ready (rs := [0]) (by kernel_rfl) (by simp) ?_
  refine AllReady.cons rfl (fun K hK => ?_) AllReady.nil
  go_simp
  refine hK _ _ ?_
  clear hK K
  refine wpAny_ready (rs := [1]) (by kernel_rfl) (by simp) ?_
  refine AllReady.cons rfl (fun K hK => ?_) AllReady.nil
  go_simp
  go_wp2_with (go_at_call 29; refine (foGood_q _ _ _ _ _ false _ HQ.out).mono ?_; rintro e w1 ⟨rfl, hb⟩; have B1 := bel_undrew hb)
  try (refine hK _ _ ?_; clear hK K)
  refine wpAny_take (i := 2) (v := .bool true) rfl (by kernel_rfl) (by kernel_rfl) (by kernel_rfl) (fun _ _ _ h => h) (Or.inl ⟨by kernel_rfl, ?_⟩) ?_
  · intro w; go_simp
  refine wpAny_take (i := 3) (v := .bool true) rfl (by kernel_rfl) (by kernel_rfl) (by kernel_rfl) (fun _ _ _ h => h) (Or.inl ⟨by kernel_rfl, ?_⟩) ?_
  · intro w; go_simp
  refine wpAny_take (i := 4) (v := undef) rfl (by kernel_rfl) (by kernel_rfl) (by kernel_rfl) (fun _ _ _ h => h) (Or.inr ⟨by kernel_rfl, rfl⟩) ?_
  refine wpAny_take (i := 5) (v := undef) rfl (by kernel_rfl) (by kernel_rfl) (by kernel_rfl) (fun _ _ _ h => h) (Or.inr ⟨by kernel_rfl, rfl⟩) ?_
  refine wpAny_take (i := 6) (v := undef) rfl (by kernel_rfl) (by kernel_rfl) (by kernel_rfl) (fun _ _ _ h => h) (Or.inr ⟨by kernel_rfl, rfl⟩) ?_
  refine wpAny_take (i := 7) (v := undef) rfl (by kernel_rfl) (by kernel_rfl) (by kernel_rfl) (fun _ _ _ h => h) (Or.inr ⟨by kernel_rfl, rfl⟩) ?_
  refine wpAny_take (i := 8) (v := undef) rfl (by kernel_rfl) (by kernel_rfl) (by kernel_rfl) (fun _ _ _ h => h) (Or.inr ⟨by kernel_rfl, rfl⟩) ?_
  refine wpAny_take (i := 9) (v := undef) rfl (by kernel_rfl) (by kernel_rfl) (by kernel_rfl) (fun _ _ _ h => h) (Or.inr ⟨by kernel_rfl, rfl⟩) ?_
  refine wpAny_take (i := 10) (v := .bool true) rfl (by kernel_rfl) (by kernel_rfl) (by kernel_rfl) (fun _ _ _ h => h) (Or.inl ⟨by kernel_rfl, ?_⟩) ?_
  · intro w; go_simp
  refine wpAny_done (by kernel_rfl) ?_ _
  go_simp
  go_wp2
  go_ret3
  exact ⟨rfl, bel_step (bel_alloc _ _) B1⟩

set_option maxHeartbeats 2000000 in
theorem spec_GainOfFirst_is (a k mode b : Int) (wr : Bool) (w : World) :
    Calls Try.prog 15 #[.agg #[.int .i64 a, .int .i64 k, .int .i64 mode, .int .i64 b, .bool wr]] w fun e w' => e = .returned (.tuple #[.int .i64 (gnT a k mode b), .int .i64 (gnD a k mode b), .bool (gnB a k mode b)]) ∧ Below w.heap.size w w' := by
  cases hq : foB a k mode b
  · have h0 : gnB a k mode b = false := by unfold gnB; rw [hq]; rfl
    have h1 : gnT a k mode b = 0 := by unfold gnT; rw [h0]; rfl
    have h2 : gnD a k mode b = 0 := by unfold gnD; rw [h0]; rfl
    rw [h0, h1, h2]
    exact spec_Gain_bad a k mode b wr w hq
  · by_cases hap : a = 2 ^ k.toNat
    · have h0 : gnB a k mode b = false := by unfold gnB; rw [hq, beq_iff_eq.2 hap]; rfl
      have h1 : gnT a k mode b = 0 := by unfold gnT; rw [h0]; rfl
      have h2 : gnD a k mode b = 0 := by unfold gnD; rw [h0]; rfl
      rw [h0, h1, h2]
      clear h0 h1 h2
      obtain ⟨k, n, rfl, rfl, ho⟩ := foB_n hq
      have HQ := hid hq
      have HO := hid ho
      obtain ⟨⟨a1, a2⟩, k1, ⟨m1, m2⟩, _⟩ := ho
      obtain ⟨P, hP0, hP, p1, p2⟩ := pow_nat k k1
      have hw : wrap64 ((2 : Int) ^ k) = (P : Int) := by rw [hP]; exact IntWalk.wrap64_in _ (by omega)
      have hw2 : wrap64 ((2 : Int) ^ min k 64) = (P : Int) := by rw [Nat.min_eq_left (by omega)]; exact hw
      have hw3 : IntKind.i64.wrap (P : Int) = (P : Int) := IntWalk.i64_in _ (by omega)
      have hw5 : wrap64 (P : Int) = (P : Int) := IntWalk.wrap64_in _ (by omega)
      have hw4 : IntKind.i64.wrap ((2 : Int) ^ k) = (P : Int) := by rw [hP]; exact hw3
      obtain ⟨z1, z2⟩ := abs_in a1 a2
      have HP := hid hP
      have HP0 := hid hP0
      clear hq hP hP0
      have hab : (a == (P : Int)) = true := beq_iff_eq.2 (by rw [hap, Int.toNat_natCast, HP.out])
      clear hap
      go_enter Try.func15, Try.ntmps15
      go_wp2_with fail
      go_region_with (go_at_call 29; refine (foGood_q _ _ _ _ _ true _ HQ.out).mono ?_; rintro e w1 ⟨rfl, hb⟩; (first | have B1 := bel_undrew hb | have B1 := hb); obtain ⟨c0, c1, c2, c3, c4⟩ := box5_cells B1)
      all_goals go_wp2
      all_goals go_ret3
      all_goals first | exact ⟨rfl, bel_step (bel_alloc _ _) B1⟩ | exact ⟨rfl, below_drewN (bel_step (bel_alloc _ _) B1) _⟩
    · have h0 : gnB a k mode b = true := by unfold gnB; rw [hq, beq_eq_false_iff_ne.2 hap]; rfl
      have h1 : gnT a k mode b = ratT (2 ^ k.toNat) (2 ^ k.toNat - a) := by unfold gnT; rw [h0]; rfl
      have h2 : gnD a k mode b = ratB (2 ^ k.toNat) (2 ^ k.toNat - a) := by unfold gnD; rw [h0]; rfl
      rw [h0, h1, h2]
      clear h0 h1 h2
      obtain ⟨k, n, rfl, rfl, ho⟩ := foB_n hq
      have HQ := hid hq
      have HO := hid ho
      obtain ⟨⟨a1, a2⟩, k1, ⟨m1, m2⟩, _⟩ := ho
      obtain ⟨P, hP0, hP, p1, p2⟩ := pow_nat k k1
      have hw : wrap64 ((2 : Int) ^ k) = (P : Int) := by rw [hP]; exact IntWalk.wrap64_in _ (by omega)
      have hw2 : wrap64 ((2 : Int) ^ min k 64) = (P : Int) := by rw [Nat.min_eq_left (by omega)]; exact hw
      have hw3 : IntKind.i64.wrap (P : Int) = (P : Int) := IntWalk.i64_in _ (by omega)
      have hw5 : wrap64 (P : Int) = (P : Int) := IntWalk.wrap64_in _ (by omega)
      have hw4 : IntKind.i64.wrap ((2 : Int) ^ k) = (P : Int) := by rw [hP]; exact hw3
      obtain ⟨z1, z2⟩ := abs_in a1 a2
      have HP := hid hP
      have HP0 := hid hP0
      clear hq hP hP0
      have hne : a ≠ (P : Int) := by rw [← HP.out]; rwa [Int.toNat_natCast] at hap
      have hab : (a == (P : Int)) = false := beq_eq_false_iff_ne.2 hne
      rw [Int.toNat_natCast, HP.out, ← HP0.out]
      obtain ⟨d, hd⟩ : ∃ d, d = (P : Int) - a := ⟨_, rfl⟩
      have e1 : IntKind.i64.wrap ((P : Int) - a) = d := by rw [hd]; exact IntWalk.i64_in _ (by omega)
      have e2 : wrap64 ((P : Int) - a) = d := by rw [hd]; exact IntWalk.wrap64_in _ (by omega)
      have d1 : -5000 ≤ d := by omega
      have d2 : d ≤ 5000 := by omega
      have hd0 : d ≠ 0 := by omega
      have Hd0 := hid hd0
      rw [← hd]
      clear hap hne hd hd0
      go_enter Try.func15, Try.ntmps15
      go_wp2_with fail
      go_region_with (go_at_call 29; refine (foGood_q _ _ _ _ _ true _ HQ.out).mono ?_; rintro e w1 ⟨rfl, hb⟩; (first | have B1 := bel_undrew hb | have B1 := hb); obtain ⟨c0, c1, c2, c3, c4⟩ := box5_cells B1)
      all_goals go_wp2_with fail
      all_goals go_region_with (go_at_call 35; refine (foRatio_any P d _ p1 (by omega) Hd0.out d1 d2).mono ?_; rintro e w2 ⟨rfl, hb⟩; have B2 := bel_step B1 (bel_undrew hb))
      all_goals go_wp2
      all_goals go_ret3
      all_goals first | exact ⟨rfl, bel_step (bel_alloc _ _) B2⟩ | exact ⟨rfl, below_drewN (bel_step (bel_alloc _ _) B2) _⟩


set_option maxHeartbeats 2000000 in
theorem impl_Gain_bad (a k mode b : Int) (wr : Bool) (w : World) (hq : foB a k mode b = false) :
    Calls Try.prog 16 #[.agg #[.int .i64 a, .int .i64 k, .int .i64 mode, .int .i64 b, .bool wr]] w fun e w' => e = .returned (.tuple #[.int .i64 0, .int .i64 0, .bool false]) ∧ Below w.heap.size w w' := by
  have HQ := hid hq
  clear hq
  go_enter Try.func16, Try.ntmps16
  go_wp2_with fail
  refine wp_region_any (by kernel_rfl) ?_
  change wpAny _ _ _ _ _ _ _ (World.drew _)
  refine wpAny_ready (rs := [0]) (by kernel_rfl) (by simp) ?_
  refine AllReady.cons rfl (fun K hK => ?_) AllReady.nil
  go_simp
  refine hK _ _ ?_
  clear hK K
  refine wpAny_ready (rs := [1]) (by kernel_rfl) (by simp) ?_
  refine AllReady.cons rfl (fun K hK => ?_) AllReady.nil
  go_simp
  go_wp2_with (go_at_call 12; refine (IsFirst_q _ _ _ _ _ false _ HQ.out).mono ?_; rintro e w1 ⟨rfl, hb⟩; have B1 := bel_undrew hb)
  try (refine hK _ _ ?_; clear hK K)
  refine wpAny_take (i := 2) (v := .bool true) rfl (by kernel_rfl) (by kernel_rfl) (by kernel_rfl) (fun _ _ _ h => h) (Or.inl ⟨by kernel_rfl, ?_⟩) ?_
  · intro w; go_simp
  refine wpAny_take (i := 3) (v := .bool true) rfl (by kernel_rfl) (by kernel_rfl) (by kernel_rfl) (fun _ _ _ h => h) (Or.inl ⟨by kernel_rfl, ?_⟩) ?_
  · intro w; go_simp
  refine wpAny_take (i := 4) (v := undef) rfl (by kernel_rfl) (by kernel_rfl) (by kernel_rfl) (fun _ _ _ h => h) (Or.inr ⟨by kernel_rfl, rfl⟩) ?_
  refine wpAny_take (i := 5) (v := undef) rfl (by kernel_rfl) (by kernel_rfl) (by kernel_rfl) (fun _ _ _ h => h) (Or.inr ⟨by kernel_rfl, rfl⟩) ?_
  refine wpAny_take (i := 6) (v := undef) rfl (by kernel_rfl) (by kernel_rfl) (by kernel_rfl) (fun _ _ _ h => h) (Or.inr ⟨by kernel_rfl, rfl⟩) ?_
  refine wpAny_take (i := 7) (v := undef) rfl (by kernel_rfl) (by kernel_rfl) (by kernel_rfl) (fun _ _ _ h => h) (Or.inr ⟨by kernel_rfl, rfl⟩) ?_
  refine wpAny_take (i := 8) (v := undef) rfl (by kernel_rfl) (by kernel_rfl) (by kernel_rfl) (fun _ _ _ h => h) (Or.inr ⟨by kernel_rfl, rfl⟩) ?_
  refine wpAny_take (i := 9) (v := undef) rfl (by kernel_rfl) (by kernel_rfl) (by kernel_rfl) (fun _ _ _ h => h) (Or.inr ⟨by kernel_rfl, rfl⟩) ?_
  refine wpAny_take (i := 10) (v := .bool true) rfl (by kernel_rfl) (by kernel_rfl) (by kernel_rfl) (fun _ _ _ h => h) (Or.inl ⟨by kernel_rfl, ?_⟩) ?_
  · intro w; go_simp
  refine wpAny_done (by kernel_rfl) ?_ _
  go_simp
  go_wp2
  go_ret3
  exact ⟨rfl, bel_step (bel_alloc _ _) B1⟩

set_option maxHeartbeats 2000000 in
theorem impl_GainOfFirst_is (a k mode b : Int) (wr : Bool) (w : World) :
    Calls Try.prog 16 #[.agg #[.int .i64 a, .int .i64 k, .int .i64 mode, .int .i64 b, .bool wr]] w fun e w' => e = .returned (.tuple #[.int .i64 (gnT a k mode b), .int .i64 (gnD a k mode b), .bool (gnB a k mode b)]) ∧ Below w.heap.size w w' := by
  cases hq : foB a k mode b
  · have h0 : gnB a k mode b = false := by unfold gnB; rw [hq]; rfl
    have h1 : gnT a k mode b = 0 := by unfold gnT; rw [h0]; rfl
    have h2 : gnD a k mode b = 0 := by unfold gnD; rw [h0]; rfl
    rw [h0, h1, h2]
    exact impl_Gain_bad a k mode b wr w hq
  · by_cases hap : a = 2 ^ k.toNat
    · have h0 : gnB a k mode b = false := by unfold gnB; rw [hq, beq_iff_eq.2 hap]; rfl
      have h1 : gnT a k mode b = 0 := by unfold gnT; rw [h0]; rfl
      have h2 : gnD a k mode b = 0 := by unfold gnD; rw [h0]; rfl
      rw [h0, h1, h2]
      clear h0 h1 h2
      obtain ⟨k, n, rfl, rfl, ho⟩ := foB_n hq
      have HQ := hid hq
      have HO := hid ho
      obtain ⟨⟨a1, a2⟩, k1, ⟨m1, m2⟩, _⟩ := ho
      obtain ⟨P, hP0, hP, p1, p2⟩ := pow_nat k k1
      have hw : wrap64 ((2 : Int) ^ k) = (P : Int) := by rw [hP]; exact IntWalk.wrap64_in _ (by omega)
      have hw2 : wrap64 ((2 : Int) ^ min k 64) = (P : Int) := by rw [Nat.min_eq_left (by omega)]; exact hw
      have hw3 : IntKind.i64.wrap (P : Int) = (P : Int) := IntWalk.i64_in _ (by omega)
      have hw5 : wrap64 (P : Int) = (P : Int) := IntWalk.wrap64_in _ (by omega)
      have hw4 : IntKind.i64.wrap ((2 : Int) ^ k) = (P : Int) := by rw [hP]; exact hw3
      obtain ⟨z1, z2⟩ := abs_in a1 a2
      have HP := hid hP
      have HP0 := hid hP0
      clear hq hP hP0
      have hab : (a == (P : Int)) = true := beq_iff_eq.2 (by rw [hap, Int.toNat_natCast, HP.out])
      clear hap
      go_enter Try.func16, Try.ntmps16
      go_wp2_with fail
      go_region_with (go_at_call 12; refine (IsFirst_q _ _ _ _ _ true _ HQ.out).mono ?_; rintro e w1 ⟨rfl, hb⟩; (first | have B1 := bel_undrew hb | have B1 := hb); obtain ⟨c0, c1, c2, c3, c4⟩ := box5_cells B1)
      all_goals go_wp2
      all_goals go_ret3
      all_goals first | exact ⟨rfl, bel_step (bel_alloc _ _) B1⟩ | exact ⟨rfl, below_drewN (bel_step (bel_alloc _ _) B1) _⟩
    · have h0 : gnB a k mode b = true := by unfold gnB; rw [hq, beq_eq_false_iff_ne.2 hap]; rfl
      have h1 : gnT a k mode b = ratT (2 ^ k.toNat) (2 ^ k.toNat - a) := by unfold gnT; rw [h0]; rfl
      have h2 : gnD a k mode b = ratB (2 ^ k.toNat) (2 ^ k.toNat - a) := by unfold gnD; rw [h0]; rfl
      rw [h0, h1, h2]
      clear h0 h1 h2
      obtain ⟨k, n, rfl, rfl, ho⟩ := foB_n hq
      have HQ := hid hq
      have HO := hid ho
      obtain ⟨⟨a1, a2⟩, k1, ⟨m1, m2⟩, _⟩ := ho
      obtain ⟨P, hP0, hP, p1, p2⟩ := pow_nat k k1
      have hw : wrap64 ((2 : Int) ^ k) = (P : Int) := by rw [hP]; exact IntWalk.wrap64_in _ (by omega)
      have hw2 : wrap64 ((2 : Int) ^ min k 64) = (P : Int) := by rw [Nat.min_eq_left (by omega)]; exact hw
      have hw3 : IntKind.i64.wrap (P : Int) = (P : Int) := IntWalk.i64_in _ (by omega)
      have hw5 : wrap64 (P : Int) = (P : Int) := IntWalk.wrap64_in _ (by omega)
      have hw4 : IntKind.i64.wrap ((2 : Int) ^ k) = (P : Int) := by rw [hP]; exact hw3
      obtain ⟨z1, z2⟩ := abs_in a1 a2
      have HP := hid hP
      have HP0 := hid hP0
      clear hq hP hP0
      have hne : a ≠ (P : Int) := by rw [← HP.out]; rwa [Int.toNat_natCast] at hap
      have hab : (a == (P : Int)) = false := beq_eq_false_iff_ne.2 hne
      rw [Int.toNat_natCast, HP.out, ← HP0.out]
      obtain ⟨d, hd⟩ : ∃ d, d = (P : Int) - a := ⟨_, rfl⟩
      have e1 : IntKind.i64.wrap ((P : Int) - a) = d := by rw [hd]; exact IntWalk.i64_in _ (by omega)
      have e2 : wrap64 ((P : Int) - a) = d := by rw [hd]; exact IntWalk.wrap64_in _ (by omega)
      have d1 : -5000 ≤ d := by omega
      have d2 : d ≤ 5000 := by omega
      have hd0 : d ≠ 0 := by omega
      have Hd0 := hid hd0
      rw [← hd]
      clear hap hne hd hd0
      go_enter Try.func16, Try.ntmps16
      go_wp2_with fail
      go_region_with (go_at_call 12; refine (IsFirst_q _ _ _ _ _ true _ HQ.out).mono ?_; rintro e w1 ⟨rfl, hb⟩; (first | have B1 := bel_undrew hb | have B1 := hb); obtain ⟨c0, c1, c2, c3, c4⟩ := box5_cells B1)
      all_goals go_wp2_with fail
      all_goals go_region_with (go_at_call 36; refine (lowest_any P d _ p1 (by omega) Hd0.out d1 d2).mono ?_; rintro e w2 ⟨rfl, hb⟩; have B2 := bel_step B1 (bel_undrew hb))
      all_goals go_wp2
      all_goals go_ret3
      all_goals first | exact ⟨rfl, bel_step (bel_alloc _ _) B2⟩ | exact ⟨rfl, below_drewN (bel_step (bel_alloc _ _) B2) _⟩


set_option maxHeartbeats 1600000 in
theorem gen_FnExactIsShrinking (a k mode b : Int) (wr : Bool)  (r0 : Bool) (r1 : Bool) (w : World)  (hspec : ∀ (w : World) , Calls Try.prog 13 #[.agg #[.int .i64 a, .int .i64 k, .int .i64 mode, .int .i64 b, .bool wr]] w fun e w' => e = .returned (.tuple #[.bool r0, .bool r1]) ∧ Below w.heap.size w w') (himpl : ∀ (w : World) , Calls Try.prog 14 #[.agg #[.int .i64 a, .int .i64 k, .int .i64 mode, .int .i64 b, .bool wr]] w fun e w' => e = .returned (.tuple #[.bool r0, .bool r1]) ∧ Below w.heap.size w w') :
    Calls Try.prog 4 #[.agg #[.int .i64 a, .int .i64 k, .int .i64 mode, .int .i64 b, .bool wr]] w fun e w' => e = .returned (.bool true) ∧ Below w.heap.size w w' := by
  have HSP := hid hspec
  have HIM := hid himpl
  clear hspec himpl
  all_goals cases r0
  all_goals cases r1
  all_goals
    go_enter Try.func4, Try.ntmps4
    go_wp2_with fail
    refine (toFirst_any _ _ _ _ _ _).mono ?_
    rintro e w1 ⟨rfl, hb⟩
    have B1 := hb
    have hz1 : w.heap.size ≤ w1.heap.size := by first | exact hb.size | (have := hb.size; simp at this; omega)
    obtain ⟨ca1, cb1, cc1, cd1, ce1⟩ := box5_cells B1
    go_wp2_with fail
    refine (HSP.out _).mono ?_
    rintro e w2 ⟨rfl, hb⟩
    have B2 := bel_step B1 hb
    have hz2 : w1.heap.size ≤ w2.heap.size := hb.size
    obtain ⟨ca2, cb2, cc2, cd2, ce2⟩ := box5_cells B2
    go_wp2_with fail
    refine (toFirst_any _ _ _ _ _ _).mono ?_
    rintro e w3 ⟨rfl, hb⟩
    have B3 := bel_step B2 hb
    have hz3 : w2.heap.size ≤ w3.heap.size := hb.size
    obtain ⟨ca3, cb3, cc3, cd3, ce3⟩ := box5_cells B3
    go_wp2_with fail
    refine (HIM.out _).mono ?_
    rintro e w4 ⟨rfl, hb⟩
    have B4 := bel_step B3 hb
    have hz4 : w3.heap.size ≤ w4.heap.size := hb.size
    obtain ⟨ca4, cb4, cc4, cd4, ce4⟩ := box5_cells B4
    go_wp2_with fail
    go_ret
    exact ⟨rfl, bel_step (bel_alloc _ _) B4⟩


set_option maxHeartbeats 1600000 in
theorem walk_FnExactIsShrinking (w : World) (a k mode b : Int) (wr : Bool) (wa : (Lit.int .i64 a).wf = true) (wk : (Lit.int .i64 k).wf = true) (wm : (Lit.int .i64 mode).wf = true) (wb : (Lit.int .i64 b).wf = true) :
    Calls Try.prog 4 #[.agg #[.int .i64 a, .int .i64 k, .int .i64 mode, .int .i64 b, .bool wr]] w fun e w' => e = .returned (.bool true) ∧ Below w.heap.size w w' := by

  exact gen_FnExactIsShrinking a k mode b wr (shR a k mode b) (foB a k mode b) w  (fun w  => spec_IsShrinking_is _ _ _ _ _ _) (fun w  => impl_IsShrinking_is _ _ _ _ _ _)


set_option maxHeartbeats 1600000 in
theorem gen_FnExactGainOfFirst (a k mode b : Int) (wr : Bool)  (r0 : Int) (r1 : Int) (r2 : Bool) (w : World)  (hspec : ∀ (w : World) , Calls Try.prog 15 #[.agg #[.int .i64 a, .int .i64 k, .int .i64 mode, .int .i64 b, .bool wr]] w fun e w' => e = .returned (.tuple #[.int .i64 r0, .int .i64 r1, .bool r2]) ∧ Below w.heap.size w w') (himpl : ∀ (w : World) , Calls Try.prog 16 #[.agg #[.int .i64 a, .int .i64 k, .int .i64 mode, .int .i64 b, .bool wr]] w fun e w' => e = .returned (.tuple #[.int .i64 r0, .int .i64 r1, .bool r2]) ∧ Below w.heap.size w w') :
    Calls Try.prog 5 #[.agg #[.int .i64 a, .int .i64 k, .int .i64 mode, .int .i64 b, .bool wr]] w fun e w' => e = .returned (.bool true) ∧ Below w.heap.size w w' := by
  have HSP := hid hspec
  have HIM := hid himpl
  clear hspec himpl
  all_goals cases r2
  all_goals
    go_enter Try.func5, Try.ntmps5
    go_wp2_with fail
    refine (toFirst_any _ _ _ _ _ _).mono ?_
    rintro e w1 ⟨rfl, hb⟩
    have B1 := hb
    have hz1 : w.heap.size ≤ w1.heap.size := by first | exact hb.size | (have := hb.size; simp at this; omega)
    obtain ⟨ca1, cb1, cc1, cd1, ce1⟩ := box5_cells B1
    go_wp2_with fail
    refine (HSP.out _).mono ?_
    rintro e w2 ⟨rfl, hb⟩
    have B2 := bel_step B1 hb
    have hz2 : w1.heap.size ≤ w2.heap.size := hb.size
    obtain ⟨ca2, cb2, cc2, cd2, ce2⟩ := box5_cells B2
    go_wp2_with fail
    refine (toFirst_any _ _ _ _ _ _).mono ?_
    rintro e w3 ⟨rfl, hb⟩
    have B3 := bel_step B2 hb
    have hz3 : w2.heap.size ≤ w3.heap.size := hb.size
    obtain ⟨ca3, cb3, cc3, cd3, ce3⟩ := box5_cells B3
    go_wp2_with fail
    refine (HIM.out _).mono ?_
    rintro e w4 ⟨rfl, hb⟩
    have B4 := bel_step B3 hb
    have hz4 : w3.heap.size ≤ w4.heap.size := hb.size
    obtain ⟨ca4, cb4, cc4, cd4, ce4⟩ := box5_cells B4
    go_wp2_with fail
    go_ret
    exact ⟨rfl, bel_step (bel_alloc _ _) B4⟩


set_option maxHeartbeats 1600000 in
theorem walk_FnExactGainOfFirst (w : World) (a k mode b : Int) (wr : Bool) (wa : (Lit.int .i64 a).wf = true) (wk : (Lit.int .i64 k).wf = true) (wm : (Lit.int .i64 mode).wf = true) (wb : (Lit.int .i64 b).wf = true) :
    Calls Try.prog 5 #[.agg #[.int .i64 a, .int .i64 k, .int .i64 mode, .int .i64 b, .bool wr]] w fun e w' => e = .returned (.bool true) ∧ Below w.heap.size w w' := by

  exact gen_FnExactGainOfFirst a k mode b wr (gnT a k mode b) (gnD a k mode b) (gnB a k mode b) w  (fun w  => spec_GainOfFirst_is _ _ _ _ _ _) (fun w  => impl_GainOfFirst_is _ _ _ _ _ _)

end Go.Proofs.Ytcaoomcmfckhcaa
