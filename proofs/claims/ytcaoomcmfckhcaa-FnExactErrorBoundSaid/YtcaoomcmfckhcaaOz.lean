
import Derived.Test.YtcaoomcmfckhcaaOj
import Derived.Deep.RegionHeld3
namespace Go.Proofs.Ytcaoomcmfckhcaa
open Go.RowKit BitX Go.MemX Go.ShX
set_option linter.unusedVariables false
theorem eb_wr {P : Nat} {z : Int} (p1 : 1 ≤ P) (p2 : P ≤ 1024) (z1 : 0 ≤ z) (h : z < (P : Int)) : IntKind.i64.wrap ((P : Int) - z) = (P : Int) - z ∧ wrap64 ((P : Int) - z) = (P : Int) - z ∧ IntKind.i64.wrap (((P : Int) - z) * 2) = ((P : Int) - z) * 2 ∧ wrap64 (((P : Int) - z) * 2) = ((P : Int) - z) * 2 :=
  ⟨IntWalk.i64_in _ (by omega), IntWalk.wrap64_in _ (by omega), IntWalk.i64_in _ (by omega), IntWalk.wrap64_in _ (by omega)⟩
theorem abs_args {a : Int} (a1 : -1024 ≤ a) (a2 : a ≤ 1024) : -9223372036854775807 ≤ a ∧ a ≤ 9223372036854775807 := by omega
theorem eb_in1 {P : Nat} {z : Int} (p1 : 1 ≤ P) (p2 : P ≤ 1024) (z1 : 0 ≤ z) (h : z < (P : Int)) : -5000 ≤ (P : Int) - z ∧ (P : Int) - z ≤ 5000 ∧ (P : Int) - z ≠ 0 := by omega
theorem eb_in2 {P : Nat} {z : Int} (p1 : 1 ≤ P) (p2 : P ≤ 1024) (z1 : 0 ≤ z) (h : z < (P : Int)) : -5000 ≤ ((P : Int) - z) * 2 ∧ ((P : Int) - z) * 2 ≤ 5000 ∧ ((P : Int) - z) * 2 ≠ 0 := by omega
set_option maxHeartbeats 2000000 in
theorem spec_Err_bad (a k mode b : Int) (wr : Bool) (w : World) (hq : foB a k mode b = false) :
    Calls Try.prog 17 #[.agg #[.int .i64 a, .int .i64 k, .int .i64 mode, .int .i64 b, .bool wr]] w fun e w' => e = .returned (.tuple #[.int .i64 0, .int .i64 0, .bool false]) ∧ Below w.heap.size w w' := by
  have HQ := hid hq
  clear hq
  go_enter Try.func17, Try.ntmps17
  go_wp2_with fail
  refine wp_region_any (by kernel_rfl) ?_
  change wpAny _ _ _ _ _ _ _ (World.drew _)
  refine wpAny_ready (rs := [0]) (by kernel_rfl) (by simp) ?_
  refine AllReady.cons rfl (fun K hK => ?_) AllReady.nil
  go_simp
  refine hK _ _ ?_
  clear hK K
  refine wpAny_ready (rs := [1]) (by kernel_rfl) (by simp) ?_
  refine AllReady.cons rfl (fun K hK => ?_) AllReady.nil
  go_simp
  go_wp2_with (go_at_call 29; refine (foGood_q _ _ _ _ _ false _ HQ.out).mono ?_; rintro e w1 ⟨rfl, hb⟩; have B1 := bel_undrew hb)
  try (refine hK _ _ ?_; clear hK K)
  refine wpAny_take (i := 2) (v := .bool true) rfl (by kernel_rfl) (by kernel_rfl) (by kernel_rfl) (fun _ _ _ h => h) (Or.inl ⟨by kernel_rfl, ?_⟩) ?_
  · intro w; go_simp
  refine wpAny_take (i := 3) (v := .bool true) rfl (by kernel_rfl) (by kernel_rfl) (by kernel_rfl) (fun _ _ _ h => h) (Or.inl ⟨by kernel_rfl, ?_⟩) ?_
  · intro w; go_simp
  refine wpAny_take (i := 4) (v := undef) rfl (by kernel_rfl) (by kernel_rfl) (by kernel_rfl) (fun _ _ _ h => h) (Or.inr ⟨by kernel_rfl, rfl⟩) ?_
  refine wpAny_take (i := 5) (v := undef) rfl (by kernel_rfl) (by kernel_rfl) (by kernel_rfl) (fun _ _ _ h => h) (Or.inr ⟨by kernel_rfl, rfl⟩) ?_
  refine wpAny_take (i := 6) (v := undef) rfl (by kernel_rfl) (by kernel_rfl) (by kernel_rfl) (fun _ _ _ h => h) (Or.inr ⟨by kernel_rfl, rfl⟩) ?_
  refine wpAny_take (i := 7) (v := undef) rfl (by kernel_rfl) (by kernel_rfl) (by kernel_rfl) (fun _ _ _ h => h) (Or.inr ⟨by kernel_rfl, rfl⟩) ?_
  refine wpAny_take (i := 8) (v := undef) rfl (by kernel_rfl) (by kernel_rfl) (by kernel_rfl) (fun _ _ _ h => h) (Or.inr ⟨by kernel_rfl, rfl⟩) ?_
  refine wpAny_take (i := 9) (v := undef) rfl (by kernel_rfl) (by kernel_rfl) (by kernel_rfl) (fun _ _ _ h => h) (Or.inr ⟨by kernel_rfl, rfl⟩) ?_
  refine wpAny_take (i := 10) (v := undef) rfl (by kernel_rfl) (by kernel_rfl) (by kernel_rfl) (fun _ _ _ h => h) (Or.inr ⟨by kernel_rfl, rfl⟩) ?_
  refine wpAny_take (i := 11) (v := .bool true) rfl (by kernel_rfl) (by kernel_rfl) (by kernel_rfl) (fun _ _ _ h => h) (Or.inl ⟨by kernel_rfl, ?_⟩) ?_
  · intro w; go_simp
  refine wpAny_done (by kernel_rfl) ?_ _
  go_simp
  go_wp2
  go_ret3
  exact ⟨rfl, bel_step (bel_alloc _ _) B1⟩


set_option maxHeartbeats 4000000 in
theorem spec_ErrorBound_is (a k mode b : Int) (wr : Bool) (w : World) :
    Calls Try.prog 17 #[.agg #[.int .i64 a, .int .i64 k, .int .i64 mode, .int .i64 b, .bool wr]] w fun e w' => e = .returned (.tuple #[.int .i64 (ebT a k mode b), .int .i64 (ebD a k mode b), .bool (shR a k mode b)]) ∧ Below w.heap.size w w' := by
  cases hs : shR a k mode b
  · have h1 : ebT a k mode b = 0 := by unfold ebT; rw [hs]; rfl
    have h2 : ebD a k mode b = 0 := by unfold ebD; rw [hs]; rfl
    rw [h1, h2]
    cases hq : foB a k mode b
    · exact spec_Err_bad a k mode b wr w hq
    · have hge : ¬ (absI a < 2 ^ k.toNat) := by
        unfold shR at hs; rw [hq] at hs; exact of_decide_eq_false hs
      clear hs h1 h2
      obtain ⟨k, n, rfl, rfl, ho⟩ := foB_n hq
      have HQ := hid hq
      have HO := hid ho
      obtain ⟨⟨a1, a2⟩, k1, ⟨m1, m2⟩, _⟩ := ho
      obtain ⟨P, hP0, hP, p1, p2⟩ := pow_nat k k1
      have hw : wrap64 ((2 : Int) ^ k) = (P : Int) := by rw [hP]; exact w64_nat P (Nat.le_trans p2 (by decide))
      have hw2 : wrap64 ((2 : Int) ^ min k 64) = (P : Int) := by rw [Nat.min_eq_left (Nat.le_trans k1 (by decide))]; exact hw
      have hw3 : IntKind.i64.wrap (P : Int) = (P : Int) := i64_nat P (Nat.le_trans p2 (by decide))
      have hw5 : wrap64 (P : Int) = (P : Int) := w64_nat P (Nat.le_trans p2 (by decide))
      have hw4 : IntKind.i64.wrap ((2 : Int) ^ k) = (P : Int) := by rw [hP]; exact hw3
      obtain ⟨z1, z2⟩ := abs_in a1 a2
      have HP := hid hP
      have HP0 := hid hP0
      have hp5 : P ≤ 5000 := Nat.le_trans p2 (by decide)
      obtain ⟨aa1, aa2⟩ := abs_args a1 a2
      clear hq hP hP0
      have hle : (P : Int) ≤ absI a := by rw [Int.toNat_natCast, HP.out] at hge; exact Int.not_lt.1 hge
      clear hge
      go_enter Try.func17, Try.ntmps17
      go_wp2_with fail
      have hS := box5_cells (Below.refl (w.alloc (.cells #[.int .i64 a, .int .i64 (k : Int), .int .i64 mode, .int .i64 (n : Int), .bool wr] 29)).heap.size (w.alloc (.cells #[.int .i64 a, .int .i64 (k : Int), .int .i64 mode, .int .i64 (n : Int), .bool wr] 29)))
      go_region_held3 (fun W => W.cell? ⟨w.heap.size, 0, none⟩ = some (.int .i64 a) ∧ W.cell? ⟨w.heap.size, 1, none⟩ = some (.int .i64 (k : Int)) ∧ W.cell? ⟨w.heap.size, 2, none⟩ = some (.int .i64 mode) ∧ W.cell? ⟨w.heap.size, 3, none⟩ = some (.int .i64 (n : Int)) ∧ W.cell? ⟨w.heap.size, 4, none⟩ = some (.bool wr)) (first | exact hS | assumption | go_keep) (first | (go_at_call 29; refine (foGood_q _ _ _ _ _ true _ HQ.out).mono ?_; rintro e w1 ⟨rfl, hb⟩; have B1 := bel_undrew hb; have hS := box5_cells B1; obtain ⟨c0, c1, c2, c3, c4⟩ := box5_cells B1) | (go_at_call 33; refine (l1Abs_any _ _ aa1 aa2).mono ?_; rintro e w' ⟨rfl, rfl⟩))
      all_goals go_wp2_with fail
      all_goals go_ret3
      all_goals first | exact ⟨rfl, bel_step (bel_alloc _ _) B1⟩ | exact ⟨rfl, below_drewN (bel_step (bel_alloc _ _) B1) _⟩
  · have h1 : ebT a k mode b = ratT (2 ^ k.toNat) (ebX a k mode) := by unfold ebT; rw [hs]; rfl
    have h2 : ebD a k mode b = ratB (2 ^ k.toNat) (ebX a k mode) := by unfold ebD; rw [hs]; rfl
    rw [h1, h2]
    have HSH := hid hs
    have hq : foB a k mode b = true := by unfold shR at hs; rw [Bool.and_eq_true] at hs; exact hs.1
    have hlt : absI a < 2 ^ k.toNat := by unfold shR at hs; rw [Bool.and_eq_true] at hs; exact of_decide_eq_true hs.2
    clear hs h1 h2
    obtain ⟨k, n, rfl, rfl, ho⟩ := foB_n hq
    have HQ := hid hq
    have HO := hid ho
    obtain ⟨⟨a1, a2⟩, k1, ⟨m1, m2⟩, _⟩ := ho
    obtain ⟨P, hP0, hP, p1, p2⟩ := pow_nat k k1
    have hw : wrap64 ((2 : Int) ^ k) = (P : Int) := by rw [hP]; exact w64_nat P (Nat.le_trans p2 (by decide))
    have hw2 : wrap64 ((2 : Int) ^ min k 64) = (P : Int) := by rw [Nat.min_eq_left (Nat.le_trans k1 (by decide))]; exact hw
    have hw3 : IntKind.i64.wrap (P : Int) = (P : Int) := i64_nat P (Nat.le_trans p2 (by decide))
    have hw5 : wrap64 (P : Int) = (P : Int) := w64_nat P (Nat.le_trans p2 (by decide))
    have hw4 : IntKind.i64.wrap ((2 : Int) ^ k) = (P : Int) := by rw [hP]; exact hw3
    obtain ⟨z1, z2⟩ := abs_in a1 a2
    have HP := hid hP
    have HP0 := hid hP0
    have hp5 : P ≤ 5000 := Nat.le_trans p2 (by decide)
    obtain ⟨aa1, aa2⟩ := abs_args a1 a2
    clear hq hP hP0
    rw [Int.toNat_natCast, HP.out] at hlt
    have hmm : mode = 0 ∨ mode = 1 ∨ mode = 2 := by omega
    clear m1 m2
    rcases hmm with rfl | rfl | rfl
    · have hx : ebX a (k : Int) 0 = (P : Int) - absI a := by
        unfold ebX
        rw [Int.toNat_natCast, HP.out, if_neg (by decide)]
      obtain ⟨e1, e2, e3, e4⟩ := eb_wr p1 p2 z1 hlt
      obtain ⟨g1, g2, g0⟩ := eb_in1 p1 p2 z1 hlt
      have G0 := hid g0
      rw [hx, Int.toNat_natCast, ← HP0.out]
      clear hx g0
      go_enter Try.func17, Try.ntmps17
      go_wp2_with fail
      have hS := box5_cells (Below.refl (w.alloc (.cells #[.int .i64 a, .int .i64 (k : Int), .int .i64 0, .int .i64 (n : Int), .bool wr] 29)).heap.size (w.alloc (.cells #[.int .i64 a, .int .i64 (k : Int), .int .i64 0, .int .i64 (n : Int), .bool wr] 29)))
      go_region_held3 (fun W => W.cell? ⟨w.heap.size, 0, none⟩ = some (.int .i64 a) ∧ W.cell? ⟨w.heap.size, 1, none⟩ = some (.int .i64 (k : Int)) ∧ W.cell? ⟨w.heap.size, 2, none⟩ = some (.int .i64 0) ∧ W.cell? ⟨w.heap.size, 3, none⟩ = some (.int .i64 (n : Int)) ∧ W.cell? ⟨w.heap.size, 4, none⟩ = some (.bool wr)) (first | exact hS | assumption | go_keep) (first | (go_at_call 29; refine (foGood_q _ _ _ _ _ true _ HQ.out).mono ?_; rintro e w1 ⟨rfl, hb⟩; have B1 := bel_undrew hb; have hS := box5_cells B1; obtain ⟨c0, c1, c2, c3, c4⟩ := box5_cells B1) | (go_at_call 33; refine (l1Abs_any _ _ aa1 aa2).mono ?_; rintro e w' ⟨rfl, rfl⟩))
      all_goals go_wp2_with fail
      all_goals obtain ⟨c0, c1, c2, c3, c4⟩ := box5_cells B1
      all_goals go_region_held3 (fun W => W.cell? ⟨w.heap.size, 0, none⟩ = some (.int .i64 a) ∧ W.cell? ⟨w.heap.size, 1, none⟩ = some (.int .i64 (k : Int)) ∧ W.cell? ⟨w.heap.size, 2, none⟩ = some (.int .i64 0) ∧ W.cell? ⟨w.heap.size, 3, none⟩ = some (.int .i64 (n : Int)) ∧ W.cell? ⟨w.heap.size, 4, none⟩ = some (.bool wr)) (first | exact hS | assumption | go_keep) (first | (go_at_call 33; refine (l1Abs_any _ _ aa1 aa2).mono ?_; rintro e w' ⟨rfl, rfl⟩))
      all_goals go_wp2_with (go_at_call 35; refine (foRatio_any P _ _ p1 hp5 G0.out g1 g2).mono ?_; rintro e w2 ⟨rfl, hb⟩; (first | have B2 := bel_step B1 hb | have B2 := bel_step B1 (bel_undrew hb) | have B2 := bel_drewN B1 hb))
      all_goals go_ret3
      all_goals first | exact ⟨rfl, bel_step (bel_alloc _ _) B2⟩ | exact ⟨rfl, below_drewN (bel_step (bel_alloc _ _) B2) _⟩
    · have hx : ebX a (k : Int) 1 = ((P : Int) - absI a) * 2 := by
        unfold ebX
        rw [Int.toNat_natCast, HP.out, if_pos rfl]
      obtain ⟨e1, e2, e3, e4⟩ := eb_wr p1 p2 z1 hlt
      obtain ⟨g1, g2, g0⟩ := eb_in2 p1 p2 z1 hlt
      have G0 := hid g0
      rw [hx, Int.toNat_natCast, ← HP0.out]
      clear hx g0
      go_enter Try.func17, Try.ntmps17
      go_wp2_with fail
      have hS := box5_cells (Below.refl (w.alloc (.cells #[.int .i64 a, .int .i64 (k : Int), .int .i64 1, .int .i64 (n : Int), .bool wr] 29)).heap.size (w.alloc (.cells #[.int .i64 a, .int .i64 (k : Int), .int .i64 1, .int .i64 (n : Int), .bool wr] 29)))
      go_region_held3 (fun W => W.cell? ⟨w.heap.size, 0, none⟩ = some (.int .i64 a) ∧ W.cell? ⟨w.heap.size, 1, none⟩ = some (.int .i64 (k : Int)) ∧ W.cell? ⟨w.heap.size, 2, none⟩ = some (.int .i64 1) ∧ W.cell? ⟨w.heap.size, 3, none⟩ = some (.int .i64 (n : Int)) ∧ W.cell? ⟨w.heap.size, 4, none⟩ = some (.bool wr)) (first | exact hS | assumption | go_keep) (first | (go_at_call 29; refine (foGood_q _ _ _ _ _ true _ HQ.out).mono ?_; rintro e w1 ⟨rfl, hb⟩; have B1 := bel_undrew hb; have hS := box5_cells B1; obtain ⟨c0, c1, c2, c3, c4⟩ := box5_cells B1) | (go_at_call 33; refine (l1Abs_any _ _ aa1 aa2).mono ?_; rintro e w' ⟨rfl, rfl⟩))
      all_goals go_wp2_with fail
      all_goals obtain ⟨c0, c1, c2, c3, c4⟩ := box5_cells B1
      all_goals go_region_held3 (fun W => W.cell? ⟨w.heap.size, 0, none⟩ = some (.int .i64 a) ∧ W.cell? ⟨w.heap.size, 1, none⟩ = some (.int .i64 (k : Int)) ∧ W.cell? ⟨w.heap.size, 2, none⟩ = some (.int .i64 1) ∧ W.cell? ⟨w.heap.size, 3, none⟩ = some (.int .i64 (n : Int)) ∧ W.cell? ⟨w.heap.size, 4, none⟩ = some (.bool wr)) (first | exact hS | assumption | go_keep) (first | (go_at_call 33; refine (l1Abs_any _ _ aa1 aa2).mono ?_; rintro e w' ⟨rfl, rfl⟩))
      all_goals go_wp2_with (go_at_call 35; refine (foRatio_any P _ _ p1 hp5 G0.out g1 g2).mono ?_; rintro e w2 ⟨rfl, hb⟩; (first | have B2 := bel_step B1 hb | have B2 := bel_step B1 (bel_undrew hb) | have B2 := bel_drewN B1 hb))
      all_goals go_ret3
      all_goals first | exact ⟨rfl, bel_step (bel_alloc _ _) B2⟩ | exact ⟨rfl, below_drewN (bel_step (bel_alloc _ _) B2) _⟩
    · have hx : ebX a (k : Int) 2 = (P : Int) - absI a := by
        unfold ebX
        rw [Int.toNat_natCast, HP.out, if_neg (by decide)]
      obtain ⟨e1, e2, e3, e4⟩ := eb_wr p1 p2 z1 hlt
      obtain ⟨g1, g2, g0⟩ := eb_in1 p1 p2 z1 hlt
      have G0 := hid g0
      rw [hx, Int.toNat_natCast, ← HP0.out]
      clear hx g0
      go_enter Try.func17, Try.ntmps17
      go_wp2_with fail
      have hS := box5_cells (Below.refl (w.alloc (.cells #[.int .i64 a, .int .i64 (k : Int), .int .i64 2, .int .i64 (n : Int), .bool wr] 29)).heap.size (w.alloc (.cells #[.int .i64 a, .int .i64 (k : Int), .int .i64 2, .int .i64 (n : Int), .bool wr] 29)))
      go_region_held3 (fun W => W.cell? ⟨w.heap.size, 0, none⟩ = some (.int .i64 a) ∧ W.cell? ⟨w.heap.size, 1, none⟩ = some (.int .i64 (k : Int)) ∧ W.cell? ⟨w.heap.size, 2, none⟩ = some (.int .i64 2) ∧ W.cell? ⟨w.heap.size, 3, none⟩ = some (.int .i64 (n : Int)) ∧ W.cell? ⟨w.heap.size, 4, none⟩ = some (.bool wr)) (first | exact hS | assumption | go_keep) (first | (go_at_call 29; refine (foGood_q _ _ _ _ _ true _ HQ.out).mono ?_; rintro e w1 ⟨rfl, hb⟩; have B1 := bel_undrew hb; have hS := box5_cells B1; obtain ⟨c0, c1, c2, c3, c4⟩ := box5_cells B1) | (go_at_call 33; refine (l1Abs_any _ _ aa1 aa2).mono ?_; rintro e w' ⟨rfl, rfl⟩))
      all_goals go_wp2_with fail
      all_goals obtain ⟨c0, c1, c2, c3, c4⟩ := box5_cells B1
      all_goals go_region_held3 (fun W => W.cell? ⟨w.heap.size, 0, none⟩ = some (.int .i64 a) ∧ W.cell? ⟨w.heap.size, 1, none⟩ = some (.int .i64 (k : Int)) ∧ W.cell? ⟨w.heap.size, 2, none⟩ = some (.int .i64 2) ∧ W.cell? ⟨w.heap.size, 3, none⟩ = some (.int .i64 (n : Int)) ∧ W.cell? ⟨w.heap.size, 4, none⟩ = some (.bool wr)) (first | exact hS | assumption | go_keep) (first | (go_at_call 33; refine (l1Abs_any _ _ aa1 aa2).mono ?_; rintro e w' ⟨rfl, rfl⟩))
      all_goals go_wp2_with (go_at_call 35; refine (foRatio_any P _ _ p1 hp5 G0.out g1 g2).mono ?_; rintro e w2 ⟨rfl, hb⟩; (first | have B2 := bel_step B1 hb | have B2 := bel_step B1 (bel_undrew hb) | have B2 := bel_drewN B1 hb))
      all_goals go_ret3
      all_goals first | exact ⟨rfl, bel_step (bel_alloc _ _) B2⟩ | exact ⟨rfl, below_drewN (bel_step (bel_alloc _ _) B2) _⟩


set_option maxHeartbeats 2000000 in
theorem impl_Err_bad (a k mode b : Int) (wr : Bool) (w : World) (hs : shR a k mode b = false) :
    Calls Try.prog 18 #[.agg #[.int .i64 a, .int .i64 k, .int .i64 mode, .int .i64 b, .bool wr]] w fun e w' => e = .returned (.tuple #[.int .i64 0, .int .i64 0, .bool false]) ∧ Below w.heap.size w w' := by
  have HS := hid hs
  cases hq : foB a k mode b
  · have HQ := hid hq
    clear hq hs
    go_enter Try.func18, Try.ntmps18
    go_wp2_with fail
    refine (impl_IsShrinking_is _ _ _ _ _ _).mono ?_
    rintro e w1 ⟨rfl, hb⟩
    rw [HS.out, HQ.out]
    have B1 := hb
    go_wp2_with fail
    go_ret3
    exact ⟨rfl, bel_step (bel_alloc _ _) B1⟩
  · have HQ := hid hq
    clear hq hs
    go_enter Try.func18, Try.ntmps18
    go_wp2_with fail
    refine (impl_IsShrinking_is _ _ _ _ _ _).mono ?_
    rintro e w1 ⟨rfl, hb⟩
    rw [HS.out, HQ.out]
    have B1 := hb
    go_wp2_with fail
    go_ret3
    exact ⟨rfl, bel_step (bel_alloc _ _) B1⟩


set_option maxHeartbeats 4000000 in
theorem impl_ErrorBound_is (a k mode b : Int) (wr : Bool) (w : World) :
    Calls Try.prog 18 #[.agg #[.int .i64 a, .int .i64 k, .int .i64 mode, .int .i64 b, .bool wr]] w fun e w' => e = .returned (.tuple #[.int .i64 (ebT a k mode b), .int .i64 (ebD a k mode b), .bool (shR a k mode b)]) ∧ Below w.heap.size w w' := by
  cases hs : shR a k mode b
  · have h1 : ebT a k mode b = 0 := by unfold ebT; rw [hs]; rfl
    have h2 : ebD a k mode b = 0 := by unfold ebD; rw [hs]; rfl
    rw [h1, h2]
    exact impl_Err_bad a k mode b wr w hs
  · have h1 : ebT a k mode b = ratT (2 ^ k.toNat) (ebX a k mode) := by unfold ebT; rw [hs]; rfl
    have h2 : ebD a k mode b = ratB (2 ^ k.toNat) (ebX a k mode) := by unfold ebD; rw [hs]; rfl
    rw [h1, h2]
    have HSH := hid hs
    have hq : foB a k mode b = true := by unfold shR at hs; rw [Bool.and_eq_true] at hs; exact hs.1
    have hlt : absI a < 2 ^ k.toNat := by unfold shR at hs; rw [Bool.and_eq_true] at hs; exact of_decide_eq_true hs.2
    clear hs h1 h2
    obtain ⟨k, n, rfl, rfl, ho⟩ := foB_n hq
    have HQ := hid hq
    have HO := hid ho
    obtain ⟨⟨a1, a2⟩, k1, ⟨m1, m2⟩, _⟩ := ho
    obtain ⟨P, hP0, hP, p1, p2⟩ := pow_nat k k1
    have hw : wrap64 ((2 : Int) ^ k) = (P : Int) := by rw [hP]; exact w64_nat P (Nat.le_trans p2 (by decide))
    have hw2 : wrap64 ((2 : Int) ^ min k 64) = (P : Int) := by rw [Nat.min_eq_left (Nat.le_trans k1 (by decide))]; exact hw
    have hw3 : IntKind.i64.wrap (P : Int) = (P : Int) := i64_nat P (Nat.le_trans p2 (by decide))
    have hw5 : wrap64 (P : Int) = (P : Int) := w64_nat P (Nat.le_trans p2 (by decide))
    have hw4 : IntKind.i64.wrap ((2 : Int) ^ k) = (P : Int) := by rw [hP]; exact hw3
    obtain ⟨z1, z2⟩ := abs_in a1 a2
    have HP := hid hP
    have HP0 := hid hP0
    have hp5 : P ≤ 5000 := Nat.le_trans p2 (by decide)
    obtain ⟨aa1, aa2⟩ := abs_args a1 a2
    clear hq hP hP0
    rw [Int.toNat_natCast, HP.out] at hlt
    have hmm : mode = 0 ∨ mode = 1 ∨ mode = 2 := by omega
    clear m1 m2
    rcases hmm with rfl | rfl | rfl
    · have hx : ebX a (k : Int) 0 = (P : Int) - absI a := by
        unfold ebX
        rw [Int.toNat_natCast, HP.out, if_neg (by decide)]
      obtain ⟨e1, e2, e3, e4⟩ := eb_wr p1 p2 z1 hlt
      obtain ⟨g1, g2, g0⟩ := eb_in1 p1 p2 z1 hlt
      have G0 := hid g0
      rw [hx, Int.toNat_natCast, ← HP0.out]
      clear hx g0
      go_enter Try.func18, Try.ntmps18
      go_wp2_with fail
      refine (impl_IsShrinking_is _ _ _ _ _ _).mono ?_
      rintro e w1 ⟨rfl, hb⟩
      rw [HSH.out, HQ.out]
      have B1 := hb
      obtain ⟨c0, c1, c2, c3, c4⟩ := box5_cells B1
      go_wp2_with (first | (go_at_call 34; refine (sizeOf_any _ _ aa1 aa2).mono ?_; rintro e w' ⟨rfl, rfl⟩) | (go_at_call 36; refine (lowest_any P _ _ p1 hp5 G0.out g1 g2).mono ?_; rintro e w2 ⟨rfl, hb⟩; (first | have B2 := bel_step B1 hb | have B2 := bel_step B1 (bel_undrew hb) | have B2 := bel_drewN B1 hb)))
      go_ret3
      exact ⟨rfl, bel_step (bel_alloc _ _) B2⟩
    · have hx : ebX a (k : Int) 1 = ((P : Int) - absI a) * 2 := by
        unfold ebX
        rw [Int.toNat_natCast, HP.out, if_pos rfl]
      obtain ⟨e1, e2, e3, e4⟩ := eb_wr p1 p2 z1 hlt
      obtain ⟨g1, g2, g0⟩ := eb_in2 p1 p2 z1 hlt
      have G0 := hid g0
      rw [hx, Int.toNat_natCast, ← HP0.out]
      clear hx g0
      go_enter Try.func18, Try.ntmps18
      go_wp2_with fail
      refine (impl_IsShrinking_is _ _ _ _ _ _).mono ?_
      rintro e w1 ⟨rfl, hb⟩
      rw [HSH.out, HQ.out]
      have B1 := hb
      obtain ⟨c0, c1, c2, c3, c4⟩ := box5_cells B1
      go_wp2_with (first | (go_at_call 34; refine (sizeOf_any _ _ aa1 aa2).mono ?_; rintro e w' ⟨rfl, rfl⟩) | (go_at_call 36; refine (lowest_any P _ _ p1 hp5 G0.out g1 g2).mono ?_; rintro e w2 ⟨rfl, hb⟩; (first | have B2 := bel_step B1 hb | have B2 := bel_step B1 (bel_undrew hb) | have B2 := bel_drewN B1 hb)))
      go_ret3
      exact ⟨rfl, bel_step (bel_alloc _ _) B2⟩
    · have hx : ebX a (k : Int) 2 = (P : Int) - absI a := by
        unfold ebX
        rw [Int.toNat_natCast, HP.out, if_neg (by decide)]
      obtain ⟨e1, e2, e3, e4⟩ := eb_wr p1 p2 z1 hlt
      obtain ⟨g1, g2, g0⟩ := eb_in1 p1 p2 z1 hlt
      have G0 := hid g0
      rw [hx, Int.toNat_natCast, ← HP0.out]
      clear hx g0
      go_enter Try.func18, Try.ntmps18
      go_wp2_with fail
      refine (impl_IsShrinking_is _ _ _ _ _ _).mono ?_
      rintro e w1 ⟨rfl, hb⟩
      rw [HSH.out, HQ.out]
      have B1 := hb
      obtain ⟨c0, c1, c2, c3, c4⟩ := box5_cells B1
      go_wp2_with (first | (go_at_call 34; refine (sizeOf_any _ _ aa1 aa2).mono ?_; rintro e w' ⟨rfl, rfl⟩) | (go_at_call 36; refine (lowest_any P _ _ p1 hp5 G0.out g1 g2).mono ?_; rintro e w2 ⟨rfl, hb⟩; (first | have B2 := bel_step B1 hb | have B2 := bel_step B1 (bel_undrew hb) | have B2 := bel_drewN B1 hb)))
      go_ret3
      exact ⟨rfl, bel_step (bel_alloc _ _) B2⟩


set_option maxHeartbeats 1600000 in
theorem gen_FnExactErrorBound (a k mode b : Int) (wr : Bool)  (r0 : Int) (r1 : Int) (r2 : Bool) (w : World)  (hspec : ∀ (w : World) , Calls Try.prog 17 #[.agg #[.int .i64 a, .int .i64 k, .int .i64 mode, .int .i64 b, .bool wr]] w fun e w' => e = .returned (.tuple #[.int .i64 r0, .int .i64 r1, .bool r2]) ∧ Below w.heap.size w w') (himpl : ∀ (w : World) , Calls Try.prog 18 #[.agg #[.int .i64 a, .int .i64 k, .int .i64 mode, .int .i64 b, .bool wr]] w fun e w' => e = .returned (.tuple #[.int .i64 r0, .int .i64 r1, .bool r2]) ∧ Below w.heap.size w w') :
    Calls Try.prog 6 #[.agg #[.int .i64 a, .int .i64 k, .int .i64 mode, .int .i64 b, .bool wr]] w fun e w' => e = .returned (.bool true) ∧ Below w.heap.size w w' := by
  have HSP := hid hspec
  have HIM := hid himpl
  clear hspec himpl
  all_goals cases r2
  all_goals
    go_enter Try.func6, Try.ntmps6
    go_wp2_with fail
    refine (toFirst_any _ _ _ _ _ _).mono ?_
    rintro e w1 ⟨rfl, hb⟩
    have B1 := hb
    have hz1 : w.heap.size ≤ w1.heap.size := by first | exact hb.size | (have := hb.size; simp at this; omega)
    obtain ⟨ca1, cb1, cc1, cd1, ce1⟩ := box5_cells B1
    go_wp2_with fail
    refine (HSP.out _).mono ?_
    rintro e w2 ⟨rfl, hb⟩
    have B2 := bel_step B1 hb
    have hz2 : w1.heap.size ≤ w2.heap.size := hb.size
    obtain ⟨ca2, cb2, cc2, cd2, ce2⟩ := box5_cells B2
    go_wp2_with fail
    refine (toFirst_any _ _ _ _ _ _).mono ?_
    rintro e w3 ⟨rfl, hb⟩
    have B3 := bel_step B2 hb
    have hz3 : w2.heap.size ≤ w3.heap.size := hb.size
    obtain ⟨ca3, cb3, cc3, cd3, ce3⟩ := box5_cells B3
    go_wp2_with fail
    refine (HIM.out _).mono ?_
    rintro e w4 ⟨rfl, hb⟩
    have B4 := bel_step B3 hb
    have hz4 : w3.heap.size ≤ w4.heap.size := hb.size
    obtain ⟨ca4, cb4, cc4, cd4, ce4⟩ := box5_cells B4
    go_wp2_with fail
    go_ret
    exact ⟨rfl, bel_step (bel_alloc _ _) B4⟩


set_option maxHeartbeats 1600000 in
theorem walk_FnExactErrorBound (w : World) (a k mode b : Int) (wr : Bool) (wa : (Lit.int .i64 a).wf = true) (wk : (Lit.int .i64 k).wf = true) (wm : (Lit.int .i64 mode).wf = true) (wb : (Lit.int .i64 b).wf = true) :
    Calls Try.prog 6 #[.agg #[.int .i64 a, .int .i64 k, .int .i64 mode, .int .i64 b, .bool wr]] w fun e w' => e = .returned (.bool true) ∧ Below w.heap.size w w' := by

  exact gen_FnExactErrorBound a k mode b wr (ebT a k mode b) (ebD a k mode b) (shR a k mode b) w  (fun w  => spec_ErrorBound_is _ _ _ _ _ _) (fun w  => impl_ErrorBound_is _ _ _ _ _ _)

end Go.Proofs.Ytcaoomcmfckhcaa
