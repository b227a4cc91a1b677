
import Derived.Test.YtbbfigbfkhlddaaCa
namespace Go.Proofs.Ytbbfigbfkhlddaa
open Go.RowKit BitX
theorem bel_undrew {X w : World} (h : Below X.drew.heap.size X.drew w) : Below X.heap.size X w := (Below.refl _ X).drew.trans h

set_option maxHeartbeats 400000 in
theorem wdIn_bad (b x : Int) (wr : Bool) (w : World) (h : ¬ (2 ≤ b ∧ b ≤ 16)) :
    Calls Try.prog 22 #[.agg #[.int .i64 b, .bool wr], .int .i64 x] w fun e w' => e = .returned (.bool false) ∧ Below w.heap.size w w' := by
  have H := hid h
  clear h
  go_enter Try.func22, Try.ntmps22
  go_wp2_with fail
  refine wp_region_any (by kernel_rfl) ?_
  change wpAny _ _ _ _ _ _ _ (World.drew _)
  refine wpAny_ready (rs := [0]) (by kernel_rfl) (by simp) ?_
  refine AllReady.cons rfl (fun K hK => ?_) AllReady.nil
  go_simp
  refine hK _ _ ?_
  clear hK K
  refine wpAny_ready (rs := [1]) (by kernel_rfl) (by simp) ?_
  refine AllReady.cons rfl (fun K hK => ?_) AllReady.nil
  go_simp
  go_wp2_with (go_at_call 35; refine (wdGood_no _ _ _ H.out).mono ?_; rintro e w1 ⟨rfl, B1⟩)
  try (refine hK _ _ ?_; clear hK K)
  refine wpAny_take (i := 2) (v := .bool false) rfl (by kernel_rfl) (by kernel_rfl) (by kernel_rfl) (fun _ _ _ h => h) (Or.inl ⟨by rfl, ?_⟩) ?_
  · intro w; go_simp
  refine wpAny_take (i := 3) (v := undef) rfl (by kernel_rfl) (by kernel_rfl) (by kernel_rfl) (fun _ _ _ h => h) (Or.inr ⟨by rfl, rfl⟩) ?_
  refine wpAny_take (i := 4) (v := undef) rfl (by kernel_rfl) (by kernel_rfl) (by kernel_rfl) (fun _ _ _ h => h) (Or.inr ⟨by rfl, rfl⟩) ?_
  refine wpAny_take (i := 6) (v := undef) rfl (by kernel_rfl) (by kernel_rfl) (by kernel_rfl) (fun _ _ _ h => h) (Or.inr ⟨by rfl, rfl⟩) ?_
  refine wpAny_take (i := 5) (v := undef) rfl (by kernel_rfl) (by kernel_rfl) (by kernel_rfl) (fun _ _ _ h => h) (Or.inr ⟨by rfl, rfl⟩) ?_
  refine wpAny_take (i := 7) (v := undef) rfl (by kernel_rfl) (by kernel_rfl) (by kernel_rfl) (fun _ _ _ h => h) (Or.inr ⟨by rfl, rfl⟩) ?_
  refine wpAny_take (i := 8) (v := undef) rfl (by kernel_rfl) (by kernel_rfl) (by kernel_rfl) (fun _ _ _ h => h) (Or.inr ⟨by rfl, rfl⟩) ?_
  refine wpAny_take (i := 9) (v := .bool false) rfl (by kernel_rfl) (by kernel_rfl) (by kernel_rfl) (fun _ _ _ h => h) (Or.inl ⟨by rfl, ?_⟩) ?_
  · intro w; go_simp
  refine wpAny_take (i := 10) (v := .bool false) rfl (by kernel_rfl) (by kernel_rfl) (by kernel_rfl) (fun _ _ _ h => h) (Or.inl ⟨by rfl, ?_⟩) ?_
  · intro w; go_simp
  refine wpAny_done (by kernel_rfl) ?_ _
  all_goals go_wp2
  all_goals go_ret
  refine ⟨?_, bel_step (bel_alloc _ _).drew B1⟩
  go_simp
set_option maxHeartbeats 400000 in
theorem wdIn_yes (b : Nat) (x : Int) (wr : Bool) (w : World) (h1 : 2 ≤ b) (h2 : b ≤ 16) (hin : -(2 : Int) ^ (b - 1) ≤ x ∧ x ≤ 2 ^ (b - 1) - 1) :
    Calls Try.prog 22 #[.agg #[.int .i64 (b : Int), .bool wr], .int .i64 x] w fun e w' => e = .returned (.bool true) ∧ Below w.heap.size w w' := by
  have H := hid hin
  clear hin
  go_enter Try.func22, Try.ntmps22
  go_wp2_with fail
  go_region_with (first | (go_at_call 35; refine (wdGood_yes _ _ _ (by omega) (by omega)).mono ?_; rintro e w1 ⟨rfl, hb⟩; have B1 := bel_undrew hb; obtain ⟨c0, c1⟩ := box2_cells B1) | (go_at_call 36; refine (wdLow_any b wr _ (by omega) h2).mono ?_; rintro e w2 ⟨rfl, hb⟩; have B2 := bel_step B1 hb; obtain ⟨d0, d1⟩ := box2_cells B2) | (go_at_call 37; refine (wdHigh_any b wr _ (by omega) h2).mono ?_; rintro e w3 ⟨rfl, hb⟩; have B3 := bel_step B2 hb) | (go_at_call 23; refine (l1In_yes _ _ _ _ H.out.1 H.out.2).mono ?_; rintro e w4 ⟨rfl, rfl⟩))
  all_goals go_wp2
  all_goals go_ret
  all_goals exact ⟨rfl, bel_step (bel_alloc _ _) B3⟩
set_option maxHeartbeats 400000 in
theorem wdIn_no (b : Nat) (x : Int) (wr : Bool) (w : World) (h1 : 2 ≤ b) (h2 : b ≤ 16) (hin : ¬ (-(2 : Int) ^ (b - 1) ≤ x ∧ x ≤ 2 ^ (b - 1) - 1)) :
    Calls Try.prog 22 #[.agg #[.int .i64 (b : Int), .bool wr], .int .i64 x] w fun e w' => e = .returned (.bool false) ∧ Below w.heap.size w w' := by
  have H := hid hin
  clear hin
  go_enter Try.func22, Try.ntmps22
  go_wp2_with fail
  go_region_with (first | (go_at_call 35; refine (wdGood_yes _ _ _ (by omega) (by omega)).mono ?_; rintro e w1 ⟨rfl, hb⟩; have B1 := bel_undrew hb; obtain ⟨c0, c1⟩ := box2_cells B1) | (go_at_call 36; refine (wdLow_any b wr _ (by omega) h2).mono ?_; rintro e w2 ⟨rfl, hb⟩; have B2 := bel_step B1 hb; obtain ⟨d0, d1⟩ := box2_cells B2) | (go_at_call 37; refine (wdHigh_any b wr _ (by omega) h2).mono ?_; rintro e w3 ⟨rfl, hb⟩; have B3 := bel_step B2 hb) | (go_at_call 23; refine (l1In_no _ _ _ _ H.out).mono ?_; rintro e w4 ⟨rfl, rfl⟩))
  all_goals go_wp2
  all_goals go_ret
  all_goals exact ⟨rfl, bel_step (bel_alloc _ _) B3⟩
end Go.Proofs.Ytbbfigbfkhlddaa
