
import Derived.Test.YtdgoenpkiakilaaNd
namespace Go.Proofs.Ytdgoenpkiakilaa
open Go.RowKit BitX Go.MemX Go.ShX
set_option linter.unusedVariables false


theorem l1Sign_pos (x : Int) (w : World) (h : 0 < x) :
    Calls Try.prog 33 #[.int .i64 x] w fun e w' => e = .returned (.int .i64 1) ∧ w = w' := by
  skip
  go_enter Try.func33, Try.ntmps33
  go_wp2
  go_ret
  exact ⟨rfl, rfl⟩


theorem l1Sign_zero (x : Int) (w : World) (h : x = 0) :
    Calls Try.prog 33 #[.int .i64 x] w fun e w' => e = .returned (.int .i64 0) ∧ w = w' := by
  subst h
  go_enter Try.func33, Try.ntmps33
  go_wp2
  go_ret
  exact ⟨rfl, rfl⟩


theorem l1Sign_neg (x : Int) (w : World) (h : x < 0) :
    Calls Try.prog 33 #[.int .i64 x] w fun e w' => e = .returned (.int .i64 (-1)) ∧ w = w' := by
  skip
  go_enter Try.func33, Try.ntmps33
  go_wp2
  go_ret
  exact ⟨rfl, rfl⟩


set_option maxHeartbeats 2000000 in
theorem spec_RootsOf_is (a d k mode b : Int) (wr : Bool) (w : World) :
    Calls Try.prog 14 #[.agg #[.int .i64 a, .int .i64 d, .int .i64 k, .int .i64 mode, .int .i64 b, .bool wr]] w fun e w' => e = .returned (.tuple #[.string (rtS a d k mode b), .bool (soB a d k mode b)]) ∧ Below w.heap.size w w' := by
  cases hq : soB a d k mode b
  · have HQ := hid hq
    have HS := hid (show rtS a d k mode b = ByteArray.empty from by unfold rtS; rw [hq]; rfl)
    clear hq
    go_enter Try.func14, Try.ntmps14
    go_wp2_with fail
    refine (sdGood_q _ _ _ _ _ _ false _ HQ.out).mono ?_
    rintro e w1 ⟨rfl, hb⟩
    have B1 := hb
    go_wp2_with fail
    go_ret2
    exact ⟨ret_sb HS.out.symm rfl, bel_step (bel_alloc _ _) B1⟩
  · have hs0 : rtS a d k mode b = (if 0 < rtV a d k.toNat then ⟨#[116, 119, 111]⟩ else if rtV a d k.toNat = 0 then ⟨#[111, 110, 101]⟩ else ⟨#[116, 117, 114, 110]⟩) := by unfold rtS; rw [hq]; rfl
    have HS := hid hs0
    clear hs0
    obtain ⟨k, n, rfl, rfl, ho⟩ := soB_n hq
    have HQ := hid hq
    have HO := hid ho
    obtain ⟨⟨⟨a1, a2⟩, k1, ⟨m1, m2⟩, _⟩, d1, d2⟩ := ho
    obtain ⟨P, hP0, hP, p1, p2⟩ := pow_nat k k1
    have hw : wrap64 ((2 : Int) ^ k) = (P : Int) := by rw [hP]; exact IntWalk.wrap64_in _ (by omega)
    have hw2 : wrap64 ((2 : Int) ^ min k 64) = (P : Int) := by rw [Nat.min_eq_left (by omega)]; exact hw
    have hw3 : IntKind.i64.wrap (P : Int) = (P : Int) := IntWalk.i64_in _ (by omega)
    have hw5 : wrap64 (P : Int) = (P : Int) := IntWalk.wrap64_in _ (by omega)
    have hw4 : IntKind.i64.wrap ((2 : Int) ^ k) = (P : Int) := by rw [hP]; exact hw3
    obtain ⟨z1, z2⟩ := abs_in a1 a2
    obtain ⟨z3, z4⟩ := abs_in d1 d2
    have HP := hid hP
    clear hq hP hP0
    have hin := mul_in a1 a2 a1 a2 (by omega)
    have e0 : IntKind.i64.wrap (a * a) = a * a := IntWalk.i64_in _ (by omega)
    have e1 : IntKind.i64.wrap (4 * d) = 4 * d := IntWalk.i64_in _ (by omega)
    have hq2 := mul_in (show -4096 ≤ 4 * d by omega) (show 4 * d ≤ 4096 by omega) (show -1024 ≤ (P : Int) by omega) (show (P : Int) ≤ 1024 by omega) (by omega)
    obtain ⟨q, hq⟩ : ∃ q, q = 4 * d * (P : Int) := ⟨_, rfl⟩
    rw [← hq] at hq2
    have e2 : wrap64 (4 * d * (2 : Int) ^ min k 64) = q := by rw [Nat.min_eq_left (by omega), HP.out, ← hq]; exact IntWalk.wrap64_in _ (by omega)
    have e3 : wrap64 (4 * d * (2 : Int) ^ k) = q := by rw [HP.out, ← hq]; exact IntWalk.wrap64_in _ (by omega)
    have e6 : IntKind.i64.wrap (4 * d * (2 : Int) ^ k) = q := by rw [HP.out, ← hq]; exact IntWalk.i64_in _ (by omega)
    have e7 : IntKind.i64.wrap (4 * d * (2 : Int) ^ min k 64) = q := by rw [Nat.min_eq_left (by omega)]; exact e6
    obtain ⟨v, hv⟩ : ∃ v, v = a * a + q := ⟨_, rfl⟩
    have e4 : IntKind.i64.wrap (a * a + q) = v := by rw [hv]; exact IntWalk.i64_in _ (by omega)
    have e5 : wrap64 (a * a + q) = v := by rw [hv]; exact IntWalk.wrap64_in _ (by omega)
    have hV : rtV a d k = v := by unfold rtV; rw [HP.out, hv, hq]
    have HV := hid hV
    have hk0 : 0 ≤ (k : Int) := by omega
    clear hV hv hq hw hw2 hw3 hw4 hw5 hin
    rcases (show 0 < v ∨ v = 0 ∨ v < 0 from by omega) with hs | hs | hs
    · have HSv := hid (show rtS a d (k : Int) mode (n : Int) = ⟨#[116, 119, 111]⟩ from by rw [HS.out, Int.toNat_natCast, HV.out]; rw [if_pos hs])
      skip
      skip
      go_enter Try.func14, Try.ntmps14
      go_wp2_with fail
      refine (sdGood_q _ _ _ _ _ _ true _ HQ.out).mono ?_
      rintro e w1 ⟨rfl, hb⟩
      have B1 := hb
      obtain ⟨c0, c1, c2, c3, c4, c5⟩ := box6_cells B1
      have hS := And.intro c0 (And.intro c1 c2)
      go_wp2_with fail
      go_region_held3 (fun W => W.cell? ⟨w.heap.size, 0, none⟩ = some (.int .i64 a) ∧ W.cell? ⟨w.heap.size, 1, none⟩ = some (.int .i64 d) ∧ W.cell? ⟨w.heap.size, 2, none⟩ = some (.int .i64 (k : Int))) (first | exact hS | assumption | go_keep) (first | (go_at_call 33; refine (l1Sign_pos _ _ (by first | exact hs | rfl)).mono ?_; rintro e w' ⟨rfl, rfl⟩))
      all_goals go_wp2
      all_goals go_ret2
      all_goals exact ⟨ret_sb HSv.out.symm (by first | exact HQ.out.symm | rfl), below_drewN (bel_step (bel_alloc _ _) B1) _⟩
    · have HSv := hid (show rtS a d (k : Int) mode (n : Int) = ⟨#[111, 110, 101]⟩ from by rw [HS.out, Int.toNat_natCast, HV.out]; rw [if_neg (by omega), if_pos hs])
      have hs1 : v ≤ 0 := by omega
      have hb0 : (v == 0) = true := beq_iff_eq.2 hs
      go_enter Try.func14, Try.ntmps14
      go_wp2_with fail
      refine (sdGood_q _ _ _ _ _ _ true _ HQ.out).mono ?_
      rintro e w1 ⟨rfl, hb⟩
      have B1 := hb
      obtain ⟨c0, c1, c2, c3, c4, c5⟩ := box6_cells B1
      have hS := And.intro c0 (And.intro c1 c2)
      go_wp2_with fail
      go_region_held3 (fun W => W.cell? ⟨w.heap.size, 0, none⟩ = some (.int .i64 a) ∧ W.cell? ⟨w.heap.size, 1, none⟩ = some (.int .i64 d) ∧ W.cell? ⟨w.heap.size, 2, none⟩ = some (.int .i64 (k : Int))) (first | exact hS | assumption | go_keep) (first | (go_at_call 33; refine (l1Sign_zero _ _ (by first | exact hs | rfl)).mono ?_; rintro e w' ⟨rfl, rfl⟩))
      all_goals go_wp2
      all_goals go_ret2
      all_goals exact ⟨ret_sb HSv.out.symm (by first | exact HQ.out.symm | rfl), below_drewN (bel_step (bel_alloc _ _) B1) _⟩
    · have HSv := hid (show rtS a d (k : Int) mode (n : Int) = ⟨#[116, 117, 114, 110]⟩ from by rw [HS.out, Int.toNat_natCast, HV.out]; rw [if_neg (by omega), if_neg (by omega)])
      have hs1 : v ≤ 0 := by omega
      have hb0 : (v == 0) = false := beq_eq_false_iff_ne.2 (by omega)
      go_enter Try.func14, Try.ntmps14
      go_wp2_with fail
      refine (sdGood_q _ _ _ _ _ _ true _ HQ.out).mono ?_
      rintro e w1 ⟨rfl, hb⟩
      have B1 := hb
      obtain ⟨c0, c1, c2, c3, c4, c5⟩ := box6_cells B1
      have hS := And.intro c0 (And.intro c1 c2)
      go_wp2_with fail
      go_region_held3 (fun W => W.cell? ⟨w.heap.size, 0, none⟩ = some (.int .i64 a) ∧ W.cell? ⟨w.heap.size, 1, none⟩ = some (.int .i64 d) ∧ W.cell? ⟨w.heap.size, 2, none⟩ = some (.int .i64 (k : Int))) (first | exact hS | assumption | go_keep) (first | (go_at_call 33; refine (l1Sign_neg _ _ (by first | exact hs | rfl)).mono ?_; rintro e w' ⟨rfl, rfl⟩))
      all_goals go_wp2
      all_goals go_ret2
      all_goals exact ⟨ret_sb HSv.out.symm (by first | exact HQ.out.symm | rfl), below_drewN (bel_step (bel_alloc _ _) B1) _⟩


set_option maxHeartbeats 2000000 in
theorem impl_RootsOf_is (a d k mode b : Int) (wr : Bool) (w : World) :
    Calls Try.prog 15 #[.agg #[.int .i64 a, .int .i64 d, .int .i64 k, .int .i64 mode, .int .i64 b, .bool wr]] w fun e w' => e = .returned (.tuple #[.string (rtS a d k mode b), .bool (soB a d k mode b)]) ∧ Below w.heap.size w w' := by
  cases hq : soB a d k mode b
  · have HQ := hid hq
    have HS := hid (show rtS a d k mode b = ByteArray.empty from by unfold rtS; rw [hq]; rfl)
    clear hq
    go_enter Try.func15, Try.ntmps15
    go_wp2_with fail
    refine (IsSecond_q _ _ _ _ _ _ false _ HQ.out).mono ?_
    rintro e w1 ⟨rfl, hb⟩
    have B1 := hb
    go_wp2_with fail
    go_ret2
    exact ⟨ret_sb HS.out.symm rfl, bel_step (bel_alloc _ _) B1⟩
  · have hs0 : rtS a d k mode b = (if 0 < rtV a d k.toNat then ⟨#[116, 119, 111]⟩ else if rtV a d k.toNat = 0 then ⟨#[111, 110, 101]⟩ else ⟨#[116, 117, 114, 110]⟩) := by unfold rtS; rw [hq]; rfl
    have HS := hid hs0
    clear hs0
    obtain ⟨k, n, rfl, rfl, ho⟩ := soB_n hq
    have HQ := hid hq
    have HO := hid ho
    obtain ⟨⟨⟨a1, a2⟩, k1, ⟨m1, m2⟩, _⟩, d1, d2⟩ := ho
    obtain ⟨P, hP0, hP, p1, p2⟩ := pow_nat k k1
    have hw : wrap64 ((2 : Int) ^ k) = (P : Int) := by rw [hP]; exact IntWalk.wrap64_in _ (by omega)
    have hw2 : wrap64 ((2 : Int) ^ min k 64) = (P : Int) := by rw [Nat.min_eq_left (by omega)]; exact hw
    have hw3 : IntKind.i64.wrap (P : Int) = (P : Int) := IntWalk.i64_in _ (by omega)
    have hw5 : wrap64 (P : Int) = (P : Int) := IntWalk.wrap64_in _ (by omega)
    have hw4 : IntKind.i64.wrap ((2 : Int) ^ k) = (P : Int) := by rw [hP]; exact hw3
    obtain ⟨z1, z2⟩ := abs_in a1 a2
    obtain ⟨z3, z4⟩ := abs_in d1 d2
    have HP := hid hP
    clear hq hP hP0
    have hin := mul_in a1 a2 a1 a2 (by omega)
    have e0 : IntKind.i64.wrap (a * a) = a * a := IntWalk.i64_in _ (by omega)
    have e1 : IntKind.i64.wrap (4 * d) = 4 * d := IntWalk.i64_in _ (by omega)
    have hq2 := mul_in (show -4096 ≤ 4 * d by omega) (show 4 * d ≤ 4096 by omega) (show -1024 ≤ (P : Int) by omega) (show (P : Int) ≤ 1024 by omega) (by omega)
    obtain ⟨q, hq⟩ : ∃ q, q = 4 * d * (P : Int) := ⟨_, rfl⟩
    rw [← hq] at hq2
    have e2 : wrap64 (4 * d * (2 : Int) ^ min k 64) = q := by rw [Nat.min_eq_left (by omega), HP.out, ← hq]; exact IntWalk.wrap64_in _ (by omega)
    have e3 : wrap64 (4 * d * (2 : Int) ^ k) = q := by rw [HP.out, ← hq]; exact IntWalk.wrap64_in _ (by omega)
    have e6 : IntKind.i64.wrap (4 * d * (2 : Int) ^ k) = q := by rw [HP.out, ← hq]; exact IntWalk.i64_in _ (by omega)
    have e7 : IntKind.i64.wrap (4 * d * (2 : Int) ^ min k 64) = q := by rw [Nat.min_eq_left (by omega)]; exact e6
    obtain ⟨v, hv⟩ : ∃ v, v = a * a + q := ⟨_, rfl⟩
    have e4 : IntKind.i64.wrap (a * a + q) = v := by rw [hv]; exact IntWalk.i64_in _ (by omega)
    have e5 : wrap64 (a * a + q) = v := by rw [hv]; exact IntWalk.wrap64_in _ (by omega)
    have hV : rtV a d k = v := by unfold rtV; rw [HP.out, hv, hq]
    have HV := hid hV
    have hk0 : 0 ≤ (k : Int) := by omega
    clear hV hv hq hw hw2 hw3 hw4 hw5 hin
    rcases (show 0 < v ∨ v = 0 ∨ v < 0 from by omega) with hs | hs | hs
    · have HSv := hid (show rtS a d (k : Int) mode (n : Int) = ⟨#[116, 119, 111]⟩ from by rw [HS.out, Int.toNat_natCast, HV.out]; rw [if_pos hs])
      skip
      skip
      go_enter Try.func15, Try.ntmps15
      go_wp2_with fail
      refine (IsSecond_q _ _ _ _ _ _ true _ HQ.out).mono ?_
      rintro e w1 ⟨rfl, hb⟩
      have B1 := hb
      obtain ⟨c0, c1, c2, c3, c4, c5⟩ := box6_cells B1
      have hS := And.intro c0 (And.intro c1 c2)
      go_wp2_with fail
      go_region_held3 (fun W => W.cell? ⟨w.heap.size, 0, none⟩ = some (.int .i64 a) ∧ W.cell? ⟨w.heap.size, 1, none⟩ = some (.int .i64 d) ∧ W.cell? ⟨w.heap.size, 2, none⟩ = some (.int .i64 (k : Int))) (first | exact hS | assumption | go_keep) (first | fail)
      all_goals go_wp2
      all_goals go_ret2
      all_goals exact ⟨ret_sb HSv.out.symm (by first | exact HQ.out.symm | rfl), below_drewN (bel_step (bel_alloc _ _) B1) _⟩
    · have HSv := hid (show rtS a d (k : Int) mode (n : Int) = ⟨#[111, 110, 101]⟩ from by rw [HS.out, Int.toNat_natCast, HV.out]; rw [if_neg (by omega), if_pos hs])
      have hs1 : v ≤ 0 := by omega
      have hb0 : (v == 0) = true := beq_iff_eq.2 hs
      go_enter Try.func15, Try.ntmps15
      go_wp2_with fail
      refine (IsSecond_q _ _ _ _ _ _ true _ HQ.out).mono ?_
      rintro e w1 ⟨rfl, hb⟩
      have B1 := hb
      obtain ⟨c0, c1, c2, c3, c4, c5⟩ := box6_cells B1
      have hS := And.intro c0 (And.intro c1 c2)
      go_wp2_with fail
      go_region_held3 (fun W => W.cell? ⟨w.heap.size, 0, none⟩ = some (.int .i64 a) ∧ W.cell? ⟨w.heap.size, 1, none⟩ = some (.int .i64 d) ∧ W.cell? ⟨w.heap.size, 2, none⟩ = some (.int .i64 (k : Int))) (first | exact hS | assumption | go_keep) (first | fail)
      all_goals go_wp2
      all_goals go_ret2
      all_goals exact ⟨ret_sb HSv.out.symm (by first | exact HQ.out.symm | rfl), below_drewN (bel_step (bel_alloc _ _) B1) _⟩
    · have HSv := hid (show rtS a d (k : Int) mode (n : Int) = ⟨#[116, 117, 114, 110]⟩ from by rw [HS.out, Int.toNat_natCast, HV.out]; rw [if_neg (by omega), if_neg (by omega)])
      have hs1 : v ≤ 0 := by omega
      have hb0 : (v == 0) = false := beq_eq_false_iff_ne.2 (by omega)
      go_enter Try.func15, Try.ntmps15
      go_wp2_with fail
      refine (IsSecond_q _ _ _ _ _ _ true _ HQ.out).mono ?_
      rintro e w1 ⟨rfl, hb⟩
      have B1 := hb
      obtain ⟨c0, c1, c2, c3, c4, c5⟩ := box6_cells B1
      have hS := And.intro c0 (And.intro c1 c2)
      go_wp2_with fail
      go_region_held3 (fun W => W.cell? ⟨w.heap.size, 0, none⟩ = some (.int .i64 a) ∧ W.cell? ⟨w.heap.size, 1, none⟩ = some (.int .i64 d) ∧ W.cell? ⟨w.heap.size, 2, none⟩ = some (.int .i64 (k : Int))) (first | exact hS | assumption | go_keep) (first | fail)
      all_goals go_wp2
      all_goals go_ret2
      all_goals exact ⟨ret_sb HSv.out.symm (by first | exact HQ.out.symm | rfl), below_drewN (bel_step (bel_alloc _ _) B1) _⟩


set_option maxHeartbeats 1600000 in
theorem gen_FnExactRootsOf (a d k mode b : Int) (wr : Bool)  (r0 : ByteArray) (r1 : Bool) (w : World)  (hspec : ∀ (w : World) , Calls Try.prog 14 #[.agg #[.int .i64 a, .int .i64 d, .int .i64 k, .int .i64 mode, .int .i64 b, .bool wr]] w fun e w' => e = .returned (.tuple #[.string r0, .bool r1]) ∧ Below w.heap.size w w') (himpl : ∀ (w : World) , Calls Try.prog 15 #[.agg #[.int .i64 a, .int .i64 d, .int .i64 k, .int .i64 mode, .int .i64 b, .bool wr]] w fun e w' => e = .returned (.tuple #[.string r0, .bool r1]) ∧ Below w.heap.size w w') :
    Calls Try.prog 5 #[.agg #[.int .i64 a, .int .i64 d, .int .i64 k, .int .i64 mode, .int .i64 b, .bool wr]] w fun e w' => e = .returned (.bool true) ∧ Below w.heap.size w w' := by
  have HSP := hid hspec
  have HIM := hid himpl
  clear hspec himpl
  all_goals cases r1
  all_goals
    go_enter Try.func5, Try.ntmps5
    go_wp2_with fail
    refine (toSecond_any _ _ _ _ _ _ _).mono ?_
    rintro e w1 ⟨rfl, hb⟩
    have B1 := hb
    have hz1 : w.heap.size ≤ w1.heap.size := by first | exact hb.size | (have := hb.size; simp at this; omega)
    obtain ⟨ca1, cb1, cc1, cd1, ce1, cf1⟩ := box6_cells B1
    go_wp2_with fail
    refine (HSP.out _).mono ?_
    rintro e w2 ⟨rfl, hb⟩
    have B2 := bel_step B1 hb
    have hz2 : w1.heap.size ≤ w2.heap.size := hb.size
    obtain ⟨ca2, cb2, cc2, cd2, ce2, cf2⟩ := box6_cells B2
    go_wp2_with fail
    refine (toSecond_any _ _ _ _ _ _ _).mono ?_
    rintro e w3 ⟨rfl, hb⟩
    have B3 := bel_step B2 hb
    have hz3 : w2.heap.size ≤ w3.heap.size := hb.size
    obtain ⟨ca3, cb3, cc3, cd3, ce3, cf3⟩ := box6_cells B3
    go_wp2_with fail
    refine (HIM.out _).mono ?_
    rintro e w4 ⟨rfl, hb⟩
    have B4 := bel_step B3 hb
    have hz4 : w3.heap.size ≤ w4.heap.size := hb.size
    obtain ⟨ca4, cb4, cc4, cd4, ce4, cf4⟩ := box6_cells B4
    go_wp2_with fail
    go_ret
    exact ⟨rfl, bel_step (bel_alloc _ _) B4⟩


set_option maxHeartbeats 1600000 in
theorem walk_FnExactRootsOf (w : World) (a d k mode b : Int) (wr : Bool) (wa : (Lit.int .i64 a).wf = true) (wd : (Lit.int .i64 d).wf = true) (wk : (Lit.int .i64 k).wf = true) (wm : (Lit.int .i64 mode).wf = true) (wb : (Lit.int .i64 b).wf = true) :
    Calls Try.prog 5 #[.agg #[.int .i64 a, .int .i64 d, .int .i64 k, .int .i64 mode, .int .i64 b, .bool wr]] w fun e w' => e = .returned (.bool true) ∧ Below w.heap.size w w' := by

  exact gen_FnExactRootsOf a d k mode b wr (rtS a d k mode b) (soB a d k mode b) w  (fun w  => spec_RootsOf_is _ _ _ _ _ _ _) (fun w  => impl_RootsOf_is _ _ _ _ _ _ _)

end Go.Proofs.Ytdgoenpkiakilaa
