
import Derived.Test.YtbbfigbfkhlddaaPv
import Derived.Test.YtbbfigbfkhlddaaNc
namespace Go.Proofs.Ytbbfigbfkhlddaa
open Go.RowKit BitX Go.MemX Go.ShX
set_option linter.unusedVariables false


/-- steps ahead of the cycle, and its length -/
noncomputable def ppR (a d k mode b : Int) (wr : Bool) (y z x : Int) : Nat × Nat := if atB a d k mode b y z x = true then perR (orb2 (nxP (stepS a d k.toNat mode b.toNat wr x)) (y, z)) else (0, 0)
theorem perR_zero {α : Type} (o : Nat → α) (h : (perR o).2 = 0) : perR o = (0, 0) := by
  by_cases hx : ∃ m l, Rp o m l ∧ m + l ≤ 20000
  · obtain ⟨m, l, hr, hl⟩ := hx
    rw [perR_yes hr hl] at h
    have := hr.pos
    simp only at h
    omega
  · exact perR_no fun m l hr => by
      rcases Nat.lt_or_ge 20000 (m + l) with q | q
      · exact q
      · exact absurd ⟨m, l, hr, q⟩ hx
theorem perR_le {α : Type} (o : Nat → α) : (perR o).1 + (perR o).2 ≤ 20000 := by
  by_cases hx : ∃ m l, Rp o m l ∧ m + l ≤ 20000
  · obtain ⟨m, l, hr, hl⟩ := hx
    rw [perR_yes hr hl]; exact hl
  · rw [perR_no fun m l hr => by
      rcases Nat.lt_or_ge 20000 (m + l) with q | q
      · exact q
      · exact absurd ⟨m, l, hr, q⟩ hx]
    decide
theorem ret_iib9 {i j k l : Int} {b c : Bool} (h1 : i = j) (h2 : k = l) (h3 : b = c) : Ending.returned (.tuple #[.int .i64 i, .int .i64 k, .bool b]) = .returned (.tuple #[.int .i64 j, .int .i64 l, .bool c]) := by rw [h1, h2, h3]
set_option maxHeartbeats 2000000 in
theorem impl_PairPeriod_is (a d k mode b : Int) (wr : Bool) (y z x : Int) (w : World) (y1 : -9223372036854775808 ≤ y) (y2 : y ≤ 9223372036854775807) (z1 : -9223372036854775808 ≤ z) (z2 : z ≤ 9223372036854775807) :
    Calls Try.prog 7 #[.agg #[.int .i64 a, .int .i64 d, .int .i64 k, .int .i64 mode, .int .i64 b, .bool wr], .int .i64 y, .int .i64 z, .int .i64 x] w fun e w' => e = .returned (.tuple #[.int .i64 (((ppR a d k mode b wr y z x).1 : Nat) : Int), .int .i64 (((ppR a d k mode b wr y z x).2 : Nat) : Int), .bool (decide ((ppR a d k mode b wr y z x).2 ≠ 0))]) ∧ Below w.heap.size w w' := by
  cases hq : atB a d k mode b y z x
  · have HQ := hid hq
    have HR := hid (show ppR a d k mode b wr y z x = (0, 0) by unfold ppR; rw [hq]; rfl)
    clear hq
    go_enter Try.func7, Try.ntmps7
    go_wp2_with fail
    refine (canStepPair_q _ _ _ _ _ _ _ _ _ false _ y1 y2 z1 z2 HQ.out).mono ?_
    rintro e w1 ⟨rfl, hb⟩
    have B1 := hb
    obtain ⟨c0, c1, c2, c3, c4, c5⟩ := box6_cells B1
    go_wp2_with fail
    go_ret3
    exact ⟨ret_iib9 (by rw [HR.out]; rfl) (by rw [HR.out]; rfl) (by rw [HR.out]; rfl), bel_step (bel_alloc _ _) B1⟩
  · have hr0 : ppR a d k mode b wr y z x = perR (orb2 (nxP (stepS a d k.toNat mode b.toNat wr x)) (y, z)) := by unfold ppR; rw [if_pos hq]
    obtain ⟨k, n, rfl, rfl, ho, ⟨_, yy1, yy2⟩, ⟨_, zz1, zz2⟩, x1, x2⟩ := atB_n hq
    have hin := nx_in (x := x) (wd := wr) ho (y := y) (z := z) (by omega) (by omega) (by omega) (by omega)
    simp only [Int.toNat_natCast] at hr0
    have HR := hid hr0
    have HQ := hid hq
    have HO := hid ho
    have HI := hid hin
    have h0 := perR_zero (orb2 (nxP (stepS a d k mode n wr x)) (y, z))
    have hle := perR_le (orb2 (nxP (stepS a d k mode n wr x)) (y, z))
    obtain ⟨R, hRd⟩ : ∃ R, R = perR (orb2 (nxP (stepS a d k mode n wr x)) (y, z)) := ⟨_, rfl⟩
    rw [← hRd] at h0 hle
    have HRd := hid hRd
    obtain ⟨m, l⟩ := R
    simp only at h0 hle
    have H0 := hid h0
    clear hq ho hr0 hin h0 hRd
    go_enter Try.func7, Try.ntmps7
    go_wp2_with fail
    refine (canStepPair_q _ _ _ _ _ _ _ _ _ true _ y1 y2 z1 z2 HQ.out).mono ?_
    rintro e w1 ⟨rfl, hb⟩
    have B1 := hb
    obtain ⟨c0, c1, c2, c3, c4, c5⟩ := box6_cells B1
    go_wp2_with fail
    refine (pairStepWith_any a d k mode n wr x _ HO.out (by omega) (by omega)).mono ?_
    rintro e w2 ⟨⟨lb, rfl, hn⟩, hb⟩
    have B2 := bel_step B1 hb
    have Hn := hid hn
    clear hn
    go_wp2_with fail
    refine (pairWay_any (stepS a d k mode n wr x) (y, z) _ lb enterT2 w2 HI.out Hn.out).mono ?_
    rw [← HRd.out]
    rintro e w3 ⟨v, rfl, hown, hb⟩
    have B3 := bel_step B2 hb
    obtain ⟨va, vc, rfl⟩ := form_own hown
    clear hown
    simp only
    by_cases hl : l = 0
    · have hm := H0.out hl
      simp only [Prod.mk.injEq] at hm
      obtain ⟨rfl, rfl⟩ := hm
      simp only [ne_eq, not_true_eq_false, decide_false]
      go_wp2_with fail
      go_ret3
      exact ⟨ret_iib9 (by rw [HR.out, ← HRd.out]; rfl) (by rw [HR.out, ← HRd.out]; rfl) (by rw [HR.out, ← HRd.out]; rfl), bel_step (bel_alloc _ _) B3⟩
    · have hd : decide (l ≠ 0) = true := decide_eq_true hl
      rw [hd]
      go_wp2_with fail
      go_ret3
      exact ⟨ret_iib9 (by rw [HR.out, ← HRd.out]) (by rw [HR.out, ← HRd.out]; simp only; omega) (by rw [HR.out, ← HRd.out]; exact hd.symm), bel_step (bel_alloc _ _) B3⟩

end Go.Proofs.Ytbbfigbfkhlddaa
