
import Derived.Test.YtbhlailnefappaaQh
namespace Go.Proofs.Ytbhlailnefappaa
open Go.RowKit BitX Go.MemX Go.ChV
set_option linter.unusedVariables false
def poP (m x : Int) : Nat := peN (2 * m).toNat (x + m).toNat
def poI (m x : Int) : Int := onB (nuB m x) (poP m x : Int) 0
def ooI (m x : Int) : Int := onB (nuB m x) (dpO m x (poP m x)) 0
theorem on_facts (p Y M : Nat) (hM : 1 ≤ M) (h : p * Y ≤ 4000000) : ∃ (z : Int) (q : Nat), wrap64 ((p : Int) * (Y : Int)) = z ∧ IntKind.i64.wrap ((p : Int) * (Y : Int)) = z ∧ IntKind.i64.wrap (z.tdiv (M : Int)) = (q : Int) ∧ wrap64 (z.tdiv (M : Int)) = (q : Int) ∧ q = p * Y / M ∧ 0 ≤ z ∧ z ≤ 4000000 ∧ q ≤ 4000000 := by
  refine ⟨((p * Y : Nat) : Int), p * Y / M, ?_, ?_, ?_, ?_, rfl, ?_, ?_, ?_⟩
  all_goals try rw [← Int.natCast_mul]
  all_goals generalize p * Y = t at *
  · exact IntWalk.wrap64_in _ (by omega)
  · exact IntWalk.i64_in _ (by omega)
  all_goals have hle := Nat.div_le_self t M
  all_goals have htd : (t : Int).tdiv (M : Int) = ((t / M : Nat) : Int) := by rw [Int.tdiv_eq_ediv_of_nonneg (Int.natCast_nonneg _)]; rfl
  all_goals try rw [htd]
  all_goals generalize t / M = q at *
  all_goals clear htd hM
  · exact IntWalk.i64_in _ (by omega)
  · exact IntWalk.wrap64_in _ (by omega)
  all_goals omega
theorem gcd_at (a b : Int) (x y : Nat) (w : World) (ha : a = x) (hb : b = y) (hx : x ≤ 5000) (hy : y ≤ 5000) :
    Calls Try.prog 68 #[.int .i64 a, .int .i64 b] w fun e w' => e = .returned (.int .i64 ((Nat.gcd x y : Nat) : Int)) ∧ Below w.heap.size w w' := by
  rw [ha, hb]; exact gcd_any x y w hx hy
/-- what a scale and a number of it make -/
theorem po_facts {m x : Int} (m1 : 1 ≤ m) (m2 : m ≤ 1000) (x1 : -m ≤ x) (x2 : x ≤ m) :
    ∃ M Y g p : Nat, 2 * m = (M : Int) ∧ x + m = (Y : Int) ∧ M ≤ 2000 ∧ Y ≤ 2000 ∧ Nat.gcd M Y = g ∧ 1 ≤ g ∧ poP m x = p ∧ 1 ≤ p ∧ p ≤ 2000 ∧ (2 * m).tdiv (g : Int) = (p : Int) ∧ dpS m x p = 0 ∧ (∀ n, 1 ≤ n → n < p → dpS m x n ≠ 0) ∧ dpO m x p = ((p * Y / M : Nat) : Int) ∧ p * Y ≤ 4000000 := by
  obtain ⟨M, hM⟩ : ∃ M : Nat, 2 * m = (M : Int) := ⟨(2 * m).toNat, by omega⟩
  obtain ⟨Y, hY⟩ : ∃ Y : Nat, x + m = (Y : Int) := ⟨(x + m).toNat, by omega⟩
  have hp : poP m x = peN M Y := by unfold poP; rw [hM, hY]; rfl
  have hr := pe_in (M := M) (Y := Y) (by omega)
  refine ⟨M, Y, _, _, hM, hY, by omega, by omega, rfl, Nat.gcd_pos_of_pos_left _ (by omega), rfl, by rw [hp]; exact hr.1, by rw [hp]; omega, ?_, ?_, ?_, ?_, ?_⟩
  · rw [hM, hp, Int.tdiv_eq_ediv_of_nonneg (by omega)]; rfl
  · rw [hp]; exact dp_last m1 x1 x2 hM.symm hY.symm
  · intro n h1 h2
    rw [hp] at h2
    exact dp_first m1 x1 x2 hM.symm hY.symm h1 h2
  · rw [hp]; exact dp_ones m1 x1 x2 hM.symm hY.symm
  · rw [hp]
    have : peN M Y * Y ≤ 2000 * 2000 := Nat.mul_le_mul (by omega) (by omega)
    omega


set_option maxHeartbeats 1000000 in
theorem spec_PeriodOfConstant_is (m x : Int) (w : World) :
    Calls Try.prog 36 #[.int .i64 m, .int .i64 x] w fun e w' => e = .returned (.tuple #[.int .i64 (poI m x), .bool (nuB m x)]) ∧ Below w.heap.size w w' := by
  cases hq : nuB m x
  · have HR := hid (show poI m x = 0 from by unfold poI; rw [hq]; rfl)
    have HQ := hid hq
    clear hq
    go_enter Try.func36, Try.ntmps36
    go_wp2_with fail
    refine (dmNumber_q m x false _ HQ.out).mono ?_
    rintro e w' ⟨rfl, rfl⟩
    go_wp2_with fail
    go_ret2
    exact ⟨ret_ib' HR.out.symm rfl, Below.refl _ _⟩
  · obtain ⟨⟨m1, m2⟩, x1, x2⟩ := nuB_t hq
    obtain ⟨M, Y, g, p, hM, hY, hM2, hY2, hg, hg1, hp, hp1, hp2, htd, hl, hf, ho, hpy⟩ := po_facts m1 m2 x1 x2
    have HR := hid (show poI m x = (p : Int) from by unfold poI; rw [hq, hp]; rfl)
    have HQ := hid hq
    have HO := hid ho
    have HM := hid hM
    have HY := hid hY
    have HF := hid hf
    have HL := hid hl
    have HG := hid hg
    clear hq ho hf hl hg hp
    go_enter Try.func36, Try.ntmps36
    go_wp2_with fail
    refine (dmNumber_q m x true _ HQ.out).mono ?_
    rintro e w' ⟨rfl, rfl⟩
    go_wp2_with fail
    refine (dmPeriod_any m x p _ m1 m2 x1 x2 hp1 hp2 HL.out HF.out).mono ?_
    rintro e w' ⟨rfl, rfl⟩
    go_wp2_with fail
    go_ret2
    exact ⟨ret_ib' HR.out.symm rfl, Below.refl _ _⟩


set_option maxHeartbeats 1000000 in
theorem spec_OnesInPeriod_is (m x : Int) (w : World) :
    Calls Try.prog 37 #[.int .i64 m, .int .i64 x] w fun e w' => e = .returned (.tuple #[.int .i64 (ooI m x), .bool (nuB m x)]) ∧ Below w.heap.size w w' := by
  cases hq : nuB m x
  · have HR := hid (show ooI m x = 0 from by unfold ooI; rw [hq]; rfl)
    have HQ := hid hq
    clear hq
    go_enter Try.func37, Try.ntmps37
    go_wp2_with fail
    refine (dmNumber_q m x false _ HQ.out).mono ?_
    rintro e w' ⟨rfl, rfl⟩
    go_wp2_with fail
    go_ret2
    exact ⟨ret_ib' HR.out.symm rfl, Below.refl _ _⟩
  · obtain ⟨⟨m1, m2⟩, x1, x2⟩ := nuB_t hq
    obtain ⟨M, Y, g, p, hM, hY, hM2, hY2, hg, hg1, hp, hp1, hp2, htd, hl, hf, ho, hpy⟩ := po_facts m1 m2 x1 x2
    have HR := hid (show ooI m x = ((p * Y / M : Nat) : Int) from by unfold ooI; rw [hq, hp, ho]; rfl)
    have HQ := hid hq
    have HO := hid ho
    have HM := hid hM
    have HY := hid hY
    have HF := hid hf
    have HL := hid hl
    have HG := hid hg
    clear hq ho hf hl hg hp
    go_enter Try.func37, Try.ntmps37
    go_wp2_with fail
    refine (dmNumber_q m x true _ HQ.out).mono ?_
    rintro e w' ⟨rfl, rfl⟩
    go_wp2_with fail
    refine (dmPeriod_any m x p _ m1 m2 x1 x2 hp1 hp2 HL.out HF.out).mono ?_
    rintro e w' ⟨rfl, rfl⟩
    go_wp2_with fail
    go_ret2
    exact ⟨ret_ib' (by rw [HO.out]; exact HR.out.symm) rfl, Below.refl _ _⟩


set_option maxHeartbeats 1000000 in
theorem impl_PeriodOfConstant_is (m x : Int) (w : World) :
    Calls Try.prog 29 #[.int .i64 m, .int .i64 x] w fun e w' => e = .returned (.tuple #[.int .i64 (poI m x), .bool (nuB m x)]) ∧ Below w.heap.size w w' := by
  cases hq : nuB m x
  · have HR := hid (show poI m x = 0 from by unfold poI; rw [hq]; rfl)
    have HQ := hid hq
    clear hq
    go_enter Try.func29, Try.ntmps29
    go_wp2_with fail
    refine (isConstant_q m x false _ HQ.out).mono ?_
    rintro e w' ⟨rfl, rfl⟩
    go_wp2_with fail
    go_ret2
    exact ⟨ret_ib' HR.out.symm rfl, Below.refl _ _⟩
  · obtain ⟨⟨m1, m2⟩, x1, x2⟩ := nuB_t hq
    obtain ⟨M, Y, g, p, hM, hY, hM2, hY2, hg, hg1, hp, hp1, hp2, htd, hl, hf, ho, hpy⟩ := po_facts m1 m2 x1 x2
    have HR := hid (show poI m x = (p : Int) from by unfold poI; rw [hq, hp]; rfl)
    have HQ := hid hq
    have HO := hid ho
    have HM := hid hM
    have HY := hid hY
    have HF := hid hf
    have HL := hid hl
    have HG := hid hg
    clear hq ho hf hl hg hp
    have hgb : g ≤ 2000 := by rw [← HG.out]; exact Nat.le_trans (Nat.le_of_dvd (by omega) (Nat.gcd_dvd_left M Y)) hM2
    rw [hM] at htd
    have e1 : IntKind.i64.wrap ((M : Int).tdiv (g : Int)) = (p : Int) := by rw [htd]; exact IntWalk.i64_in _ (by omega)
    have e2 : wrap64 ((M : Int).tdiv (g : Int)) = (p : Int) := by rw [htd]; exact IntWalk.wrap64_in _ (by omega)
    have hg0 : (g : Int) ≠ 0 := by omega
    have hg2 : (1 : Int) ≤ (g : Int) := by omega
    go_enter Try.func29, Try.ntmps29
    go_wp2_with fail
    refine (isConstant_q m x true _ HQ.out).mono ?_
    rintro e w' ⟨rfl, rfl⟩
    go_wp2_with fail
    refine (gcd_any M Y _ (by omega) (by omega)).mono ?_
    rintro e w1 ⟨rfl, hb⟩
    rw [HG.out]
    go_wp2_with fail
    go_ret2
    exact ⟨ret_ib' HR.out.symm rfl, hb⟩


theorem impl_PeriodOfConstant_no (m x : Int) (w : World) (h : nuB m x = false) : Calls Try.prog 29 #[.int .i64 m, .int .i64 x] w fun e w' => e = .returned (.tuple #[.int .i64 0, .bool false]) ∧ Below w.heap.size w w' := by
  have h2 := impl_PeriodOfConstant_is m x w
  rw [show poI m x = 0 from by unfold poI; rw [h]; rfl, h] at h2; exact h2
theorem impl_PeriodOfConstant_yes (m x : Int) (p : Nat) (w : World) (h : nuB m x = true) (hp : poI m x = (p : Int)) : Calls Try.prog 29 #[.int .i64 m, .int .i64 x] w fun e w' => e = .returned (.tuple #[.int .i64 (p : Int), .bool true]) ∧ Below w.heap.size w w' := by
  have h2 := impl_PeriodOfConstant_is m x w
  rw [hp, h] at h2; exact h2


set_option maxHeartbeats 1000000 in
theorem impl_OnesInPeriod_is (m x : Int) (w : World) :
    Calls Try.prog 30 #[.int .i64 m, .int .i64 x] w fun e w' => e = .returned (.tuple #[.int .i64 (ooI m x), .bool (nuB m x)]) ∧ Below w.heap.size w w' := by
  cases hq : nuB m x
  · have HR := hid (show ooI m x = 0 from by unfold ooI; rw [hq]; rfl)
    have HQ := hid hq
    clear hq
    go_enter Try.func30, Try.ntmps30
    go_wp2_with fail
    refine (impl_PeriodOfConstant_no m x _ HQ.out).mono ?_
    rintro e w1 ⟨rfl, hb⟩
    go_wp2_with fail
    go_ret2
    exact ⟨ret_ib' HR.out.symm rfl, hb⟩
  · obtain ⟨⟨m1, m2⟩, x1, x2⟩ := nuB_t hq
    obtain ⟨M, Y, g, p, hM, hY, hM2, hY2, hg, hg1, hp, hp1, hp2, htd, hl, hf, ho, hpy⟩ := po_facts m1 m2 x1 x2
    have HR := hid (show ooI m x = ((p * Y / M : Nat) : Int) from by unfold ooI; rw [hq, hp, ho]; rfl)
    have HQ := hid hq
    have HO := hid ho
    have HM := hid hM
    have HY := hid hY
    have HF := hid hf
    have HL := hid hl
    have HG := hid hg
    have HPP := hp
    clear hq ho hf hl hg hp
    obtain ⟨z, q, e0, e0', e1, e2, hqq, z1, z2, hq4⟩ := on_facts p Y M (by omega) hpy
    clear hpy
    have hm0 : (M : Int) ≠ 0 := by omega
    have hm1 : (2 : Int) ≤ (M : Int) := by omega
    have HZ := hid hqq
    have HP0 := hid (show poI m x = (p : Int) from by have := HR.out; unfold poI; rw [HQ.out]; exact congrArg _ HPP)
    clear hqq HPP
    go_enter Try.func30, Try.ntmps30
    go_wp2_with fail
    refine (impl_PeriodOfConstant_yes m x p _ HQ.out HP0.out).mono ?_
    rintro e w1 ⟨rfl, hb⟩
    go_wp2_with fail
    go_ret2
    exact ⟨ret_ib' (by rw [← HZ.out] at HR; exact HR.out.symm) rfl, hb⟩


end Go.Proofs.Ytbhlailnefappaa
