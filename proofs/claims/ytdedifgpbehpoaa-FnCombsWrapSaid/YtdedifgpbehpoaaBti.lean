
import Derived.Test.YtdedifgpbehpoaaBs
namespace Go.Proofs.Ytdedifgpbehpoaa
open Go.RowKit BitX Go.MemX
set_option linter.unusedVariables false


set_option maxHeartbeats 1600000 in
theorem bitsNeeded_in (u : Value) (xs : List Int) (n : Nat) (wd : Bool) (w : World) (hu : Sl w u xs) (hw : (1 ≤ xs.length ∧ xs.length ≤ 29) ∧ InP (-1000) 1000 xs) (n1 : 2 ≤ n) (n2 : n ≤ 16) :
    Calls Try.prog 37 #[u, .agg #[.int .i64 (n : Int), .bool wd]] w fun e w' => e = .returned (.tuple #[.int .i64 (bitsR (loS xs (-(2 : Int) ^ (n - 1)) ((2 : Int) ^ (n - 1) - 1) xs.length) (hiS xs (-(2 : Int) ^ (n - 1)) ((2 : Int) ^ (n - 1) - 1) xs.length)), .bool (bitsO (loS xs (-(2 : Int) ^ (n - 1)) ((2 : Int) ^ (n - 1) - 1) xs.length) (hiS xs (-(2 : Int) ^ (n - 1)) ((2 : Int) ^ (n - 1) - 1) xs.length))]) ∧ Below w.heap.size w w' := by
  obtain ⟨a, n', cap, rfl, hn, hrd⟩ := hu.rd
  have HU := hid hu
  have HW := hid hw
  have Hn := hid hn
  have Hrd := hid hrd
  have hn9 : n' ≤ 29 := by rw [hn]; exact hw.1.2
  obtain ⟨q1, q2⟩ := pow_small n (by omega) n2
  obtain ⟨L, hL⟩ : ∃ L, -(2 : Int) ^ (n - 1) = L := ⟨_, rfl⟩
  obtain ⟨H, hH⟩ : ∃ H, (2 : Int) ^ (n - 1) - 1 = H := ⟨_, rfl⟩
  have l1 : -32768 ≤ L := by omega
  have l2 : L ≤ 32768 := by omega
  have g1 : -32768 ≤ H := by omega
  have g2 : H ≤ 32768 := by omega
  rw [hL, hH]
  have HL := hid hL
  have HH := hid hH
  clear hu hw hn hrd q1 q2 hL hH
  go_enter Try.func37, Try.ntmps37
  have B0 := bel_alloc w (.cells #[.int .i64 (n : Int), .bool wd] 53)
  obtain ⟨hbA, hbB⟩ := box2_cells (Below.refl (w.alloc (.cells #[.int .i64 (n : Int), .bool wd] 53)).heap.size (w.alloc (.cells #[.int .i64 (n : Int), .bool wd] 53)))
  have hgz : w.heap.size < (w.alloc (.cells #[.int .i64 (n : Int), .bool wd] 53)).heap.size := by simp
  go_wp2_with fail
  generalize w.alloc (.cells #[.int .i64 (n : Int), .bool wd] 53) = wb at *
  have B1 := B0
  clear B0
  go_loopw [6, 7, 16] (fun s0 s1 i wr => ∃ k : Nat, k ≤ n' ∧ s0 = .int .i64 (loS xs L H k) ∧ s1 = .int .i64 (hiS xs L H k) ∧ i = .int .i64 k ∧ Below wb.heap.size wb wr)
    (fun _ _ i _ => n' - (intOf i).toNat)
  case atStart => exact ⟨0, by omega, rfl, rfl, rfl, Below.refl _ _⟩
  case round =>
    obtain ⟨k, hk, rfl, rfl, rfl, hb⟩ := hrel
    by_cases hlk : k < n'
    · obtain ⟨x, hkx⟩ := get_lt xs k (by rw [← Hn.out]; exact hlk)
      obtain ⟨bb, oo, hix, hbb, hce⟩ := (Hrd.out.kept (bel_step B1 hb)).at (P := Try.prog) (T := 24) n' cap uslice sone hkx hlk
      obtain ⟨x1, x2⟩ := HW.out.2.at hkx
      obtain ⟨⟨b1, b2⟩, ⟨b3, b4⟩⟩ := lo_bound HW.out.2 l1 l2 g1 g2 k (by omega)
      have e1 := loS_step xs L H k
      have e2 := hiS_step xs L H k
      rw [show at0 xs k = x from at0_of hkx] at e1 e2
      obtain ⟨hcA, hcB⟩ := boxed hbA hbB hgz hb
      have m1 := mul_in x1 x2 l1 l2 (by omega)
      have m2 := mul_in x1 x2 g1 g2 (by omega)
      have p1 : -32768000 ≤ x * L := by omega
      have p2 : x * L ≤ 32768000 := by omega
      have p3 : -32768000 ≤ x * H := by omega
      have p4 : x * H ≤ 32768000 := by omega
      have hw1 : IntKind.i64.wrap (x * L) = x * L := IntWalk.i64_in _ (by omega)
      have hw2 : IntKind.i64.wrap (x * H) = x * H := IntWalk.i64_in _ (by omega)
      obtain ⟨⟨y1, y2⟩, ⟨y3, y4⟩⟩ := lm_in p1 p2 p3 p4
      have He1 := hid e1
      have He2 := hid e2
      clear e1 e2 hkx m1 m2
      go_wp2_with fail
      go_region_with (first | (go_at_call 63; refine (leastOf_is n wd L _ (by omega) n2 HL.out).mono ?_; rintro e w2 ⟨rfl, hb2⟩; have B2 := hb.drew.trans (hb2.mono (by exact hb.size)); obtain ⟨hdA, hdB⟩ := boxed hbA hbB hgz B2) | (go_at_call 64; refine (greatestOf_is n wd H _ (by omega) n2 HH.out).mono ?_; rintro e w3 ⟨rfl, hb3⟩; have B3 := B2.trans (hb3.mono B2.size); obtain ⟨heA, heB⟩ := boxed hbA hbB hgz B3))
      all_goals clear hw1 hw2
      all_goals go_wp2
      all_goals go_roundw
      all_goals (try (case rel => exact ⟨k + 1, by omega, by rw [He1.out]; exact congrArg (Value.int .i64) (by unfold leastI; split <;> omega), by rw [He2.out]; exact congrArg (Value.int .i64) (by unfold mostI; split <;> omega), by go_num, B3⟩))
      all_goals (try (case measure => simp [intOf]; omega))
    · have hge : (n' : Int) ≤ (k : Int) := by omega
      have hkn : k = xs.length := by rw [← Hn.out]; omega
      subst hkn
      obtain ⟨⟨b1, b2⟩, ⟨b3, b4⟩⟩ := lo_bound HW.out.2 l1 l2 g1 g2 xs.length (Nat.le_trans HW.out.1.2 (by omega))
      have hB2 := bel_step B1 hb
      have hle := lo_le_hi xs L H xs.length
      clear hlk hk
      generalize hz1e : loS xs L H xs.length = z1 at *
      generalize hz2e : hiS xs L H xs.length = z2 at *
      have Hz1 := hid hz1e
      have Hz2 := hid hz2e
      clear hz1e hz2e hb hbA hbB B1
      go_wp2_with fail
      clear hge
      generalize decide (xs.length < n') = dd
      obtain ⟨wo, hwo⟩ : ∃ wo : World, wo = wr := ⟨_, rfl⟩
      subst hwo
      go_loopw [12] (fun i wq => ∃ b : Nat, 2 ≤ b ∧ b ≤ 41 ∧ i = .int .i64 b ∧ Hid (∀ c, 2 ≤ c → c < b → hasB z1 z2 c = false) ∧ Below w.heap.size w wq)
        (fun i _ => 41 - (intOf i).toNat)
      case atStart => exact ⟨2, by omega, by omega, rfl, fun c h1 h2 => by omega, hB2⟩
      case round =>
        obtain ⟨b, hb2, hb41, rfl, hno, hb⟩ := hrel
        by_cases hb40 : b ≤ 40
        · have f0 : (0 : Int) ≤ (b : Int) - 1 := by omega
          have f1 : (b : Int) ≤ 40 := by omega
          have Hno := hid hno
          clear hno
          have bw := bel_alloc wr (.cells #[.int .i64 (b : Int), .bool false] 53)
          cases hA : decide (-(2 : Int) ^ (b - 1) ≤ z1 ∧ z1 ≤ 2 ^ (b - 1) - 1)
          · have Hs := hid (no_step Hno.out.out (has_and hle hA rfl))
            have HA := hid hA
            clear hA
            go_wp2_with fail
            refine (isIn_mid b z1 _ _ (by omega) hb40 b1 b2 HA.out).mono ?_
            rintro e w4 ⟨rfl, hb4⟩
            have hb5 := hb.trans ((bel_step bw hb4).mono hb.size)
            go_wp2_with fail
            go_roundw
            case rel => exact ⟨b + 1, by omega, by omega, by go_num, Hs, hb5⟩
            case measure => simp [intOf]; omega
          · cases hB : decide (-(2 : Int) ^ (b - 1) ≤ z2 ∧ z2 ≤ 2 ^ (b - 1) - 1)
            · have Hs := hid (no_step Hno.out.out (has_and hle hA hB))
              have HA := hid hA
              have HB := hid hB
              clear hA hB
              go_wp2_with fail
              refine (isIn_mid b z1 _ _ (by omega) hb40 b1 b2 HA.out).mono ?_
              rintro e w4 ⟨rfl, hb4⟩
              obtain ⟨ca4, cb4⟩ := box2_cells hb4
              have hb5 := hb.trans ((bel_step bw hb4).mono hb.size)
              go_wp2_with fail
              refine (isIn_mid b z2 _ _ (by omega) hb40 b3 b4 HB.out).mono ?_
              rintro e w5 ⟨rfl, hb6⟩
              have hb7 := bel_step hb5 hb6
              go_wp2_with fail
              go_roundw
              case rel => exact ⟨b + 1, by omega, by omega, by go_num, Hs, hb7⟩
              case measure => simp [intOf]; omega
            · have Hfin := hid (bits_yes hb2 hb40 (has_and hle hA hB) Hno.out.out)
              have HA := hid hA
              have HB := hid hB
              clear hA hB
              go_wp2_with fail
              refine (isIn_mid b z1 _ _ (by omega) hb40 b1 b2 HA.out).mono ?_
              rintro e w4 ⟨rfl, hb4⟩
              obtain ⟨ca4, cb4⟩ := box2_cells hb4
              have hb5 := hb.trans ((bel_step bw hb4).mono hb.size)
              go_wp2_with fail
              refine (isIn_mid b z2 _ _ (by omega) hb40 b3 b4 HB.out).mono ?_
              rintro e w5 ⟨rfl, hb6⟩
              have hb7 := bel_step hb5 hb6
              go_wp2_with fail
              go_ret2
              exact ⟨ret_ib2 (by rw [Hz1.out, Hz2.out]; exact Hfin.out.1.symm) (by rw [Hz1.out, Hz2.out]; exact Hfin.out.2.symm), hb7⟩
        · obtain rfl : b = 41 := by omega
          have Hfin := hid (bits_no hno.out)
          clear hb40 hno
          go_wp2
          go_ret2
          exact ⟨ret_ib2 (by rw [Hz1.out, Hz2.out]; exact Hfin.out.1.symm) (by rw [Hz1.out, Hz2.out]; exact Hfin.out.2.symm), hb⟩


end Go.Proofs.Ytdedifgpbehpoaa
