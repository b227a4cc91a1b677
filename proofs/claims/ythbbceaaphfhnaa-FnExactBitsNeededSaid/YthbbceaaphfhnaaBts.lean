
import Derived.Test.YthbbceaaphfhnaaBs
namespace Go.Proofs.Ythbbceaaphfhnaa
open Go.RowKit BitX Go.MemX
set_option linter.unusedVariables false


set_option maxHeartbeats 1600000 in
theorem spec_bits_in (u : Value) (xs : List Int) (n : Nat) (wd : Bool) (w : World) (hu : Sl w u xs) (hw : WgtP xs) (n1 : 2 ≤ n) (n2 : n ≤ 16) :
    Calls Try.prog 23 #[u, .agg #[.int .i64 (n : Int), .bool wd]] w fun e w' => e = .returned (.tuple #[.int .i64 (bitsR (loS xs (-(2 : Int) ^ (n - 1)) ((2 : Int) ^ (n - 1) - 1) xs.length) (hiS xs (-(2 : Int) ^ (n - 1)) ((2 : Int) ^ (n - 1) - 1) xs.length)), .bool (bitsO (loS xs (-(2 : Int) ^ (n - 1)) ((2 : Int) ^ (n - 1) - 1) xs.length) (hiS xs (-(2 : Int) ^ (n - 1)) ((2 : Int) ^ (n - 1) - 1) xs.length))]) ∧ Below w.heap.size w w' := by
  obtain ⟨a, n', cap, rfl, hn, hrd⟩ := hu.rd
  have HU := hid hu
  have HW := hid hw
  have Hn := hid hn
  have Hrd := hid hrd
  have hn9 : n' ≤ 9 := by rw [hn]; exact hw.1.2
  obtain ⟨q1, q2⟩ := pow_small n (by omega) n2
  obtain ⟨L, hL⟩ : ∃ L, -(2 : Int) ^ (n - 1) = L := ⟨_, rfl⟩
  obtain ⟨H, hH⟩ : ∃ H, (2 : Int) ^ (n - 1) - 1 = H := ⟨_, rfl⟩
  have l1 : -32768 ≤ L := by omega
  have l2 : L ≤ 32768 := by omega
  have g1 : -32768 ≤ H := by omega
  have g2 : H ≤ 32768 := by omega
  rw [hL, hH]
  have HL := hid hL
  have HH := hid hH
  clear hu hw hn hrd q1 q2 hL hH
  go_enter Try.func23, Try.ntmps23
  have B0 := bel_alloc w (.cells #[.int .i64 (n : Int), .bool wd] 40)
  obtain ⟨hbA, hbB⟩ := box2_cells (Below.refl (w.alloc (.cells #[.int .i64 (n : Int), .bool wd] 40)).heap.size (w.alloc (.cells #[.int .i64 (n : Int), .bool wd] 40)))
  go_wp2_with fail
  refine (weGood_is _ xs true _ (HU.out.kept B0) (wgtB_of HW.out)).mono ?_
  rintro e w' ⟨rfl, rfl⟩
  go_wp2_with fail
  refine (wdGood_yes _ _ _ (by omega) (by omega)).mono ?_
  rintro e wb ⟨rfl, hb1⟩
  have hgz : w.heap.size < (w.alloc (.cells #[.int .i64 (n : Int), .bool wd] 40)).heap.size := by simp
  obtain ⟨hbA, hbB⟩ := boxed hbA hbB (by simp) hb1
  have B1 := bel_step B0 hb1
  have hgz : w.heap.size < wb.heap.size := Nat.lt_of_lt_of_le hgz hb1.size
  clear B0 hb1
  go_wp2_with fail
  go_loopw [6, 7, 23] (fun s0 s1 i wr => ∃ k : Nat, k ≤ n' ∧ s0 = .int .i64 (loS xs L H k) ∧ s1 = .int .i64 (hiS xs L H k) ∧ i = .int .i64 k ∧ Below wb.heap.size wb wr)
    (fun _ _ i _ => n' - (intOf i).toNat)
  case atStart => exact ⟨0, by omega, rfl, rfl, rfl, Below.refl _ _⟩
  case round =>
    obtain ⟨k, hk, rfl, rfl, rfl, hb⟩ := hrel
    by_cases hlk : k < n'
    · obtain ⟨x, hkx⟩ := get_lt xs k (by rw [← Hn.out]; exact hlk)
      obtain ⟨bb, oo, hix, hbb, hce⟩ := (Hrd.out.kept (bel_step B1 hb)).at (P := Try.prog) (T := 25) n' cap uslice sone hkx hlk
      obtain ⟨x1, x2⟩ := HW.out.2.at hkx
      obtain ⟨⟨b1, b2⟩, ⟨b3, b4⟩⟩ := lo_bound HW.out.2 l1 l2 g1 g2 k (by omega)
      have e1 := loS_step xs L H k
      have e2 := hiS_step xs L H k
      rw [show at0 xs k = x from at0_of hkx] at e1 e2
      obtain ⟨hcA, hcB⟩ := boxed hbA hbB hgz hb
      have m1 := mul_in x1 x2 l1 l2 (by omega)
      have m2 := mul_in x1 x2 g1 g2 (by omega)
      have p1 : -32768000 ≤ x * L := by omega
      have p2 : x * L ≤ 32768000 := by omega
      have p3 : -32768000 ≤ x * H := by omega
      have p4 : x * H ≤ 32768000 := by omega
      have hw1 : IntKind.i64.wrap (x * L) = x * L := IntWalk.i64_in _ (by omega)
      have hw2 : IntKind.i64.wrap (x * H) = x * H := IntWalk.i64_in _ (by omega)
      obtain ⟨⟨y1, y2⟩, ⟨y3, y4⟩⟩ := lm_in p1 p2 p3 p4
      have He1 := hid e1
      have He2 := hid e2
      clear e1 e2 hkx m1 m2
      go_wp2_with fail
      go_region_with (first | (go_at_call 41; refine (wdLow_is n wd L _ (by omega) n2 HL.out).mono ?_; rintro e w2 ⟨rfl, hb2⟩; have B2 := hb.drew.trans (hb2.mono (by exact hb.size)); obtain ⟨hdA, hdB⟩ := boxed hbA hbB hgz B2) | (go_at_call 42; refine (wdHigh_is n wd H _ (by omega) n2 HH.out).mono ?_; rintro e w3 ⟨rfl, hb3⟩; have B3 := B2.trans (hb3.mono B2.size); obtain ⟨heA, heB⟩ := boxed hbA hbB hgz B3))
      all_goals clear hw1 hw2
      all_goals go_wp2_with fail
      all_goals refine (l1Least_any _ _ _).mono ?_
      all_goals rintro e w' ⟨rfl, rfl⟩
      all_goals go_wp2_with fail
      all_goals refine (l1Most_any _ _ _).mono ?_
      all_goals rintro e w' ⟨rfl, rfl⟩
      all_goals go_wp2
      all_goals go_roundw
      all_goals (try (case rel => exact ⟨k + 1, by omega, congrArg (Value.int .i64) He1.out.symm, congrArg (Value.int .i64) He2.out.symm, by go_num, B3⟩))
      all_goals (try (case measure => simp [intOf]; omega))
    · have hge : (n' : Int) ≤ (k : Int) := by omega
      have hkn : k = xs.length := by rw [← Hn.out]; omega
      subst hkn
      obtain ⟨⟨b1, b2⟩, ⟨b3, b4⟩⟩ := lo_bound HW.out.2 l1 l2 g1 g2 xs.length (Nat.le_trans HW.out.1.2 (by omega))
      have hB2 := bel_step B1 hb
      have hle := lo_le_hi xs L H xs.length
      clear hlk hk
      generalize hz1e : loS xs L H xs.length = z1 at *
      generalize hz2e : hiS xs L H xs.length = z2 at *
      have Hz1 := hid hz1e
      have Hz2 := hid hz2e
      clear hz1e hz2e hb hbA hbB B1
      go_wp2_with fail
      clear hge
      generalize decide (xs.length < n') = dd
      obtain ⟨wo, hwo⟩ : ∃ wo : World, wo = wr := ⟨_, rfl⟩
      subst hwo
      go_loopw [12] (fun i wq => ∃ b : Nat, 2 ≤ b ∧ b ≤ 41 ∧ i = .int .i64 b ∧ Hid (∀ c, 2 ≤ c → c < b → hasB z1 z2 c = false) ∧ Below w.heap.size w wq)
        (fun i _ => 41 - (intOf i).toNat)
      case atStart => exact ⟨2, by omega, by omega, rfl, fun c h1 h2 => by omega, hB2⟩
      case round =>
        obtain ⟨b, hb2, hb41, rfl, hno, hb⟩ := hrel
        by_cases hb40 : b ≤ 40
        · have f0 : (0 : Int) ≤ (b : Int) - 1 := by omega
          have f1 : (b : Int) ≤ 40 := by omega
          obtain ⟨P1, P2⟩ := pow_mid b hb40
          obtain ⟨P, hP⟩ : ∃ P, (2 : Int) ^ (b - 1) = P := ⟨_, rfl⟩
          rw [hP] at P1 P2
          have HP := hid hP
          have hw : wrap64 ((2 : Int) ^ (b - 1)) = P := by rw [hP]; exact IntWalk.wrap64_in _ (by omega)
          have Hw := hid hw
          clear hP hw
          have w1 : wrap64 (-P) = -P := IntWalk.wrap64_in _ (by omega)
          have w2 : wrap64 (P - 1) = P - 1 := IntWalk.wrap64_in _ (by omega)
          have Hw1 := hid w1
          have Hw2 := hid w2
          have hyes : -P ≤ z1 → z2 ≤ P - 1 → hasB z1 z2 b = true := fun c1 c2 => by unfold hasB; rw [HP.out]; exact decide_eq_true ⟨c1, c2⟩
          have hnot : ¬ (-P ≤ z1 ∧ z2 ≤ P - 1) → hasB z1 z2 b = false := fun c1 => by unfold hasB; rw [HP.out]; exact decide_eq_false c1
          have Hyes := hid hyes
          have Hnot := hid hnot
          have Hno := hid hno
          clear w1 w2 hyes hnot hno
          go_wp2_with fail
          · rename_i h1 h2
            rw [Hw.out, Hw1.out] at h1
            rw [Hw.out, Hw2.out] at h2
            have Hfin := hid (bits_yes hb2 hb40 (Hyes.out h1 h2) Hno.out.out)
            clear h1 h2
            go_ret2
            exact ⟨ret_ib2 (by rw [Hz1.out, Hz2.out]; exact Hfin.out.1.symm) (by rw [Hz1.out, Hz2.out]; exact Hfin.out.2.symm), hb⟩
          · rename_i h1 h2
            rw [Hw.out, Hw2.out] at h2
            have Hs := hid (no_step Hno.out.out (Hnot.out fun c => by omega))
            clear h1 h2
            go_roundw
            case rel => exact ⟨b + 1, by omega, by omega, by go_num, Hs, hb⟩
            case measure => simp [intOf]; omega
          · rename_i h1
            rw [Hw.out, Hw1.out] at h1
            have Hs := hid (no_step Hno.out.out (Hnot.out fun c => by omega))
            clear h1
            go_roundw
            case rel => exact ⟨b + 1, by omega, by omega, by go_num, Hs, hb⟩
            case measure => simp [intOf]; omega
        · obtain rfl : b = 41 := by omega
          have Hfin := hid (bits_no hno.out)
          clear hb40 hno
          go_wp2
          go_ret2
          exact ⟨ret_ib2 (by rw [Hz1.out, Hz2.out]; exact Hfin.out.1.symm) (by rw [Hz1.out, Hz2.out]; exact Hfin.out.2.symm), hb⟩

end Go.Proofs.Ythbbceaaphfhnaa
