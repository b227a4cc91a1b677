
import Derived.Test.YtemlcgfmaikljaaQe
import Derived.Test.YtemlcgfmaikljaaRm
namespace Go.Proofs.Ytemlcgfmaikljaa
open Go.RowKit BitX Go.MemX Go.ShX Go.ChV
set_option linter.unusedVariables false


theorem shape_any (v : Value) (s : List Int) (k : Nat) (mode order : Int) (w : World) (hs : Sl w v s) (hl : s.length ≤ 64) (hi : InP (-100000) 100000 s) (hk : k ≤ 10) (hm : mode = 0 ∨ mode = 1 ∨ mode = 2) (ho : 0 ≤ order ∧ order ≤ 2) :
    Calls Try.prog 22 #[v, .int .i64 (k : Int), .int .i64 mode, .int .i64 order] w (Gives2 w (shL s k mode order) (seL s k mode order)) := by
  obtain rfl | rfl | rfl : order = 0 ∨ order = 1 ∨ order = 2 := by omega
  · exact shape_0 v s k mode w hs hl hi hk hm
  · exact shape_1 v s k mode w hs hl hi hk hm
  · exact shape_2 v s k mode w hs hl hi hk hm


set_option maxHeartbeats 2000000 in
theorem shapedSums_any (v : Value) (s : List Int) (k : Nat) (mode order : Int) (w : World) (hs : Sl w v s) (hl : s.length ≤ 64) (hi : InP (-100000) 100000 s) (hk : k ≤ 10) (hm : mode = 0 ∨ mode = 1 ∨ mode = 2) (ho : 0 ≤ order ∧ order ≤ 2) :
    Calls Try.prog 24 #[v, .int .i64 (k : Int), .int .i64 mode, .int .i64 order] w (GivesL w (sgL s k mode order)) := by
  have HS := hid hs
  have HI := hid hi
  have HP := hid (pow10 k hk).2
  go_enter Try.func24, Try.ntmps24
  go_wp2_with fail
  refine (shape_any v s k mode order _ HS.out hl HI.out hk hm ho).mono ?_
  rintro e w1 ⟨u1, u2, rfl, hr1, _, hb0⟩
  obtain ⟨aa, n, cap, rfl, hn, hrd⟩ := id (hs.kept hb0).rd
  obtain ⟨ab, n2, cap2, rfl, hn2, hrd2⟩ := id hr1.sl.rd
  rw [show (shL s k mode order).length = s.length from tab_len _ _, ← hn] at hn2
  subst hn2
  have Hn := hid hn
  have Hrd := hid hrd
  have Hrd2 := hid hrd2
  have HB := hid hb0
  have hl' : n2 ≤ 64 := by omega
  have hmk := run_make_ints (P := Try.prog) 22 3 uslice iint n2 (by omega)
  clear hs hi hl hm ho hrd hrd2 hr1 hn hb0 HS
  go_wp2_with fail
  go_loopw [12, 28] (fun sm i wr => ∃ c : Nat, c ≤ n2 ∧ sm = .int .i64 (gpS s k mode order c) ∧ i = .int .i64 c ∧ Blk 3 wr w1.heap.size (upTo (sgL s k mode order) c) ∧ Below w1.heap.size w1 wr)
    (fun _ i _ => n2 - (intOf i).toNat)
  case atStart => exact ⟨0, by omega, rfl, rfl, by rw [upTo_zero, sgL, tab_len, ← Hn.out]; exact heap_alloc_new _ _, bel_alloc _ _⟩
  case round =>
    obtain ⟨c, hc, rfl, rfl, hblk, hb⟩ := hrel
    have hsz : w1.heap.size ≤ wr.heap.size := hb.size
    by_cases hlk : c < n2
    · obtain ⟨x, hkx⟩ := get_lt s c (by rw [← Hn.out]; exact hlk)
      obtain ⟨bb, oo, hix, hbb, hce⟩ := (Hrd.out.kept hb).at (P := Try.prog) (T := 22) n2 cap uslice sone hkx hlk
      have hky : (shL s k mode order)[c]? = some (shI s k mode order c) := tab_get _ _ _ (by rw [← Hn.out]; exact hlk)
      obtain ⟨bb2, oo2, hix2, hbb2, hce2⟩ := (Hrd2.out.kept hb).at (P := Try.prog) (T := 22) n2 cap2 uslice sone hky hlk
      obtain ⟨x1, x2⟩ := HI.out.at hkx
      have hq12 := sh_in s k mode order HP.out c (at0_of hkx) x1 x2
      have hss := gpS_succ s k mode order c
      have hkt : (sgL s k mode order)[c]? = some (gpS s k mode order (c + 1)) := tab_get _ (fun i => gpS s k mode order (i + 1)) _ (by rw [← Hn.out]; exact hlk)
      obtain ⟨s1, s2⟩ := gpS_in s k mode order HP.out c (by omega)
      have hcd : wr.cell? ⟨w1.heap.size, c, none⟩ = some (.int .i64 0) := hblk.cell (upTo_get (sgL s k mode order) c (by rw [sgL, tab_len, ← Hn.out]; exact hlk))
      have hfd := hblk.free c
      obtain ⟨q, hq⟩ : ∃ q, q = shI s k mode order c * 2 ^ k := ⟨_, rfl⟩
      rw [at0_of hkx, ← hq] at hss
      rw [← hq] at hq12
      obtain ⟨q1, q2⟩ := hq12
      rw [hss] at hkt
      generalize shI s k mode order c = y at *
      generalize hz : gpS s k mode order c = z at *
      have hw1 : wrap64 (y * 2 ^ k) = q := by rw [← hq]; exact IntWalk.wrap64_in _ (by omega)
      have hw2 : wrap64 (y * 2 ^ min k 64) = q := by rw [Nat.min_eq_left (by omega)]; exact hw1
      have Hss := hid hss
      have Hkt := hid hkt
      have Hblk := hid hblk
      clear hkx hky hkt hss hblk hq hz
      go_wp2
      go_roundw
      case rel => exact ⟨c + 1, by omega, by rw [Hss.out], by go_num, by rw [← upTo_step (sgL s k mode order) c _ Hkt.out]; exact Hblk.out.set c _, hb.setCell (Nat.le_refl _) _⟩
      case measure => simp [intOf]; omega
    · have hge : (n2 : Int) ≤ (c : Int) := by omega
      have hkn : c = (sgL s k mode order).length := by rw [sgL, tab_len, ← Hn.out]; omega
      have hcn : n2 = (sgL s k mode order).length := by omega
      have Hk := hid hkn
      have Hc := hid hcn
      have Hblk := hid hblk
      clear hkn hlk hblk hcn
      go_wp2
      go_ret
      have hbk := Hblk.out
      rw [Hk.out, upTo_full] at hbk
      have h2 := hbk.res (Nat.le_refl _)
      rw [← Hc.out] at h2
      exact ⟨_, rfl, h2.mono HB.out.size, bel_step HB.out hb⟩


def ssR (s : List Int) (k mode order : Int) : List Int := onB (spB s k mode order) (shL s k.toNat mode order) []
theorem ssR_len (s : List Int) (k mode order : Int) (h : s.length ≤ 1048576) : (ssR s k mode order).length ≤ 2000000 := by
  unfold ssR onB; split
  · rw [shL, tab_len]; omega
  · simp


set_option maxHeartbeats 1000000 in
theorem spec_ShapeSignal_is (v : Value) (s : List Int) (k mode order : Int) (w : World) (hs : Sl w v s) :
    Calls Try.prog 7 #[v, .int .i64 k, .int .i64 mode, .int .i64 order] w (Gives w (ssR s k mode order) (spB s k mode order)) := by
  cases hq : spB s k mode order
  · have HS := hid hs
    have HR := hid (show ssR s k mode order = [] from by unfold ssR; rw [hq]; rfl)
    have HQ := hid hq
    clear hq hs
    go_enter Try.func7, Try.ntmps7
    go_wp2_with fail
    refine (dmShaped_q v s k mode order false _ HS.out HQ.out).mono ?_
    rintro e w' ⟨rfl, rfl⟩
    go_wp2_with fail
    go_ret2
    exact gives_of rfl HR.out ⟨_, rfl, .inl ⟨rfl, rfl⟩, Below.refl _ _⟩
  · obtain ⟨hsg, ⟨k1, k2⟩, hm, ho⟩ := spB_t hq
    obtain ⟨n, rfl⟩ : ∃ n : Nat, k = n := ⟨k.toNat, by omega⟩
    have HS := hid hs
    have HR := hid (show ssR s (n : Int) mode order = shL s n mode order from by unfold ssR; rw [hq]; rfl)
    have HQ := hid hq
    have HG := hid hsg
    have HM := hid (show mode = 0 ∨ mode = 1 ∨ mode = 2 from by omega)
    have HO := hid ho
    clear hq hs hsg hm ho
    go_enter Try.func7, Try.ntmps7
    go_wp2_with fail
    refine (dmShaped_q v s n mode order true _ HS.out HQ.out).mono ?_
    rintro e w' ⟨rfl, rfl⟩
    go_wp2_with fail
    refine (dmShape_any v s n mode order _ HS.out HG.out.1 HG.out.2 (by omega) HM.out HO.out).mono ?_
    rintro e w1 ⟨u1, u2, rfl, hr1, hr2, hb⟩
    go_wp2_with fail
    go_ret2
    exact gives_of rfl HR.out ⟨_, rfl, hr1, hb⟩


set_option maxHeartbeats 1000000 in
theorem impl_ShapeSignal_is (v : Value) (s : List Int) (k mode order : Int) (w : World) (hs : Sl w v s) :
    Calls Try.prog 9 #[v, .int .i64 k, .int .i64 mode, .int .i64 order] w (Gives w (ssR s k mode order) (spB s k mode order)) := by
  cases hq : spB s k mode order
  · have HS := hid hs
    have HR := hid (show ssR s k mode order = [] from by unfold ssR; rw [hq]; rfl)
    have HQ := hid hq
    clear hq hs
    go_enter Try.func9, Try.ntmps9
    go_wp2_with fail
    refine (canShape_q v s k mode order false _ HS.out HQ.out).mono ?_
    rintro e w' ⟨rfl, rfl⟩
    go_wp2_with fail
    go_ret2
    exact gives_of rfl HR.out ⟨_, rfl, .inl ⟨rfl, rfl⟩, Below.refl _ _⟩
  · obtain ⟨hsg, ⟨k1, k2⟩, hm, ho⟩ := spB_t hq
    obtain ⟨n, rfl⟩ : ∃ n : Nat, k = n := ⟨k.toNat, by omega⟩
    have HS := hid hs
    have HR := hid (show ssR s (n : Int) mode order = shL s n mode order from by unfold ssR; rw [hq]; rfl)
    have HQ := hid hq
    have HG := hid hsg
    have HM := hid (show mode = 0 ∨ mode = 1 ∨ mode = 2 from by omega)
    have HO := hid ho
    clear hq hs hsg hm ho
    go_enter Try.func9, Try.ntmps9
    go_wp2_with fail
    refine (canShape_q v s n mode order true _ HS.out HQ.out).mono ?_
    rintro e w' ⟨rfl, rfl⟩
    go_wp2_with fail
    refine (shape_any v s n mode order _ HS.out HG.out.1 HG.out.2 (by omega) HM.out HO.out).mono ?_
    rintro e w1 ⟨u1, u2, rfl, hr1, hr2, hb⟩
    go_wp2_with fail
    go_ret2
    exact gives_of rfl HR.out ⟨_, rfl, hr1, hb⟩


set_option maxHeartbeats 1600000 in
theorem gen_FnExactShapeSignal (s : List Int) (k : Int) (mode : Int) (order : Int) (u_s : Option Addr) (l_s c_s : Nat) (ys : List Int) (ok : Bool) (w : World) (hs_s : Sl w (.slice u_s l_s c_s) s) (ll_s : l_s ≤ 1048576) (hl_s : s.length ≤ 1048576) (hy : ys.length ≤ 2000000) (hspec : ∀ (w : World) (v_s : Value), Sl w v_s s → Calls Try.prog 7 #[v_s, .int .i64 k, .int .i64 mode, .int .i64 order] w (Gives w ys ok)) (himpl : ∀ (w : World) (v_s : Value), Sl w v_s s → Calls Try.prog 9 #[v_s, .int .i64 k, .int .i64 mode, .int .i64 order] w (Gives w ys ok)) :
    Calls Try.prog 3 #[.slice u_s l_s c_s, .int .i64 k, .int .i64 mode, .int .i64 order] w fun e w' => e = .returned (.bool true) ∧ Below w.heap.size w w' := by
  have HSs := hid hs_s
  clear hs_s
  have HSP := hid hspec
  have HIM := hid himpl
  clear hspec himpl
  all_goals cases ok
  all_goals
    go_enter Try.func3, Try.ntmps3
    go_wp2_with fail
    refine (toIntS_any _ s _ HSs.out (by omega)).mono ?_
    rintro e w1 ⟨g_As0, hg_As0, rfl, K_As0, hb⟩
    have B1 := hb
    have hz1 : w.heap.size ≤ w1.heap.size := by first | exact hb.size | (have := hb.size; simp at this; omega)
    have As0 := K_As0.res hg_As0
    go_wp2_with fail
    refine (HSP.out _ _ As0.sl).mono ?_
    rintro e w2 ⟨v_R0, rfl, R0, hb⟩
    have B2 := bel_step B1 hb
    have hz2 : w1.heap.size ≤ w2.heap.size := hb.size
    have As0_2 := As0.kept hb
    have hlt0 : ∀ g, v_R0.ownBlock = some g → g < w2.heap.size := fun g hg => R0.lt hg
    have Hlt0 := hid hlt0
    clear hlt0
    go_wp2_with fail
    refine (toIntS_any _ s _ (HSs.out.kept B2) (by omega)).mono ?_
    rintro e w3 ⟨g_Xs, hg_Xs, rfl, K_Xs, hb⟩
    have B3 := bel_step B2 hb
    have hz3 : w2.heap.size ≤ w3.heap.size := hb.size
    have R0_3 := R0.kept hb
    have Xs := K_Xs.res hg_Xs
    have hlt_Xs := K_Xs.lt
    have hne_Xs : ∀ g, v_R0.ownBlock = some g → g ≠ g_Xs := fun g hg => by have a1 := Hlt0.out g hg; omega
    have Hne_Xs := hid hne_Xs
    clear hne_Xs
    have hxl_Xs : g_Xs < w3.heap.size := Xs.lt rfl
    go_wp2_with fail
    refine (HIM.out _ _ Xs.sl).mono ?_
    rintro e w4 ⟨v_R1, rfl, R1, hb⟩
    have B4 := bel_step B3 hb
    have hz4 : w3.heap.size ≤ w4.heap.size := hb.size
    have R0_4 := R0_3.kept hb
    have Xs_4 := Xs.kept hb
    have hne1_Xs : ∀ g, v_R1.ownBlock = some g → g ≠ g_Xs := fun g hg => by have a1 := R1.ge hg; omega
    have Hne1_Xs := hid hne1_Xs
    clear hne1_Xs
    have hne01 : ∀ g, v_R0.ownBlock = some g → v_R1.ownBlock ≠ some g := fun g hg e => by have a1 := R1.ge e; have a2 := Hlt0.out g hg; omega
    have Hne01 := hid hne01
    clear hne01
    have hge1 : ∀ g, v_R1.ownBlock = some g → w3.heap.size ≤ g := fun g hg => R1.ge hg
    have Hge1 := hid hge1
    clear hge1
    go_wp2_with fail
    refine (eqIntS_same _ _ ys _ R1.sl R0_4.sl hy).mono ?_
    rintro e w5 ⟨rfl, hb⟩
    have B5 := bel_step B4 hb
    have hz5 : w4.heap.size ≤ w5.heap.size := hb.size
    have R0_5 := R0_4.kept hb
    have Xs_5 := Xs_4.kept hb
    have R1_5 := R1.kept hb
    go_wp2_with fail
    refine (toIntS_any _ s _ (HSs.out.kept B5) (by omega)).mono ?_
    rintro e w6 ⟨g_TXs, hg_TXs, rfl, K_TXs, hb⟩
    have B6 := bel_step B5 hb
    have hz6 : w5.heap.size ≤ w6.heap.size := hb.size
    have R0_6 := R0_5.kept hb
    have Xs_6 := Xs_5.kept hb
    have R1_6 := R1_5.kept hb
    have TXs := K_TXs.res hg_TXs
    go_wp2_with fail
    refine (eqIntS_same _ _ s _ Xs_6.sl TXs.sl (by omega)).mono ?_
    rintro e w7 ⟨rfl, hb⟩
    have B7 := bel_step B6 hb
    have hz7 : w6.heap.size ≤ w7.heap.size := hb.size
    have R0_7 := R0_6.kept hb
    have Xs_7 := Xs_6.kept hb
    have R1_7 := R1_6.kept hb
    have TXs_7 := TXs.kept hb
    go_wp2_with fail
    refine (markIntS_one _ s _ _ Xs_7 (by omega)).mono ?_
    rintro e w8 ⟨rfl, ho, _⟩
    have B8 := B7.trans (ho.below fun g hg => by cases hg; exact Nat.le_trans B2.size hg_Xs)
    have hz8 : w7.heap.size ≤ w8.heap.size := Nat.le_of_eq ho.size.symm
    have R0_8 := R0_7.only ho fun g hg e => by cases e; exact Hne_Xs.out _ hg rfl
    have R1_8 := R1_7.only ho fun g hg e => by cases e; exact Hne1_Xs.out _ hg rfl
    go_wp2_with fail
    refine (eqIntS_same _ _ ys _ R1_8.sl R0_8.sl hy).mono ?_
    rintro e w9 ⟨rfl, hb⟩
    have B9 := bel_step B8 hb
    have hz9 : w8.heap.size ≤ w9.heap.size := hb.size
    have R0_9 := R0_8.kept hb
    have R1_9 := R1_8.kept hb
    go_wp2_with fail
    refine (markIntS_one _ ys _ _ R1_9 hy).mono ?_
    rintro e w10 ⟨rfl, ho, M⟩
    have B10 := B9.trans (ho.below fun g hg => Nat.le_trans B3.size (Hge1.out g hg))
    have hz10 : w9.heap.size ≤ w10.heap.size := Nat.le_of_eq ho.size.symm
    have R0_10 := R0_9.only ho Hne01.out
    go_wp2_with fail
    refine (heldIntS_one _ ys.length _ _ M hy).mono ?_
    rintro e w' ⟨rfl, rfl⟩
    go_wp2_with fail
    refine (toIntS_any _ s _ (HSs.out.kept B10) (by omega)).mono ?_
    rintro e w11 ⟨g_As10, hg_As10, rfl, K_As10, hb⟩
    have B11 := bel_step B10 hb
    have hz11 : w10.heap.size ≤ w11.heap.size := hb.size
    have R0_11 := R0_10.kept hb
    have M_11 := M.kept hb
    have As10 := K_As10.res hg_As10
    go_wp2_with fail
    refine (HIM.out _ _ As10.sl).mono ?_
    rintro e w12 ⟨v_R2, rfl, R2, hb⟩
    have B12 := bel_step B11 hb
    have hz12 : w11.heap.size ≤ w12.heap.size := hb.size
    have R0_12 := R0_11.kept hb
    have M_12 := M_11.kept hb
    have As10_12 := As10.kept hb
    go_wp2_with fail
    refine (eqIntS_same _ _ ys _ R2.sl R0_12.sl hy).mono ?_
    rintro e w13 ⟨rfl, hb⟩
    have B13 := bel_step B12 hb
    have hz13 : w12.heap.size ≤ w13.heap.size := hb.size
    have R0_13 := R0_12.kept hb
    have M_13 := M_12.kept hb
    have R2_13 := R2.kept hb
    go_wp2_with fail
    refine (heldIntS_one _ ys.length _ _ M_13 hy).mono ?_
    rintro e w' ⟨rfl, rfl⟩
    go_wp2_with fail
    go_ret
    exact ⟨rfl, B13⟩


set_option maxHeartbeats 1600000 in
theorem walk_FnExactShapeSignal (w : World) (u_s : Option Addr) (l_s c_s : Nat) (z_s : List Int) (hr_s : IsRow .i64 w u_s l_s c_s z_s) (k : Int) (w_k : (Lit.int .i64 k).wf = true) (mode : Int) (w_mode : (Lit.int .i64 mode).wf = true) (order : Int) (w_order : (Lit.int .i64 order).wf = true) :
    Calls Try.prog 3 #[.slice u_s l_s c_s, .int .i64 k, .int .i64 mode, .int .i64 order] w fun e w' => e = .returned (.bool true) ∧ Below w.heap.size w w' := by
  obtain ⟨hs_s, hlen_s, hin_s⟩ := hr_s.sl
  generalize z_s.take l_s = s at hs_s hlen_s hin_s
  clear hr_s
  obtain ⟨k_1, k_2⟩ := bounds_i64 w_k
  obtain ⟨mode_1, mode_2⟩ := bounds_i64 w_mode
  obtain ⟨order_1, order_2⟩ := bounds_i64 w_order
  by_cases hbig_s : 1048576 < l_s
  · clear hs_s hlen_s hin_s
    go_enter Try.func3, Try.ntmps3
    go_wp2
    go_ret
    exact ⟨rfl, Below.refl _ _⟩
  · have hq_s : l_s ≤ 1048576 := by omega
    exact gen_FnExactShapeSignal s k mode order _ _ _ (ssR s k mode order) (spB s k mode order) w hs_s (by omega) (by omega) (ssR_len _ _ _ _ (by omega)) (fun w v_s h_s => spec_ShapeSignal_is v_s s k mode order w h_s) (fun w v_s h_s => impl_ShapeSignal_is v_s s k mode order w h_s)


def seR (s : List Int) (k mode order : Int) : List Int := onB (spB s k mode order) (seL s k.toNat mode order) []
theorem seR_len (s : List Int) (k mode order : Int) (h : s.length ≤ 1048576) : (seR s k mode order).length ≤ 2000000 := by
  unfold seR onB; split
  · rw [seL, tab_len]; omega
  · simp


set_option maxHeartbeats 1000000 in
theorem spec_ShapeErrors_is (v : Value) (s : List Int) (k mode order : Int) (w : World) (hs : Sl w v s) :
    Calls Try.prog 13 #[v, .int .i64 k, .int .i64 mode, .int .i64 order] w (Gives w (seR s k mode order) (spB s k mode order)) := by
  cases hq : spB s k mode order
  · have HS := hid hs
    have HR := hid (show seR s k mode order = [] from by unfold seR; rw [hq]; rfl)
    have HQ := hid hq
    clear hq hs
    go_enter Try.func13, Try.ntmps13
    go_wp2_with fail
    refine (dmShaped_q v s k mode order false _ HS.out HQ.out).mono ?_
    rintro e w' ⟨rfl, rfl⟩
    go_wp2_with fail
    go_ret2
    exact gives_of rfl HR.out ⟨_, rfl, .inl ⟨rfl, rfl⟩, Below.refl _ _⟩
  · obtain ⟨hsg, ⟨k1, k2⟩, hm, ho⟩ := spB_t hq
    obtain ⟨n, rfl⟩ : ∃ n : Nat, k = n := ⟨k.toNat, by omega⟩
    have HS := hid hs
    have HR := hid (show seR s (n : Int) mode order = seL s n mode order from by unfold seR; rw [hq]; rfl)
    have HQ := hid hq
    have HG := hid hsg
    have HM := hid (show mode = 0 ∨ mode = 1 ∨ mode = 2 from by omega)
    have HO := hid ho
    clear hq hs hsg hm ho
    go_enter Try.func13, Try.ntmps13
    go_wp2_with fail
    refine (dmShaped_q v s n mode order true _ HS.out HQ.out).mono ?_
    rintro e w' ⟨rfl, rfl⟩
    go_wp2_with fail
    refine (dmShape_any v s n mode order _ HS.out HG.out.1 HG.out.2 (by omega) HM.out HO.out).mono ?_
    rintro e w1 ⟨u1, u2, rfl, hr1, hr2, hb⟩
    go_wp2_with fail
    go_ret2
    exact gives_of rfl HR.out ⟨_, rfl, hr2, hb⟩


set_option maxHeartbeats 1000000 in
theorem impl_ShapeErrors_is (v : Value) (s : List Int) (k mode order : Int) (w : World) (hs : Sl w v s) :
    Calls Try.prog 14 #[v, .int .i64 k, .int .i64 mode, .int .i64 order] w (Gives w (seR s k mode order) (spB s k mode order)) := by
  cases hq : spB s k mode order
  · have HS := hid hs
    have HR := hid (show seR s k mode order = [] from by unfold seR; rw [hq]; rfl)
    have HQ := hid hq
    clear hq hs
    go_enter Try.func14, Try.ntmps14
    go_wp2_with fail
    refine (canShape_q v s k mode order false _ HS.out HQ.out).mono ?_
    rintro e w' ⟨rfl, rfl⟩
    go_wp2_with fail
    go_ret2
    exact gives_of rfl HR.out ⟨_, rfl, .inl ⟨rfl, rfl⟩, Below.refl _ _⟩
  · obtain ⟨hsg, ⟨k1, k2⟩, hm, ho⟩ := spB_t hq
    obtain ⟨n, rfl⟩ : ∃ n : Nat, k = n := ⟨k.toNat, by omega⟩
    have HS := hid hs
    have HR := hid (show seR s (n : Int) mode order = seL s n mode order from by unfold seR; rw [hq]; rfl)
    have HQ := hid hq
    have HG := hid hsg
    have HM := hid (show mode = 0 ∨ mode = 1 ∨ mode = 2 from by omega)
    have HO := hid ho
    clear hq hs hsg hm ho
    go_enter Try.func14, Try.ntmps14
    go_wp2_with fail
    refine (canShape_q v s n mode order true _ HS.out HQ.out).mono ?_
    rintro e w' ⟨rfl, rfl⟩
    go_wp2_with fail
    refine (shape_any v s n mode order _ HS.out HG.out.1 HG.out.2 (by omega) HM.out HO.out).mono ?_
    rintro e w1 ⟨u1, u2, rfl, hr1, hr2, hb⟩
    go_wp2_with fail
    go_ret2
    exact gives_of rfl HR.out ⟨_, rfl, hr2, hb⟩


set_option maxHeartbeats 1600000 in
theorem gen_FnExactShapeErrors (s : List Int) (k : Int) (mode : Int) (order : Int) (u_s : Option Addr) (l_s c_s : Nat) (ys : List Int) (ok : Bool) (w : World) (hs_s : Sl w (.slice u_s l_s c_s) s) (ll_s : l_s ≤ 1048576) (hl_s : s.length ≤ 1048576) (hy : ys.length ≤ 2000000) (hspec : ∀ (w : World) (v_s : Value), Sl w v_s s → Calls Try.prog 13 #[v_s, .int .i64 k, .int .i64 mode, .int .i64 order] w (Gives w ys ok)) (himpl : ∀ (w : World) (v_s : Value), Sl w v_s s → Calls Try.prog 14 #[v_s, .int .i64 k, .int .i64 mode, .int .i64 order] w (Gives w ys ok)) :
    Calls Try.prog 4 #[.slice u_s l_s c_s, .int .i64 k, .int .i64 mode, .int .i64 order] w fun e w' => e = .returned (.bool true) ∧ Below w.heap.size w w' := by
  have HSs := hid hs_s
  clear hs_s
  have HSP := hid hspec
  have HIM := hid himpl
  clear hspec himpl
  all_goals cases ok
  all_goals
    go_enter Try.func4, Try.ntmps4
    go_wp2_with fail
    refine (toIntS_any _ s _ HSs.out (by omega)).mono ?_
    rintro e w1 ⟨g_As0, hg_As0, rfl, K_As0, hb⟩
    have B1 := hb
    have hz1 : w.heap.size ≤ w1.heap.size := by first | exact hb.size | (have := hb.size; simp at this; omega)
    have As0 := K_As0.res hg_As0
    go_wp2_with fail
    refine (HSP.out _ _ As0.sl).mono ?_
    rintro e w2 ⟨v_R0, rfl, R0, hb⟩
    have B2 := bel_step B1 hb
    have hz2 : w1.heap.size ≤ w2.heap.size := hb.size
    have As0_2 := As0.kept hb
    have hlt0 : ∀ g, v_R0.ownBlock = some g → g < w2.heap.size := fun g hg => R0.lt hg
    have Hlt0 := hid hlt0
    clear hlt0
    go_wp2_with fail
    refine (toIntS_any _ s _ (HSs.out.kept B2) (by omega)).mono ?_
    rintro e w3 ⟨g_Xs, hg_Xs, rfl, K_Xs, hb⟩
    have B3 := bel_step B2 hb
    have hz3 : w2.heap.size ≤ w3.heap.size := hb.size
    have R0_3 := R0.kept hb
    have Xs := K_Xs.res hg_Xs
    have hlt_Xs := K_Xs.lt
    have hne_Xs : ∀ g, v_R0.ownBlock = some g → g ≠ g_Xs := fun g hg => by have a1 := Hlt0.out g hg; omega
    have Hne_Xs := hid hne_Xs
    clear hne_Xs
    have hxl_Xs : g_Xs < w3.heap.size := Xs.lt rfl
    go_wp2_with fail
    refine (HIM.out _ _ Xs.sl).mono ?_
    rintro e w4 ⟨v_R1, rfl, R1, hb⟩
    have B4 := bel_step B3 hb
    have hz4 : w3.heap.size ≤ w4.heap.size := hb.size
    have R0_4 := R0_3.kept hb
    have Xs_4 := Xs.kept hb
    have hne1_Xs : ∀ g, v_R1.ownBlock = some g → g ≠ g_Xs := fun g hg => by have a1 := R1.ge hg; omega
    have Hne1_Xs := hid hne1_Xs
    clear hne1_Xs
    have hne01 : ∀ g, v_R0.ownBlock = some g → v_R1.ownBlock ≠ some g := fun g hg e => by have a1 := R1.ge e; have a2 := Hlt0.out g hg; omega
    have Hne01 := hid hne01
    clear hne01
    have hge1 : ∀ g, v_R1.ownBlock = some g → w3.heap.size ≤ g := fun g hg => R1.ge hg
    have Hge1 := hid hge1
    clear hge1
    go_wp2_with fail
    refine (eqIntS_same _ _ ys _ R1.sl R0_4.sl hy).mono ?_
    rintro e w5 ⟨rfl, hb⟩
    have B5 := bel_step B4 hb
    have hz5 : w4.heap.size ≤ w5.heap.size := hb.size
    have R0_5 := R0_4.kept hb
    have Xs_5 := Xs_4.kept hb
    have R1_5 := R1.kept hb
    go_wp2_with fail
    refine (toIntS_any _ s _ (HSs.out.kept B5) (by omega)).mono ?_
    rintro e w6 ⟨g_TXs, hg_TXs, rfl, K_TXs, hb⟩
    have B6 := bel_step B5 hb
    have hz6 : w5.heap.size ≤ w6.heap.size := hb.size
    have R0_6 := R0_5.kept hb
    have Xs_6 := Xs_5.kept hb
    have R1_6 := R1_5.kept hb
    have TXs := K_TXs.res hg_TXs
    go_wp2_with fail
    refine (eqIntS_same _ _ s _ Xs_6.sl TXs.sl (by omega)).mono ?_
    rintro e w7 ⟨rfl, hb⟩
    have B7 := bel_step B6 hb
    have hz7 : w6.heap.size ≤ w7.heap.size := hb.size
    have R0_7 := R0_6.kept hb
    have Xs_7 := Xs_6.kept hb
    have R1_7 := R1_6.kept hb
    have TXs_7 := TXs.kept hb
    go_wp2_with fail
    refine (markIntS_one _ s _ _ Xs_7 (by omega)).mono ?_
    rintro e w8 ⟨rfl, ho, _⟩
    have B8 := B7.trans (ho.below fun g hg => by cases hg; exact Nat.le_trans B2.size hg_Xs)
    have hz8 : w7.heap.size ≤ w8.heap.size := Nat.le_of_eq ho.size.symm
    have R0_8 := R0_7.only ho fun g hg e => by cases e; exact Hne_Xs.out _ hg rfl
    have R1_8 := R1_7.only ho fun g hg e => by cases e; exact Hne1_Xs.out _ hg rfl
    go_wp2_with fail
    refine (eqIntS_same _ _ ys _ R1_8.sl R0_8.sl hy).mono ?_
    rintro e w9 ⟨rfl, hb⟩
    have B9 := bel_step B8 hb
    have hz9 : w8.heap.size ≤ w9.heap.size := hb.size
    have R0_9 := R0_8.kept hb
    have R1_9 := R1_8.kept hb
    go_wp2_with fail
    refine (markIntS_one _ ys _ _ R1_9 hy).mono ?_
    rintro e w10 ⟨rfl, ho, M⟩
    have B10 := B9.trans (ho.below fun g hg => Nat.le_trans B3.size (Hge1.out g hg))
    have hz10 : w9.heap.size ≤ w10.heap.size := Nat.le_of_eq ho.size.symm
    have R0_10 := R0_9.only ho Hne01.out
    go_wp2_with fail
    refine (heldIntS_one _ ys.length _ _ M hy).mono ?_
    rintro e w' ⟨rfl, rfl⟩
    go_wp2_with fail
    refine (toIntS_any _ s _ (HSs.out.kept B10) (by omega)).mono ?_
    rintro e w11 ⟨g_As10, hg_As10, rfl, K_As10, hb⟩
    have B11 := bel_step B10 hb
    have hz11 : w10.heap.size ≤ w11.heap.size := hb.size
    have R0_11 := R0_10.kept hb
    have M_11 := M.kept hb
    have As10 := K_As10.res hg_As10
    go_wp2_with fail
    refine (HIM.out _ _ As10.sl).mono ?_
    rintro e w12 ⟨v_R2, rfl, R2, hb⟩
    have B12 := bel_step B11 hb
    have hz12 : w11.heap.size ≤ w12.heap.size := hb.size
    have R0_12 := R0_11.kept hb
    have M_12 := M_11.kept hb
    have As10_12 := As10.kept hb
    go_wp2_with fail
    refine (eqIntS_same _ _ ys _ R2.sl R0_12.sl hy).mono ?_
    rintro e w13 ⟨rfl, hb⟩
    have B13 := bel_step B12 hb
    have hz13 : w12.heap.size ≤ w13.heap.size := hb.size
    have R0_13 := R0_12.kept hb
    have M_13 := M_12.kept hb
    have R2_13 := R2.kept hb
    go_wp2_with fail
    refine (heldIntS_one _ ys.length _ _ M_13 hy).mono ?_
    rintro e w' ⟨rfl, rfl⟩
    go_wp2_with fail
    go_ret
    exact ⟨rfl, B13⟩


set_option maxHeartbeats 1600000 in
theorem walk_FnExactShapeErrors (w : World) (u_s : Option Addr) (l_s c_s : Nat) (z_s : List Int) (hr_s : IsRow .i64 w u_s l_s c_s z_s) (k : Int) (w_k : (Lit.int .i64 k).wf = true) (mode : Int) (w_mode : (Lit.int .i64 mode).wf = true) (order : Int) (w_order : (Lit.int .i64 order).wf = true) :
    Calls Try.prog 4 #[.slice u_s l_s c_s, .int .i64 k, .int .i64 mode, .int .i64 order] w fun e w' => e = .returned (.bool true) ∧ Below w.heap.size w w' := by
  obtain ⟨hs_s, hlen_s, hin_s⟩ := hr_s.sl
  generalize z_s.take l_s = s at hs_s hlen_s hin_s
  clear hr_s
  obtain ⟨k_1, k_2⟩ := bounds_i64 w_k
  obtain ⟨mode_1, mode_2⟩ := bounds_i64 w_mode
  obtain ⟨order_1, order_2⟩ := bounds_i64 w_order
  by_cases hbig_s : 1048576 < l_s
  · clear hs_s hlen_s hin_s
    go_enter Try.func4, Try.ntmps4
    go_wp2
    go_ret
    exact ⟨rfl, Below.refl _ _⟩
  · have hq_s : l_s ≤ 1048576 := by omega
    exact gen_FnExactShapeErrors s k mode order _ _ _ (seR s k mode order) (spB s k mode order) w hs_s (by omega) (by omega) (seR_len _ _ _ _ (by omega)) (fun w v_s h_s => spec_ShapeErrors_is v_s s k mode order w h_s) (fun w v_s h_s => impl_ShapeErrors_is v_s s k mode order w h_s)


def sgR (s : List Int) (k mode order : Int) : List Int := onB (spB s k mode order) (sgL s k.toNat mode order) []
theorem sgR_len (s : List Int) (k mode order : Int) (h : s.length ≤ 1048576) : (sgR s k mode order).length ≤ 2000000 := by
  unfold sgR onB; split
  · rw [sgL, tab_len]; omega
  · simp


set_option maxHeartbeats 1000000 in
theorem spec_ShapedSums_is (v : Value) (s : List Int) (k mode order : Int) (w : World) (hs : Sl w v s) :
    Calls Try.prog 15 #[v, .int .i64 k, .int .i64 mode, .int .i64 order] w (Gives w (sgR s k mode order) (spB s k mode order)) := by
  cases hq : spB s k mode order
  · have HS := hid hs
    have HR := hid (show sgR s k mode order = [] from by unfold sgR; rw [hq]; rfl)
    have HQ := hid hq
    clear hq hs
    go_enter Try.func15, Try.ntmps15
    go_wp2_with fail
    refine (dmShaped_q v s k mode order false _ HS.out HQ.out).mono ?_
    rintro e w' ⟨rfl, rfl⟩
    go_wp2_with fail
    go_ret2
    exact gives_of rfl HR.out ⟨_, rfl, .inl ⟨rfl, rfl⟩, Below.refl _ _⟩
  · obtain ⟨hsg, ⟨k1, k2⟩, hm, ho⟩ := spB_t hq
    obtain ⟨n, rfl⟩ : ∃ n : Nat, k = n := ⟨k.toNat, by omega⟩
    have HS := hid hs
    have HR := hid (show sgR s (n : Int) mode order = sgL s n mode order from by unfold sgR; rw [hq]; rfl)
    have HQ := hid hq
    have HG := hid hsg
    have HM := hid (show mode = 0 ∨ mode = 1 ∨ mode = 2 from by omega)
    have HO := hid ho
    clear hq hs hsg hm ho
    go_enter Try.func15, Try.ntmps15
    go_wp2_with fail
    refine (dmShaped_q v s n mode order true _ HS.out HQ.out).mono ?_
    rintro e w' ⟨rfl, rfl⟩
    go_wp2_with fail
    refine (dmGaps_any v s n mode order _ HS.out HG.out.1 HG.out.2 (by omega) HM.out HO.out).mono ?_
    rintro e w1 ⟨u1, rfl, hr1, hb⟩
    go_wp2_with fail
    go_ret2
    exact gives_of rfl HR.out ⟨_, rfl, hr1, hb⟩


set_option maxHeartbeats 1000000 in
theorem impl_ShapedSums_is (v : Value) (s : List Int) (k mode order : Int) (w : World) (hs : Sl w v s) :
    Calls Try.prog 16 #[v, .int .i64 k, .int .i64 mode, .int .i64 order] w (Gives w (sgR s k mode order) (spB s k mode order)) := by
  cases hq : spB s k mode order
  · have HS := hid hs
    have HR := hid (show sgR s k mode order = [] from by unfold sgR; rw [hq]; rfl)
    have HQ := hid hq
    clear hq hs
    go_enter Try.func16, Try.ntmps16
    go_wp2_with fail
    refine (canShape_q v s k mode order false _ HS.out HQ.out).mono ?_
    rintro e w' ⟨rfl, rfl⟩
    go_wp2_with fail
    go_ret2
    exact gives_of rfl HR.out ⟨_, rfl, .inl ⟨rfl, rfl⟩, Below.refl _ _⟩
  · obtain ⟨hsg, ⟨k1, k2⟩, hm, ho⟩ := spB_t hq
    obtain ⟨n, rfl⟩ : ∃ n : Nat, k = n := ⟨k.toNat, by omega⟩
    have HS := hid hs
    have HR := hid (show sgR s (n : Int) mode order = sgL s n mode order from by unfold sgR; rw [hq]; rfl)
    have HQ := hid hq
    have HG := hid hsg
    have HM := hid (show mode = 0 ∨ mode = 1 ∨ mode = 2 from by omega)
    have HO := hid ho
    clear hq hs hsg hm ho
    go_enter Try.func16, Try.ntmps16
    go_wp2_with fail
    refine (canShape_q v s n mode order true _ HS.out HQ.out).mono ?_
    rintro e w' ⟨rfl, rfl⟩
    go_wp2_with fail
    refine (shapedSums_any v s n mode order _ HS.out HG.out.1 HG.out.2 (by omega) HM.out HO.out).mono ?_
    rintro e w1 ⟨u1, rfl, hr1, hb⟩
    go_wp2_with fail
    go_ret2
    exact gives_of rfl HR.out ⟨_, rfl, hr1, hb⟩


set_option maxHeartbeats 1600000 in
theorem gen_FnExactShapedSums (s : List Int) (k : Int) (mode : Int) (order : Int) (u_s : Option Addr) (l_s c_s : Nat) (ys : List Int) (ok : Bool) (w : World) (hs_s : Sl w (.slice u_s l_s c_s) s) (ll_s : l_s ≤ 1048576) (hl_s : s.length ≤ 1048576) (hy : ys.length ≤ 2000000) (hspec : ∀ (w : World) (v_s : Value), Sl w v_s s → Calls Try.prog 15 #[v_s, .int .i64 k, .int .i64 mode, .int .i64 order] w (Gives w ys ok)) (himpl : ∀ (w : World) (v_s : Value), Sl w v_s s → Calls Try.prog 16 #[v_s, .int .i64 k, .int .i64 mode, .int .i64 order] w (Gives w ys ok)) :
    Calls Try.prog 5 #[.slice u_s l_s c_s, .int .i64 k, .int .i64 mode, .int .i64 order] w fun e w' => e = .returned (.bool true) ∧ Below w.heap.size w w' := by
  have HSs := hid hs_s
  clear hs_s
  have HSP := hid hspec
  have HIM := hid himpl
  clear hspec himpl
  all_goals cases ok
  all_goals
    go_enter Try.func5, Try.ntmps5
    go_wp2_with fail
    refine (toIntS_any _ s _ HSs.out (by omega)).mono ?_
    rintro e w1 ⟨g_As0, hg_As0, rfl, K_As0, hb⟩
    have B1 := hb
    have hz1 : w.heap.size ≤ w1.heap.size := by first | exact hb.size | (have := hb.size; simp at this; omega)
    have As0 := K_As0.res hg_As0
    go_wp2_with fail
    refine (HSP.out _ _ As0.sl).mono ?_
    rintro e w2 ⟨v_R0, rfl, R0, hb⟩
    have B2 := bel_step B1 hb
    have hz2 : w1.heap.size ≤ w2.heap.size := hb.size
    have As0_2 := As0.kept hb
    have hlt0 : ∀ g, v_R0.ownBlock = some g → g < w2.heap.size := fun g hg => R0.lt hg
    have Hlt0 := hid hlt0
    clear hlt0
    go_wp2_with fail
    refine (toIntS_any _ s _ (HSs.out.kept B2) (by omega)).mono ?_
    rintro e w3 ⟨g_Xs, hg_Xs, rfl, K_Xs, hb⟩
    have B3 := bel_step B2 hb
    have hz3 : w2.heap.size ≤ w3.heap.size := hb.size
    have R0_3 := R0.kept hb
    have Xs := K_Xs.res hg_Xs
    have hlt_Xs := K_Xs.lt
    have hne_Xs : ∀ g, v_R0.ownBlock = some g → g ≠ g_Xs := fun g hg => by have a1 := Hlt0.out g hg; omega
    have Hne_Xs := hid hne_Xs
    clear hne_Xs
    have hxl_Xs : g_Xs < w3.heap.size := Xs.lt rfl
    go_wp2_with fail
    refine (HIM.out _ _ Xs.sl).mono ?_
    rintro e w4 ⟨v_R1, rfl, R1, hb⟩
    have B4 := bel_step B3 hb
    have hz4 : w3.heap.size ≤ w4.heap.size := hb.size
    have R0_4 := R0_3.kept hb
    have Xs_4 := Xs.kept hb
    have hne1_Xs : ∀ g, v_R1.ownBlock = some g → g ≠ g_Xs := fun g hg => by have a1 := R1.ge hg; omega
    have Hne1_Xs := hid hne1_Xs
    clear hne1_Xs
    have hne01 : ∀ g, v_R0.ownBlock = some g → v_R1.ownBlock ≠ some g := fun g hg e => by have a1 := R1.ge e; have a2 := Hlt0.out g hg; omega
    have Hne01 := hid hne01
    clear hne01
    have hge1 : ∀ g, v_R1.ownBlock = some g → w3.heap.size ≤ g := fun g hg => R1.ge hg
    have Hge1 := hid hge1
    clear hge1
    go_wp2_with fail
    refine (eqIntS_same _ _ ys _ R1.sl R0_4.sl hy).mono ?_
    rintro e w5 ⟨rfl, hb⟩
    have B5 := bel_step B4 hb
    have hz5 : w4.heap.size ≤ w5.heap.size := hb.size
    have R0_5 := R0_4.kept hb
    have Xs_5 := Xs_4.kept hb
    have R1_5 := R1.kept hb
    go_wp2_with fail
    refine (toIntS_any _ s _ (HSs.out.kept B5) (by omega)).mono ?_
    rintro e w6 ⟨g_TXs, hg_TXs, rfl, K_TXs, hb⟩
    have B6 := bel_step B5 hb
    have hz6 : w5.heap.size ≤ w6.heap.size := hb.size
    have R0_6 := R0_5.kept hb
    have Xs_6 := Xs_5.kept hb
    have R1_6 := R1_5.kept hb
    have TXs := K_TXs.res hg_TXs
    go_wp2_with fail
    refine (eqIntS_same _ _ s _ Xs_6.sl TXs.sl (by omega)).mono ?_
    rintro e w7 ⟨rfl, hb⟩
    have B7 := bel_step B6 hb
    have hz7 : w6.heap.size ≤ w7.heap.size := hb.size
    have R0_7 := R0_6.kept hb
    have Xs_7 := Xs_6.kept hb
    have R1_7 := R1_6.kept hb
    have TXs_7 := TXs.kept hb
    go_wp2_with fail
    refine (markIntS_one _ s _ _ Xs_7 (by omega)).mono ?_
    rintro e w8 ⟨rfl, ho, _⟩
    have B8 := B7.trans (ho.below fun g hg => by cases hg; exact Nat.le_trans B2.size hg_Xs)
    have hz8 : w7.heap.size ≤ w8.heap.size := Nat.le_of_eq ho.size.symm
    have R0_8 := R0_7.only ho fun g hg e => by cases e; exact Hne_Xs.out _ hg rfl
    have R1_8 := R1_7.only ho fun g hg e => by cases e; exact Hne1_Xs.out _ hg rfl
    go_wp2_with fail
    refine (eqIntS_same _ _ ys _ R1_8.sl R0_8.sl hy).mono ?_
    rintro e w9 ⟨rfl, hb⟩
    have B9 := bel_step B8 hb
    have hz9 : w8.heap.size ≤ w9.heap.size := hb.size
    have R0_9 := R0_8.kept hb
    have R1_9 := R1_8.kept hb
    go_wp2_with fail
    refine (markIntS_one _ ys _ _ R1_9 hy).mono ?_
    rintro e w10 ⟨rfl, ho, M⟩
    have B10 := B9.trans (ho.below fun g hg => Nat.le_trans B3.size (Hge1.out g hg))
    have hz10 : w9.heap.size ≤ w10.heap.size := Nat.le_of_eq ho.size.symm
    have R0_10 := R0_9.only ho Hne01.out
    go_wp2_with fail
    refine (heldIntS_one _ ys.length _ _ M hy).mono ?_
    rintro e w' ⟨rfl, rfl⟩
    go_wp2_with fail
    refine (toIntS_any _ s _ (HSs.out.kept B10) (by omega)).mono ?_
    rintro e w11 ⟨g_As10, hg_As10, rfl, K_As10, hb⟩
    have B11 := bel_step B10 hb
    have hz11 : w10.heap.size ≤ w11.heap.size := hb.size
    have R0_11 := R0_10.kept hb
    have M_11 := M.kept hb
    have As10 := K_As10.res hg_As10
    go_wp2_with fail
    refine (HIM.out _ _ As10.sl).mono ?_
    rintro e w12 ⟨v_R2, rfl, R2, hb⟩
    have B12 := bel_step B11 hb
    have hz12 : w11.heap.size ≤ w12.heap.size := hb.size
    have R0_12 := R0_11.kept hb
    have M_12 := M_11.kept hb
    have As10_12 := As10.kept hb
    go_wp2_with fail
    refine (eqIntS_same _ _ ys _ R2.sl R0_12.sl hy).mono ?_
    rintro e w13 ⟨rfl, hb⟩
    have B13 := bel_step B12 hb
    have hz13 : w12.heap.size ≤ w13.heap.size := hb.size
    have R0_13 := R0_12.kept hb
    have M_13 := M_12.kept hb
    have R2_13 := R2.kept hb
    go_wp2_with fail
    refine (heldIntS_one _ ys.length _ _ M_13 hy).mono ?_
    rintro e w' ⟨rfl, rfl⟩
    go_wp2_with fail
    go_ret
    exact ⟨rfl, B13⟩


set_option maxHeartbeats 1600000 in
theorem walk_FnExactShapedSums (w : World) (u_s : Option Addr) (l_s c_s : Nat) (z_s : List Int) (hr_s : IsRow .i64 w u_s l_s c_s z_s) (k : Int) (w_k : (Lit.int .i64 k).wf = true) (mode : Int) (w_mode : (Lit.int .i64 mode).wf = true) (order : Int) (w_order : (Lit.int .i64 order).wf = true) :
    Calls Try.prog 5 #[.slice u_s l_s c_s, .int .i64 k, .int .i64 mode, .int .i64 order] w fun e w' => e = .returned (.bool true) ∧ Below w.heap.size w w' := by
  obtain ⟨hs_s, hlen_s, hin_s⟩ := hr_s.sl
  generalize z_s.take l_s = s at hs_s hlen_s hin_s
  clear hr_s
  obtain ⟨k_1, k_2⟩ := bounds_i64 w_k
  obtain ⟨mode_1, mode_2⟩ := bounds_i64 w_mode
  obtain ⟨order_1, order_2⟩ := bounds_i64 w_order
  by_cases hbig_s : 1048576 < l_s
  · clear hs_s hlen_s hin_s
    go_enter Try.func5, Try.ntmps5
    go_wp2
    go_ret
    exact ⟨rfl, Below.refl _ _⟩
  · have hq_s : l_s ≤ 1048576 := by omega
    exact gen_FnExactShapedSums s k mode order _ _ _ (sgR s k mode order) (spB s k mode order) w hs_s (by omega) (by omega) (sgR_len _ _ _ _ (by omega)) (fun w v_s h_s => spec_ShapedSums_is v_s s k mode order w h_s) (fun w v_s h_s => impl_ShapedSums_is v_s s k mode order w h_s)

end Go.Proofs.Ytemlcgfmaikljaa
