
import Derived.Test.YtheodagbkplgiaaQz
import Derived.Deep.QuietTactic
import Derived.BigQuiet
namespace Go.Proofs.Ytheodagbkplgiaa
open Go.RowKit BitX Go.MemX Go.Conc Go.ChV
set_option linter.unusedVariables false


theorem enterL2 : ∀ (args : Array Value) (w : World), (callFunc 54 args).run Try.prog w = .ok (.enter 54 args) w := enters_of Try.func54 (by kernel_rfl) rfl
theorem enterS2 : ∀ (args : Array Value) (w : World), (callFunc 55 args).run Try.prog w = .ok (.enter 55 args) w := enters_of Try.func55 (by kernel_rfl) rfl
theorem modT (wb : World) (m : Int) (s : List Int) (hl : s.length ≤ 64) (m1 : 1 ≤ m) (m2 : m ≤ 1000) (hs : InP (-m) m s) :
    Mod Try.prog wb (wb.heap.size + 4) 54 55 #[.pointer (some ⟨wb.heap.size + 3, 0, none⟩)] #[.pointer (some ⟨wb.heap.size + 2, 0, none⟩), .pointer (some ⟨wb.heap.size, 0, none⟩), .pointer (some ⟨wb.heap.size + 3, 0, none⟩), .pointer (some ⟨wb.heap.size + 1, 0, none⟩)] s (twB m s) (InvT wb.heap.size m s) where
  keep := fun i w w' h hb => h.keep hb
  level := fun i x w h hx => levelT wb.heap.size m s i x w h
  settle := fun i x w h hx hz => settleT wb.heap.size m s i x w h hx hz (by have := (List.getElem?_eq_some_iff.1 hx).1; omega) m1 m2 hs
theorem startT (A : Nat) (w0 : World) (m : Int) (s : List Int) (hz : w0.heap.size = A + 4) (c0 : w0.cell? ⟨A, 0, none⟩ = some (.int .i64 m)) (c1 : w0.cell? ⟨A + 1, 0, none⟩ = some (.slice none 0 0)) (f1 : w0.frozen? ⟨A + 1, 0, none⟩ = false) (c2 : w0.cell? ⟨A + 2, 0, none⟩ = some (.int .i64 0)) (f2 : w0.frozen? ⟨A + 2, 0, none⟩ = false) (c3 : w0.cell? ⟨A + 3, 0, none⟩ = some (.int .i64 0)) (f3 : w0.frozen? ⟨A + 3, 0, none⟩ = false) (w1 : World) (h : ∀ b, b < w0.heap.size → w1.heap[b]? = w0.heap[b]?) : InvT A m s 0 w1 := by
  have c : ∀ b, b < A + 4 → w1.cell? ⟨b, 0, none⟩ = w0.cell? ⟨b, 0, none⟩ := fun b hb => World.cell?_of_block (h b (by omega))
  have f : ∀ b, b < A + 4 → w1.frozen? ⟨b, 0, none⟩ = w0.frozen? ⟨b, 0, none⟩ := fun b hb => World.frozen?_of_block (h b (by omega))
  exact ⟨(c _ (by omega)).trans c0, ⟨(c _ (by omega)).trans c2, (f _ (by omega)).trans f2⟩, ⟨(c _ (by omega)).trans c3, (f _ (by omega)).trans f3⟩, (f _ (by omega)).trans f1, _, [], (c _ (by omega)).trans c1, World.ownsRow_nil _ _ _ _⟩
theorem four (w : World) (o1 o2 o3 o4 : Obj) : ((((w.alloc o1).alloc o2).alloc o3).alloc o4).heap.size = w.heap.size + 4 ∧ ((((w.alloc o1).alloc o2).alloc o3).alloc o4).heap[w.heap.size]? = some o1 ∧ ((((w.alloc o1).alloc o2).alloc o3).alloc o4).heap[w.heap.size + 1]? = some o2 ∧ ((((w.alloc o1).alloc o2).alloc o3).alloc o4).heap[w.heap.size + 2]? = some o3 ∧ ((((w.alloc o1).alloc o2).alloc o3).alloc o4).heap[w.heap.size + 3]? = some o4 := by
  have h2 := heap_alloc_new (w.alloc o1) o2
  have h3 := heap_alloc_new ((w.alloc o1).alloc o2) o3
  have h4 := heap_alloc_new (((w.alloc o1).alloc o2).alloc o3) o4
  rw [World.size_alloc] at h2
  rw [World.size_alloc, World.size_alloc] at h3
  rw [World.size_alloc, World.size_alloc, World.size_alloc] at h4
  refine ⟨by simp, ?_, ?_, ?_, h4⟩
  · rw [Below.heap_alloc _ _ _ (by first | (simp; done) | (simp; omega)), Below.heap_alloc _ _ _ (by first | (simp; done) | (simp; omega)), Below.heap_alloc _ _ _ (by first | (simp; done) | (simp; omega))]; exact heap_alloc_new _ _
  · rw [Below.heap_alloc _ _ _ (by first | (simp; done) | (simp; omega)), Below.heap_alloc _ _ _ (by first | (simp; done) | (simp; omega))]; exact h2
  · rw [Below.heap_alloc _ _ _ (by first | (simp; done) | (simp; omega))]; exact h3
set_option maxHeartbeats 1000000 in
theorem runTwoBit_any (m : Int) (v : Value) (s : List Int) (w : World) (hs : Sl w v s) (hl : s.length ≤ 64) (hi : InP (-m) m s) (m1 : 1 ≤ m) (m2 : m ≤ 1000) :
    Calls Try.prog 45 #[.int .i64 m, v] w (GivesX w (twOL m s)) := by
  have HS := hid hs
  have HI := hid hi
  have hmk := mkFunc
  clear hs hi
  go_enter Try.func45, Try.ntmps45
  go_wp2_with fail
  have hb0 : Below w.heap.size w ((((w.alloc (.cells #[.int .i64 m] 3)).alloc (.cells #[.slice none 0 0] 33)).alloc (.cells #[.int .i64 0] 3)).alloc (.cells #[.int .i64 0] 3)) := bel_step (bel_step (bel_step (bel_alloc _ _) (bel_alloc _ _)) (bel_alloc _ _)) (bel_alloc _ _)
  obtain ⟨hz0, e0, e1, e2, e3⟩ := four w (.cells #[.int .i64 m] 3) (.cells #[.slice none 0 0] 33) (.cells #[.int .i64 0] 3) (.cells #[.int .i64 0] 3)
  generalize ((((w.alloc (.cells #[.int .i64 m] 3)).alloc (.cells #[.slice none 0 0] 33)).alloc (.cells #[.int .i64 0] 3)).alloc (.cells #[.int .i64 0] 3)) = w0 at hb0 hz0 e0 e1 e2 e3 ⊢
  have hst := startT w.heap.size w0 m s hz0 (cell_of_row _ _ 0 _ _ _ e0) (cell_of_row _ _ 0 _ _ _ e1) (frozen_of_row _ _ 0 _ _ e1) (cell_of_row _ _ 0 _ _ _ e2) (frozen_of_row _ _ 0 _ _ e2) (cell_of_row _ _ 0 _ _ _ e3) (frozen_of_row _ _ 0 _ _ e3)
  have hmod := modT w m s hl m1 m2 HI.out
  rw [← hz0] at hmod
  refine (modulate_any 54 55 _ _ enterL2 enterS2 w w0 v s HS.out hb0 hl (twB m s) (InvT w.heap.size m s) hmod hst).mono ?_
  rintro e w1 ⟨rfl, hblk, ⟨_, _, _, _, u, vs, hu, hown⟩, hb⟩
  have hr1 := hblk.res (show w.heap.size ≤ w0.heap.size + 2 by omega)
  rw [tab_len] at hr1
  have Hr1 := hid hr1
  have HB := hid hb
  clear hr1 hb hblk hown hst hmod e0 e1 e2 e3 hb0 hz0
  go_wp2_with fail
  go_quiet (fail)
  go_wp2
  go_ret2
  exact ⟨_, _, rfl, Hr1.out.kept (bel_drewN w1 _), below_drewN HB.out _⟩


def tbR (m : Int) (s : List Int) : List Int := onB (sdB m s) (twOL m s) []
theorem tbR_len (m : Int) (s : List Int) (h : s.length ≤ 1048576) : (tbR m s).length ≤ 2000000 := by
  unfold tbR onB; split
  · rw [twOL, tab_len]; omega
  · simp


set_option maxHeartbeats 1000000 in
theorem spec_TwoBits_is (m : Int) (v : Value) (s : List Int) (w : World) (hs : Sl w v s) :
    Calls Try.prog 24 #[.int .i64 m, v] w (Gives w (tbR m s) (sdB m s)) := by
  cases hq : sdB m s
  · have HS := hid hs
    have HR := hid (show tbR m s = [] from by unfold tbR; rw [hq]; rfl)
    have HQ := hid hq
    clear hq hs
    go_enter Try.func24, Try.ntmps24
    go_wp2_with fail
    refine (spec_dmScaled_q m v s false _ HS.out HQ.out).mono ?_
    rintro e w' ⟨rfl, rfl⟩
    go_wp2_with fail
    go_ret2
    exact gives_of rfl HR.out ⟨_, rfl, .inl ⟨rfl, rfl⟩, Below.refl _ _⟩
  · obtain ⟨⟨m1, m2⟩, hsg, hin⟩ := sdB_t hq
    have HS := hid hs
    have HR := hid (show tbR m s = twOL m s from by unfold tbR; rw [hq]; rfl)
    have HQ := hid hq
    have HG := hid hsg
    have HI := hid hin
    clear hq hs hsg hin
    go_enter Try.func24, Try.ntmps24
    go_wp2_with fail
    refine (spec_dmScaled_q m v s true _ HS.out HQ.out).mono ?_
    rintro e w' ⟨rfl, rfl⟩
    go_wp2_with fail
    refine (dmTwo_any m v s _ HS.out HG.out.1 HI.out m1 m2).mono ?_
    rintro e w1 ⟨u1, u2, rfl, hr1, hb⟩
    go_wp2_with fail
    go_ret2
    exact gives_of rfl HR.out ⟨_, rfl, hr1, hb⟩


set_option maxHeartbeats 1000000 in
theorem impl_TwoBits_is (m : Int) (v : Value) (s : List Int) (w : World) (hs : Sl w v s) :
    Calls Try.prog 25 #[.int .i64 m, v] w (Gives w (tbR m s) (sdB m s)) := by
  cases hq : sdB m s
  · have HS := hid hs
    have HR := hid (show tbR m s = [] from by unfold tbR; rw [hq]; rfl)
    have HQ := hid hq
    clear hq hs
    go_enter Try.func25, Try.ntmps25
    go_wp2_with fail
    refine (impl_IsScaled_q m v s false _ HS.out HQ.out).mono ?_
    rintro e w' ⟨rfl, rfl⟩
    go_wp2_with fail
    go_ret2
    exact gives_of rfl HR.out ⟨_, rfl, .inl ⟨rfl, rfl⟩, Below.refl _ _⟩
  · obtain ⟨⟨m1, m2⟩, hsg, hin⟩ := sdB_t hq
    have HS := hid hs
    have HR := hid (show tbR m s = twOL m s from by unfold tbR; rw [hq]; rfl)
    have HQ := hid hq
    have HG := hid hsg
    have HI := hid hin
    clear hq hs hsg hin
    go_enter Try.func25, Try.ntmps25
    go_wp2_with fail
    refine (impl_IsScaled_q m v s true _ HS.out HQ.out).mono ?_
    rintro e w' ⟨rfl, rfl⟩
    go_wp2_with fail
    refine (runTwoBit_any m v s _ HS.out HG.out.1 HI.out m1 m2).mono ?_
    rintro e w1 ⟨u1, u2, rfl, hr1, hb⟩
    go_wp2_with fail
    go_ret2
    exact gives_of rfl HR.out ⟨_, rfl, hr1, hb⟩


set_option maxHeartbeats 1600000 in
theorem gen_FnExactTwoBits (m : Int) (s : List Int) (u_s : Option Addr) (l_s c_s : Nat) (ys : List Int) (ok : Bool) (w : World) (hs_s : Sl w (.slice u_s l_s c_s) s) (ll_s : l_s ≤ 1048576) (hl_s : s.length ≤ 1048576) (hy : ys.length ≤ 2000000) (hspec : ∀ (w : World) (v_s : Value), Sl w v_s s → Calls Try.prog 24 #[.int .i64 m, v_s] w (Gives w ys ok)) (himpl : ∀ (w : World) (v_s : Value), Sl w v_s s → Calls Try.prog 25 #[.int .i64 m, v_s] w (Gives w ys ok)) :
    Calls Try.prog 8 #[.int .i64 m, .slice u_s l_s c_s] w fun e w' => e = .returned (.bool true) ∧ Below w.heap.size w w' := by
  have HSs := hid hs_s
  clear hs_s
  have HSP := hid hspec
  have HIM := hid himpl
  clear hspec himpl
  all_goals cases ok
  all_goals
    go_enter Try.func8, Try.ntmps8
    go_wp2_with fail
    refine (toIntS_any _ s _ HSs.out (by omega)).mono ?_
    rintro e w1 ⟨g_As0, hg_As0, rfl, K_As0, hb⟩
    have B1 := hb
    have hz1 : w.heap.size ≤ w1.heap.size := by first | exact hb.size | (have := hb.size; simp at this; omega)
    have As0 := K_As0.res hg_As0
    go_wp2_with fail
    refine (HSP.out _ _ As0.sl).mono ?_
    rintro e w2 ⟨v_R0, rfl, R0, hb⟩
    have B2 := bel_step B1 hb
    have hz2 : w1.heap.size ≤ w2.heap.size := hb.size
    have As0_2 := As0.kept hb
    have hlt0 : ∀ g, v_R0.ownBlock = some g → g < w2.heap.size := fun g hg => R0.lt hg
    have Hlt0 := hid hlt0
    clear hlt0
    go_wp2_with fail
    refine (toIntS_any _ s _ (HSs.out.kept B2) (by omega)).mono ?_
    rintro e w3 ⟨g_Xs, hg_Xs, rfl, K_Xs, hb⟩
    have B3 := bel_step B2 hb
    have hz3 : w2.heap.size ≤ w3.heap.size := hb.size
    have R0_3 := R0.kept hb
    have Xs := K_Xs.res hg_Xs
    have hlt_Xs := K_Xs.lt
    have hne_Xs : ∀ g, v_R0.ownBlock = some g → g ≠ g_Xs := fun g hg => by have a1 := Hlt0.out g hg; omega
    have Hne_Xs := hid hne_Xs
    clear hne_Xs
    have hxl_Xs : g_Xs < w3.heap.size := Xs.lt rfl
    go_wp2_with fail
    refine (HIM.out _ _ Xs.sl).mono ?_
    rintro e w4 ⟨v_R1, rfl, R1, hb⟩
    have B4 := bel_step B3 hb
    have hz4 : w3.heap.size ≤ w4.heap.size := hb.size
    have R0_4 := R0_3.kept hb
    have Xs_4 := Xs.kept hb
    have hne1_Xs : ∀ g, v_R1.ownBlock = some g → g ≠ g_Xs := fun g hg => by have a1 := R1.ge hg; omega
    have Hne1_Xs := hid hne1_Xs
    clear hne1_Xs
    have hne01 : ∀ g, v_R0.ownBlock = some g → v_R1.ownBlock ≠ some g := fun g hg e => by have a1 := R1.ge e; have a2 := Hlt0.out g hg; omega
    have Hne01 := hid hne01
    clear hne01
    have hge1 : ∀ g, v_R1.ownBlock = some g → w3.heap.size ≤ g := fun g hg => R1.ge hg
    have Hge1 := hid hge1
    clear hge1
    go_wp2_with fail
    refine (eqIntS_same _ _ ys _ R1.sl R0_4.sl hy).mono ?_
    rintro e w5 ⟨rfl, hb⟩
    have B5 := bel_step B4 hb
    have hz5 : w4.heap.size ≤ w5.heap.size := hb.size
    have R0_5 := R0_4.kept hb
    have Xs_5 := Xs_4.kept hb
    have R1_5 := R1.kept hb
    go_wp2_with fail
    refine (toIntS_any _ s _ (HSs.out.kept B5) (by omega)).mono ?_
    rintro e w6 ⟨g_TXs, hg_TXs, rfl, K_TXs, hb⟩
    have B6 := bel_step B5 hb
    have hz6 : w5.heap.size ≤ w6.heap.size := hb.size
    have R0_6 := R0_5.kept hb
    have Xs_6 := Xs_5.kept hb
    have R1_6 := R1_5.kept hb
    have TXs := K_TXs.res hg_TXs
    go_wp2_with fail
    refine (eqIntS_same _ _ s _ Xs_6.sl TXs.sl (by omega)).mono ?_
    rintro e w7 ⟨rfl, hb⟩
    have B7 := bel_step B6 hb
    have hz7 : w6.heap.size ≤ w7.heap.size := hb.size
    have R0_7 := R0_6.kept hb
    have Xs_7 := Xs_6.kept hb
    have R1_7 := R1_6.kept hb
    have TXs_7 := TXs.kept hb
    go_wp2_with fail
    refine (markIntS_one _ s _ _ Xs_7 (by omega)).mono ?_
    rintro e w8 ⟨rfl, ho, _⟩
    have B8 := B7.trans (ho.below fun g hg => by cases hg; exact Nat.le_trans B2.size hg_Xs)
    have hz8 : w7.heap.size ≤ w8.heap.size := Nat.le_of_eq ho.size.symm
    have R0_8 := R0_7.only ho fun g hg e => by cases e; exact Hne_Xs.out _ hg rfl
    have R1_8 := R1_7.only ho fun g hg e => by cases e; exact Hne1_Xs.out _ hg rfl
    go_wp2_with fail
    refine (eqIntS_same _ _ ys _ R1_8.sl R0_8.sl hy).mono ?_
    rintro e w9 ⟨rfl, hb⟩
    have B9 := bel_step B8 hb
    have hz9 : w8.heap.size ≤ w9.heap.size := hb.size
    have R0_9 := R0_8.kept hb
    have R1_9 := R1_8.kept hb
    go_wp2_with fail
    refine (markIntS_one _ ys _ _ R1_9 hy).mono ?_
    rintro e w10 ⟨rfl, ho, M⟩
    have B10 := B9.trans (ho.below fun g hg => Nat.le_trans B3.size (Hge1.out g hg))
    have hz10 : w9.heap.size ≤ w10.heap.size := Nat.le_of_eq ho.size.symm
    have R0_10 := R0_9.only ho Hne01.out
    go_wp2_with fail
    refine (heldIntS_one _ ys.length _ _ M hy).mono ?_
    rintro e w' ⟨rfl, rfl⟩
    go_wp2_with fail
    refine (toIntS_any _ s _ (HSs.out.kept B10) (by omega)).mono ?_
    rintro e w11 ⟨g_As10, hg_As10, rfl, K_As10, hb⟩
    have B11 := bel_step B10 hb
    have hz11 : w10.heap.size ≤ w11.heap.size := hb.size
    have R0_11 := R0_10.kept hb
    have M_11 := M.kept hb
    have As10 := K_As10.res hg_As10
    go_wp2_with fail
    refine (HIM.out _ _ As10.sl).mono ?_
    rintro e w12 ⟨v_R2, rfl, R2, hb⟩
    have B12 := bel_step B11 hb
    have hz12 : w11.heap.size ≤ w12.heap.size := hb.size
    have R0_12 := R0_11.kept hb
    have M_12 := M_11.kept hb
    have As10_12 := As10.kept hb
    go_wp2_with fail
    refine (eqIntS_same _ _ ys _ R2.sl R0_12.sl hy).mono ?_
    rintro e w13 ⟨rfl, hb⟩
    have B13 := bel_step B12 hb
    have hz13 : w12.heap.size ≤ w13.heap.size := hb.size
    have R0_13 := R0_12.kept hb
    have M_13 := M_12.kept hb
    have R2_13 := R2.kept hb
    go_wp2_with fail
    refine (heldIntS_one _ ys.length _ _ M_13 hy).mono ?_
    rintro e w' ⟨rfl, rfl⟩
    go_wp2_with fail
    go_ret
    exact ⟨rfl, B13⟩


set_option maxHeartbeats 1600000 in
theorem walk_FnExactTwoBits (w : World) (m : Int) (w_m : (Lit.int .i64 m).wf = true) (u_s : Option Addr) (l_s c_s : Nat) (z_s : List Int) (hr_s : IsRow .i64 w u_s l_s c_s z_s) :
    Calls Try.prog 8 #[.int .i64 m, .slice u_s l_s c_s] w fun e w' => e = .returned (.bool true) ∧ Below w.heap.size w w' := by
  obtain ⟨hs_s, hlen_s, hin_s⟩ := hr_s.sl
  generalize z_s.take l_s = s at hs_s hlen_s hin_s
  clear hr_s
  obtain ⟨m_1, m_2⟩ := bounds_i64 w_m
  by_cases hbig_s : 1048576 < l_s
  · clear hs_s hlen_s hin_s
    go_enter Try.func8, Try.ntmps8
    go_wp2
    go_ret
    exact ⟨rfl, Below.refl _ _⟩
  · have hq_s : l_s ≤ 1048576 := by omega
    exact gen_FnExactTwoBits m s _ _ _ (tbR m s) (sdB m s) w hs_s (by omega) (by omega) (tbR_len _ _ (by omega)) (fun w v_s h_s => spec_TwoBits_is m v_s s w h_s) (fun w v_s h_s => impl_TwoBits_is m v_s s w h_s)

end Go.Proofs.Ytheodagbkplgiaa
