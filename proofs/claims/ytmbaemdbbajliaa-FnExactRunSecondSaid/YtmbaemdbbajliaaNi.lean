
import Derived.Test.YtmbaemdbbajliaaNh
namespace Go.Proofs.Ytmbaemdbbajliaa
open Go.RowKit BitX Go.MemX Go.ShX
set_option linter.unusedVariables false


theorem _root_.Go.MemX.Blk.other {E : TypeId} {w : World} {g h : Nat} {xs : List Int} (hb : Blk E w g xs) (hne : g ≠ h) (i : Nat) (v : Value) : Blk E (w.setCell ⟨h, i, none⟩ v) g xs := by
  unfold Blk; rw [heap_setCell_other _ _ _ _ hne]; exact hb


set_option maxHeartbeats 4000000 in
theorem impl_RunSecond_is (a d k mode b : Int) (wd : Bool) (y z : Int) (v : Value) (s : List Int) (w : World) (hs : Sl w v s) (y1 : -9223372036854775808 ≤ y) (y2 : y ≤ 9223372036854775807) (z1 : -9223372036854775808 ≤ z) (z2 : z ≤ 9223372036854775807) :
    Calls Try.prog 11 #[.agg #[.int .i64 a, .int .i64 d, .int .i64 k, .int .i64 mode, .int .i64 b, .bool wd], .int .i64 y, .int .i64 z, v] w (Gives w (r2L a d k mode b wd y z s) (rtB a d k mode b y z s)) := by
  cases hq : rtB a d k mode b y z s
  · obtain ⟨aa, m, cap, rfl, hn, _⟩ := id hs.rd
    have HS := hid hs
    have HR := hid (show r2L a d k mode b wd y z s = [] from by unfold r2L; rw [hq]; rfl)
    have HQ := hid hq
    clear hq hs hn
    go_enter Try.func11, Try.ntmps11
    go_wp2_with fail
    refine (canRunPair_q _ _ _ _ _ _ _ _ _ s false _ (HS.out.kept (bel_alloc _ _)) y1 y2 z1 z2 HQ.out).mono ?_
    rintro e w1 ⟨rfl, hb⟩
    have B1 := hb
    go_wp2_with fail
    go_ret2
    exact gives_of rfl HR.out ⟨_, rfl, .inl ⟨rfl, rfl⟩, bel_step (bel_alloc _ _) B1⟩
  · obtain ⟨k, n, rfl, rfl, ho, ⟨_, yy1, yy2⟩, ⟨_, zz1, zz2⟩, hsg⟩ := rtB_n hq
    obtain ⟨aa, m, cap, rfl, hn, hrd⟩ := id hs.rd
    have HS := hid hs
    have HQ := hid hq
    have HO := hid ho
    have HJ := hid hsg.2
    have n1 := ho.1.2.2.2.1
    have n2 := ho.1.2.2.2.2
    have hl' : m ≤ 64 := by rw [hn]; exact hsg.1
    have Hn := hid hn
    have Hrd := hid hrd
    clear hq hs hn hrd ho hsg
    have hmk := run_make_ints (P := Try.prog) 26 3 uslice iint m (by omega)
    go_enter Try.func11, Try.ntmps11
    go_wp2_with fail
    refine (canRunPair_q _ _ _ _ _ _ _ _ _ s true _ (HS.out.kept (bel_alloc _ _)) y1 y2 z1 z2 HQ.out).mono ?_
    rintro e w1 ⟨rfl, hb⟩
    have B1 := hb
    obtain ⟨c0, c1, c2, c3, c4, c5⟩ := box6_cells B1
    clear hb
    go_wp2_with fail
    have Hq := hid (box6_cells B1)
    have HB1 := hid (bel_step (bel_alloc _ _) B1)
    have hw1 : w.heap.size < w1.heap.size := by have := B1.size; simp at this; omega
    clear c0 c1 c2 c3 c4 c5 B1
    go_loopw [28] (fun i wr => ∃ c : Nat, c ≤ m ∧ i = .int .i64 c ∧ Blk 3 wr w1.heap.size (upTo (tab m (fun i => rY a d k mode n wd s y z (i + 1))) c) ∧ Blk 50 wr (w1.heap.size + 1) [rY a d k mode n wd s y z c, rZ a d k mode n wd s y z c] ∧ Below w1.heap.size w1 wr)
      (fun i _ => m - (intOf i).toNat)
    case atStart =>
      refine ⟨0, by omega, rfl, ?_, ?_, (bel_alloc _ _).alloc (by simp) _⟩
      · rw [upTo_zero, tab_len]
        exact (show Blk 3 (w1.alloc (.cells (intsA (List.replicate m 0)) 3)) w1.heap.size (List.replicate m 0) from heap_alloc_new _ _).kept (bel_alloc _ _) (by simp)
      · have := heap_alloc_new (w1.alloc (.cells (intsA (List.replicate m 0)) 3)) (.cells (intsA [y, z]) 50)
        rw [World.size_alloc] at this
        exact this
    case round =>
      obtain ⟨c, hc, rfl, hblk, hpb, hb⟩ := hrel
      have hsz : w1.heap.size ≤ wr.heap.size := hb.size
      by_cases hlk : c < m
      · obtain ⟨x, hkx⟩ := get_lt s c (by rw [← Hn.out]; exact hlk)
        obtain ⟨bb, oo, hix, hbb, hce⟩ := (Hrd.out.kept (bel_step HB1.out hb)).at (P := Try.prog) (T := 26) m cap uslice sone hkx hlk
        have hax := at0_of hkx
        obtain ⟨x1, x2⟩ := HJ.out.at hkx
        obtain ⟨⟨u1, u2⟩, v1, v2⟩ := runS_in (wd := wd) (s := s) (y := y) (z := z) HO.out (by omega) (by omega) (by omega) (by omega) c
        have hsr := rY_succ a d k mode n wd s y z c
        have hsz2 := rZ_succ a d k mode n wd s y z c
        have hsc := fitS_succ a d k mode n wd s y z c
        obtain ⟨f1, f2⟩ := fitS_in a d k mode n wd s y z c
        have hraw := rawS_in HO.out u1 u2 v1 v2 x1 x2
        rw [hax] at hsr hsc
        generalize hyy : rY a d k mode n wd s y z c = yy at *
        generalize hzz : rZ a d k mode n wd s y z c = zz at *
        have hkt := tab_get m (fun i => rY a d k mode n wd s y z (i + 1)) c hlk
        have hkt : (tab m (fun i => rY a d k mode n wd s y z (i + 1)))[c]? = some (rY a d k mode n wd s y z (c + 1)) := hkt
        rw [hsr] at hkt
        have Hkt := hid hkt
        have Hsr := hid hsr
        have Hsz := hid hsz2
        have Hblk := hid hblk
        have Hpb := hid hpb
        have eg : ∀ (args : Array Value) (w : World), (callFunc 50 args).run Try.prog w = .ok (.enter 50 args) w := enterT2
        have hix0 := ixPair
        have hpl := hpb.lt
        have hne : w1.heap.size ≠ w1.heap.size + 1 := by omega
        have hS := hb.cells6q Hq.out
        have p0 : wr.cell? ⟨w1.heap.size + 1, 0, none⟩ = some (.int .i64 yy) := Hpb.out.cell (i := 0) rfl
        have p1 : wr.cell? ⟨w1.heap.size + 1, 1, none⟩ = some (.int .i64 zz) := Hpb.out.cell (i := 1) rfl
        have nf : w1.heap.size + 1 ≠ w.heap.size := by omega
        clear hblk hpb hkx hsr hsz2 hsc hkt hyy hzz hax hraw f1 f2
        generalize hzn : stepS a d k mode n wd x yy zz = zn at *
        have Hzn := hid hzn
        clear hzn
        have HBr := hid hb
        go_wp2_with fail
        obtain ⟨t0, t1, t2, t3, t4, t5⟩ := hS
        go_region_with (first | (go_at_call 28; refine (pairStepWith_any a d k mode n wd x _ HO.out x1 x2).mono ?_; rintro e w3 ⟨⟨lb, rfl, hn3⟩, hb3⟩; have Hn3 := hid hn3; clear hn3; have hB3 := (Below.refl wr.heap.size wr).drew.trans (hb3.mono (Nat.le_refl _)); have Hpb3 := hid (Hpb.out.kept hB3 hpl); have p0 := Hpb3.out.cell (i := 0) rfl; have p1 := Hpb3.out.cell (i := 1) rfl) | (go_at_fn 50; refine (Hn3.out _ yy zz (Below.refl _ _) u1 u2 v1 v2).mono ?_; rintro e w4 ⟨rfl, hb4⟩; have hB4 := hB3.trans (hb4.mono hB3.size); rw [Hzn.out]; have Hpb4 := hid (Hpb.out.kept hB4 hpl); have p0 := Hpb4.out.cell (i := 0) rfl; have p1 := Hpb4.out.cell (i := 1) rfl; have f0 := Hpb4.out.free 0; have f1 := Hpb4.out.free 1))
        all_goals have hrun : Blk 3 ((w4.setCell ⟨w1.heap.size + 1, 0, none⟩ (.int .i64 zn)).setCell ⟨w1.heap.size + 1, 1, none⟩ (.int .i64 yy)) w1.heap.size (upTo (tab m (fun i => rY a d k mode n wd s y z (i + 1))) c) := ((Hblk.out.kept hB4 Hblk.out.lt).other hne _ _).other hne _ _
        all_goals have hpp : Blk 50 ((w4.setCell ⟨w1.heap.size + 1, 0, none⟩ (.int .i64 zn)).setCell ⟨w1.heap.size + 1, 1, none⟩ (.int .i64 yy)) (w1.heap.size + 1) [zn, yy] := (Hpb4.out.set 0 zn).set 1 yy
        all_goals have hB5 : Below w1.heap.size w1 ((w4.setCell ⟨w1.heap.size + 1, 0, none⟩ (.int .i64 zn)).setCell ⟨w1.heap.size + 1, 1, none⟩ (.int .i64 yy)) := ((HBr.out.trans (hB4.mono hsz)).setCell (by exact Nat.le_succ _) _).setCell (by exact Nat.le_succ _) _
        all_goals generalize (w4.setCell ⟨w1.heap.size + 1, 0, none⟩ (.int .i64 zn)).setCell ⟨w1.heap.size + 1, 1, none⟩ (.int .i64 yy) = w5 at *
        all_goals clear p0 p1 f0 f1
        all_goals have hcd : w5.cell? ⟨w1.heap.size, c, none⟩ = some (.int .i64 0) := hrun.cell (upTo_get (tab m (fun i => rY a d k mode n wd s y z (i + 1))) c (by rw [tab_len]; exact hlk))
        all_goals have hfd := hrun.free c
        all_goals have q0 : w5.cell? ⟨w1.heap.size + 1, 0, none⟩ = some (.int .i64 zn) := hpp.cell (i := 0) rfl
        all_goals have Hrun := hid hrun
        all_goals have Hpp := hid hpp
        all_goals clear hrun hpp
        all_goals go_wp2
        all_goals go_roundw
        all_goals first | exact (show _ from ⟨c + 1, by omega, by go_num, by rw [← upTo_step (tab m (fun i => rY a d k mode n wd s y z (i + 1))) c zn Hkt.out]; exact Hrun.out.set c _, by rw [Hsr.out, Hsz.out]; exact Hpp.out.other (Ne.symm hne) _ _, hB5.setCell (Nat.le_refl _) _⟩) | (simp [intOf]; omega)
      · have hge : (m : Int) ≤ (c : Int) := by omega
        have hkn : c = m := by omega
        have Hk := hid hkn
        have Hblk := hid hblk
        clear hkn hlk hblk hpb
        go_wp2
        go_ret2
        have hbk := Hblk.out
        rw [Hk.out, show upTo (tab m (fun i => rY a d k mode n wd s y z (i + 1))) m = tab m (fun i => rY a d k mode n wd s y z (i + 1)) from by have := upTo_full (tab m (fun i => rY a d k mode n wd s y z (i + 1))); rwa [tab_len] at this] at hbk
        have h2 := hbk.res (Nat.le_refl _)
        rw [tab_len, Hn.out] at h2
        refine gives_of rfl (show r2L a d k mode n wd y z s = runLS a d k mode n wd s y z from by unfold r2L; rw [HQ.out]; rfl) ⟨_, rfl, ?_, bel_step HB1.out hb⟩
        rw [Hn.out]
        exact h2.mono HB1.out.size


set_option maxHeartbeats 1600000 in
theorem gen_FnExactRunSecond (a d k mode b : Int) (wr : Bool) (y : Int) (z : Int) (s : List Int) (u_s : Option Addr) (l_s c_s : Nat) (ys : List Int) (ok : Bool) (w : World) (hs_s : Sl w (.slice u_s l_s c_s) s) (ll_s : l_s ≤ 1048576) (hl_s : s.length ≤ 1048576) (hy : ys.length ≤ 2000000) (hspec : ∀ (w : World) (v_s : Value), Sl w v_s s → Calls Try.prog 8 #[.agg #[.int .i64 a, .int .i64 d, .int .i64 k, .int .i64 mode, .int .i64 b, .bool wr], .int .i64 y, .int .i64 z, v_s] w (Gives w ys ok)) (himpl : ∀ (w : World) (v_s : Value), Sl w v_s s → Calls Try.prog 11 #[.agg #[.int .i64 a, .int .i64 d, .int .i64 k, .int .i64 mode, .int .i64 b, .bool wr], .int .i64 y, .int .i64 z, v_s] w (Gives w ys ok)) :
    Calls Try.prog 3 #[.agg #[.int .i64 a, .int .i64 d, .int .i64 k, .int .i64 mode, .int .i64 b, .bool wr], .int .i64 y, .int .i64 z, .slice u_s l_s c_s] w fun e w' => e = .returned (.bool true) ∧ Below w.heap.size w w' := by
  have HSs := hid hs_s
  clear hs_s
  have HSP := hid hspec
  have HIM := hid himpl
  clear hspec himpl
  all_goals cases ok
  all_goals
    go_enter Try.func3, Try.ntmps3
    go_wp2_with fail
    refine (toSecond_any _ _ _ _ _ _ _).mono ?_
    rintro e w1 ⟨rfl, hb⟩
    have B1 := hb
    have hz1 : w.heap.size ≤ w1.heap.size := by first | exact hb.size | (have := hb.size; simp at this; omega)
    obtain ⟨ca1, cb1, cc1, cd1, ce1, cf1⟩ := box6_cells B1
    go_wp2_with fail
    refine (toIntS_any _ s _ (HSs.out.kept (bel_step (bel_alloc w _) B1)) (by omega)).mono ?_
    rintro e w2 ⟨g_As1, hg_As1, rfl, K_As1, hb⟩
    have B2 := bel_step B1 hb
    have hz2 : w1.heap.size ≤ w2.heap.size := hb.size
    have As1 := K_As1.res hg_As1
    obtain ⟨ca2, cb2, cc2, cd2, ce2, cf2⟩ := box6_cells B2
    go_wp2_with fail
    refine (HSP.out _ _ As1.sl).mono ?_
    rintro e w3 ⟨v_R0, rfl, R0, hb⟩
    have B3 := bel_step B2 hb
    have hz3 : w2.heap.size ≤ w3.heap.size := hb.size
    have As1_3 := As1.kept hb
    obtain ⟨ca3, cb3, cc3, cd3, ce3, cf3⟩ := box6_cells B3
    have hlt0 : ∀ g, v_R0.ownBlock = some g → g < w3.heap.size := fun g hg => R0.lt hg
    have Hlt0 := hid hlt0
    clear hlt0
    go_wp2_with fail
    refine (toIntS_any _ s _ (HSs.out.kept (bel_step (bel_alloc w _) B3)) (by omega)).mono ?_
    rintro e w4 ⟨g_Xs, hg_Xs, rfl, K_Xs, hb⟩
    have B4 := bel_step B3 hb
    have hz4 : w3.heap.size ≤ w4.heap.size := hb.size
    have R0_4 := R0.kept hb
    have Xs := K_Xs.res hg_Xs
    obtain ⟨ca4, cb4, cc4, cd4, ce4, cf4⟩ := box6_cells B4
    have hlt_Xs := K_Xs.lt
    have hne_Xs : ∀ g, v_R0.ownBlock = some g → g ≠ g_Xs := fun g hg => by have a1 := Hlt0.out g hg; omega
    have Hne_Xs := hid hne_Xs
    clear hne_Xs
    go_wp2_with fail
    refine (toSecond_any _ _ _ _ _ _ _).mono ?_
    rintro e w5 ⟨rfl, hb⟩
    have B5 := bel_step B4 hb
    have hz5 : w4.heap.size ≤ w5.heap.size := hb.size
    have R0_5 := R0_4.kept hb
    have Xs_5 := Xs.kept hb
    obtain ⟨ca5, cb5, cc5, cd5, ce5, cf5⟩ := box6_cells B5
    have hxl_Xs : g_Xs < w5.heap.size := Xs_5.lt rfl
    go_wp2_with fail
    refine (HIM.out _ _ Xs_5.sl).mono ?_
    rintro e w6 ⟨v_R1, rfl, R1, hb⟩
    have B6 := bel_step B5 hb
    have hz6 : w5.heap.size ≤ w6.heap.size := hb.size
    have R0_6 := R0_5.kept hb
    have Xs_6 := Xs_5.kept hb
    obtain ⟨ca6, cb6, cc6, cd6, ce6, cf6⟩ := box6_cells B6
    have hne1_Xs : ∀ g, v_R1.ownBlock = some g → g ≠ g_Xs := fun g hg => by have a1 := R1.ge hg; omega
    have Hne1_Xs := hid hne1_Xs
    clear hne1_Xs
    have hne01 : ∀ g, v_R0.ownBlock = some g → v_R1.ownBlock ≠ some g := fun g hg e => by have a1 := R1.ge e; have a2 := Hlt0.out g hg; omega
    have Hne01 := hid hne01
    clear hne01
    have hge1 : ∀ g, v_R1.ownBlock = some g → w5.heap.size ≤ g := fun g hg => R1.ge hg
    have Hge1 := hid hge1
    clear hge1
    go_wp2_with fail
    refine (eqIntS_same _ _ ys _ R1.sl R0_6.sl hy).mono ?_
    rintro e w7 ⟨rfl, hb⟩
    have B7 := bel_step B6 hb
    have hz7 : w6.heap.size ≤ w7.heap.size := hb.size
    have R0_7 := R0_6.kept hb
    have Xs_7 := Xs_6.kept hb
    have R1_7 := R1.kept hb
    obtain ⟨ca7, cb7, cc7, cd7, ce7, cf7⟩ := box6_cells B7
    go_wp2_with fail
    refine (toIntS_any _ s _ (HSs.out.kept (bel_step (bel_alloc w _) B7)) (by omega)).mono ?_
    rintro e w8 ⟨g_TXs, hg_TXs, rfl, K_TXs, hb⟩
    have B8 := bel_step B7 hb
    have hz8 : w7.heap.size ≤ w8.heap.size := hb.size
    have R0_8 := R0_7.kept hb
    have Xs_8 := Xs_7.kept hb
    have R1_8 := R1_7.kept hb
    have TXs := K_TXs.res hg_TXs
    obtain ⟨ca8, cb8, cc8, cd8, ce8, cf8⟩ := box6_cells B8
    go_wp2_with fail
    refine (eqIntS_same _ _ s _ Xs_8.sl TXs.sl (by omega)).mono ?_
    rintro e w9 ⟨rfl, hb⟩
    have B9 := bel_step B8 hb
    have hz9 : w8.heap.size ≤ w9.heap.size := hb.size
    have R0_9 := R0_8.kept hb
    have Xs_9 := Xs_8.kept hb
    have R1_9 := R1_8.kept hb
    have TXs_9 := TXs.kept hb
    obtain ⟨ca9, cb9, cc9, cd9, ce9, cf9⟩ := box6_cells B9
    go_wp2_with fail
    refine (markIntS_one _ s _ _ Xs_9 (by omega)).mono ?_
    rintro e w10 ⟨rfl, ho, _⟩
    have B10 := B9.trans (ho.below fun g hg => by cases hg; exact Nat.le_trans B3.size hg_Xs)
    have hz10 : w9.heap.size ≤ w10.heap.size := Nat.le_of_eq ho.size.symm
    have R0_10 := R0_9.only ho fun g hg e => by cases e; exact Hne_Xs.out _ hg rfl
    have R1_10 := R1_9.only ho fun g hg e => by cases e; exact Hne1_Xs.out _ hg rfl
    obtain ⟨ca10, cb10, cc10, cd10, ce10, cf10⟩ := box6_cells B10
    go_wp2_with fail
    refine (eqIntS_same _ _ ys _ R1_10.sl R0_10.sl hy).mono ?_
    rintro e w11 ⟨rfl, hb⟩
    have B11 := bel_step B10 hb
    have hz11 : w10.heap.size ≤ w11.heap.size := hb.size
    have R0_11 := R0_10.kept hb
    have R1_11 := R1_10.kept hb
    obtain ⟨ca11, cb11, cc11, cd11, ce11, cf11⟩ := box6_cells B11
    go_wp2_with fail
    refine (markIntS_one _ ys _ _ R1_11 hy).mono ?_
    rintro e w12 ⟨rfl, ho, M⟩
    have B12 := B11.trans (ho.below fun g hg => Nat.le_trans B5.size (Hge1.out g hg))
    have hz12 : w11.heap.size ≤ w12.heap.size := Nat.le_of_eq ho.size.symm
    have R0_12 := R0_11.only ho Hne01.out
    obtain ⟨ca12, cb12, cc12, cd12, ce12, cf12⟩ := box6_cells B12
    go_wp2_with fail
    refine (heldIntS_one _ ys.length _ _ M hy).mono ?_
    rintro e w' ⟨rfl, rfl⟩
    go_wp2_with fail
    refine (toSecond_any _ _ _ _ _ _ _).mono ?_
    rintro e w13 ⟨rfl, hb⟩
    have B13 := bel_step B12 hb
    have hz13 : w12.heap.size ≤ w13.heap.size := hb.size
    have R0_13 := R0_12.kept hb
    have M_13 := M.kept hb
    obtain ⟨ca13, cb13, cc13, cd13, ce13, cf13⟩ := box6_cells B13
    go_wp2_with fail
    refine (toIntS_any _ s _ (HSs.out.kept (bel_step (bel_alloc w _) B13)) (by omega)).mono ?_
    rintro e w14 ⟨g_As13, hg_As13, rfl, K_As13, hb⟩
    have B14 := bel_step B13 hb
    have hz14 : w13.heap.size ≤ w14.heap.size := hb.size
    have R0_14 := R0_13.kept hb
    have M_14 := M_13.kept hb
    have As13 := K_As13.res hg_As13
    obtain ⟨ca14, cb14, cc14, cd14, ce14, cf14⟩ := box6_cells B14
    go_wp2_with fail
    refine (HIM.out _ _ As13.sl).mono ?_
    rintro e w15 ⟨v_R2, rfl, R2, hb⟩
    have B15 := bel_step B14 hb
    have hz15 : w14.heap.size ≤ w15.heap.size := hb.size
    have R0_15 := R0_14.kept hb
    have M_15 := M_14.kept hb
    have As13_15 := As13.kept hb
    obtain ⟨ca15, cb15, cc15, cd15, ce15, cf15⟩ := box6_cells B15
    go_wp2_with fail
    refine (eqIntS_same _ _ ys _ R2.sl R0_15.sl hy).mono ?_
    rintro e w16 ⟨rfl, hb⟩
    have B16 := bel_step B15 hb
    have hz16 : w15.heap.size ≤ w16.heap.size := hb.size
    have R0_16 := R0_15.kept hb
    have M_16 := M_15.kept hb
    have R2_16 := R2.kept hb
    obtain ⟨ca16, cb16, cc16, cd16, ce16, cf16⟩ := box6_cells B16
    go_wp2_with fail
    refine (heldIntS_one _ ys.length _ _ M_16 hy).mono ?_
    rintro e w' ⟨rfl, rfl⟩
    go_wp2_with fail
    go_ret
    exact ⟨rfl, bel_step (bel_alloc _ _) B16⟩


set_option maxHeartbeats 1600000 in
theorem walk_FnExactRunSecond (w : World) (a d k mode b : Int) (wr : Bool) (wa : (Lit.int .i64 a).wf = true) (wd : (Lit.int .i64 d).wf = true) (wk : (Lit.int .i64 k).wf = true) (wm : (Lit.int .i64 mode).wf = true) (wb : (Lit.int .i64 b).wf = true) (y : Int) (w_y : (Lit.int .i64 y).wf = true) (z : Int) (w_z : (Lit.int .i64 z).wf = true) (u_s : Option Addr) (l_s c_s : Nat) (z_s : List Int) (hr_s : IsRow .i64 w u_s l_s c_s z_s) :
    Calls Try.prog 3 #[.agg #[.int .i64 a, .int .i64 d, .int .i64 k, .int .i64 mode, .int .i64 b, .bool wr], .int .i64 y, .int .i64 z, .slice u_s l_s c_s] w fun e w' => e = .returned (.bool true) ∧ Below w.heap.size w w' := by
  obtain ⟨hs_s, hlen_s, hin_s⟩ := hr_s.sl
  generalize z_s.take l_s = s at hs_s hlen_s hin_s
  clear hr_s
  obtain ⟨y_1, y_2⟩ := bounds_i64 w_y
  obtain ⟨z_1, z_2⟩ := bounds_i64 w_z
  by_cases hbig_s : 1048576 < l_s
  · clear hs_s hlen_s hin_s
    go_enter Try.func3, Try.ntmps3
    go_wp2
    go_ret
    exact ⟨rfl, bel_alloc _ _⟩
  · have hq_s : l_s ≤ 1048576 := by omega
    exact gen_FnExactRunSecond a d k mode b wr y z s _ _ _ (r2L a d k mode b wr y z s) (rtB a d k mode b y z s) w hs_s (by omega) (by omega) (r2L_len _ _ _ _ _ _ _ _ _ (by omega)) (fun w v_s h_s => spec_RunSecond_is _ _ _ _ _ _ _ _ v_s s w h_s y_1 y_2 z_1 z_2) (fun w v_s h_s => impl_RunSecond_is _ _ _ _ _ _ _ _ v_s s w h_s y_1 y_2 z_1 z_2)

end Go.Proofs.Ytmbaemdbbajliaa
