
import Derived.Test.YtcaoomcmfckhcaaOf
namespace Go.Proofs.Ytcaoomcmfckhcaa
open Go.RowKit BitX Go.MemX Go.ShX
set_option linter.unusedVariables false


theorem crB_as (a k mode b y : Int) (s : List Int) : crB a k mode b y s = (asB a k mode b y 0 && sigB s) := by
  have h0 : smB 0 = true := by decide
  simp [crB, asB, h0, Bool.and_assoc]
theorem crB_n {a k mode b y : Int} {s : List Int} (h : crB a k mode b y s = true) : ∃ kk n : Nat, k = kk ∧ b = n ∧ FoOk a kk mode n ∧ (inW n y = true ∧ -32768 ≤ y ∧ y ≤ 32767) ∧ SigP s := by
  rw [crB_as, Bool.and_eq_true] at h
  obtain ⟨kk, n, rfl, rfl, ho, hy, _⟩ := asB_n h.1
  exact ⟨kk, n, rfl, rfl, ho, hy, of_decide_eq_true h.2⟩
def cfR (a k mode b : Int) (wd : Bool) (y : Int) (s : List Int) : Int := onB (crB a k mode b y s) (fitC a k.toNat mode b.toNat wd s y s.length) 0


set_option maxHeartbeats 1000000 in
theorem spec_CountFits_is (a k mode b : Int) (wd : Bool) (y : Int) (v : Value) (s : List Int) (w : World) (hs : Sl w v s) (y1 : -9223372036854775808 ≤ y) (y2 : y ≤ 9223372036854775807) :
    Calls Try.prog 27 #[.agg #[.int .i64 a, .int .i64 k, .int .i64 mode, .int .i64 b, .bool wd], .int .i64 y, v] w fun e w' => e = .returned (.tuple #[.int .i64 (cfR a k mode b wd y s), .bool (crB a k mode b y s)]) ∧ Below w.heap.size w w' := by
  cases h0 : asB a k mode b y 0
  · have hq : crB a k mode b y s = false := by rw [crB_as, h0]; rfl
    obtain ⟨aa, m, cap, rfl, hn, _⟩ := id hs.rd
    have HS := hid hs
    have HR := hid (show cfR a k mode b wd y s = 0 from by unfold cfR; rw [hq]; rfl)
    have HQ := hid hq
    clear hq
    have H0 := hid h0
    clear h0 hs hn
    go_enter Try.func27, Try.ntmps27
    go_wp2_with fail
    refine (foAsked_q _ _ _ _ _ _ _ false _ H0.out).mono ?_
    rintro e w1 ⟨rfl, hb⟩
    have B1 := hb
    obtain ⟨c0, c1, c2, c3, c4⟩ := box5_cells B1
    go_wp2_with fail
    go_ret2
    exact ⟨ret_ib2 HR.out.symm HQ.out.symm, bel_step (bel_alloc _ _) B1⟩
  · cases h1 : sigB s
    · have hq : crB a k mode b y s = false := by rw [crB_as, h0, h1]; rfl
      obtain ⟨aa, m, cap, rfl, hn, _⟩ := id hs.rd
      have HS := hid hs
      have HR := hid (show cfR a k mode b wd y s = 0 from by unfold cfR; rw [hq]; rfl)
      have HQ := hid hq
      clear hq
      have H0 := hid h0
      have H1 := hid h1
      clear h0 h1 hs hn
      go_enter Try.func27, Try.ntmps27
      go_wp2_with fail
      refine (foAsked_q _ _ _ _ _ _ _ true _ H0.out).mono ?_
      rintro e w1 ⟨rfl, hb⟩
      have B1 := hb
      obtain ⟨c0, c1, c2, c3, c4⟩ := box5_cells B1
      go_wp2_with fail
      refine (wdSignal_is _ s false _ (HS.out.kept (bel_step (bel_alloc _ _) B1)) H1.out).mono ?_
      rintro e w' ⟨rfl, rfl⟩
      go_wp2_with fail
      go_ret2
      exact ⟨ret_ib2 HR.out.symm HQ.out.symm, bel_step (bel_alloc _ _) B1⟩
    · have hq : crB a k mode b y s = true := by rw [crB_as, h0, h1]; rfl
      obtain ⟨k, n, rfl, rfl, ho, ⟨_, yy1, yy2⟩, hsg⟩ := crB_n hq
      obtain ⟨aa, m, cap, rfl, hn, _⟩ := id hs.rd
      have HS := hid hs
      have HQ := hid hq
      have H0 := hid h0
      have H1 := hid h1
      have HO := hid ho
      have HG := hid hsg
      clear h0 h1 hs hn ho hsg hq
      go_enter Try.func27, Try.ntmps27
      go_wp2_with fail
      refine (foAsked_q _ _ _ _ _ _ _ true _ H0.out).mono ?_
      rintro e w1 ⟨rfl, hb⟩
      have B1 := hb
      obtain ⟨c0, c1, c2, c3, c4⟩ := box5_cells B1
      go_wp2_with fail
      refine (wdSignal_is _ s true _ (HS.out.kept (bel_step (bel_alloc _ _) B1)) H1.out).mono ?_
      rintro e w' ⟨rfl, rfl⟩
      go_wp2_with fail
      refine (foRun_any a k mode n wd y _ s _ (HS.out.kept (bel_step (bel_alloc _ _) B1)) HG.out.1 HG.out.2 HO.out (by omega) (by omega)).mono ?_
      rintro e w2 ⟨u, rfl, hr, hb⟩
      have B2 := bel_step B1 hb
      clear hr hb
      go_wp2_with fail
      go_ret2
      exact ⟨ret_ib2 (by unfold cfR; rw [HQ.out]; rfl) HQ.out.symm, bel_step (bel_alloc _ _) B2⟩


set_option maxHeartbeats 4000000 in
theorem impl_CountFits_is (a k mode b : Int) (wd : Bool) (y : Int) (v : Value) (s : List Int) (w : World) (hs : Sl w v s) (y1 : -9223372036854775808 ≤ y) (y2 : y ≤ 9223372036854775807) :
    Calls Try.prog 28 #[.agg #[.int .i64 a, .int .i64 k, .int .i64 mode, .int .i64 b, .bool wd], .int .i64 y, v] w fun e w' => e = .returned (.tuple #[.int .i64 (cfR a k mode b wd y s), .bool (crB a k mode b y s)]) ∧ Below w.heap.size w w' := by
  cases hq : crB a k mode b y s
  · obtain ⟨aa, m, cap, rfl, hn, _⟩ := id hs.rd
    have HS := hid hs
    have HR := hid (show cfR a k mode b wd y s = 0 from by unfold cfR; rw [hq]; rfl)
    have HQ := hid hq
    clear hq hs hn
    go_enter Try.func28, Try.ntmps28
    go_wp2_with fail
    refine (canRun_q _ _ _ _ _ _ _ s false _ (HS.out.kept (bel_alloc _ _)) y1 y2 HQ.out).mono ?_
    rintro e w1 ⟨rfl, hb⟩
    have B1 := hb
    obtain ⟨c0, c1, c2, c3, c4⟩ := box5_cells B1
    go_wp2_with fail
    go_ret2
    exact ⟨ret_ib2 HR.out.symm rfl, bel_step (bel_alloc _ _) B1⟩
  · obtain ⟨k, n, rfl, rfl, ho, ⟨_, yy1, yy2⟩, hsg⟩ := crB_n hq
    obtain ⟨aa, m, cap, rfl, hn, hrd⟩ := id hs.rd
    have HS := hid hs
    have HQ := hid hq
    have HO := hid ho
    have HJ := hid hsg.2
    have n1 := ho.2.2.2.1
    have n2 := ho.2.2.2.2
    have hl' : m ≤ 64 := by rw [hn]; exact hsg.1
    have Hn := hid hn
    have Hrd := hid hrd
    clear hq hs hn hrd ho hsg
    go_enter Try.func28, Try.ntmps28
    go_wp2_with fail
    refine (canRun_q _ _ _ _ _ _ _ s true _ (HS.out.kept (bel_alloc _ _)) y1 y2 HQ.out).mono ?_
    rintro e w1 ⟨rfl, hb⟩
    have B1 := hb
    obtain ⟨c0, c1, c2, c3, c4⟩ := box5_cells B1
    clear hb
    go_wp2_with fail
    refine (unfitted_any a k mode n wd _ HO.out).mono ?_
    rintro e w2 ⟨⟨lb, rfl, hr⟩, hb⟩
    have B2 := bel_step B1 hb
    have Hq := hid (box5_cells B2)
    have HB2 := hid (bel_step (bel_alloc _ _) B2)
    have Hr := hid hr
    have eg : ∀ (args : Array Value) (w : World), (callFunc 63 args).run Try.prog w = .ok (.enter 63 args) w := enterU1
    clear hr hb B1 B2 c0 c1 c2 c3 c4
    go_wp2_with fail
    go_loopw [1, 9, 22] (fun yy fc i wr => ∃ c : Nat, c ≤ m ∧ yy = .int .i64 (runY a k mode n wd s y c) ∧ fc = .int .i64 (fitC a k mode n wd s y c) ∧ i = .int .i64 c ∧ Below w2.heap.size w2 wr)
      (fun _ _ i _ => m - (intOf i).toNat)
    case atStart => exact ⟨0, by omega, rfl, rfl, rfl, Below.refl _ _⟩
    case round =>
      obtain ⟨c, hc, rfl, rfl, rfl, hb⟩ := hrel
      have hsz : w2.heap.size ≤ wr.heap.size := hb.size
      by_cases hlk : c < m
      · obtain ⟨x, hkx⟩ := get_lt s c (by rw [← Hn.out]; exact hlk)
        obtain ⟨bb, oo, hix, hbb, hce⟩ := (Hrd.out.kept (bel_step HB2.out hb)).at (P := Try.prog) (T := 39) m cap uslice sone hkx hlk
        have hax := at0_of hkx
        obtain ⟨x1, x2⟩ := HJ.out.at hkx
        obtain ⟨z1, z2⟩ := runY_in (wd := wd) (s := s) (y := y) HO.out (by omega) (by omega) c
        have hsr := runY_succ a k mode n wd s y c
        have hsc := fitC_succ a k mode n wd s y c
        obtain ⟨f1, f2⟩ := fitC_in a k mode n wd s y c
        have hraw := raw_in HO.out z1 z2 x1 x2
        rw [hax] at hsr hsc
        generalize hz : runY a k mode n wd s y c = z at *
        generalize hcc : fitC a k mode n wd s y c = fc at *
        have hfr0 := fitI_s2 n wd (rawI a k mode z x) (by omega) n2
        have Hz : Hid (stepI a k mode n wd x z = fitI n wd (rawI a k mode z x)) := rfl
        have Hsr := hid hsr
        have Hsc := hid hsc
        obtain ⟨q0, q1, q2, q3, q4⟩ := hb.cells5q Hq.out
        clear hsr hsc hz hcc hkx hax
        have hrw := (Hr.out.later hb) wr z x (Below.refl _ _) z1 z2 x1 x2
        have Hrw := hid hrw
        clear hrw
        rw [Hz.out] at Hsr
        generalize hr0 : rawI a k mode z x = r at *
        have hft := fun (W : World) => fit_any n wd r W (by omega) n2 (by omega) (by omega)
        have Hft := hid hft
        clear hft hr0 Hz
        generalize hf0 : fitI n wd r = f at *
        clear hf0
        rcases Int.lt_trichotomy f r with hfr | hfr | hfr
        · have hnc := neI_lt hfr
          have hne : (f != r) = true := bne_iff_ne.2 (by omega)
          rw [hnc] at Hsc
          clear hnc
          go_wp2_with (first | (go_at_fn 63; refine Hrw.out.mono ?_; rintro e w3 ⟨rfl, hb3⟩; have hB3 := hb.trans (hb3.mono hsz); obtain ⟨t0, t1, t2, t3, t4⟩ := hB3.cells5q Hq.out) | (go_at_call 47; refine (Hft.out _).mono ?_; rintro e w4 ⟨rfl, hb4⟩; have hB4 := hB3.trans (hb4.mono hB3.size)))
          go_roundw
          case rel => exact ⟨c + 1, by omega, by rw [Hsr.out], by first | (rw [Hsc.out, Int.add_zero]; done) | (rw [Hsc.out]; done), by go_num, hB4⟩
          case measure => simp [intOf]; omega
        · have hf1 : f ≤ r := by omega
          have hf2 : r ≤ f := by omega
          clear hfr
          have hnc := neI_eq hf1 hf2
          have hne : (f != r) = false := bne_eq_false_iff_eq.2 (by omega)
          rw [hnc] at Hsc
          clear hnc
          go_wp2_with (first | (go_at_fn 63; refine Hrw.out.mono ?_; rintro e w3 ⟨rfl, hb3⟩; have hB3 := hb.trans (hb3.mono hsz); obtain ⟨t0, t1, t2, t3, t4⟩ := hB3.cells5q Hq.out) | (go_at_call 47; refine (Hft.out _).mono ?_; rintro e w4 ⟨rfl, hb4⟩; have hB4 := hB3.trans (hb4.mono hB3.size)))
          go_roundw
          case rel => exact ⟨c + 1, by omega, by rw [Hsr.out], by first | (rw [Hsc.out, Int.add_zero]; done) | (rw [Hsc.out]; done), by go_num, hB4⟩
          case measure => simp [intOf]; omega
        · have hnc := neI_gt hfr
          have hne : (f != r) = true := bne_iff_ne.2 (by omega)
          rw [hnc] at Hsc
          clear hnc
          go_wp2_with (first | (go_at_fn 63; refine Hrw.out.mono ?_; rintro e w3 ⟨rfl, hb3⟩; have hB3 := hb.trans (hb3.mono hsz); obtain ⟨t0, t1, t2, t3, t4⟩ := hB3.cells5q Hq.out) | (go_at_call 47; refine (Hft.out _).mono ?_; rintro e w4 ⟨rfl, hb4⟩; have hB4 := hB3.trans (hb4.mono hB3.size)))
          go_roundw
          case rel => exact ⟨c + 1, by omega, by rw [Hsr.out], by first | (rw [Hsc.out, Int.add_zero]; done) | (rw [Hsc.out]; done), by go_num, hB4⟩
          case measure => simp [intOf]; omega
      · have hge : (m : Int) ≤ (c : Int) := by omega
        have hkn : c = s.length := by rw [← Hn.out]; omega
        have Hk := hid hkn
        clear hkn hlk
        go_wp2
        go_ret2
        exact ⟨ret_ib2 (by unfold cfR; rw [HQ.out, Hk.out]; rfl) rfl, bel_step HB2.out hb⟩


set_option maxHeartbeats 1600000 in
theorem gen_FnExactCountFits (a k mode b : Int) (wr : Bool) (y : Int) (s : List Int) (u_s : Option Addr) (l_s c_s : Nat) (r0 : Int) (r1 : Bool) (w : World) (hs_s : Sl w (.slice u_s l_s c_s) s) (ll_s : l_s ≤ 1048576) (hl_s : s.length ≤ 1048576) (hspec : ∀ (w : World) (v_s : Value), Sl w v_s s → Calls Try.prog 27 #[.agg #[.int .i64 a, .int .i64 k, .int .i64 mode, .int .i64 b, .bool wr], .int .i64 y, v_s] w fun e w' => e = .returned (.tuple #[.int .i64 r0, .bool r1]) ∧ Below w.heap.size w w') (himpl : ∀ (w : World) (v_s : Value), Sl w v_s s → Calls Try.prog 28 #[.agg #[.int .i64 a, .int .i64 k, .int .i64 mode, .int .i64 b, .bool wr], .int .i64 y, v_s] w fun e w' => e = .returned (.tuple #[.int .i64 r0, .bool r1]) ∧ Below w.heap.size w w') :
    Calls Try.prog 9 #[.agg #[.int .i64 a, .int .i64 k, .int .i64 mode, .int .i64 b, .bool wr], .int .i64 y, .slice u_s l_s c_s] w fun e w' => e = .returned (.bool true) ∧ Below w.heap.size w w' := by
  have HSs := hid hs_s
  clear hs_s
  have HSP := hid hspec
  have HIM := hid himpl
  clear hspec himpl
  all_goals cases r1
  all_goals
    go_enter Try.func9, Try.ntmps9
    go_wp2_with fail
    refine (toFirst_any _ _ _ _ _ _).mono ?_
    rintro e w1 ⟨rfl, hb⟩
    have B1 := hb
    have hz1 : w.heap.size ≤ w1.heap.size := by first | exact hb.size | (have := hb.size; simp at this; omega)
    obtain ⟨ca1, cb1, cc1, cd1, ce1⟩ := box5_cells B1
    go_wp2_with fail
    refine (toIntS_any _ s _ (HSs.out.kept (bel_step (bel_alloc w _) B1)) (by omega)).mono ?_
    rintro e w2 ⟨g_As1, hg_As1, rfl, K_As1, hb⟩
    have B2 := bel_step B1 hb
    have hz2 : w1.heap.size ≤ w2.heap.size := hb.size
    have As1 := K_As1.res hg_As1
    obtain ⟨ca2, cb2, cc2, cd2, ce2⟩ := box5_cells B2
    go_wp2_with fail
    refine (HSP.out _ _ As1.sl).mono ?_
    rintro e w3 ⟨rfl, hb⟩
    have B3 := bel_step B2 hb
    have hz3 : w2.heap.size ≤ w3.heap.size := hb.size
    have As1_3 := As1.kept hb
    obtain ⟨ca3, cb3, cc3, cd3, ce3⟩ := box5_cells B3
    go_wp2_with fail
    refine (toIntS_any _ s _ (HSs.out.kept (bel_step (bel_alloc w _) B3)) (by omega)).mono ?_
    rintro e w4 ⟨g_Xs, hg_Xs, rfl, K_Xs, hb⟩
    have B4 := bel_step B3 hb
    have hz4 : w3.heap.size ≤ w4.heap.size := hb.size
    have Xs := K_Xs.res hg_Xs
    obtain ⟨ca4, cb4, cc4, cd4, ce4⟩ := box5_cells B4
    have hlt_Xs := K_Xs.lt
    go_wp2_with fail
    refine (toFirst_any _ _ _ _ _ _).mono ?_
    rintro e w5 ⟨rfl, hb⟩
    have B5 := bel_step B4 hb
    have hz5 : w4.heap.size ≤ w5.heap.size := hb.size
    have Xs_5 := Xs.kept hb
    obtain ⟨ca5, cb5, cc5, cd5, ce5⟩ := box5_cells B5
    have hxl_Xs : g_Xs < w5.heap.size := Xs_5.lt rfl
    go_wp2_with fail
    refine (HIM.out _ _ Xs_5.sl).mono ?_
    rintro e w6 ⟨rfl, hb⟩
    have B6 := bel_step B5 hb
    have hz6 : w5.heap.size ≤ w6.heap.size := hb.size
    have Xs_6 := Xs_5.kept hb
    obtain ⟨ca6, cb6, cc6, cd6, ce6⟩ := box5_cells B6
    go_wp2_with fail
    refine (toIntS_any _ s _ (HSs.out.kept (bel_step (bel_alloc w _) B6)) (by omega)).mono ?_
    rintro e w7 ⟨g_TXs, hg_TXs, rfl, K_TXs, hb⟩
    have B7 := bel_step B6 hb
    have hz7 : w6.heap.size ≤ w7.heap.size := hb.size
    have Xs_7 := Xs_6.kept hb
    have TXs := K_TXs.res hg_TXs
    obtain ⟨ca7, cb7, cc7, cd7, ce7⟩ := box5_cells B7
    go_wp2_with fail
    refine (eqIntS_same _ _ s _ Xs_7.sl TXs.sl (by omega)).mono ?_
    rintro e w8 ⟨rfl, hb⟩
    have B8 := bel_step B7 hb
    have hz8 : w7.heap.size ≤ w8.heap.size := hb.size
    have Xs_8 := Xs_7.kept hb
    have TXs_8 := TXs.kept hb
    obtain ⟨ca8, cb8, cc8, cd8, ce8⟩ := box5_cells B8
    go_wp2_with fail
    go_ret
    exact ⟨rfl, bel_step (bel_alloc _ _) B8⟩


set_option maxHeartbeats 1600000 in
theorem walk_FnExactCountFits (w : World) (a k mode b : Int) (wr : Bool) (wa : (Lit.int .i64 a).wf = true) (wk : (Lit.int .i64 k).wf = true) (wm : (Lit.int .i64 mode).wf = true) (wb : (Lit.int .i64 b).wf = true) (y : Int) (w_y : (Lit.int .i64 y).wf = true) (u_s : Option Addr) (l_s c_s : Nat) (z_s : List Int) (hr_s : IsRow .i64 w u_s l_s c_s z_s) :
    Calls Try.prog 9 #[.agg #[.int .i64 a, .int .i64 k, .int .i64 mode, .int .i64 b, .bool wr], .int .i64 y, .slice u_s l_s c_s] w fun e w' => e = .returned (.bool true) ∧ Below w.heap.size w w' := by
  obtain ⟨hs_s, hlen_s, hin_s⟩ := hr_s.sl
  generalize z_s.take l_s = s at hs_s hlen_s hin_s
  clear hr_s
  obtain ⟨y_1, y_2⟩ := bounds_i64 w_y
  by_cases hbig_s : 1048576 < l_s
  · clear hs_s hlen_s hin_s
    go_enter Try.func9, Try.ntmps9
    go_wp2
    go_ret
    exact ⟨rfl, bel_alloc _ _⟩
  · have hq_s : l_s ≤ 1048576 := by omega
    exact gen_FnExactCountFits a k mode b wr y s _ _ _ (cfR a k mode b wr y s) (crB a k mode b y s) w hs_s (by omega) (by omega)  (fun w v_s h_s => spec_CountFits_is _ _ _ _ _ _ v_s s w h_s y_1 y_2) (fun w v_s h_s => impl_CountFits_is _ _ _ _ _ _ v_s s w h_s y_1 y_2)

end Go.Proofs.Ytcaoomcmfckhcaa
