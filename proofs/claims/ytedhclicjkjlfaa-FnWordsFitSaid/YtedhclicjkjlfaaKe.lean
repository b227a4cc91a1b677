
import Derived.Test.YtedhclicjkjlfaaKb
import Derived.Deep.RegionHeld3
namespace Go.Proofs.Ytedhclicjkjlfaa
open Go.RowKit BitX Go.MemX
set_option linter.unusedVariables false


def DrawsW (g K : Nat) (w : World) (e : Ending) (w' : World) : Prop := (∃ b wr, e = .returned (.agg #[.int .i64 b, .bool wr]) ∧ -1 ≤ b ∧ b ≤ 4611686018427387904) ∧ Cur g K w' ∧ Gets g w w'
theorem Cur.setOther {g K h : Nat} {w : World} (hc : Cur g K w) (hne : g < h) (i : Nat) (v : Value) : Cur g K (w.setCell ⟨h, i, none⟩ v) := by
  obtain ⟨a, len, cap, at_, seed, h1, h2, h3⟩ := hc
  refine ⟨a, len, cap, at_, seed, by rw [heap_setCell_other _ _ _ _ (show g ≠ h by omega)]; exact h1, ?_, h3⟩
  intro j hj
  obtain ⟨b, off, x, ha, hlt, hx, hcc⟩ := h2 j hj
  exact ⟨b, off, x, ha, hlt, hx, by rw [World.cell?_setCell_far _ _ _ _ (show h ≠ b by omega)]; exact hcc⟩
theorem Gets.setNew {g h : Nat} {w w1 : World} (hg : Gets g w w1) (hh : w.heap.size ≤ h) (hl : g < h) (i : Nat) (v : Value) : Gets g w (w1.setCell ⟨h, i, none⟩ v) :=
  ⟨hg.1.setCell (by exact Nat.le_of_lt hl) v, fun b hb hne => by rw [heap_setCell_other _ _ _ _ (show b ≠ h by omega)]; exact hg.2 b hb hne⟩
set_option maxHeartbeats 2000000 in
theorem word_any (g K : Nat) (w : World) (hc : Cur g K w) (hK : K ≤ 999990000) :
    Calls Try.prog 27 #[.pointer (some ⟨g, 0, none⟩)] w (DrawsW g (K + 6) w) := by
  have HC := hid hc
  have hgl := hc.lt
  have HA := hid ((Gets.refl g w).alloc hc.lt (.cells #[.int .i64 0, .bool false] 25))
  have HZ := hid (show (w.alloc (.cells #[.int .i64 0, .bool false] 25)).heap[w.heap.size]? = some (.cells #[.int .i64 0, .bool false] 25 (0, 0)) from heap_alloc_new _ _)
  have HC0 := hid (hc.kept (bel_alloc w (.cells #[.int .i64 0, .bool false] 25)))
  clear hc
  go_enter Try.func27, Try.ntmps27
  go_wp2_with fail
  refine (one_any g K 12 _ HC0.out (by omega) (by omega) (by omega)).mono ?_
  rintro e w1 ⟨⟨q, rfl⟩, hc1, hb1⟩
  have HC1 := hid hc1
  have HB1 := hid hb1
  clear hc1 hb1
  cases q
  · go_wp2_with fail
    refine (pick_any g (K + 2) 7 _ HC1.out (by omega) (by omega) (by omega)).mono ?_
    rintro e w2 ⟨⟨r, rfl, r1, r2⟩, hc2, hb2⟩
    have HC2 := hid hc2
    have HB2 := hid (HB1.out.trans hb2)
    have e1 : IntKind.i64.wrap (2 + r) = 2 + r := (w64s (by omega) (by omega)).1
    clear hc2 hb2
    go_wp2_with fail
    refine (one_any g (K + 4) 2 _ HC2.out (by omega) (by omega) (by omega)).mono ?_
    rintro e w3 ⟨⟨q, rfl⟩, hc3, hb3⟩
    have HC3 := hid hc3
    have HB3 := hid (HB2.out.trans hb3)
    clear hc3 hb3
    have hh := ((HB3.out.2 w.heap.size (by simp) (Nat.ne_of_gt hgl)).trans HZ.out)
    have p0 := cell_of_row _ w.heap.size 0 _ _ _ hh
    have p1 := cell_of_row _ w.heap.size 1 _ _ _ hh
    have q0 := frozen_of_row _ w.heap.size 0 _ _ hh
    have q1 := frozen_of_row _ w.heap.size 1 _ _ hh
    simp at p0 p1
    have HH := hid hh
    clear hh
    go_wp2_with fail
    refine bodyPost_ret (v := .agg #[.int .i64 (2 + r), .bool q]) (by simp [results, Try.results27, go_sem, p0, p1]) rfl ⟨⟨_, _, rfl, by omega, by omega⟩, ?_, ?_⟩
    · exact ((HC3.out.setOther hgl 0 _).setOther hgl 1 _).mono (by omega)
    · exact (((HA.out.trans HB3.out).setNew (Nat.le_refl _) hgl 0 _).setNew (Nat.le_refl _) hgl 1 _)
  · go_wp2_with fail
    refine (among_any g (K + 2) w1.heap.size [(-1), 1, 2, 16, 17, 4611686018427387904] (-1) (4611686018427387904) _ (HC1.out.kept (bel_alloc _ _)) (by omega) (heap_alloc_new _ _) (Nat.ne_of_gt HC1.out.lt) (by decide) (by decide) (by decide)).mono ?_
    rintro e w2 ⟨⟨r, rfl, r1, r2⟩, hc2, hb2⟩
    have HC2 := hid hc2
    have HB2 := hid ((HB1.out.alloc HC1.out.lt (.cells (intsA [-1, 1, 2, 16, 17, 4611686018427387904]) 3)).trans hb2)
    clear hc2 hb2
    go_wp2_with fail
    refine (one_any g (K + 4) 2 _ HC2.out (by omega) (by omega) (by omega)).mono ?_
    rintro e w3 ⟨⟨q, rfl⟩, hc3, hb3⟩
    have HC3 := hid hc3
    have HB3 := hid (HB2.out.trans hb3)
    clear hc3 hb3
    have hh := ((HB3.out.2 w.heap.size (by simp) (Nat.ne_of_gt hgl)).trans HZ.out)
    have p0 := cell_of_row _ w.heap.size 0 _ _ _ hh
    have p1 := cell_of_row _ w.heap.size 1 _ _ _ hh
    have q0 := frozen_of_row _ w.heap.size 0 _ _ hh
    have q1 := frozen_of_row _ w.heap.size 1 _ _ hh
    simp at p0 p1
    have HH := hid hh
    clear hh
    go_wp2_with fail
    refine bodyPost_ret (v := .agg #[.int .i64 (r), .bool q]) (by simp [results, Try.results27, go_sem, p0, p1]) rfl ⟨⟨_, _, rfl, r1, r2⟩, ?_, ?_⟩
    · exact ((HC3.out.setOther hgl 0 _).setOther hgl 1 _).mono (by omega)
    · exact (((HA.out.trans HB3.out).setNew (Nat.le_refl _) hgl 0 _).setNew (Nat.le_refl _) hgl 1 _)


theorem boxS {W : World} {h : Nat} {b : Int} {wr : Bool} (hh : W.heap[h]? = some (.cells #[.int .i64 b, .bool wr] 25 (0, 0))) : W.cell? ⟨h, 0, none⟩ = some (.int .i64 b) ∧ W.cell? ⟨h, 1, none⟩ = some (.bool wr) :=
  ⟨by rw [cell_of_row _ h 0 _ _ _ hh]; rfl, by rw [cell_of_row _ h 1 _ _ _ hh]; rfl⟩
theorem pow_n (n : Nat) (h1 : 2 ≤ n) (h2 : n ≤ 16) : (1 : Int) ≤ 2 ^ (n - 1) ∧ (2 : Int) ^ (n - 1) ≤ 32768 ∧ (1 : Int) ≤ 2 ^ n ∧ (2 : Int) ^ n ≤ 65536 := by
  have a := pow_small n (by omega) h2
  have hm : (2 : Int) ^ n = 2 * 2 ^ (n - 1) := by
    rw [show n = (n - 1) + 1 from by omega, Int.pow_succ]; simp; omega
  omega
theorem wordNums (n : Nat) (h1 : 2 ≤ n) (h2 : n ≤ 16) : ∃ Lo Hi PP : Int, Lo = -(2 : Int) ^ (n - 1) ∧ Hi = (2 : Int) ^ (n - 1) - 1 ∧ wrap64 ((2 : Int) ^ n) = PP ∧ wrap64 ((2 : Int) ^ min n 64) = PP ∧ IntKind.i64.wrap ((2 : Int) ^ n) = PP ∧ (-32768 ≤ Lo ∧ Lo ≤ 0) ∧ (0 ≤ Hi ∧ Hi ≤ 32767) ∧ 1 ≤ PP ∧ PP ≤ 65536 := by
  obtain ⟨P1, P2, P3, P4⟩ := pow_n n h1 h2
  have hm : min n 64 = n := Nat.min_eq_left (by omega)
  have q := w64s (x := (2 : Int) ^ n) (Int.le_trans (by decide) P3) (Int.le_trans P4 (by decide))
  refine ⟨_, _, (2 : Int) ^ n, rfl, rfl, q.2, by rw [hm]; exact q.2, q.1, ⟨?_, ?_⟩, ⟨?_, ?_⟩, P3, P4⟩
  all_goals generalize (2 : Int) ^ (n - 1) = x at *
  all_goals clear q
  all_goals generalize (2 : Int) ^ n = y at *
  all_goals omega
set_option maxHeartbeats 4000000 in
theorem inWord_any (g K : Nat) (b : Int) (wr : Bool) (w : World) (hc : Cur g K w) (hK : K ≤ 999980000) :
    Calls Try.prog 38 #[.pointer (some ⟨g, 0, none⟩), .agg #[.int .i64 b, .bool wr]] w (Draws g (K + 12) (-4611686018427387904) 4611686018427387904 w) := by
  have HC := hid hc
  have hgl := hc.lt
  have HA := hid ((Gets.refl g w).alloc hc.lt (.cells #[.int .i64 b, .bool wr] 25))
  have HZ := hid (show (w.alloc (.cells #[.int .i64 b, .bool wr] 25)).heap[w.heap.size]? = some (.cells #[.int .i64 b, .bool wr] 25 (0, 0)) from heap_alloc_new _ _)
  have HC0 := hid (hc.kept (bel_alloc w (.cells #[.int .i64 b, .bool wr] 25)))
  clear hc
  by_cases hw : 2 ≤ b ∧ b ≤ 16
  · obtain ⟨n, rfl⟩ : ∃ n : Nat, b = n := ⟨b.toNat, by omega⟩
    have n1 : 2 ≤ n := by omega
    have n2 : n ≤ 16 := by omega
    obtain ⟨Lo, Hi, PP, hLo, hHi, e0, e0', e0'', b1, b2, b3⟩ := wordNums n n1 n2
    have hPP0 : PP ≠ 0 := by omega
    have hPPb : (PP == 0) = false := beq_eq_false_iff_ne.2 hPP0
    have HLO := hid (fun (W : World) => wdLow_any n wr W (by omega) n2)
    have HHI := hid (fun (W : World) => wdHigh_any n wr W (by omega) n2)
    rw [← hLo] at HLO
    rw [← hHi] at HHI
    have hn0 : 0 ≤ (n : Int) := by omega
    clear hLo hHi
    go_enter Try.func38, Try.ntmps38
    go_wp2_with fail
    refine (wdGood_yes (n : Int) wr _ hw.1 hw.2).mono ?_
    rintro e w1 ⟨rfl, hb⟩
    have HC1 := hid (HC0.out.kept hb)
    have HB1 := hid (HA.out.below hb (by simp; omega))
    have hh := (hb.block w.heap.size (by simp)).trans HZ.out
    have p0 := cell_of_row _ w.heap.size 0 _ _ _ hh
    have p1 := cell_of_row _ w.heap.size 1 _ _ _ hh
    simp at p0 p1
    have HH := hid hh
    clear hh
    clear hb
    go_wp2_with fail
    refine (one_any g K 12 _ HC1.out (by omega) (by omega) (by omega)).mono ?_
    rintro e w2 ⟨⟨q, rfl⟩, hc2, hb2⟩
    have HC2 := hid hc2
    have HB2 := hid (HB1.out.trans hb2)
    have hlt1 := lt_of_block HH.out
    clear p0 p1
    have hh := (hb2.2 w.heap.size hlt1 (Nat.ne_of_gt hgl)).trans HH.out
    have p0 := cell_of_row _ w.heap.size 0 _ _ _ hh
    have p1 := cell_of_row _ w.heap.size 1 _ _ _ hh
    simp at p0 p1
    have HH := hid hh
    clear hh
    clear hc2 hb2
    cases q
    · go_wp2_with fail
      refine (pick_any g (K + 2) 5 _ HC2.out (by omega) (by omega) (by omega)).mono ?_
      rintro e w3 ⟨⟨q, rfl, q1, q2⟩, hc3, hb3⟩
      have HC3 := hid hc3
      have HB3 := hid (HB2.out.trans hb3)
      have hlt2 := lt_of_block HH.out
      clear p0 p1
      have hh := (hb3.2 w.heap.size hlt2 (Nat.ne_of_gt hgl)).trans HH.out
      have p0 := cell_of_row _ w.heap.size 0 _ _ _ hh
      have p1 := cell_of_row _ w.heap.size 1 _ _ _ hh
      simp at p0 p1
      have HH := hid hh
      clear hh
      clear hc3 hb3
      by_cases h0 : q = 0
      · have hq0 : (q == 0) = true := beq_iff_eq.2 h0
        go_wp2_with fail
        refine (HLO.out _).mono ?_
        rintro e w4 ⟨rfl, hb⟩
        have HB4 := hid (HB3.out.below hb HC3.out.lt)
        have HC4 := hid ((HC3.out.kept hb).mono (show _ ≤ K + 12 by omega))
        clear hb
        go_wp2
        go_ret
        exact ⟨⟨Lo, rfl, by omega, by omega⟩, HC4.out, HB4.out⟩
      · have hq0 : (q == 0) = false := beq_eq_false_iff_ne.2 h0
        by_cases h1 : q = 1
        · have hq1 : (q == 1) = true := beq_iff_eq.2 h1
          clear h0
          go_wp2_with fail
          refine (HHI.out _).mono ?_
          rintro e w4 ⟨rfl, hb⟩
          have HB4 := hid (HB3.out.below hb HC3.out.lt)
          have HC4 := hid ((HC3.out.kept hb).mono (show _ ≤ K + 12 by omega))
          clear hb
          go_wp2
          go_ret
          exact ⟨⟨Hi, rfl, by omega, by omega⟩, HC4.out, HB4.out⟩
        · have hq1 : (q == 1) = false := beq_eq_false_iff_ne.2 h1
          have hS := And.intro p0 p1
          have hlt3 := lt_of_block HH.out
          have hC3 : Cur g (K + 2 + 2) w3.drew := HC3.out
          have HC3d := hid hC3
          have hB3 : Gets g w w3.drew := HB3.out.drew
          have HB3d := hid hB3
          have hH3 : w3.drew.heap[w.heap.size]? = some (.cells #[.int .i64 (n : Int), .bool wr] 25 (0, 0)) := HH.out
          have HHd := hid hH3
          clear hC3 hB3 hH3
          go_wp2_with fail
          go_region_held3 (fun W => W.cell? ⟨w.heap.size, 0, none⟩ = some (.int .i64 (n : Int)) ∧ W.cell? ⟨w.heap.size, 1, none⟩ = some (.bool wr)) (first | exact hS | assumption | go_keep) (first | (go_at_call 36; refine (HLO.out _).mono ?_; rintro e w4 ⟨rfl, hb⟩; have HB4 := hid (HB3d.out.below hb HC3d.out.lt); have HC4 := hid (HC3d.out.kept hb); have HH4 := hid ((hb.block w.heap.size hlt3).trans HHd.out); have hS := boxS HH4.out) | (go_at_call 51; refine (pick_any g (K + 2 + 2) 256 _ HC4.out (by omega) (by omega) (by omega)).mono ?_; rintro e w5 ⟨⟨r, rfl, r1, r2⟩, hc5, hb5⟩; have HB5 := hid (HB4.out.trans hb5); have HC5 := hid (hc5.mono (show K + 2 + 2 + 2 ≤ K + 12 by omega)); have hS := boxS ((hb5.2 w.heap.size (lt_of_block HH4.out) (Nat.ne_of_gt hgl)).trans HH4.out); have e1 : IntKind.i64.wrap (r * 257) = r * 257 := (w64s (by omega) (by omega)).1; have hm := tmod_in (x := r * 257) (n := PP) (by omega) b3.1; have hm2 := emod_in (x := r * 257) (n := PP) b3.1; have e2 : IntKind.i64.wrap ((r * 257).tmod PP) = (r * 257).tmod PP := (w64s (by omega) (by omega)).1))
          all_goals go_wp2
          all_goals go_ret
          all_goals exact ⟨⟨_, rfl, by first | omega | (rw [(w64s (by omega) (by omega)).2]; omega) | (rw [(w64s (by omega) (by omega)).1]; omega), by first | omega | (rw [(w64s (by omega) (by omega)).2]; omega) | (rw [(w64s (by omega) (by omega)).1]; omega)⟩, HC5.out, HB5.out⟩
    · go_wp2_with fail
      refine (number_any g (K + 2) _ HC2.out (by omega)).mono ?_
      rintro e w3 ⟨⟨r, rfl, r1, r2⟩, hc3, hb3⟩
      have HC3 := hid (hc3.mono (show _ ≤ K + 12 by omega))
      have HB3 := hid (HB2.out.trans hb3)
      clear hc3 hb3
      go_wp2
      go_ret
      exact ⟨⟨r, rfl, r1, r2⟩, HC3.out, HB3.out⟩
  · go_enter Try.func38, Try.ntmps38
    go_wp2_with fail
    refine (wdGood_no b wr _ hw).mono ?_
    rintro e w1 ⟨rfl, hb⟩
    have HC1 := hid (HC0.out.kept hb)
    have HB1 := hid (HA.out.below hb (by simp; omega))
    clear hb
    go_wp2_with fail
    refine (number_any g K _ HC1.out (by omega)).mono ?_
    rintro e w2 ⟨⟨r, rfl, r1, r2⟩, hc2, hb2⟩
    have HC2 := hid (hc2.mono (show _ ≤ K + 12 by omega))
    have HB2 := hid (HB1.out.trans hb2)
    clear hc2 hb2
    go_wp2
    go_ret
    exact ⟨⟨r, rfl, r1, r2⟩, HC2.out, HB2.out⟩

end Go.Proofs.Ytedhclicjkjlfaa
