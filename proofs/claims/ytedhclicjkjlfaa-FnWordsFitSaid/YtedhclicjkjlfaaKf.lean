
import Derived.Test.YtedhclicjkjlfaaKc
import Derived.Test.YtedhclicjkjlfaaKe
namespace Go.Proofs.Ytedhclicjkjlfaa
open Go.RowKit BitX Go.MemX
set_option linter.unusedVariables false


def DrawsFN (w : World) (e : Ending) (w' : World) : Prop := (∃ b wr x, e = .returned (.tuple #[.agg #[.int .i64 b, .bool wr], .int .i64 x]) ∧ (-1 ≤ b ∧ b ≤ 4611686018427387904) ∧ -4611686018427387904 ≤ x ∧ x ≤ 4611686018427387904) ∧ Below w.heap.size w w'
/-- the cursor behind the block of a result -/
theorem Cur.new2 {w : World} {o : Obj} {a : Option Addr} {len cap : Nat} (hb : By w.heap.size w a len) (hl : len ≤ 1048576) : Cur (w.heap.size + 1) 0 ((w.alloc o).alloc (.cells #[.slice a len cap, .int .i64 0, .int .u64 0] 46)) := by
  have h1 : By (w.heap.size + 1) (w.alloc o) a len := by
    intro i hi
    obtain ⟨b, off, x, ha, hlt, hx, hc⟩ := hb.kept (bel_alloc w o) i hi
    exact ⟨b, off, x, ha, by omega, hx, hc⟩
  have e : (w.alloc o).heap.size = w.heap.size + 1 := by simp
  rw [← e] at h1 ⊢
  exact Cur.new h1 hl
set_option maxHeartbeats 1000000 in
theorem DrawFitNumber_any (a : Option Addr) (len cap : Nat) (w : World) (hb : By w.heap.size w a len) (hl : len ≤ 1048576) :
    Calls Try.prog 6 #[.slice a len cap] w (DrawsFN w) := by
  have HC := hid (Cur.new2 (o := .cells #[.int .i64 0, .bool false] 25) (cap := cap) hb hl)
  have HZ := hid (show (w.alloc (.cells #[.int .i64 0, .bool false] 25)).heap[w.heap.size]? = some (.cells #[.int .i64 0, .bool false] 25 (0, 0)) from heap_alloc_new _ _)
  have HA := hid (bel_step (bel_alloc w (.cells #[.int .i64 0, .bool false] 25)) (bel_alloc _ (.cells #[.slice a len cap, .int .i64 0, .int .u64 0] 46)))
  clear hb
  go_enter Try.func6, Try.ntmps6
  go_wp2_with fail
  refine (word_any _ 0 _ HC.out (by omega)).mono ?_
  rintro e w1 ⟨⟨b, wr, rfl, b1, b2⟩, hc1, hb1⟩
  have HC1 := hid hc1
  have HB1 := hid hb1
  clear hc1 hb1
  go_wp2_with fail
  refine (number_any _ 6 _ HC1.out (by omega)).mono ?_
  rintro e w2 ⟨⟨x, rfl, x1, x2⟩, hc2, hb2⟩
  have HB2 := hid (HB1.out.trans hb2)
  clear hc2 hb2
  have hh := (HB2.out.2 w.heap.size (by simp; omega) (by omega)).trans (((bel_alloc (w.alloc (.cells #[.int .i64 0, .bool false] 25)) (.cells #[.slice a len cap, .int .i64 0, .int .u64 0] 46)).block w.heap.size (by simp)).trans HZ.out)
  have p0 := cell_of_row _ w.heap.size 0 _ _ _ hh
  have p1 := cell_of_row _ w.heap.size 1 _ _ _ hh
  have q0 := frozen_of_row _ w.heap.size 0 _ _ hh
  have q1 := frozen_of_row _ w.heap.size 1 _ _ hh
  simp at p0 p1
  clear hh
  go_wp2_with fail
  refine bodyPost_ret (v := .tuple #[.agg #[.int .i64 b, .bool wr], .int .i64 x]) (by simp [results, Try.results6, go_sem, p0, p1]) rfl ⟨⟨_, _, _, rfl, ⟨b1, b2⟩, x1, x2⟩, ?_⟩
  exact ((HA.out.trans (HB2.out.1.mono (by omega))).setCell (by exact Nat.le_refl _) _).setCell (by exact Nat.le_refl _) _


theorem size_of_gets {g : Nat} {w w1 : World} (h : Gets g w w1) : w.heap.size ≤ w1.heap.size := h.1.size
theorem boxP {W : World} {h : Nat} {b : Int} {wr : Bool} (hh : W.heap[h]? = some (.cells #[.int .i64 b, .bool wr] 25 (0, 0))) : W.cell? ⟨h, 0, none⟩ = some (.int .i64 b) ∧ W.cell? ⟨h, 1, none⟩ = some (.bool wr) ∧ W.frozen? ⟨h, 0, none⟩ = false ∧ W.frozen? ⟨h, 1, none⟩ = false :=
  ⟨(boxS hh).1, (boxS hh).2, frozen_of_row _ h 0 _ _ hh, frozen_of_row _ h 1 _ _ hh⟩


def DrawsAI (w : World) (e : Ending) (w' : World) : Prop := (∃ b wr x y, e = .returned (.tuple #[.agg #[.int .i64 b, .bool wr], .int .i64 x, .int .i64 y]) ∧ (-1 ≤ b ∧ b ≤ 4611686018427387904) ∧ (-4611686018427387904 ≤ x ∧ x ≤ 4611686018427387904) ∧ -4611686018427387904 ≤ y ∧ y ≤ 4611686018427387904) ∧ Below w.heap.size w w'
set_option maxHeartbeats 4000000 in
theorem DrawAddIn_any (a : Option Addr) (len cap : Nat) (w : World) (hb : By w.heap.size w a len) (hl : len ≤ 1048576) :
    Calls Try.prog 13 #[.slice a len cap] w (DrawsAI w) := by
  have HC := hid (Cur.new2 (o := .cells #[.int .i64 0, .bool false] 25) (cap := cap) hb hl)
  have HZ := hid (show (w.alloc (.cells #[.int .i64 0, .bool false] 25)).heap[w.heap.size]? = some (.cells #[.int .i64 0, .bool false] 25 (0, 0)) from heap_alloc_new _ _)
  have HA := hid (bel_step (bel_alloc w (.cells #[.int .i64 0, .bool false] 25)) (bel_alloc _ (.cells #[.slice a len cap, .int .i64 0, .int .u64 0] 46)))
  clear hb
  go_enter Try.func13, Try.ntmps13
  go_wp2_with fail
  refine (word_any _ 0 _ HC.out (by omega)).mono ?_
  rintro e w1 ⟨⟨b, wr, rfl, b1, b2⟩, hc1, hb1⟩
  have hsz : w.heap.size + 2 ≤ w1.heap.size := by have := hb1.1.size; have e : ((w.alloc (.cells #[.int .i64 0, .bool false] 25)).alloc (.cells #[.slice a len cap, .int .i64 0, .int .u64 0] 46)).heap.size = w.heap.size + 1 + 1 := by simp
                                                  rw [← show ((w.alloc (.cells #[.int .i64 0, .bool false] 25)).alloc (.cells #[.slice a len cap, .int .i64 0, .int .u64 0] 46)).heap.size = w.heap.size + 2 from e]; exact size_of_gets hb1
  have HB1 := hid (hb1.alloc hc1.lt (.cells #[.int .i64 b, .bool wr] 25))
  have HC1 := hid (hc1.kept (bel_alloc w1 (.cells #[.int .i64 b, .bool wr] 25)))
  have HHr0 := hid ((hb1.2 w.heap.size (by simp; omega) (by omega)).trans (((bel_alloc (w.alloc (.cells #[.int .i64 0, .bool false] 25)) (.cells #[.slice a len cap, .int .i64 0, .int .u64 0] 46)).block w.heap.size (by simp)).trans HZ.out))
  have HHr1 := hid (((bel_alloc w1 (.cells #[.int .i64 b, .bool wr] 25)).block w.heap.size (by omega)).trans HHr0.out)
  have HH60 := hid (show (w1.alloc (.cells #[.int .i64 b, .bool wr] 25)).heap[w1.heap.size]? = some (.cells #[.int .i64 b, .bool wr] 25 (0, 0)) from heap_alloc_new _ _)
  have NE := hid (show w1.heap.size ≠ w.heap.size + 1 by omega)
  have NR := hid (show w.heap.size ≠ w.heap.size + 1 by omega)
  have nn1 : w.heap.size ≠ w1.heap.size := by omega
  clear hc1 hb1
  go_wp2_with fail
  generalize w1.alloc (.cells #[.int .i64 b, .bool wr] 25) = W1 at *
  have HCc := hid (show Cur (w.heap.size + 1) (0 + 6) W1.drew from HC1.out)
  have HBc := hid HB1.out.drew
  have HH6 := hid (show W1.drew.heap[w1.heap.size]? = some (.cells #[.int .i64 b, .bool wr] 25 (0, 0)) from HH60.out)
  have HHr := hid (show W1.drew.heap[w.heap.size]? = some (.cells #[.int .i64 0, .bool false] 25 (0, 0)) from HHr1.out)
  have hS := boxS HH60.out
  have M0 : True := trivial
  go_region_held3 (fun X => X.cell? ⟨w1.heap.size, 0, none⟩ = some (.int .i64 b) ∧ X.cell? ⟨w1.heap.size, 1, none⟩ = some (.bool wr)) (first | exact hS | assumption | go_keep) (first | (go_at_call 38; have M1 := M0; clear M0; refine (inWord_any _ _ b wr _ HCc.out (by omega)).mono ?_; rintro e wn ⟨⟨x, rfl, x1, x2⟩, hcn, hbn⟩; have HCc := hid hcn; have HBc := hid (HBc.out.trans hbn); have HH6 := hid ((hbn.2 w1.heap.size (lt_of_block HH6.out) NE.out).trans HH6.out); have HHr := hid ((hbn.2 w.heap.size (lt_of_block HHr.out) NR.out).trans HHr.out); have hS := boxS HH6.out; clear hcn hbn; obtain ⟨p0, p1, q0, q1⟩ := boxP HHr.out) | (go_at_call 38; refine (inWord_any _ _ b wr _ HCc.out (by omega)).mono ?_; rintro e wn ⟨⟨y, rfl, y1, y2⟩, hcn, hbn⟩; have HCc := hid hcn; have HBc := hid (HBc.out.trans hbn); have HH6 := hid ((hbn.2 w1.heap.size (lt_of_block HH6.out) NE.out).trans HH6.out); have HHr := hid ((hbn.2 w.heap.size (lt_of_block HHr.out) NR.out).trans HHr.out); have hS := boxS HH6.out; clear hcn hbn; obtain ⟨p0, p1, q0, q1⟩ := boxP HHr.out))
  all_goals go_wp2_with fail
  refine bodyPost_ret (v := .tuple #[.agg #[.int .i64 b, .bool wr], .int .i64 x, .int .i64 y]) (by simp [results, Try.results13, go_sem, p0, p1]) rfl ⟨⟨_, _, _, _, rfl, ⟨b1, b2⟩, ⟨x1, x2⟩, y1, y2⟩, ?_⟩
  exact ((HA.out.trans (HBc.out.1.mono (by omega))).setCell (by exact Nat.le_refl _) _).setCell (by exact Nat.le_refl _) _



def DrawsTI (w : World) (e : Ending) (w' : World) : Prop := (∃ b wr x y k m, e = .returned (.tuple #[.agg #[.int .i64 b, .bool wr], .int .i64 x, .int .i64 y, .int .i64 k, .int .i64 m]) ∧ (-1 ≤ b ∧ b ≤ 4611686018427387904) ∧ (-4611686018427387904 ≤ x ∧ x ≤ 4611686018427387904) ∧ (-4611686018427387904 ≤ y ∧ y ≤ 4611686018427387904) ∧ (-1 ≤ k ∧ k ≤ 64) ∧ -1 ≤ m ∧ m ≤ 3) ∧ Below w.heap.size w w'
set_option maxHeartbeats 4000000 in
theorem DrawTimesIn_any (a : Option Addr) (len cap : Nat) (w : World) (hb : By w.heap.size w a len) (hl : len ≤ 1048576) :
    Calls Try.prog 18 #[.slice a len cap] w (DrawsTI w) := by
  have HC := hid (Cur.new2 (o := .cells #[.int .i64 0, .bool false] 25) (cap := cap) hb hl)
  have HZ := hid (show (w.alloc (.cells #[.int .i64 0, .bool false] 25)).heap[w.heap.size]? = some (.cells #[.int .i64 0, .bool false] 25 (0, 0)) from heap_alloc_new _ _)
  have HA := hid (bel_step (bel_alloc w (.cells #[.int .i64 0, .bool false] 25)) (bel_alloc _ (.cells #[.slice a len cap, .int .i64 0, .int .u64 0] 46)))
  clear hb
  go_enter Try.func18, Try.ntmps18
  go_wp2_with fail
  refine (word_any _ 0 _ HC.out (by omega)).mono ?_
  rintro e w1 ⟨⟨b, wr, rfl, b1, b2⟩, hc1, hb1⟩
  have hsz : w.heap.size + 2 ≤ w1.heap.size := by have := hb1.1.size; have e : ((w.alloc (.cells #[.int .i64 0, .bool false] 25)).alloc (.cells #[.slice a len cap, .int .i64 0, .int .u64 0] 46)).heap.size = w.heap.size + 1 + 1 := by simp
                                                  rw [← show ((w.alloc (.cells #[.int .i64 0, .bool false] 25)).alloc (.cells #[.slice a len cap, .int .i64 0, .int .u64 0] 46)).heap.size = w.heap.size + 2 from e]; exact size_of_gets hb1
  have HB1 := hid (hb1.alloc hc1.lt (.cells #[.int .i64 b, .bool wr] 25))
  have HC1 := hid (hc1.kept (bel_alloc w1 (.cells #[.int .i64 b, .bool wr] 25)))
  have HHr0 := hid ((hb1.2 w.heap.size (by simp; omega) (by omega)).trans (((bel_alloc (w.alloc (.cells #[.int .i64 0, .bool false] 25)) (.cells #[.slice a len cap, .int .i64 0, .int .u64 0] 46)).block w.heap.size (by simp)).trans HZ.out))
  have HHr1 := hid (((bel_alloc w1 (.cells #[.int .i64 b, .bool wr] 25)).block w.heap.size (by omega)).trans HHr0.out)
  have HH60 := hid (show (w1.alloc (.cells #[.int .i64 b, .bool wr] 25)).heap[w1.heap.size]? = some (.cells #[.int .i64 b, .bool wr] 25 (0, 0)) from heap_alloc_new _ _)
  have NE := hid (show w1.heap.size ≠ w.heap.size + 1 by omega)
  have NR := hid (show w.heap.size ≠ w.heap.size + 1 by omega)
  have nn1 : w.heap.size ≠ w1.heap.size := by omega
  clear hc1 hb1
  go_wp2_with fail
  generalize w1.alloc (.cells #[.int .i64 b, .bool wr] 25) = W1 at *
  have HCc := hid (show Cur (w.heap.size + 1) (0 + 6) W1.drew from HC1.out)
  have HBc := hid HB1.out.drew
  have HH6 := hid (show W1.drew.heap[w1.heap.size]? = some (.cells #[.int .i64 b, .bool wr] 25 (0, 0)) from HH60.out)
  have HHr := hid (show W1.drew.heap[w.heap.size]? = some (.cells #[.int .i64 0, .bool false] 25 (0, 0)) from HHr1.out)
  have hS := boxS HH60.out
  have M0 : True := trivial
  go_region_held3 (fun X => X.cell? ⟨w1.heap.size, 0, none⟩ = some (.int .i64 b) ∧ X.cell? ⟨w1.heap.size, 1, none⟩ = some (.bool wr)) (first | exact hS | assumption | go_keep) (first | (go_at_call 38; have M1 := M0; clear M0; refine (inWord_any _ _ b wr _ HCc.out (by omega)).mono ?_; rintro e wn ⟨⟨x, rfl, x1, x2⟩, hcn, hbn⟩; have HCc := hid hcn; have HBc := hid (HBc.out.trans hbn); have HH6 := hid ((hbn.2 w1.heap.size (lt_of_block HH6.out) NE.out).trans HH6.out); have HHr := hid ((hbn.2 w.heap.size (lt_of_block HHr.out) NR.out).trans HHr.out); have hS := boxS HH6.out; clear hcn hbn; obtain ⟨p0, p1, q0, q1⟩ := boxP HHr.out) | (go_at_call 38; refine (inWord_any _ _ b wr _ HCc.out (by omega)).mono ?_; rintro e wn ⟨⟨y, rfl, y1, y2⟩, hcn, hbn⟩; have HCc := hid hcn; have HBc := hid (HBc.out.trans hbn); have HH6 := hid ((hbn.2 w1.heap.size (lt_of_block HH6.out) NE.out).trans HH6.out); have HHr := hid ((hbn.2 w.heap.size (lt_of_block HHr.out) NR.out).trans HHr.out); have hS := boxS HH6.out; clear hcn hbn; obtain ⟨p0, p1, q0, q1⟩ := boxP HHr.out) | (go_at_call 42; refine (shift_any _ _ _ HCc.out (by omega)).mono ?_; rintro e wn ⟨⟨k, rfl, k1, k2⟩, hcn, hbn⟩; have HCc := hid hcn; have HBc := hid (HBc.out.trans hbn); have HH6 := hid ((hbn.2 w1.heap.size (lt_of_block HH6.out) NE.out).trans HH6.out); have HHr := hid ((hbn.2 w.heap.size (lt_of_block HHr.out) NR.out).trans HHr.out); have hS := boxS HH6.out; clear hcn hbn; obtain ⟨p0, p1, q0, q1⟩ := boxP HHr.out) | (go_at_call 43; refine (mode_any _ _ _ HCc.out (by omega)).mono ?_; rintro e wn ⟨⟨m, rfl, m1, m2⟩, hcn, hbn⟩; have HCc := hid hcn; have HBc := hid (HBc.out.trans hbn); have HH6 := hid ((hbn.2 w1.heap.size (lt_of_block HH6.out) NE.out).trans HH6.out); have HHr := hid ((hbn.2 w.heap.size (lt_of_block HHr.out) NR.out).trans HHr.out); have hS := boxS HH6.out; clear hcn hbn; obtain ⟨p0, p1, q0, q1⟩ := boxP HHr.out))
  all_goals go_wp2_with fail
  refine bodyPost_ret (v := .tuple #[.agg #[.int .i64 b, .bool wr], .int .i64 x, .int .i64 y, .int .i64 k, .int .i64 m]) (by simp [results, Try.results18, go_sem, p0, p1]) rfl ⟨⟨_, _, _, _, _, _, rfl, ⟨b1, b2⟩, ⟨x1, x2⟩, ⟨y1, y2⟩, ⟨k1, k2⟩, m1, m2⟩, ?_⟩
  exact ((HA.out.trans (HBc.out.1.mono (by omega))).setCell (by exact Nat.le_refl _) _).setCell (by exact Nat.le_refl _) _


end Go.Proofs.Ytedhclicjkjlfaa
