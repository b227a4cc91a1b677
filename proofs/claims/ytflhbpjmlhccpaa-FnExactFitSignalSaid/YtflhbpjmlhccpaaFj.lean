
import Derived.Test.YtflhbpjmlhccpaaFs
namespace Go.Proofs.Ytflhbpjmlhccpaa
open Go.RowKit BitX Go.MemX

set_option maxHeartbeats 400000 in
theorem spec_FitSignal_bad (b : Int) (v : Value) (wb : Bool) (w : World) (h : ¬ (2 ≤ b ∧ b ≤ 16)) :
    Calls Try.prog 13 #[.agg #[.int .i64 b, .bool wb], v] w (Gives w [] false) := by
  have H := hid h
  clear h
  go_enter Try.func13, Try.ntmps13
  go_wp2_with fail
  refine (wdGood_no _ _ _ H.out).mono ?_
  rintro e w1 ⟨rfl, B1⟩
  go_wp2_with fail
  go_ret2
  exact ⟨_, rfl, Res.nil _ _ _, bel_step (bel_alloc _ _) B1⟩

set_option maxHeartbeats 400000 in
theorem spec_FitSignal_no (m : Nat) (v : Value) (xs : List Int) (wb : Bool) (w : World) (h1 : 2 ≤ m) (h2 : m ≤ 16) (hs : Sl w v xs) (h : ¬ SigP xs) :
    Calls Try.prog 13 #[.agg #[.int .i64 (m : Int), .bool wb], v] w (Gives w [] false) := by
  have H := hid h
  clear h
  have HS := hid hs
  clear hs
  go_enter Try.func13, Try.ntmps13
  go_wp2_with fail
  refine (wdGood_yes _ _ _ (by omega) (by omega)).mono ?_
  rintro e w1 ⟨rfl, B1⟩
  go_wp2_with fail
  refine (wdSignal_no _ xs _ ((HS.out).kept (bel_step (bel_alloc w _) B1)) H.out).mono ?_
  rintro e w' ⟨rfl, rfl⟩
  go_wp2_with fail
  go_ret2
  exact ⟨_, rfl, Res.nil _ _ _, bel_step (bel_alloc _ _) B1⟩

set_option maxHeartbeats 400000 in
theorem impl_FitSignal_bad (b : Int) (v : Value) (wb : Bool) (w : World) (h : ¬ (2 ≤ b ∧ b ≤ 16)) :
    Calls Try.prog 15 #[.agg #[.int .i64 b, .bool wb], v] w (Gives w [] false) := by
  have H := hid h
  clear h
  go_enter Try.func15, Try.ntmps15
  go_wp2_with fail
  refine (impl_IsWord_no _ _ _ H.out).mono ?_
  rintro e w1 ⟨rfl, B1⟩
  go_wp2_with fail
  go_ret2
  exact ⟨_, rfl, Res.nil _ _ _, bel_step (bel_alloc _ _) B1⟩

set_option maxHeartbeats 400000 in
theorem impl_FitSignal_no (m : Nat) (v : Value) (xs : List Int) (wb : Bool) (w : World) (h1 : 2 ≤ m) (h2 : m ≤ 16) (hs : Sl w v xs) (h : ¬ SigP xs) :
    Calls Try.prog 15 #[.agg #[.int .i64 (m : Int), .bool wb], v] w (Gives w [] false) := by
  have H := hid h
  clear h
  have HS := hid hs
  clear hs
  go_enter Try.func15, Try.ntmps15
  go_wp2_with fail
  refine (impl_IsWord_yes _ _ _ (by omega) (by omega)).mono ?_
  rintro e w1 ⟨rfl, B1⟩
  go_wp2_with fail
  refine (impl_IsSignal_no _ xs _ ((HS.out).kept (bel_step (bel_alloc w _) B1)) H.out).mono ?_
  rintro e w' ⟨rfl, rfl⟩
  go_wp2_with fail
  go_ret2
  exact ⟨_, rfl, Res.nil _ _ _, bel_step (bel_alloc _ _) B1⟩

set_option maxHeartbeats 400000 in
theorem spec_FitSignal_yes (m : Nat) (v : Value) (xs : List Int) (wb : Bool) (w : World) (h1 : 2 ≤ m) (h2 : m ≤ 16) (hs : Sl w v xs) (h : SigP xs) :
    Calls Try.prog 13 #[.agg #[.int .i64 (m : Int), .bool wb], v] w (Gives w (xs.map (fitI m wb)) true) := by
  have H := hid h
  clear h
  have HS := hid hs
  clear hs
  go_enter Try.func13, Try.ntmps13
  go_wp2_with fail
  refine (wdGood_yes _ _ _ (by omega) (by omega)).mono ?_
  rintro e w1 ⟨rfl, B1⟩
  obtain ⟨c1, d1⟩ := box2_cells B1
  have hs1 := (HS.out).kept (bel_step (bel_alloc w _) B1)
  have HS1 := hid hs1
  clear hs1
  go_wp2_with fail
  refine (wdSignal_yes _ xs _ HS1.out H.out).mono ?_
  rintro e w' ⟨rfl, rfl⟩
  go_wp2_with fail
  refine (wdFitAll_any m wb _ xs _ h1 h2 HS1.out H.out.1).mono ?_
  rintro e w2 ⟨u, rfl, R, hb⟩
  have B2 := bel_step B1 hb
  go_wp2_with fail
  go_ret2
  exact ⟨_, rfl, R.mono (Nat.le_trans (by simp) B1.size), bel_step (bel_alloc _ _) B2⟩

set_option maxHeartbeats 1000000 in
theorem impl_FitSignal_yes (m : Nat) (v : Value) (xs : List Int) (wb : Bool) (w : World) (h1 : 2 ≤ m) (h2 : m ≤ 16) (hs : Sl w v xs) (h : SigP xs) :
    Calls Try.prog 15 #[.agg #[.int .i64 (m : Int), .bool wb], v] w (Gives w (xs.map (fitI m wb)) true) := by
  have H := hid h
  have hl64 : xs.length ≤ 64 := h.1
  have hs' := hs
  clear h
  rcases hs with ⟨rfl, a, cap, rfl⟩ | ⟨b, off, n, cap, rfl, hn, h0, hc, hlt, hcell⟩
  · have HS := hid hs'
    have hmk := run_make_ints (P := Try.prog) 22 3 uslice iint 0 (by omega)
    simp only [Int.natCast_zero] at hmk
    clear hs'
    go_enter Try.func15, Try.ntmps15
    go_wp2_with fail
    refine (impl_IsWord_yes _ _ _ (by omega) (by omega)).mono ?_
    rintro e w1 ⟨rfl, B1⟩
    obtain ⟨c1, d1⟩ := box2_cells B1
    have hs1 := (HS.out).kept (bel_step (bel_alloc w _) B1)
    have HS1 := hid hs1
    clear hs1
    go_wp2_with fail
    refine (impl_IsSignal_yes _ [] _ HS1.out (Nat.le_trans H.out.1 (by omega)) H.out).mono ?_
    rintro e w' ⟨rfl, rfl⟩
    go_wp2
    refine wp_loop_rounds 1 ?_
    rw [rounds_succ]
    go_wp2
    go_ret2
    exact ⟨_, rfl, .inr ⟨w1.heap.size, 0, rfl, Nat.le_trans (by simp) B1.size, Blk.row (xs := []) (heap_alloc_new _ _)⟩, (bel_step (bel_alloc _ _) B1).alloc (Nat.le_trans (by simp) B1.size) _⟩
  · have HS := hid hs'
    have Hn := hid hn
    have Hcell := hid hcell
    have hl' : n ≤ 64 := by omega
    have hmk := run_make_ints (P := Try.prog) 22 3 uslice iint n (by omega)
    clear hs' hn hcell hl64
    go_enter Try.func15, Try.ntmps15
    go_wp2_with fail
    refine (impl_IsWord_yes _ _ _ (by omega) (by omega)).mono ?_
    rintro e w1 ⟨rfl, B1⟩
    obtain ⟨c1, d1⟩ := box2_cells B1
    have hs1 := (HS.out).kept (bel_step (bel_alloc w _) B1)
    have HS1 := hid hs1
    clear hs1
    go_wp2_with fail
    refine (impl_IsSignal_yes _ xs _ HS1.out (Nat.le_trans H.out.1 (by omega)) H.out).mono ?_
    rintro e w' ⟨rfl, rfl⟩
    go_wp2
    have hz : w.heap.size < w1.heap.size := by have := B1.size; simp at this; omega
    have hly : (xs.map (fitI m wb)).length = n := by rw [List.length_map]; exact Hn.out.symm
    have Hly := hid hly
    clear hly
    go_loopw [22] (fun i wr => ∃ k : Nat, k ≤ n ∧ i = .int .i64 k ∧ Blk 3 wr w1.heap.size (upTo (xs.map (fitI m wb)) k) ∧ Below w1.heap.size w1 wr)
      (fun i _ => n - (intOf i).toNat)
    case atStart => exact ⟨0, by omega, rfl, by rw [upTo_zero, Hly.out]; exact heap_alloc_new _ _, bel_alloc _ _⟩
    case round =>
      obtain ⟨k, hk, rfl, hblk, hb⟩ := hrel
      by_cases hlk : k < n
      · obtain ⟨x, hkx⟩ := get_lt xs k (by rw [← Hn.out]; exact hlk)
        have hce : wr.cell? ⟨b, off + k, none⟩ = some (.int .i64 x) := by
          rw [hb.cell (by show b < w1.heap.size; omega), (bel_step (bel_alloc w _) B1).cell (by exact hlt)]; exact Hcell.out k x hkx
        have e1 : wr.cell? ⟨w.heap.size, 0, none⟩ = some (.int .i64 (m : Int)) := by rw [hb.cell (by exact hz)]; exact c1
        have e2 : wr.cell? ⟨w.heap.size, 1, none⟩ = some (.bool wb) := by rw [hb.cell (by exact hz)]; exact d1
        obtain ⟨x1, x2⟩ := H.out.2.at hkx
        have hky : (xs.map (fitI m wb))[k]? = some (fitI m wb x) := by rw [List.getElem?_map, hkx]; rfl
        have Hky := hid hky
        have Hblk := hid hblk
        clear hkx hky hblk
        go_wp2_with fail
        refine (fit_any m wb x _ (by omega) h2 (by omega) (by omega)).mono ?_
        rintro e w2 ⟨rfl, hb2⟩
        have hblk2 := Hblk.out.kept hb2 Hblk.out.lt
        have hcd := hblk2.cell (upTo_get (xs.map (fitI m wb)) k (by rw [Hly.out]; exact hlk))
        have hfd := hblk2.free k
        have Hblk2 := hid hblk2
        clear hblk2
        go_wp2
        go_roundw
        case rel => exact ⟨k + 1, by omega, by go_num, by rw [← upTo_step _ k _ Hky.out]; exact Hblk2.out.set k _, (hb.trans (hb2.mono hb.size)).setCell (Nat.le_refl _) _⟩
        case measure => simp [intOf]; omega
      · have hge : (n : Int) ≤ (k : Int) := by omega
        have hkn : k = (xs.map (fitI m wb)).length := by rw [Hly.out]; omega
        have Hk := hid hkn
        have Hblk := hid hblk
        clear hkn hlk hblk
        go_wp2
        go_ret2
        have hbk := Hblk.out
        rw [Hk.out, upTo_full] at hbk
        refine ⟨_, rfl, .inr ⟨w1.heap.size, (xs.map (fitI m wb)).length, by rw [Hly.out]; rfl, Nat.le_of_lt hz, hbk.row⟩, bel_step (bel_step (bel_alloc _ _) B1) hb⟩
end Go.Proofs.Ytflhbpjmlhccpaa
