
import Derived.Test.YtflhbpjmlhccpaaSf
import Derived.Test.YtflhbpjmlhccpaaCm
namespace Go.Proofs.Ytflhbpjmlhccpaa
open Go.RowKit BitX Go.MemX

/-- how many are no numbers of the word -/
def cntL (n : Nat) : List Int → Int
  | [] => 0
  | x :: xs => (if -(2 : Int) ^ (n - 1) ≤ x ∧ x ≤ 2 ^ (n - 1) - 1 then 0 else 1) + cntL n xs
theorem cntL_append (n : Nat) (a b : List Int) : cntL n (a ++ b) = cntL n a + cntL n b := by
  induction a with
  | nil => simp [cntL]
  | cons x a ih => simp only [List.cons_append, cntL, ih]; omega
theorem cntL_in (n : Nat) (xs : List Int) (k : Nat) (x : Int) (h : xs[k]? = some x) (hx : -(2 : Int) ^ (n - 1) ≤ x ∧ x ≤ 2 ^ (n - 1) - 1) : cntL n (xs.take (k + 1)) = cntL n (xs.take k) := by
  rw [take_step xs k x h, cntL_append]; simp [cntL, hx]
theorem cntL_out (n : Nat) (xs : List Int) (k : Nat) (x : Int) (h : xs[k]? = some x) (hx : ¬ (-(2 : Int) ^ (n - 1) ≤ x ∧ x ≤ 2 ^ (n - 1) - 1)) : cntL n (xs.take (k + 1)) = cntL n (xs.take k) + 1 := by
  rw [take_step xs k x h, cntL_append]
  simp only [cntL, if_neg hx]; omega
theorem cntL_bound (n : Nat) (xs : List Int) : 0 ≤ cntL n xs ∧ cntL n xs ≤ xs.length := by
  induction xs with
  | nil => simp [cntL]
  | cons x xs ih => simp only [cntL, List.length_cons]; split <;> omega

set_option maxHeartbeats 1000000 in
theorem spec_CountUnfit_yes (m : Nat) (v : Value) (xs : List Int) (wb : Bool) (w : World) (h1 : 2 ≤ m) (h2 : m ≤ 16) (hs : Sl w v xs) (h : SigP xs) :
    Calls Try.prog 18 #[.agg #[.int .i64 (m : Int), .bool wb], v] w fun e w' => e = .returned (.tuple #[.int .i64 (cntL m xs), .bool true]) ∧ Below w.heap.size w w' := by
  have H := hid h
  have hl64 : xs.length ≤ 64 := h.1
  have hs' := hs
  clear h
  rcases hs with ⟨rfl, a, cap, rfl⟩ | ⟨b, off, n, cap, rfl, hn, h0, hc, hlt, hcell⟩
  · have HS := hid hs'
    clear hs'
    go_enter Try.func18, Try.ntmps18
    go_wp2_with fail
    refine (wdGood_yes _ _ _ (by omega) (by omega)).mono ?_
    rintro e w1 ⟨rfl, B1⟩
    obtain ⟨c1, d1⟩ := box2_cells B1
    have hs1 := (HS.out).kept (bel_step (bel_alloc w _) B1)
    have HS1 := hid hs1
    clear hs1
    go_wp2_with fail
    refine (wdSignal_yes _ [] _ HS1.out H.out).mono ?_
    rintro e w' ⟨rfl, rfl⟩
    go_wp2_with fail
    refine wp_loop_rounds 1 ?_
    rw [rounds_succ]
    go_wp2
    go_ret2
    exact ⟨rfl, bel_step (bel_alloc _ _) B1⟩
  · have HS := hid hs'
    have Hn := hid hn
    have Hcell := hid hcell
    have hl' : n ≤ 64 := by omega
    clear hs' hn hcell hl64
    go_enter Try.func18, Try.ntmps18
    go_wp2_with fail
    refine (wdGood_yes _ _ _ (by omega) (by omega)).mono ?_
    rintro e w1 ⟨rfl, B1⟩
    obtain ⟨c1, d1⟩ := box2_cells B1
    have hs1 := (HS.out).kept (bel_step (bel_alloc w _) B1)
    have HS1 := hid hs1
    clear hs1
    go_wp2_with fail
    refine (wdSignal_yes _ xs _ HS1.out H.out).mono ?_
    rintro e w' ⟨rfl, rfl⟩
    go_wp2_with fail
    have hz : w.heap.size < w1.heap.size := by have := B1.size; simp at this; omega
    go_loopw [6, 19] (fun s i v => ∃ k : Nat, k ≤ n ∧ i = .int .i64 k ∧ s = .int .i64 (cntL m (xs.take k)) ∧ Below w1.heap.size w1 v)
      (fun _ i _ => n - (intOf i).toNat)
    case atStart => exact ⟨0, by omega, rfl, rfl, Below.refl _ _⟩
    case round =>
      obtain ⟨k, hk, rfl, rfl, hb⟩ := hrel
      by_cases hlk : k < n
      · obtain ⟨x, hkx⟩ := get_lt xs k (by rw [← Hn.out]; exact hlk)
        have hce : wr.cell? ⟨b, off + k, none⟩ = some (.int .i64 x) := by
          rw [hb.cell (by show b < w1.heap.size; omega), (bel_step (bel_alloc w _) B1).cell (by exact hlt)]; exact Hcell.out k x hkx
        have e1 : wr.cell? ⟨w.heap.size, 0, none⟩ = some (.int .i64 (m : Int)) := by rw [hb.cell (by exact hz)]; exact c1
        have e2 : wr.cell? ⟨w.heap.size, 1, none⟩ = some (.bool wb) := by rw [hb.cell (by exact hz)]; exact d1
        obtain ⟨x1, x2⟩ := H.out.2.at hkx
        obtain ⟨hbd1, hbd2⟩ := cntL_bound m (xs.take k)
        have hlt2 : (xs.take k).length ≤ 64 := by simp; omega
        by_cases hx : -(2 : Int) ^ (m - 1) ≤ x ∧ x ≤ 2 ^ (m - 1) - 1
        · have hst := cntL_in m xs k x hkx hx
          have Hst := hid hst
          have Hx := hid hx
          clear hkx hst hx
          generalize hs0 : cntL m (xs.take k) = s at hbd1 hbd2 ⊢
          have Hs0 := hid hs0
          clear hs0
          go_wp2_with (go_at_call 32; refine (wdIn_yes m x wb _ h1 h2 Hx.out).mono ?_; rintro e w2 ⟨rfl, hb2⟩)
          go_roundw
          case rel => exact ⟨k + 1, by omega, by go_num, by rw [Hst.out, Hs0.out], hb.trans (hb2.mono hb.size)⟩
          case measure => simp [intOf]; omega
        · have hst := cntL_out m xs k x hkx hx
          have Hst := hid hst
          have Hx := hid hx
          clear hkx hst hx
          generalize hs0 : cntL m (xs.take k) = s at hbd1 hbd2 ⊢
          have Hs0 := hid hs0
          clear hs0
          go_wp2_with (go_at_call 32; refine (wdIn_no m x wb _ h1 h2 Hx.out).mono ?_; rintro e w2 ⟨rfl, hb2⟩)
          go_roundw
          case rel => exact ⟨k + 1, by omega, by go_num, by rw [Hst.out, Hs0.out], hb.trans (hb2.mono hb.size)⟩
          case measure => simp [intOf]; omega
      · have hge : (n : Int) ≤ (k : Int) := by omega
        have hkn : k = xs.length := by rw [← Hn.out]; omega
        have hfin : cntL m (xs.take k) = cntL m xs := by rw [hkn, List.take_length]
        have Hfin := hid hfin
        clear hkn hlk hfin
        go_wp2
        go_ret2
        exact ⟨by rw [← Hfin.out]; rfl, bel_step (bel_step (bel_alloc _ _) B1) hb⟩

set_option maxHeartbeats 400000 in
theorem spec_CountUnfit_bad (b : Int) (v : Value) (wb : Bool) (w : World) (h : ¬ (2 ≤ b ∧ b ≤ 16)) :
    Calls Try.prog 18 #[.agg #[.int .i64 b, .bool wb], v] w fun e w' => e = .returned (.tuple #[.int .i64 0, .bool false]) ∧ Below w.heap.size w w' := by
  have H := hid h
  clear h
  go_enter Try.func18, Try.ntmps18
  go_wp2_with fail
  refine (wdGood_no _ _ _ H.out).mono ?_
  rintro e w1 ⟨rfl, B1⟩
  go_wp2_with fail
  go_ret2
  exact ⟨rfl, bel_step (bel_alloc _ _) B1⟩

set_option maxHeartbeats 400000 in
theorem spec_CountUnfit_no (m : Nat) (v : Value) (xs : List Int) (wb : Bool) (w : World) (h1 : 2 ≤ m) (h2 : m ≤ 16) (hs : Sl w v xs) (h : ¬ SigP xs) :
    Calls Try.prog 18 #[.agg #[.int .i64 (m : Int), .bool wb], v] w fun e w' => e = .returned (.tuple #[.int .i64 0, .bool false]) ∧ Below w.heap.size w w' := by
  have H := hid h
  clear h
  have HS := hid hs
  clear hs
  go_enter Try.func18, Try.ntmps18
  go_wp2_with fail
  refine (wdGood_yes _ _ _ (by omega) (by omega)).mono ?_
  rintro e w1 ⟨rfl, B1⟩
  go_wp2_with fail
  refine (wdSignal_no _ xs _ ((HS.out).kept (bel_step (bel_alloc w _) B1)) H.out).mono ?_
  rintro e w' ⟨rfl, rfl⟩
  go_wp2_with fail
  go_ret2
  exact ⟨rfl, bel_step (bel_alloc _ _) B1⟩

set_option maxHeartbeats 1000000 in
theorem impl_CountUnfit_yes (m : Nat) (v : Value) (xs : List Int) (wb : Bool) (w : World) (h1 : 2 ≤ m) (h2 : m ≤ 16) (hs : Sl w v xs) (h : SigP xs) :
    Calls Try.prog 19 #[.agg #[.int .i64 (m : Int), .bool wb], v] w fun e w' => e = .returned (.tuple #[.int .i64 (cntL m xs), .bool true]) ∧ Below w.heap.size w w' := by
  have H := hid h
  have hl64 : xs.length ≤ 64 := h.1
  have hs' := hs
  clear h
  rcases hs with ⟨rfl, a, cap, rfl⟩ | ⟨b, off, n, cap, rfl, hn, h0, hc, hlt, hcell⟩
  · have HS := hid hs'
    clear hs'
    go_enter Try.func19, Try.ntmps19
    go_wp2_with fail
    refine (impl_IsWord_yes _ _ _ (by omega) (by omega)).mono ?_
    rintro e w1 ⟨rfl, B1⟩
    obtain ⟨c1, d1⟩ := box2_cells B1
    have hs1 := (HS.out).kept (bel_step (bel_alloc w _) B1)
    have HS1 := hid hs1
    clear hs1
    go_wp2_with fail
    refine (impl_IsSignal_yes _ [] _ HS1.out (Nat.le_trans H.out.1 (by omega)) H.out).mono ?_
    rintro e w' ⟨rfl, rfl⟩
    go_wp2_with fail
    refine wp_loop_rounds 1 ?_
    rw [rounds_succ]
    go_wp2
    go_ret2
    exact ⟨rfl, bel_step (bel_alloc _ _) B1⟩
  · have HS := hid hs'
    have Hn := hid hn
    have Hcell := hid hcell
    have hl' : n ≤ 64 := by omega
    clear hs' hn hcell hl64
    go_enter Try.func19, Try.ntmps19
    go_wp2_with fail
    refine (impl_IsWord_yes _ _ _ (by omega) (by omega)).mono ?_
    rintro e w1 ⟨rfl, B1⟩
    obtain ⟨c1, d1⟩ := box2_cells B1
    have hs1 := (HS.out).kept (bel_step (bel_alloc w _) B1)
    have HS1 := hid hs1
    clear hs1
    go_wp2_with fail
    refine (impl_IsSignal_yes _ xs _ HS1.out (Nat.le_trans H.out.1 (by omega)) H.out).mono ?_
    rintro e w' ⟨rfl, rfl⟩
    go_wp2_with fail
    have hz : w.heap.size < w1.heap.size := by have := B1.size; simp at this; omega
    go_loopw [6, 19] (fun s i v => ∃ k : Nat, k ≤ n ∧ i = .int .i64 k ∧ s = .int .i64 (cntL m (xs.take k)) ∧ Below w1.heap.size w1 v)
      (fun _ i _ => n - (intOf i).toNat)
    case atStart => exact ⟨0, by omega, rfl, rfl, Below.refl _ _⟩
    case round =>
      obtain ⟨k, hk, rfl, rfl, hb⟩ := hrel
      by_cases hlk : k < n
      · obtain ⟨x, hkx⟩ := get_lt xs k (by rw [← Hn.out]; exact hlk)
        have hce : wr.cell? ⟨b, off + k, none⟩ = some (.int .i64 x) := by
          rw [hb.cell (by show b < w1.heap.size; omega), (bel_step (bel_alloc w _) B1).cell (by exact hlt)]; exact Hcell.out k x hkx
        have e1 : wr.cell? ⟨w.heap.size, 0, none⟩ = some (.int .i64 (m : Int)) := by rw [hb.cell (by exact hz)]; exact c1
        have e2 : wr.cell? ⟨w.heap.size, 1, none⟩ = some (.bool wb) := by rw [hb.cell (by exact hz)]; exact d1
        obtain ⟨x1, x2⟩ := H.out.2.at hkx
        obtain ⟨hbd1, hbd2⟩ := cntL_bound m (xs.take k)
        have hlt2 : (xs.take k).length ≤ 64 := by simp; omega
        by_cases hx : -(2 : Int) ^ (m - 1) ≤ x ∧ x ≤ 2 ^ (m - 1) - 1
        · have hst := cntL_in m xs k x hkx hx
          have Hst := hid hst
          have Hx := hid hx
          clear hkx hst hx
          generalize hs0 : cntL m (xs.take k) = s at hbd1 hbd2 ⊢
          have Hs0 := hid hs0
          clear hs0
          go_wp2_with (go_at_call 33; refine (isIn_yes m wb x _ (by omega) h2 (by omega) (by omega) Hx.out).mono ?_; rintro e w2 ⟨rfl, hb2⟩)
          go_roundw
          case rel => exact ⟨k + 1, by omega, by go_num, by rw [Hst.out, Hs0.out], hb.trans (hb2.mono hb.size)⟩
          case measure => simp [intOf]; omega
        · have hst := cntL_out m xs k x hkx hx
          have Hst := hid hst
          have Hx := hid hx
          clear hkx hst hx
          generalize hs0 : cntL m (xs.take k) = s at hbd1 hbd2 ⊢
          have Hs0 := hid hs0
          clear hs0
          go_wp2_with (go_at_call 33; refine (isIn_no m wb x _ (by omega) h2 (by omega) (by omega) Hx.out).mono ?_; rintro e w2 ⟨rfl, hb2⟩)
          go_roundw
          case rel => exact ⟨k + 1, by omega, by go_num, by rw [Hst.out, Hs0.out], hb.trans (hb2.mono hb.size)⟩
          case measure => simp [intOf]; omega
      · have hge : (n : Int) ≤ (k : Int) := by omega
        have hkn : k = xs.length := by rw [← Hn.out]; omega
        have hfin : cntL m (xs.take k) = cntL m xs := by rw [hkn, List.take_length]
        have Hfin := hid hfin
        clear hkn hlk hfin
        go_wp2
        go_ret2
        exact ⟨by rw [← Hfin.out]; rfl, bel_step (bel_step (bel_alloc _ _) B1) hb⟩

set_option maxHeartbeats 400000 in
theorem impl_CountUnfit_bad (b : Int) (v : Value) (wb : Bool) (w : World) (h : ¬ (2 ≤ b ∧ b ≤ 16)) :
    Calls Try.prog 19 #[.agg #[.int .i64 b, .bool wb], v] w fun e w' => e = .returned (.tuple #[.int .i64 0, .bool false]) ∧ Below w.heap.size w w' := by
  have H := hid h
  clear h
  go_enter Try.func19, Try.ntmps19
  go_wp2_with fail
  refine (impl_IsWord_no _ _ _ H.out).mono ?_
  rintro e w1 ⟨rfl, B1⟩
  go_wp2_with fail
  go_ret2
  exact ⟨rfl, bel_step (bel_alloc _ _) B1⟩

set_option maxHeartbeats 400000 in
theorem impl_CountUnfit_no (m : Nat) (v : Value) (xs : List Int) (wb : Bool) (w : World) (h1 : 2 ≤ m) (h2 : m ≤ 16) (hs : Sl w v xs) (h : ¬ SigP xs) :
    Calls Try.prog 19 #[.agg #[.int .i64 (m : Int), .bool wb], v] w fun e w' => e = .returned (.tuple #[.int .i64 0, .bool false]) ∧ Below w.heap.size w w' := by
  have H := hid h
  clear h
  have HS := hid hs
  clear hs
  go_enter Try.func19, Try.ntmps19
  go_wp2_with fail
  refine (impl_IsWord_yes _ _ _ (by omega) (by omega)).mono ?_
  rintro e w1 ⟨rfl, B1⟩
  go_wp2_with fail
  refine (impl_IsSignal_no _ xs _ ((HS.out).kept (bel_step (bel_alloc w _) B1)) H.out).mono ?_
  rintro e w' ⟨rfl, rfl⟩
  go_wp2_with fail
  go_ret2
  exact ⟨rfl, bel_step (bel_alloc _ _) B1⟩
end Go.Proofs.Ytflhbpjmlhccpaa
