
import Derived.Test.YtkpfcaipbhfgkaaOg
import Derived.Test.YtkpfcaipbhfgkaaIm
namespace Go.Proofs.Ytkpfcaipbhfgkaa
open Go.RowKit BitX Go.MemX Go.ShX
set_option linter.unusedVariables false


def rfL (a k mode b : Int) (wd : Bool) (y : Int) (s : List Int) : List Int := onB (crB a k mode b y s) (runL a k.toNat mode b.toNat wd s y) []
theorem runL_len (a : Int) (k : Nat) (mode : Int) (n : Nat) (wd : Bool) (s : List Int) (y : Int) : (runL a k mode n wd s y).length = s.length := tab_len _ _
theorem rfL_len (a k mode b : Int) (wd : Bool) (y : Int) (s : List Int) (h : s.length ≤ 1048576) : (rfL a k mode b wd y s).length ≤ 2000000 := by
  unfold rfL onB; split
  · rw [runL_len]; omega
  · simp


set_option maxHeartbeats 4000000 in
theorem runFrom_any (a : Int) (k : Nat) (mode : Int) (n : Nat) (wd : Bool) (y : Int) (v : Value) (s : List Int) (w : World) (hs : Sl w v s) (hl : s.length ≤ 64) (hi : InP (-100000) 100000 s) (h : FoOk a k mode n) (y1 : -100000 ≤ y) (y2 : y ≤ 100000) :
    Calls Try.prog 47 #[.agg #[.int .i64 a, .int .i64 (k : Int), .int .i64 mode, .int .i64 (n : Int), .bool wd], .int .i64 y, v] w (GivesL w (runL a k mode n wd s y)) := by
  obtain ⟨aa, m, cap, rfl, hn, hrd⟩ := id hs.rd
  have Hn := hid hn
  have Hrd := hid hrd
  have HO := hid h
  have HJ := hid hi
  have hl' : m ≤ 64 := by omega
  have hmk := run_make_ints (P := Try.prog) 31 3 uslice iint m (by omega)
  clear hs hn hrd h hi hl
  go_enter Try.func47, Try.ntmps47
  go_wp2_with fail
  have B0 := bel_alloc w (.cells #[.int .i64 a, .int .i64 (k : Int), .int .i64 mode, .int .i64 (n : Int), .bool wd] 49)
  have hq := box5_cells (Below.refl (w.alloc (.cells #[.int .i64 a, .int .i64 (k : Int), .int .i64 mode, .int .i64 (n : Int), .bool wd] 49)).heap.size (w.alloc (.cells #[.int .i64 a, .int .i64 (k : Int), .int .i64 mode, .int .i64 (n : Int), .bool wd] 49)))
  have hz1 : (w.alloc (.cells #[.int .i64 a, .int .i64 (k : Int), .int .i64 mode, .int .i64 (n : Int), .bool wd] 49)).heap.size = w.heap.size + 1 := by simp
  generalize w.alloc (.cells #[.int .i64 a, .int .i64 (k : Int), .int .i64 mode, .int .i64 (n : Int), .bool wd] 49) = w1 at *
  have HZ1 := hid hz1
  clear hz1
  have Hqq := hid hq
  have HB := hid B0
  clear hq B0
  go_loopw [1, 15] (fun yy i wr => ∃ c : Nat, c ≤ m ∧ yy = .int .i64 (runY a k mode n wd s y c) ∧ i = .int .i64 c ∧ Blk 3 wr (w.heap.size + 1) (upTo (tab m (fun i => runY a k mode n wd s y (i + 1))) c) ∧ Below w1.heap.size w1 wr)
    (fun _ i _ => m - (intOf i).toNat)
  case atStart => exact ⟨0, by omega, rfl, rfl, by rw [upTo_zero, tab_len, ← HZ1.out]; exact heap_alloc_new _ _, bel_alloc _ _⟩
  case round =>
    obtain ⟨c, hc, rfl, rfl, hblk, hb⟩ := hrel
    have hsz : w1.heap.size ≤ wr.heap.size := hb.size
    by_cases hlk : c < m
    · obtain ⟨x, hkx⟩ := get_lt s c (by rw [← Hn.out]; exact hlk)
      obtain ⟨bb, oo, hix, hbb, hce⟩ := (Hrd.out.kept (bel_step HB.out hb)).at (P := Try.prog) (T := 31) m cap uslice sone hkx hlk
      obtain ⟨x1, x2⟩ := HJ.out.at hkx
      obtain ⟨t0, t1, t2, t3, t4⟩ := hb.cells5q Hqq.out
      obtain ⟨z1, z2⟩ := runY_in (wd := wd) (s := s) (y := y) HO.out y1 y2 c
      have hsr := runY_succ a k mode n wd s y c
      rw [at0_of hkx] at hsr
      have hkt := tab_get m (fun i => runY a k mode n wd s y (i + 1)) c hlk
      have hkt : (tab m (fun i => runY a k mode n wd s y (i + 1)))[c]? = some (runY a k mode n wd s y (c + 1)) := hkt
      generalize hz : runY a k mode n wd s y c = z at *
      rw [hsr] at hkt
      have Hkt := hid hkt
      have Hsr := hid hsr
      have Hblk := hid hblk
      have eg : ∀ (args : Array Value) (w : World), (callFunc 71 args).run Try.prog w = .ok (.enter 71 args) w := enterT1
      clear hblk hkx hsr hkt hz
      generalize hzn : stepI a k mode n wd x z = zn at *
      have Hzn := hid hzn
      clear hzn
      go_wp2_with (first | (go_at_call 60; refine (stepWith_any a k mode n wd x _ HO.out x1 x2).mono ?_; rintro e w3 ⟨⟨lb, rfl, hn3⟩, hb3⟩; have Hn3 := hid hn3; clear hn3; have hB3 := hb.trans (hb3.mono hsz)) | (go_at_fn 71; refine (Hn3.out _ z (Below.refl _ _) z1 z2).mono ?_; rintro e w4 ⟨rfl, hb4⟩; have hB4 := hB3.trans (hb4.mono hB3.size); rw [Hzn.out]; have hblk4 := (Hblk.out.kept hb3 Hblk.out.lt).kept hb4 (Hblk.out.kept hb3 Hblk.out.lt).lt; have hcd : w4.cell? ⟨w.heap.size + 1, c, none⟩ = some (.int .i64 0) := hblk4.cell (upTo_get (tab m (fun i => runY a k mode n wd s y (i + 1))) c (by rw [tab_len]; exact hlk)); have hfd := hblk4.free c; have Hblk4 := hid hblk4; clear hblk4))
      go_roundw
      case rel => exact ⟨c + 1, by omega, by rw [Hsr.out], by go_num, by rw [← upTo_step (tab m (fun i => runY a k mode n wd s y (i + 1))) c zn Hkt.out]; exact Hblk4.out.set c _, hB4.setCell (Nat.le_of_eq HZ1.out) _⟩
      case measure => simp [intOf]; omega
    · have hge : (m : Int) ≤ (c : Int) := by omega
      have hkn : c = m := by omega
      have Hk := hid hkn
      have Hblk := hid hblk
      clear hkn hlk hblk
      go_wp2
      go_ret
      have hbk := Hblk.out
      rw [Hk.out, show upTo (tab m (fun i => runY a k mode n wd s y (i + 1))) m = tab m (fun i => runY a k mode n wd s y (i + 1)) from by have := upTo_full (tab m (fun i => runY a k mode n wd s y (i + 1))); rwa [tab_len] at this] at hbk
      have h2 := hbk.res (Nat.le_of_eq HZ1.out)
      rw [tab_len, Hn.out] at h2
      refine ⟨_, rfl, ?_, bel_step HB.out hb⟩
      rw [Hn.out]
      exact h2.mono HB.out.size


def imS (n : Nat) (x : Int) : List Int := (List.replicate n 0).set 0 x
theorem imS_len (n : Nat) (x : Int) : (imS n x).length = n := by simp [imS]
theorem imS_in (n : Nat) (x : Int) (h1 : -100000 ≤ x) (h2 : x ≤ 100000) : InP (-100000) 100000 (imS n x) := by
  intro z hz
  unfold imS at hz
  rcases List.mem_or_eq_of_mem_set hz with h | h
  · have := List.eq_of_mem_replicate h; omega
  · omega
def imB (a k mode b x n : Int) : Bool := asB a k mode b 0 x && decide (0 ≤ n ∧ n ≤ 64)
def imL (a k mode b : Int) (wd : Bool) (x n : Int) : List Int := onB (imB a k mode b x n) (runL a k.toNat mode b.toNat wd (imS n.toNat x) 0) []
theorem imL_len (a k mode b : Int) (wd : Bool) (x n : Int) : (imL a k mode b wd x n).length ≤ 2000000 := by
  unfold imL onB; split
  · rename_i h
    unfold imB at h
    rw [Bool.and_eq_true] at h
    have := of_decide_eq_true h.2
    rw [runL_len, imS_len]; omega
  · simp
theorem inW_zero {b : Int} (h : wordB b = true) : inW b 0 = true := by
  obtain ⟨h1, h2⟩ := wordB_t h
  have := pow_small b.toNat (by omega) (by omega)
  exact decide_eq_true (by omega)
theorem asB_zero {a k mode b x : Int} : asB a k mode b 0 x = (foB a k mode b && smB x) := by
  unfold asB
  cases h : foB a k mode b
  · rfl
  · rw [inW_zero (foB_w h)]; rfl


set_option maxHeartbeats 2000000 in
theorem spec_Imp_in (a : Int) (k : Nat) (mode : Int) (n : Nat) (wd : Bool) (x : Int) (m : Nat) (w : World) (hq : asB a (k : Int) mode (n : Int) 0 x = true) (hm : m ≤ 64) (ho : FoOk a k mode n) (x1 : -100000 ≤ x) (x2 : x ≤ 100000) :
    Calls Try.prog 25 #[.agg #[.int .i64 a, .int .i64 (k : Int), .int .i64 mode, .int .i64 (n : Int), .bool wd], .int .i64 x, .int .i64 (m : Int)] w (Gives w (runL a k mode n wd (imS m x) 0) true) := by
  have HQ := hid hq
  have HF := hid (show foB a (k : Int) mode (n : Int) = true from by unfold asB at hq; rw [Bool.and_eq_true] at hq; exact hq.1)
  have HO := hid ho
  have hmk := run_make_ints (P := Try.prog) 31 3 uslice iint m (by omega)
  clear hq ho
  by_cases h0 : m = 0
  · have hz0 : (m : Int) ≤ 0 := by omega
    have H0 := hid h0
    clear h0
    go_enter Try.func25, Try.ntmps25
    go_wp2_with fail
    refine (foAsked_q _ _ _ _ _ _ _ true _ HQ.out).mono ?_
    rintro e w1 ⟨rfl, hb⟩
    have B1 := hb
    have hgz : w.heap.size < w1.heap.size := by have := hb.size; simp at this; omega
    obtain ⟨c0, c1, c2, c3, c4⟩ := box5_cells B1
    go_wp2_with fail
    refine (l1In_yes _ _ _ _ (by omega) (by omega)).mono ?_
    rintro e w' ⟨rfl, rfl⟩
    go_wp2_with fail
    have B2 := bel_step B1 (bel_alloc _ (.cells (intsA (List.replicate m 0)) 3))
    have HS := hid (show Sl (w1.alloc (.cells (intsA (List.replicate m 0)) 3)) (.slice (some ⟨w1.heap.size, 0, none⟩) m m) (imS m x) from by
      have := (show Blk 3 (w1.alloc (.cells (intsA (List.replicate m 0)) 3)) w1.heap.size (List.replicate m 0) from heap_alloc_new _ _).sl
      rw [List.length_replicate] at this
      have e : imS m x = List.replicate m 0 := by rw [H0.out]; rfl
      rw [e]; exact this)
    refine (foRun_any a k mode n wd 0 _ (imS m x) _ HS.out (by rw [imS_len]; exact hm) (imS_in m x x1 x2) HO.out (by omega) (by omega)).mono ?_
    rintro e w2 ⟨u, rfl, hr, hb2⟩
    have B3 := bel_step B2 hb2
    have Hr := hid hr
    clear hr hb2
    go_wp2_with fail
    go_ret2
    exact ⟨_, rfl, Hr.out.mono (bel_step (bel_alloc _ _) B2).size, bel_step (bel_alloc _ _) B3⟩
  · have hz0 : 0 < (m : Int) := by omega
    have hx0 : (intsA (List.replicate m 0))[0]? = some (.int .i64 0) := intsA_get _ 0 0 (by rw [List.getElem?_replicate, if_pos (by omega)])
    have hx1 : (intsA (List.replicate m 0)).setIfInBounds 0 (.int .i64 x) = intsA (imS m x) := intsA_set _ 0 x
    clear h0
    go_enter Try.func25, Try.ntmps25
    go_wp2_with fail
    refine (foAsked_q _ _ _ _ _ _ _ true _ HQ.out).mono ?_
    rintro e w1 ⟨rfl, hb⟩
    have B1 := hb
    have hgz : w.heap.size < w1.heap.size := by have := hb.size; simp at this; omega
    obtain ⟨c0, c1, c2, c3, c4⟩ := box5_cells B1
    go_wp2_with fail
    refine (l1In_yes _ _ _ _ (by omega) (by omega)).mono ?_
    rintro e w' ⟨rfl, rfl⟩
    go_wp2_with fail
    have B2 := bel_step B1 (bel_alloc w1 (.cells (intsA (imS m x)) 3))
    have HS := hid (show Sl (w1.alloc (.cells (intsA (imS m x)) 3)) (.slice (some ⟨w1.heap.size, 0, none⟩) m m) (imS m x) from by
      have := (show Blk 3 (w1.alloc (.cells (intsA (imS m x)) 3)) w1.heap.size (imS m x) from heap_alloc_new _ _).sl
      rw [imS_len] at this
      exact this)
    refine (foRun_any a k mode n wd 0 _ (imS m x) _ HS.out (by rw [imS_len]; exact hm) (imS_in m x x1 x2) HO.out (by omega) (by omega)).mono ?_
    rintro e w2 ⟨u, rfl, hr, hb2⟩
    have B3 := bel_step B2 hb2
    have Hr := hid hr
    clear hr hb2
    go_wp2_with fail
    go_ret2
    exact ⟨_, rfl, Hr.out.mono (bel_step (bel_alloc _ _) B2).size, bel_step (bel_alloc _ _) B3⟩


theorem impS_imS (m : Nat) (x : Int) : impS m x = imS m x := rfl
set_option maxHeartbeats 2000000 in
theorem impl_Imp_in (a : Int) (k : Nat) (mode : Int) (n : Nat) (wd : Bool) (x : Int) (m : Nat) (w : World) (hq : asB a (k : Int) mode (n : Int) 0 x = true) (hm : m ≤ 64) (ho : FoOk a k mode n) (x1 : -100000 ≤ x) (x2 : x ≤ 100000) :
    Calls Try.prog 27 #[.agg #[.int .i64 a, .int .i64 (k : Int), .int .i64 mode, .int .i64 (n : Int), .bool wd], .int .i64 x, .int .i64 (m : Int)] w (Gives w (runL a k mode n wd (imS m x) 0) true) := by
  have HF := hid (show foB a (k : Int) mode (n : Int) = true from by unfold asB at hq; rw [Bool.and_eq_true] at hq; exact hq.1)
  have HO := hid ho
  have HL := hid (show (imS m x).length ≤ 64 from by rw [imS_len]; exact hm)
  have HI := hid (imS_in m x x1 x2)
  have HM := hid hm
  clear hq ho
  go_enter Try.func27, Try.ntmps27
  go_wp2_with fail
  refine (IsFirst_q _ _ _ _ _ true _ HF.out).mono ?_
  rintro e w1 ⟨rfl, hb⟩
  have B1 := hb
  have hgz : w.heap.size < w1.heap.size := by have := hb.size; simp at this; omega
  obtain ⟨c0, c1, c2, c3, c4⟩ := box5_cells B1
  go_wp2_with fail
  refine (isSample_yes _ _ (by omega) (by omega)).mono ?_
  rintro e w' ⟨rfl, rfl⟩
  go_wp2_with fail
  go_region_with (first | (go_at_call 42; refine (impulse_any x m _ HM.out).mono ?_; rintro e w3 ⟨v3, rfl, R3, hb3⟩; have HS := hid ((impS_imS m x) ▸ R3.sl); have B3 := bel_step B1 (bel_undrew2 hb3); clear R3 hb3; obtain ⟨d0, d1, d2, d3, d4⟩ := box5_cells B3) | (go_at_call 47; refine (runFrom_any a k mode n wd 0 _ (imS m x) _ HS.out HL.out HI.out HO.out (by omega) (by omega)).mono ?_; rintro e w4 ⟨u, rfl, hr, hb2⟩; have B4 := bel_step B3 hb2; have Hr := hid hr; clear hr hb2))
  all_goals
    go_wp2_with fail
    go_ret2
    exact ⟨_, rfl, Hr.out.mono (bel_step (bel_alloc _ _) B3).size, bel_step (bel_alloc _ _) B4⟩


set_option maxHeartbeats 2000000 in
theorem spec_ImpulseOf_is (a k mode b : Int) (wd : Bool) (x c : Int) (w : World) :
    Calls Try.prog 25 #[.agg #[.int .i64 a, .int .i64 k, .int .i64 mode, .int .i64 b, .bool wd], .int .i64 x, .int .i64 c] w (Gives w (imL a k mode b wd x c) (imB a k mode b x c)) := by
  cases hq : asB a k mode b 0 x
  · have hz : imB a k mode b x c = false := by unfold imB; rw [hq]; rfl
    have HQ := hid hq
    clear hq
    have HZ := hid hz
    have HL := hid (show imL a k mode b wd x c = [] from by unfold imL; rw [hz]; rfl)
    clear hz
    go_enter Try.func25, Try.ntmps25
    go_wp2_with fail
    refine (foAsked_q _ _ _ _ _ _ _ false _ HQ.out).mono ?_
    rintro e w1 ⟨rfl, hb⟩
    have B1 := hb
    obtain ⟨c0, c1, c2, c3, c4⟩ := box5_cells B1
    go_wp2_with fail
    go_ret2
    exact gives_of HZ.out HL.out ⟨_, rfl, .inl ⟨rfl, rfl⟩, bel_step (bel_alloc _ _) B1⟩
  · by_cases hc : 0 ≤ c ∧ c ≤ 64
    · have hz : imB a k mode b x c = true := by unfold imB; rw [hq, decide_eq_true hc]; rfl
      have hl : imL a k mode b wd x c = runL a k.toNat mode b.toNat wd (imS c.toNat x) 0 := by unfold imL; rw [hz]; rfl
      rw [hz, hl]
      obtain ⟨k, n, rfl, rfl, ho, _, x1, x2⟩ := asB_n hq
      obtain ⟨m, rfl⟩ : ∃ m : Nat, c = m := ⟨c.toNat, by omega⟩
      exact spec_Imp_in a k mode n wd x m w hq (by omega) ho x1 x2
    · have hz : imB a k mode b x c = false := by unfold imB; rw [decide_eq_false hc, Bool.and_false]
      have HQ := hid hq
      clear hq
      have HC := hid hc
      clear hc
      have HZ := hid hz
      have HL := hid (show imL a k mode b wd x c = [] from by unfold imL; rw [hz]; rfl)
      clear hz
      go_enter Try.func25, Try.ntmps25
      go_wp2_with fail
      refine (foAsked_q _ _ _ _ _ _ _ true _ HQ.out).mono ?_
      rintro e w1 ⟨rfl, hb⟩
      have B1 := hb
      obtain ⟨c0, c1, c2, c3, c4⟩ := box5_cells B1
      go_wp2_with fail
      refine (l1In_no _ _ _ _ HC.out).mono ?_
      rintro e w' ⟨rfl, rfl⟩
      go_wp2_with fail
      go_ret2
      exact gives_of HZ.out HL.out ⟨_, rfl, .inl ⟨rfl, rfl⟩, bel_step (bel_alloc _ _) B1⟩


set_option maxHeartbeats 2000000 in
theorem impl_ImpulseOf_is (a k mode b : Int) (wd : Bool) (x c : Int) (w : World) :
    Calls Try.prog 27 #[.agg #[.int .i64 a, .int .i64 k, .int .i64 mode, .int .i64 b, .bool wd], .int .i64 x, .int .i64 c] w (Gives w (imL a k mode b wd x c) (imB a k mode b x c)) := by
  cases hq : asB a k mode b 0 x
  · have hz : imB a k mode b x c = false := by unfold imB; rw [hq]; rfl
    rw [asB_zero] at hq
    cases hf : foB a k mode b
    · have HF := hid hf
      clear hf hq
      have HZ := hid hz
      have HL := hid (show imL a k mode b wd x c = [] from by unfold imL; rw [hz]; rfl)
      clear hz
      go_enter Try.func27, Try.ntmps27
      go_wp2_with fail
      refine (IsFirst_q _ _ _ _ _ false _ HF.out).mono ?_
      rintro e w1 ⟨rfl, hb⟩
      have B1 := hb
      obtain ⟨c0, c1, c2, c3, c4⟩ := box5_cells B1
      go_wp2_with fail
      go_ret2
      exact gives_of HZ.out HL.out ⟨_, rfl, .inl ⟨rfl, rfl⟩, bel_step (bel_alloc _ _) B1⟩
    · rw [hf] at hq
      have hs : smB x = false := hq
      have HF := hid hf
      have HS := hid hs
      clear hf hq hs
      have HZ := hid hz
      have HL := hid (show imL a k mode b wd x c = [] from by unfold imL; rw [hz]; rfl)
      clear hz
      go_enter Try.func27, Try.ntmps27
      go_wp2_with fail
      refine (IsFirst_q _ _ _ _ _ true _ HF.out).mono ?_
      rintro e w1 ⟨rfl, hb⟩
      have B1 := hb
      obtain ⟨c0, c1, c2, c3, c4⟩ := box5_cells B1
      go_wp2_with fail
      refine (isSample_q _ false _ HS.out).mono ?_
      rintro e w' ⟨rfl, rfl⟩
      go_wp2_with fail
      go_ret2
      exact gives_of HZ.out HL.out ⟨_, rfl, .inl ⟨rfl, rfl⟩, bel_step (bel_alloc _ _) B1⟩
  · by_cases hc : 0 ≤ c ∧ c ≤ 64
    · have hz : imB a k mode b x c = true := by unfold imB; rw [hq, decide_eq_true hc]; rfl
      have hl : imL a k mode b wd x c = runL a k.toNat mode b.toNat wd (imS c.toNat x) 0 := by unfold imL; rw [hz]; rfl
      rw [hz, hl]
      obtain ⟨k, n, rfl, rfl, ho, _, x1, x2⟩ := asB_n hq
      obtain ⟨m, rfl⟩ : ∃ m : Nat, c = m := ⟨c.toNat, by omega⟩
      exact impl_Imp_in a k mode n wd x m w hq (by omega) ho x1 x2
    · have hz : imB a k mode b x c = false := by unfold imB; rw [decide_eq_false hc, Bool.and_false]
      rw [asB_zero, Bool.and_eq_true] at hq
      have HF := hid hq.1
      have HS := hid hq.2
      clear hq
      by_cases hc0 : c < 0
      · clear hc
        have HZ := hid hz
        have HL := hid (show imL a k mode b wd x c = [] from by unfold imL; rw [hz]; rfl)
        clear hz
        go_enter Try.func27, Try.ntmps27
        go_wp2_with fail
        refine (IsFirst_q _ _ _ _ _ true _ HF.out).mono ?_
        rintro e w1 ⟨rfl, hb⟩
        have B1 := hb
        obtain ⟨c0, c1, c2, c3, c4⟩ := box5_cells B1
        go_wp2_with fail
        refine (isSample_q _ true _ HS.out).mono ?_
        rintro e w' ⟨rfl, rfl⟩
        go_wp2_with fail
        go_ret2
        exact gives_of HZ.out HL.out ⟨_, rfl, .inl ⟨rfl, rfl⟩, bel_step (bel_alloc _ _) B1⟩
      · have hc1 : 0 ≤ c := by omega
        have hc2 : 64 < c := by omega
        clear hc hc0
        have HZ := hid hz
        have HL := hid (show imL a k mode b wd x c = [] from by unfold imL; rw [hz]; rfl)
        clear hz
        go_enter Try.func27, Try.ntmps27
        go_wp2_with fail
        refine (IsFirst_q _ _ _ _ _ true _ HF.out).mono ?_
        rintro e w1 ⟨rfl, hb⟩
        have B1 := hb
        obtain ⟨c0, c1, c2, c3, c4⟩ := box5_cells B1
        go_wp2_with fail
        refine (isSample_q _ true _ HS.out).mono ?_
        rintro e w' ⟨rfl, rfl⟩
        go_wp2_with fail
        go_ret2
        exact gives_of HZ.out HL.out ⟨_, rfl, .inl ⟨rfl, rfl⟩, bel_step (bel_alloc _ _) B1⟩


set_option maxHeartbeats 1600000 in
theorem gen_FnExactImpulseOf (a k mode b : Int) (wr : Bool) (x : Int) (c : Int)  (ys : List Int) (ok : Bool) (w : World)  (hy : ys.length ≤ 2000000) (hspec : ∀ (w : World) , Calls Try.prog 25 #[.agg #[.int .i64 a, .int .i64 k, .int .i64 mode, .int .i64 b, .bool wr], .int .i64 x, .int .i64 c] w (Gives w ys ok)) (himpl : ∀ (w : World) , Calls Try.prog 27 #[.agg #[.int .i64 a, .int .i64 k, .int .i64 mode, .int .i64 b, .bool wr], .int .i64 x, .int .i64 c] w (Gives w ys ok)) :
    Calls Try.prog 7 #[.agg #[.int .i64 a, .int .i64 k, .int .i64 mode, .int .i64 b, .bool wr], .int .i64 x, .int .i64 c] w fun e w' => e = .returned (.bool true) ∧ Below w.heap.size w w' := by
  have HSP := hid hspec
  have HIM := hid himpl
  clear hspec himpl
  all_goals cases ok
  all_goals
    go_enter Try.func7, Try.ntmps7
    go_wp2_with fail
    refine (toFirst_any _ _ _ _ _ _).mono ?_
    rintro e w1 ⟨rfl, hb⟩
    have B1 := hb
    have hz1 : w.heap.size ≤ w1.heap.size := by first | exact hb.size | (have := hb.size; simp at this; omega)
    obtain ⟨ca1, cb1, cc1, cd1, ce1⟩ := box5_cells B1
    go_wp2_with fail
    refine (HSP.out _).mono ?_
    rintro e w2 ⟨v_R0, rfl, R0, hb⟩
    have B2 := bel_step B1 hb
    have hz2 : w1.heap.size ≤ w2.heap.size := hb.size
    obtain ⟨ca2, cb2, cc2, cd2, ce2⟩ := box5_cells B2
    have hlt0 : ∀ g, v_R0.ownBlock = some g → g < w2.heap.size := fun g hg => R0.lt hg
    have Hlt0 := hid hlt0
    clear hlt0
    go_wp2_with fail
    refine (toFirst_any _ _ _ _ _ _).mono ?_
    rintro e w3 ⟨rfl, hb⟩
    have B3 := bel_step B2 hb
    have hz3 : w2.heap.size ≤ w3.heap.size := hb.size
    have R0_3 := R0.kept hb
    obtain ⟨ca3, cb3, cc3, cd3, ce3⟩ := box5_cells B3
    go_wp2_with fail
    refine (HIM.out _).mono ?_
    rintro e w4 ⟨v_R1, rfl, R1, hb⟩
    have B4 := bel_step B3 hb
    have hz4 : w3.heap.size ≤ w4.heap.size := hb.size
    have R0_4 := R0_3.kept hb
    obtain ⟨ca4, cb4, cc4, cd4, ce4⟩ := box5_cells B4
    have hne01 : ∀ g, v_R0.ownBlock = some g → v_R1.ownBlock ≠ some g := fun g hg e => by have a1 := R1.ge e; have a2 := Hlt0.out g hg; omega
    have Hne01 := hid hne01
    clear hne01
    have hge1 : ∀ g, v_R1.ownBlock = some g → w3.heap.size ≤ g := fun g hg => R1.ge hg
    have Hge1 := hid hge1
    clear hge1
    go_wp2_with fail
    refine (eqIntS_same _ _ ys _ R1.sl R0_4.sl hy).mono ?_
    rintro e w5 ⟨rfl, hb⟩
    have B5 := bel_step B4 hb
    have hz5 : w4.heap.size ≤ w5.heap.size := hb.size
    have R0_5 := R0_4.kept hb
    have R1_5 := R1.kept hb
    obtain ⟨ca5, cb5, cc5, cd5, ce5⟩ := box5_cells B5
    go_wp2_with fail
    refine (markIntS_one _ ys _ _ R1_5 hy).mono ?_
    rintro e w6 ⟨rfl, ho, M⟩
    have B6 := B5.trans (ho.below fun g hg => Nat.le_trans B3.size (Hge1.out g hg))
    have hz6 : w5.heap.size ≤ w6.heap.size := Nat.le_of_eq ho.size.symm
    have R0_6 := R0_5.only ho Hne01.out
    obtain ⟨ca6, cb6, cc6, cd6, ce6⟩ := box5_cells B6
    go_wp2_with fail
    refine (heldIntS_one _ ys.length _ _ M hy).mono ?_
    rintro e w' ⟨rfl, rfl⟩
    go_wp2_with fail
    refine (toFirst_any _ _ _ _ _ _).mono ?_
    rintro e w7 ⟨rfl, hb⟩
    have B7 := bel_step B6 hb
    have hz7 : w6.heap.size ≤ w7.heap.size := hb.size
    have R0_7 := R0_6.kept hb
    have M_7 := M.kept hb
    obtain ⟨ca7, cb7, cc7, cd7, ce7⟩ := box5_cells B7
    go_wp2_with fail
    refine (HIM.out _).mono ?_
    rintro e w8 ⟨v_R2, rfl, R2, hb⟩
    have B8 := bel_step B7 hb
    have hz8 : w7.heap.size ≤ w8.heap.size := hb.size
    have R0_8 := R0_7.kept hb
    have M_8 := M_7.kept hb
    obtain ⟨ca8, cb8, cc8, cd8, ce8⟩ := box5_cells B8
    go_wp2_with fail
    refine (eqIntS_same _ _ ys _ R2.sl R0_8.sl hy).mono ?_
    rintro e w9 ⟨rfl, hb⟩
    have B9 := bel_step B8 hb
    have hz9 : w8.heap.size ≤ w9.heap.size := hb.size
    have R0_9 := R0_8.kept hb
    have M_9 := M_8.kept hb
    have R2_9 := R2.kept hb
    obtain ⟨ca9, cb9, cc9, cd9, ce9⟩ := box5_cells B9
    go_wp2_with fail
    refine (heldIntS_one _ ys.length _ _ M_9 hy).mono ?_
    rintro e w' ⟨rfl, rfl⟩
    go_wp2_with fail
    go_ret
    exact ⟨rfl, bel_step (bel_alloc _ _) B9⟩


set_option maxHeartbeats 1600000 in
theorem walk_FnExactImpulseOf (w : World) (a k mode b : Int) (wr : Bool) (wa : (Lit.int .i64 a).wf = true) (wk : (Lit.int .i64 k).wf = true) (wm : (Lit.int .i64 mode).wf = true) (wb : (Lit.int .i64 b).wf = true) (x : Int) (w_x : (Lit.int .i64 x).wf = true) (c : Int) (w_c : (Lit.int .i64 c).wf = true) :
    Calls Try.prog 7 #[.agg #[.int .i64 a, .int .i64 k, .int .i64 mode, .int .i64 b, .bool wr], .int .i64 x, .int .i64 c] w fun e w' => e = .returned (.bool true) ∧ Below w.heap.size w w' := by
  obtain ⟨x_1, x_2⟩ := bounds_i64 w_x
  obtain ⟨c_1, c_2⟩ := bounds_i64 w_c
  exact gen_FnExactImpulseOf a k mode b wr x c (imL a k mode b wr x c) (imB a k mode b x c) w (imL_len _ _ _ _ _ _ _) (fun w  => spec_ImpulseOf_is _ _ _ _ _ _ _ _) (fun w  => impl_ImpulseOf_is _ _ _ _ _ _ _ _)

end Go.Proofs.Ytkpfcaipbhfgkaa
