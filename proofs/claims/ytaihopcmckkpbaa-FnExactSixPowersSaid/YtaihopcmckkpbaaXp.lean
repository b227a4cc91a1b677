
import Derived.Test.YtaihopcmckkpbaaXn
import Derived.Test.YtaihopcmckkpbaaVa
namespace Go.Proofs.Ytaihopcmckkpbaa
open Go.RowKit BitX Go.MemX Go.Ch6 Go.Ch9 FltX
set_option linter.unusedVariables false
theorem tone_big {s : List Int} (h : SigP s) (p k : Nat) : (-6400000 ≤ toX s p k s.length ∧ toX s p k s.length ≤ 6400000) ∧ (-6400000 ≤ toY s p k s.length ∧ toY s p k s.length ≤ 6400000) := by
  have := to_in (sig_at0 h) p k s.length
  have := h.1
  omega
theorem poK_in {s : List Int} (h : SigP s) (p k : Nat) : -122880000000000 ≤ poK s p k ∧ poK s p k ≤ 122880000000000 := by
  obtain ⟨⟨x1, x2⟩, ⟨y1, y2⟩⟩ := tone_big h p k
  obtain ⟨p1, p2, p3⟩ := prods_in x1 x2 y1 y2
  unfold poK poI
  split <;> omega
theorem poL_len (s : List Int) (p : Nat) : (poL s p).length = p := tab_len _ _
def sgB9 (s : List Int) : Bool := sigB s
theorem sg9 {s : List Int} {b : Bool} (h : sigB s = b) : sgB9 s = b := h
def pwB (p : Int) (s : List Int) : Bool := sigB s && decide (p = 4 ∨ p = 6)
theorem pw_n1 {s : List Int} {p : Int} (h : sigB s = false) : pwB p s = false := by unfold pwB; rw [h]; rfl
theorem pw_n2 {s : List Int} {p : Int} (h : decide (p = 4 ∨ p = 6) = false) : pwB p s = false := by unfold pwB; rw [h, Bool.and_false]
theorem pw_t {s : List Int} {p : Int} (h : sigB s = true) (h2 : decide (p = 4 ∨ p = 6) = true) : pwB p s = true := by unfold pwB; rw [h, h2]; rfl

set_option maxHeartbeats 2000000 in
theorem powersOf_4 (v : Value) (s : List Int) (w : World) (hs : Sl w v s) :
    Calls Try.prog 27 #[v, .int .i64 4] w (Gives w (onL (sgB9 s) (poL s 4)) (sgB9 s)) := by
  have HS := hid hs
  clear hs
  cases h0 : sigB s
  · have HB0 := hid h0
    clear h0
    go_enter Try.func27, Try.ntmps27
    go_wp2_with fail
    refine (impl_IsSignal_is v s false _ HS.out HB0.out).mono ?_
    rintro e w' ⟨rfl, rfl⟩
    go_wp2_with fail
    go_ret2
    exact gives_no (sg9 HB0.out) (Below.refl _ _)
  · have HB0 := hid h0
    clear h0
    go_enter Try.func27, Try.ntmps27
    go_wp2_with fail
    refine (impl_IsSignal_is v s true _ HS.out HB0.out).mono ?_
    rintro e w' ⟨rfl, rfl⟩
    have HG := hid (sigB_t HB0.out)
    have hmk : ∀ w : World, (Instr.makeSlice 22 (.int .i64 4) (.int .i64 4)).run Try.prog w = .ok (.slice (some ⟨w.heap.size, 0, none⟩) 4 4) (w.alloc (.cells (intsA (List.replicate 4 0)) 3)) := run_make_ints (P := Try.prog) 22 3 uslice iint 4 (by omega)
    have mp := mp4
    go_wp2_with fail
    refine (hasTones_is 4 true _ rfl).mono ?_
    rintro e w' ⟨rfl, rfl⟩
    go_wp2_with fail
    go_loopw [20] (fun i wr => ∃ c : Nat, c ≤ 4 ∧ i = .int .i64 c ∧ Blk 3 wr w.heap.size (upTo (tab 4 (poK s 4)) c) ∧ Below w.heap.size w wr)
      (fun i _ => 4 - (intOf i).toNat)
    case atStart => exact ⟨0, by omega, rfl, by rw [upTo_zero, tab_len]; exact heap_alloc_new _ _, bel_alloc _ _⟩
    case round =>
      obtain ⟨c, hc, rfl, hblk, hb⟩ := hrel
      have hsz : w.heap.size ≤ wr.heap.size := hb.size
      by_cases hlk : c < 4
      · obtain ⟨xb, yb⟩ := tone_big HG.out 4 c
        have hkt := tab_get 4 (poK s 4) c hlk
        have Hkt := hid (show (tab 4 (poK s 4))[c]? = some (poI 4 (toX s 4 c s.length) (toY s 4 c s.length)) from hkt)
        have Hblk := hid hblk
        have hci : (c : Int) < 4 := by omega
        clear hblk hkt
        go_wp2_with (first | (go_at_call 35; refine (toneOf_4 v s c _ (HS.out.kept hb) HG.out hlk).mono ?_; rintro e w1 ⟨⟨re, im, rfl, r1, r2⟩, hb1⟩; have R := hid (And.intro r1 r2); clear r1 r2) | (go_at_call 56; refine (fpower_any re im _ _ _ R.out.1 R.out.2 xb.1 xb.2 yb.1 yb.2).mono ?_; rintro e w2 ⟨rfl, hb2⟩; have hB2 : Below w.heap.size w w2 := (hb.trans (hb1.mono hsz)).trans (hb2.mono (Nat.le_trans hsz hb1.size)); have hblk2 := (Hblk.out.kept hb1 Hblk.out.lt).kept hb2 (Hblk.out.kept hb1 Hblk.out.lt).lt; have hcd : w2.cell? ⟨w.heap.size, c, none⟩ = some (.int .i64 0) := hblk2.cell (upTo_get (tab 4 (poK s 4)) c (by rw [tab_len]; exact hlk)); have hfd := hblk2.free c; have Hblk2 := hid hblk2; have hB := hid hB2; clear hblk2 hB2 hb1 hb2))
        go_roundw
        case rel => exact ⟨c + 1, by omega, by go_num, by rw [← upTo_step (tab 4 (poK s 4)) c _ Hkt.out]; exact Hblk2.out.set c _, hB.out.setCell (by exact Nat.le_refl _) _⟩
        case measure => simp [intOf]; omega
      · have hge : (4 : Int) ≤ (c : Int) := by omega
        have hkn : c = 4 := by omega
        have Hk := hid hkn
        have Hblk := hid hblk
        clear hkn hlk hblk
        go_wp2
        go_ret2
        have hbk := Hblk.out
        rw [Hk.out, show upTo (tab 4 (poK s 4)) 4 = tab 4 (poK s 4) from by have := upTo_full (tab 4 (poK s 4)); rwa [tab_len] at this] at hbk
        have h2 := hbk.res (Nat.le_refl w.heap.size)
        rw [tab_len] at h2
        exact gives_yes (sg9 HB0.out) h2 hb


set_option maxHeartbeats 400000 in
theorem impl_FourPowers_any (v : Value) (s : List Int) (w : World) (hs : Sl w v s) :
    Calls Try.prog 15 #[v] w (Gives w (onL (sgB9 s) (poL s 4)) (sgB9 s)) := by
  go_enter Try.func15, Try.ntmps15
  go_wp2_with fail
  refine (powersOf_4 v s _ hs).mono ?_
  rintro e w2 ⟨u, rfl, R, hb⟩
  have HR := hid R
  clear R
  go_wp2
  go_ret2
  exact ⟨u, rfl, HR.out, hb⟩


set_option maxHeartbeats 2000000 in
theorem tnPowers_4 (v : Value) (s : List Int) (w : World) (hs : Sl w v s) (hg : SigP s) :
    Calls Try.prog 26 #[v, .int .i64 4] w (GivesL w (poL s 4)) := by
  have HS := hid hs
  have HG := hid hg
  obtain ⟨i0, hi0, hz0, hz1, hz2⟩ := info_parts iint
  clear hs hg
  go_enter Try.func26, Try.ntmps26
  go_wp2_with fail
  go_loopw [5, 6] (fun v i wr => ∃ c : Nat, c ≤ 4 ∧ i = .int .i64 c ∧ wr.ownsRow w.heap.size 3 1 v c ((tab c (poK s 4)).map (Value.int .i64)) ∧ Below w.heap.size w wr)
    (fun _ i _ => 4 - (intOf i).toNat)
  case atStart => exact ⟨0, by omega, rfl, World.ownsRow_nil _ _ _ _, Below.refl _ _⟩
  case round =>
    obtain ⟨c, hc, rfl, hown, hb⟩ := hrel
    have hsz : w.heap.size ≤ wr.heap.size := hb.size
    by_cases hlk : c < 4
    · obtain ⟨xb, yb⟩ := tone_big HG.out 4 c
      have hst : tab (c + 1) (poK s 4) = tab c (poK s 4) ++ [poI 4 (toX s 4 c s.length) (toY s 4 c s.length)] := tab_step c (poK s 4)
      have Hob := hid (ownsRow_base hown)
      have Hown := hid hown
      have Hst := hid hst
      have hci : (c : Int) < 4 := by omega
      clear hown hst
      go_wp2_with fail
      refine (tnTone_4 _ s c _ (HS.out.kept hb) HG.out hlk).mono ?_
      rintro e w1 ⟨rfl, hb1⟩
      go_wp2_with fail
      refine (tnPower_4 _ _ _ xb.1 xb.2 yb.1 yb.2).mono ?_
      rintro e w2 ⟨rfl, hb2⟩
      have hB2 : Below w.heap.size w w2 := (hb.trans (hb1.mono hsz)).trans (hb2.mono (Nat.le_trans hsz hb1.size))
      have hs2 : w.heap.size ≤ w2.heap.size := hB2.size
      have hown2 := ownsRow_below (ownsRow_below Hown.out hb1) hb2
      have Hown2 := hid hown2
      clear hown2
      generalize poI 4 (toX s 4 c s.length) (toY s 4 c s.length) = y at *
      go_wp2_with (at_builtin; refine wpList_append_own _ rfl _ _ 22 rfl w.heap.size 3 i0 (.int .i64 0) 1 8 uslice hi0 hz0 hz1 hz2 rfl (by decide) _ _ _ rfl (Hown2.out.alloc _) ⟨w2.heap.size, 0, none⟩ 1 1 [.int .i64 y] rfl rfl ?c1 ?c2 ?c3 ?c4 ?c5 ?_)
      case c1 => exact cell_one_new _ _ _
      case c2 => intro u hu; simp at hu; subst hu; rfl
      case c3 => unfold maxLen; omega
      case c4 => omega
      case c5 => simp; omega
      intro v' w3 hown3 hgrow _
      have hb3 : Below w.heap.size w w3 := (hB2.alloc hs2 _).grown hgrow (by simp; omega) (fun j hj => Hob.out j hj)
      have Hown3 := hid hown3
      clear hown3 hgrow
      go_wp2
      go_roundw
      case rel => exact ⟨c + 1, by omega, by go_num, by rw [Hst.out, List.map_append]; exact Hown3.out, hb3⟩
      case measure => simp [intOf]; omega
    · have hge : (4 : Int) ≤ (c : Int) := by omega
      have hkn : c = 4 := by omega
      have Hk := hid hkn
      have Hown := hid hown
      clear hkn hlk hown
      go_wp2
      go_ret
      have ho := Hown.out
      rw [Hk.out] at ho
      exact ⟨_, rfl, Res.owns (by rw [poL, tab_len]; exact ho), hb⟩


set_option maxHeartbeats 1000000 in
theorem spec_FourPowers_any (v : Value) (s : List Int) (w : World) (hs : Sl w v s) :
    Calls Try.prog 14 #[v] w (Gives w (onL (sgB9 s) (poL s 4)) (sgB9 s)) := by
  have HS := hid hs
  clear hs
  cases h0 : sigB s
  · have HB0 := hid h0
    clear h0
    go_enter Try.func14, Try.ntmps14
    go_wp2_with fail
    refine (wdSignal_is v s false _ HS.out HB0.out).mono ?_
    rintro e w' ⟨rfl, rfl⟩
    go_wp2_with fail
    go_ret2
    exact gives_no (sg9 HB0.out) (Below.refl _ _)
  · have HB0 := hid h0
    clear h0
    go_enter Try.func14, Try.ntmps14
    go_wp2_with fail
    refine (wdSignal_is v s true _ HS.out HB0.out).mono ?_
    rintro e w' ⟨rfl, rfl⟩
    go_wp2_with fail
    refine (tnPowers_4 v s _ HS.out (sigB_t HB0.out)).mono ?_
    rintro e w1 ⟨u, rfl, R, hb⟩
    have HR := hid R
    clear R
    go_wp2
    go_ret2
    exact gives_yes (sg9 HB0.out) HR.out hb


set_option maxHeartbeats 2000000 in
theorem powersOf_6 (v : Value) (s : List Int) (w : World) (hs : Sl w v s) :
    Calls Try.prog 27 #[v, .int .i64 6] w (Gives w (onL (sgB9 s) (poL s 6)) (sgB9 s)) := by
  have HS := hid hs
  clear hs
  cases h0 : sigB s
  · have HB0 := hid h0
    clear h0
    go_enter Try.func27, Try.ntmps27
    go_wp2_with fail
    refine (impl_IsSignal_is v s false _ HS.out HB0.out).mono ?_
    rintro e w' ⟨rfl, rfl⟩
    go_wp2_with fail
    go_ret2
    exact gives_no (sg9 HB0.out) (Below.refl _ _)
  · have HB0 := hid h0
    clear h0
    go_enter Try.func27, Try.ntmps27
    go_wp2_with fail
    refine (impl_IsSignal_is v s true _ HS.out HB0.out).mono ?_
    rintro e w' ⟨rfl, rfl⟩
    have HG := hid (sigB_t HB0.out)
    have hmk : ∀ w : World, (Instr.makeSlice 22 (.int .i64 6) (.int .i64 6)).run Try.prog w = .ok (.slice (some ⟨w.heap.size, 0, none⟩) 6 6) (w.alloc (.cells (intsA (List.replicate 6 0)) 3)) := run_make_ints (P := Try.prog) 22 3 uslice iint 6 (by omega)
    have mp := mp6
    go_wp2_with fail
    refine (hasTones_is 6 true _ rfl).mono ?_
    rintro e w' ⟨rfl, rfl⟩
    go_wp2_with fail
    go_loopw [20] (fun i wr => ∃ c : Nat, c ≤ 6 ∧ i = .int .i64 c ∧ Blk 3 wr w.heap.size (upTo (tab 6 (poK s 6)) c) ∧ Below w.heap.size w wr)
      (fun i _ => 6 - (intOf i).toNat)
    case atStart => exact ⟨0, by omega, rfl, by rw [upTo_zero, tab_len]; exact heap_alloc_new _ _, bel_alloc _ _⟩
    case round =>
      obtain ⟨c, hc, rfl, hblk, hb⟩ := hrel
      have hsz : w.heap.size ≤ wr.heap.size := hb.size
      by_cases hlk : c < 6
      · obtain ⟨xb, yb⟩ := tone_big HG.out 6 c
        have hkt := tab_get 6 (poK s 6) c hlk
        have Hkt := hid (show (tab 6 (poK s 6))[c]? = some (poI 6 (toX s 6 c s.length) (toY s 6 c s.length)) from hkt)
        have Hblk := hid hblk
        have hci : (c : Int) < 6 := by omega
        clear hblk hkt
        go_wp2_with (first | (go_at_call 35; refine (toneOf_6 v s c _ (HS.out.kept hb) HG.out hlk).mono ?_; rintro e w1 ⟨rfl, hb1⟩) | (go_at_call 60; refine (spower_any _ _ _ xb.1 xb.2 yb.1 yb.2).mono ?_; rintro e w2 ⟨rfl, hb2⟩; have hB2 : Below w.heap.size w w2 := (hb.trans (hb1.mono hsz)).trans (hb2.mono (Nat.le_trans hsz hb1.size)); have hblk2 := (Hblk.out.kept hb1 Hblk.out.lt).kept hb2 (Hblk.out.kept hb1 Hblk.out.lt).lt; have hcd : w2.cell? ⟨w.heap.size, c, none⟩ = some (.int .i64 0) := hblk2.cell (upTo_get (tab 6 (poK s 6)) c (by rw [tab_len]; exact hlk)); have hfd := hblk2.free c; have Hblk2 := hid hblk2; have hB := hid hB2; clear hblk2 hB2 hb1 hb2))
        go_roundw
        case rel => exact ⟨c + 1, by omega, by go_num, by rw [← upTo_step (tab 6 (poK s 6)) c _ Hkt.out]; exact Hblk2.out.set c _, hB.out.setCell (by exact Nat.le_refl _) _⟩
        case measure => simp [intOf]; omega
      · have hge : (6 : Int) ≤ (c : Int) := by omega
        have hkn : c = 6 := by omega
        have Hk := hid hkn
        have Hblk := hid hblk
        clear hkn hlk hblk
        go_wp2
        go_ret2
        have hbk := Hblk.out
        rw [Hk.out, show upTo (tab 6 (poK s 6)) 6 = tab 6 (poK s 6) from by have := upTo_full (tab 6 (poK s 6)); rwa [tab_len] at this] at hbk
        have h2 := hbk.res (Nat.le_refl w.heap.size)
        rw [tab_len] at h2
        exact gives_yes (sg9 HB0.out) h2 hb


set_option maxHeartbeats 400000 in
theorem impl_SixPowers_any (v : Value) (s : List Int) (w : World) (hs : Sl w v s) :
    Calls Try.prog 19 #[v] w (Gives w (onL (sgB9 s) (poL s 6)) (sgB9 s)) := by
  go_enter Try.func19, Try.ntmps19
  go_wp2_with fail
  refine (powersOf_6 v s _ hs).mono ?_
  rintro e w2 ⟨u, rfl, R, hb⟩
  have HR := hid R
  clear R
  go_wp2
  go_ret2
  exact ⟨u, rfl, HR.out, hb⟩


set_option maxHeartbeats 2000000 in
theorem tnPowers_6 (v : Value) (s : List Int) (w : World) (hs : Sl w v s) (hg : SigP s) :
    Calls Try.prog 26 #[v, .int .i64 6] w (GivesL w (poL s 6)) := by
  have HS := hid hs
  have HG := hid hg
  obtain ⟨i0, hi0, hz0, hz1, hz2⟩ := info_parts iint
  clear hs hg
  go_enter Try.func26, Try.ntmps26
  go_wp2_with fail
  go_loopw [5, 6] (fun v i wr => ∃ c : Nat, c ≤ 6 ∧ i = .int .i64 c ∧ wr.ownsRow w.heap.size 3 1 v c ((tab c (poK s 6)).map (Value.int .i64)) ∧ Below w.heap.size w wr)
    (fun _ i _ => 6 - (intOf i).toNat)
  case atStart => exact ⟨0, by omega, rfl, World.ownsRow_nil _ _ _ _, Below.refl _ _⟩
  case round =>
    obtain ⟨c, hc, rfl, hown, hb⟩ := hrel
    have hsz : w.heap.size ≤ wr.heap.size := hb.size
    by_cases hlk : c < 6
    · obtain ⟨xb, yb⟩ := tone_big HG.out 6 c
      have hst : tab (c + 1) (poK s 6) = tab c (poK s 6) ++ [poI 6 (toX s 6 c s.length) (toY s 6 c s.length)] := tab_step c (poK s 6)
      have Hob := hid (ownsRow_base hown)
      have Hown := hid hown
      have Hst := hid hst
      have hci : (c : Int) < 6 := by omega
      clear hown hst
      go_wp2_with fail
      refine (tnTone_6 _ s c _ (HS.out.kept hb) HG.out hlk).mono ?_
      rintro e w1 ⟨rfl, hb1⟩
      go_wp2_with fail
      refine (tnPower_6 _ _ _ xb.1 xb.2 yb.1 yb.2).mono ?_
      rintro e w2 ⟨rfl, hb2⟩
      have hB2 : Below w.heap.size w w2 := (hb.trans (hb1.mono hsz)).trans (hb2.mono (Nat.le_trans hsz hb1.size))
      have hs2 : w.heap.size ≤ w2.heap.size := hB2.size
      have hown2 := ownsRow_below (ownsRow_below Hown.out hb1) hb2
      have Hown2 := hid hown2
      clear hown2
      generalize poI 6 (toX s 6 c s.length) (toY s 6 c s.length) = y at *
      go_wp2_with (at_builtin; refine wpList_append_own _ rfl _ _ 22 rfl w.heap.size 3 i0 (.int .i64 0) 1 8 uslice hi0 hz0 hz1 hz2 rfl (by decide) _ _ _ rfl (Hown2.out.alloc _) ⟨w2.heap.size, 0, none⟩ 1 1 [.int .i64 y] rfl rfl ?c1 ?c2 ?c3 ?c4 ?c5 ?_)
      case c1 => exact cell_one_new _ _ _
      case c2 => intro u hu; simp at hu; subst hu; rfl
      case c3 => unfold maxLen; omega
      case c4 => omega
      case c5 => simp; omega
      intro v' w3 hown3 hgrow _
      have hb3 : Below w.heap.size w w3 := (hB2.alloc hs2 _).grown hgrow (by simp; omega) (fun j hj => Hob.out j hj)
      have Hown3 := hid hown3
      clear hown3 hgrow
      go_wp2
      go_roundw
      case rel => exact ⟨c + 1, by omega, by go_num, by rw [Hst.out, List.map_append]; exact Hown3.out, hb3⟩
      case measure => simp [intOf]; omega
    · have hge : (6 : Int) ≤ (c : Int) := by omega
      have hkn : c = 6 := by omega
      have Hk := hid hkn
      have Hown := hid hown
      clear hkn hlk hown
      go_wp2
      go_ret
      have ho := Hown.out
      rw [Hk.out] at ho
      exact ⟨_, rfl, Res.owns (by rw [poL, tab_len]; exact ho), hb⟩


set_option maxHeartbeats 1000000 in
theorem spec_SixPowers_any (v : Value) (s : List Int) (w : World) (hs : Sl w v s) :
    Calls Try.prog 18 #[v] w (Gives w (onL (sgB9 s) (poL s 6)) (sgB9 s)) := by
  have HS := hid hs
  clear hs
  cases h0 : sigB s
  · have HB0 := hid h0
    clear h0
    go_enter Try.func18, Try.ntmps18
    go_wp2_with fail
    refine (wdSignal_is v s false _ HS.out HB0.out).mono ?_
    rintro e w' ⟨rfl, rfl⟩
    go_wp2_with fail
    go_ret2
    exact gives_no (sg9 HB0.out) (Below.refl _ _)
  · have HB0 := hid h0
    clear h0
    go_enter Try.func18, Try.ntmps18
    go_wp2_with fail
    refine (wdSignal_is v s true _ HS.out HB0.out).mono ?_
    rintro e w' ⟨rfl, rfl⟩
    go_wp2_with fail
    refine (tnPowers_6 v s _ HS.out (sigB_t HB0.out)).mono ?_
    rintro e w1 ⟨u, rfl, R, hb⟩
    have HR := hid R
    clear R
    go_wp2
    go_ret2
    exact gives_yes (sg9 HB0.out) HR.out hb


set_option maxHeartbeats 1600000 in
theorem gen_FnExactFourPowers (s : List Int) (u_s : Option Addr) (l_s c_s : Nat) (ys : List Int) (ok : Bool) (w : World) (hs_s : Sl w (.slice u_s l_s c_s) s) (ll_s : l_s ≤ 1048576) (hl_s : s.length ≤ 1048576) (hy : ys.length ≤ 2000000) (hspec : ∀ (w : World) (v_s : Value), Sl w v_s s → Calls Try.prog 14 #[v_s] w (Gives w ys ok)) (himpl : ∀ (w : World) (v_s : Value), Sl w v_s s → Calls Try.prog 15 #[v_s] w (Gives w ys ok)) :
    Calls Try.prog 5 #[.slice u_s l_s c_s] w fun e w' => e = .returned (.bool true) ∧ Below w.heap.size w w' := by
  have HSs := hid hs_s
  clear hs_s
  have HSP := hid hspec
  have HIM := hid himpl
  clear hspec himpl
  all_goals cases ok
  all_goals
    go_enter Try.func5, Try.ntmps5
    go_wp2_with fail
    refine (toIntS_any _ s _ HSs.out (by omega)).mono ?_
    rintro e w1 ⟨g_As0, hg_As0, rfl, K_As0, hb⟩
    have B1 := hb
    have hz1 : w.heap.size ≤ w1.heap.size := by first | exact hb.size | (have := hb.size; simp at this; omega)
    have As0 := K_As0.res hg_As0
    go_wp2_with fail
    refine (HSP.out _ _ As0.sl).mono ?_
    rintro e w2 ⟨v_R0, rfl, R0, hb⟩
    have B2 := bel_step B1 hb
    have hz2 : w1.heap.size ≤ w2.heap.size := hb.size
    have As0_2 := As0.kept hb
    have hlt0 : ∀ g, v_R0.ownBlock = some g → g < w2.heap.size := fun g hg => R0.lt hg
    have Hlt0 := hid hlt0
    clear hlt0
    go_wp2_with fail
    refine (toIntS_any _ s _ (HSs.out.kept B2) (by omega)).mono ?_
    rintro e w3 ⟨g_Xs, hg_Xs, rfl, K_Xs, hb⟩
    have B3 := bel_step B2 hb
    have hz3 : w2.heap.size ≤ w3.heap.size := hb.size
    have R0_3 := R0.kept hb
    have Xs := K_Xs.res hg_Xs
    have hlt_Xs := K_Xs.lt
    have hne_Xs : ∀ g, v_R0.ownBlock = some g → g ≠ g_Xs := fun g hg => by have a1 := Hlt0.out g hg; omega
    have Hne_Xs := hid hne_Xs
    clear hne_Xs
    have hxl_Xs : g_Xs < w3.heap.size := Xs.lt rfl
    go_wp2_with fail
    refine (HIM.out _ _ Xs.sl).mono ?_
    rintro e w4 ⟨v_R1, rfl, R1, hb⟩
    have B4 := bel_step B3 hb
    have hz4 : w3.heap.size ≤ w4.heap.size := hb.size
    have R0_4 := R0_3.kept hb
    have Xs_4 := Xs.kept hb
    have hne1_Xs : ∀ g, v_R1.ownBlock = some g → g ≠ g_Xs := fun g hg => by have a1 := R1.ge hg; omega
    have Hne1_Xs := hid hne1_Xs
    clear hne1_Xs
    have hne01 : ∀ g, v_R0.ownBlock = some g → v_R1.ownBlock ≠ some g := fun g hg e => by have a1 := R1.ge e; have a2 := Hlt0.out g hg; omega
    have Hne01 := hid hne01
    clear hne01
    have hge1 : ∀ g, v_R1.ownBlock = some g → w3.heap.size ≤ g := fun g hg => R1.ge hg
    have Hge1 := hid hge1
    clear hge1
    go_wp2_with fail
    refine (eqIntS_same _ _ ys _ R1.sl R0_4.sl hy).mono ?_
    rintro e w5 ⟨rfl, hb⟩
    have B5 := bel_step B4 hb
    have hz5 : w4.heap.size ≤ w5.heap.size := hb.size
    have R0_5 := R0_4.kept hb
    have Xs_5 := Xs_4.kept hb
    have R1_5 := R1.kept hb
    go_wp2_with fail
    refine (toIntS_any _ s _ (HSs.out.kept B5) (by omega)).mono ?_
    rintro e w6 ⟨g_TXs, hg_TXs, rfl, K_TXs, hb⟩
    have B6 := bel_step B5 hb
    have hz6 : w5.heap.size ≤ w6.heap.size := hb.size
    have R0_6 := R0_5.kept hb
    have Xs_6 := Xs_5.kept hb
    have R1_6 := R1_5.kept hb
    have TXs := K_TXs.res hg_TXs
    go_wp2_with fail
    refine (eqIntS_same _ _ s _ Xs_6.sl TXs.sl (by omega)).mono ?_
    rintro e w7 ⟨rfl, hb⟩
    have B7 := bel_step B6 hb
    have hz7 : w6.heap.size ≤ w7.heap.size := hb.size
    have R0_7 := R0_6.kept hb
    have Xs_7 := Xs_6.kept hb
    have R1_7 := R1_6.kept hb
    have TXs_7 := TXs.kept hb
    go_wp2_with fail
    refine (markIntS_one _ s _ _ Xs_7 (by omega)).mono ?_
    rintro e w8 ⟨rfl, ho, _⟩
    have B8 := B7.trans (ho.below fun g hg => by cases hg; exact Nat.le_trans B2.size hg_Xs)
    have hz8 : w7.heap.size ≤ w8.heap.size := Nat.le_of_eq ho.size.symm
    have R0_8 := R0_7.only ho fun g hg e => by cases e; exact Hne_Xs.out _ hg rfl
    have R1_8 := R1_7.only ho fun g hg e => by cases e; exact Hne1_Xs.out _ hg rfl
    go_wp2_with fail
    refine (eqIntS_same _ _ ys _ R1_8.sl R0_8.sl hy).mono ?_
    rintro e w9 ⟨rfl, hb⟩
    have B9 := bel_step B8 hb
    have hz9 : w8.heap.size ≤ w9.heap.size := hb.size
    have R0_9 := R0_8.kept hb
    have R1_9 := R1_8.kept hb
    go_wp2_with fail
    refine (markIntS_one _ ys _ _ R1_9 hy).mono ?_
    rintro e w10 ⟨rfl, ho, M⟩
    have B10 := B9.trans (ho.below fun g hg => Nat.le_trans B3.size (Hge1.out g hg))
    have hz10 : w9.heap.size ≤ w10.heap.size := Nat.le_of_eq ho.size.symm
    have R0_10 := R0_9.only ho Hne01.out
    go_wp2_with fail
    refine (heldIntS_one _ ys.length _ _ M hy).mono ?_
    rintro e w' ⟨rfl, rfl⟩
    go_wp2_with fail
    refine (toIntS_any _ s _ (HSs.out.kept B10) (by omega)).mono ?_
    rintro e w11 ⟨g_As10, hg_As10, rfl, K_As10, hb⟩
    have B11 := bel_step B10 hb
    have hz11 : w10.heap.size ≤ w11.heap.size := hb.size
    have R0_11 := R0_10.kept hb
    have M_11 := M.kept hb
    have As10 := K_As10.res hg_As10
    go_wp2_with fail
    refine (HIM.out _ _ As10.sl).mono ?_
    rintro e w12 ⟨v_R2, rfl, R2, hb⟩
    have B12 := bel_step B11 hb
    have hz12 : w11.heap.size ≤ w12.heap.size := hb.size
    have R0_12 := R0_11.kept hb
    have M_12 := M_11.kept hb
    have As10_12 := As10.kept hb
    go_wp2_with fail
    refine (eqIntS_same _ _ ys _ R2.sl R0_12.sl hy).mono ?_
    rintro e w13 ⟨rfl, hb⟩
    have B13 := bel_step B12 hb
    have hz13 : w12.heap.size ≤ w13.heap.size := hb.size
    have R0_13 := R0_12.kept hb
    have M_13 := M_12.kept hb
    have R2_13 := R2.kept hb
    go_wp2_with fail
    refine (heldIntS_one _ ys.length _ _ M_13 hy).mono ?_
    rintro e w' ⟨rfl, rfl⟩
    go_wp2_with fail
    go_ret
    exact ⟨rfl, B13⟩


set_option maxHeartbeats 1600000 in
theorem walk_FnExactFourPowers (w : World) (u_s : Option Addr) (l_s c_s : Nat) (z_s : List Int) (hr_s : IsRow .i64 w u_s l_s c_s z_s) :
    Calls Try.prog 5 #[.slice u_s l_s c_s] w fun e w' => e = .returned (.bool true) ∧ Below w.heap.size w w' := by
  obtain ⟨hs_s, hlen_s, hin_s⟩ := hr_s.sl
  generalize z_s.take l_s = s at hs_s hlen_s hin_s
  clear hr_s
  by_cases hbig_s : 1048576 < l_s
  · clear hs_s hlen_s hin_s
    go_enter Try.func5, Try.ntmps5
    go_wp2
    go_ret
    exact ⟨rfl, Below.refl _ _⟩
  · have hq_s : l_s ≤ 1048576 := by omega
    exact gen_FnExactFourPowers s _ _ _ _ _ w hs_s (by omega) (by omega) (onL_len fun _ => by rw [poL_len]; omega) (fun w v_s h_s => spec_FourPowers_any v_s s w h_s) (fun w v_s h_s => impl_FourPowers_any v_s s w h_s)


set_option maxHeartbeats 1600000 in
theorem gen_FnExactSixPowers (s : List Int) (u_s : Option Addr) (l_s c_s : Nat) (ys : List Int) (ok : Bool) (w : World) (hs_s : Sl w (.slice u_s l_s c_s) s) (ll_s : l_s ≤ 1048576) (hl_s : s.length ≤ 1048576) (hy : ys.length ≤ 2000000) (hspec : ∀ (w : World) (v_s : Value), Sl w v_s s → Calls Try.prog 18 #[v_s] w (Gives w ys ok)) (himpl : ∀ (w : World) (v_s : Value), Sl w v_s s → Calls Try.prog 19 #[v_s] w (Gives w ys ok)) :
    Calls Try.prog 6 #[.slice u_s l_s c_s] w fun e w' => e = .returned (.bool true) ∧ Below w.heap.size w w' := by
  have HSs := hid hs_s
  clear hs_s
  have HSP := hid hspec
  have HIM := hid himpl
  clear hspec himpl
  all_goals cases ok
  all_goals
    go_enter Try.func6, Try.ntmps6
    go_wp2_with fail
    refine (toIntS_any _ s _ HSs.out (by omega)).mono ?_
    rintro e w1 ⟨g_As0, hg_As0, rfl, K_As0, hb⟩
    have B1 := hb
    have hz1 : w.heap.size ≤ w1.heap.size := by first | exact hb.size | (have := hb.size; simp at this; omega)
    have As0 := K_As0.res hg_As0
    go_wp2_with fail
    refine (HSP.out _ _ As0.sl).mono ?_
    rintro e w2 ⟨v_R0, rfl, R0, hb⟩
    have B2 := bel_step B1 hb
    have hz2 : w1.heap.size ≤ w2.heap.size := hb.size
    have As0_2 := As0.kept hb
    have hlt0 : ∀ g, v_R0.ownBlock = some g → g < w2.heap.size := fun g hg => R0.lt hg
    have Hlt0 := hid hlt0
    clear hlt0
    go_wp2_with fail
    refine (toIntS_any _ s _ (HSs.out.kept B2) (by omega)).mono ?_
    rintro e w3 ⟨g_Xs, hg_Xs, rfl, K_Xs, hb⟩
    have B3 := bel_step B2 hb
    have hz3 : w2.heap.size ≤ w3.heap.size := hb.size
    have R0_3 := R0.kept hb
    have Xs := K_Xs.res hg_Xs
    have hlt_Xs := K_Xs.lt
    have hne_Xs : ∀ g, v_R0.ownBlock = some g → g ≠ g_Xs := fun g hg => by have a1 := Hlt0.out g hg; omega
    have Hne_Xs := hid hne_Xs
    clear hne_Xs
    have hxl_Xs : g_Xs < w3.heap.size := Xs.lt rfl
    go_wp2_with fail
    refine (HIM.out _ _ Xs.sl).mono ?_
    rintro e w4 ⟨v_R1, rfl, R1, hb⟩
    have B4 := bel_step B3 hb
    have hz4 : w3.heap.size ≤ w4.heap.size := hb.size
    have R0_4 := R0_3.kept hb
    have Xs_4 := Xs.kept hb
    have hne1_Xs : ∀ g, v_R1.ownBlock = some g → g ≠ g_Xs := fun g hg => by have a1 := R1.ge hg; omega
    have Hne1_Xs := hid hne1_Xs
    clear hne1_Xs
    have hne01 : ∀ g, v_R0.ownBlock = some g → v_R1.ownBlock ≠ some g := fun g hg e => by have a1 := R1.ge e; have a2 := Hlt0.out g hg; omega
    have Hne01 := hid hne01
    clear hne01
    have hge1 : ∀ g, v_R1.ownBlock = some g → w3.heap.size ≤ g := fun g hg => R1.ge hg
    have Hge1 := hid hge1
    clear hge1
    go_wp2_with fail
    refine (eqIntS_same _ _ ys _ R1.sl R0_4.sl hy).mono ?_
    rintro e w5 ⟨rfl, hb⟩
    have B5 := bel_step B4 hb
    have hz5 : w4.heap.size ≤ w5.heap.size := hb.size
    have R0_5 := R0_4.kept hb
    have Xs_5 := Xs_4.kept hb
    have R1_5 := R1.kept hb
    go_wp2_with fail
    refine (toIntS_any _ s _ (HSs.out.kept B5) (by omega)).mono ?_
    rintro e w6 ⟨g_TXs, hg_TXs, rfl, K_TXs, hb⟩
    have B6 := bel_step B5 hb
    have hz6 : w5.heap.size ≤ w6.heap.size := hb.size
    have R0_6 := R0_5.kept hb
    have Xs_6 := Xs_5.kept hb
    have R1_6 := R1_5.kept hb
    have TXs := K_TXs.res hg_TXs
    go_wp2_with fail
    refine (eqIntS_same _ _ s _ Xs_6.sl TXs.sl (by omega)).mono ?_
    rintro e w7 ⟨rfl, hb⟩
    have B7 := bel_step B6 hb
    have hz7 : w6.heap.size ≤ w7.heap.size := hb.size
    have R0_7 := R0_6.kept hb
    have Xs_7 := Xs_6.kept hb
    have R1_7 := R1_6.kept hb
    have TXs_7 := TXs.kept hb
    go_wp2_with fail
    refine (markIntS_one _ s _ _ Xs_7 (by omega)).mono ?_
    rintro e w8 ⟨rfl, ho, _⟩
    have B8 := B7.trans (ho.below fun g hg => by cases hg; exact Nat.le_trans B2.size hg_Xs)
    have hz8 : w7.heap.size ≤ w8.heap.size := Nat.le_of_eq ho.size.symm
    have R0_8 := R0_7.only ho fun g hg e => by cases e; exact Hne_Xs.out _ hg rfl
    have R1_8 := R1_7.only ho fun g hg e => by cases e; exact Hne1_Xs.out _ hg rfl
    go_wp2_with fail
    refine (eqIntS_same _ _ ys _ R1_8.sl R0_8.sl hy).mono ?_
    rintro e w9 ⟨rfl, hb⟩
    have B9 := bel_step B8 hb
    have hz9 : w8.heap.size ≤ w9.heap.size := hb.size
    have R0_9 := R0_8.kept hb
    have R1_9 := R1_8.kept hb
    go_wp2_with fail
    refine (markIntS_one _ ys _ _ R1_9 hy).mono ?_
    rintro e w10 ⟨rfl, ho, M⟩
    have B10 := B9.trans (ho.below fun g hg => Nat.le_trans B3.size (Hge1.out g hg))
    have hz10 : w9.heap.size ≤ w10.heap.size := Nat.le_of_eq ho.size.symm
    have R0_10 := R0_9.only ho Hne01.out
    go_wp2_with fail
    refine (heldIntS_one _ ys.length _ _ M hy).mono ?_
    rintro e w' ⟨rfl, rfl⟩
    go_wp2_with fail
    refine (toIntS_any _ s _ (HSs.out.kept B10) (by omega)).mono ?_
    rintro e w11 ⟨g_As10, hg_As10, rfl, K_As10, hb⟩
    have B11 := bel_step B10 hb
    have hz11 : w10.heap.size ≤ w11.heap.size := hb.size
    have R0_11 := R0_10.kept hb
    have M_11 := M.kept hb
    have As10 := K_As10.res hg_As10
    go_wp2_with fail
    refine (HIM.out _ _ As10.sl).mono ?_
    rintro e w12 ⟨v_R2, rfl, R2, hb⟩
    have B12 := bel_step B11 hb
    have hz12 : w11.heap.size ≤ w12.heap.size := hb.size
    have R0_12 := R0_11.kept hb
    have M_12 := M_11.kept hb
    have As10_12 := As10.kept hb
    go_wp2_with fail
    refine (eqIntS_same _ _ ys _ R2.sl R0_12.sl hy).mono ?_
    rintro e w13 ⟨rfl, hb⟩
    have B13 := bel_step B12 hb
    have hz13 : w12.heap.size ≤ w13.heap.size := hb.size
    have R0_13 := R0_12.kept hb
    have M_13 := M_12.kept hb
    have R2_13 := R2.kept hb
    go_wp2_with fail
    refine (heldIntS_one _ ys.length _ _ M_13 hy).mono ?_
    rintro e w' ⟨rfl, rfl⟩
    go_wp2_with fail
    go_ret
    exact ⟨rfl, B13⟩


set_option maxHeartbeats 1600000 in
theorem walk_FnExactSixPowers (w : World) (u_s : Option Addr) (l_s c_s : Nat) (z_s : List Int) (hr_s : IsRow .i64 w u_s l_s c_s z_s) :
    Calls Try.prog 6 #[.slice u_s l_s c_s] w fun e w' => e = .returned (.bool true) ∧ Below w.heap.size w w' := by
  obtain ⟨hs_s, hlen_s, hin_s⟩ := hr_s.sl
  generalize z_s.take l_s = s at hs_s hlen_s hin_s
  clear hr_s
  by_cases hbig_s : 1048576 < l_s
  · clear hs_s hlen_s hin_s
    go_enter Try.func6, Try.ntmps6
    go_wp2
    go_ret
    exact ⟨rfl, Below.refl _ _⟩
  · have hq_s : l_s ≤ 1048576 := by omega
    exact gen_FnExactSixPowers s _ _ _ _ _ w hs_s (by omega) (by omega) (onL_len fun _ => by rw [poL_len]; omega) (fun w v_s h_s => spec_SixPowers_any v_s s w h_s) (fun w v_s h_s => impl_SixPowers_any v_s s w h_s)

end Go.Proofs.Ytaihopcmckkpbaa
