
import Derived.Test.YthgdpmhpieakhaaQd
namespace Go.Proofs.Ythgdpmhpieakhaa
open Go.RowKit BitX Go.MemX Go.ShX Go.ChV
set_option linter.unusedVariables false


set_option maxHeartbeats 400000 in
theorem comingBack_0 (l b : Int) (w : World) (l1 : -1024 ≤ l) (l2 : l ≤ 1024) (b1 : -1024 ≤ b) (b2 : b ≤ 1024) :
    Calls Try.prog 32 #[.int .i64 0, .int .i64 l, .int .i64 b] w fun e w' => e = .returned (.int .i64 (0)) ∧ w = w' := by
  go_enter Try.func32, Try.ntmps32
  go_wp2
  go_ret
  exact ⟨rfl, rfl⟩


set_option maxHeartbeats 400000 in
theorem comingBack_1 (l b : Int) (w : World) (l1 : -1024 ≤ l) (l2 : l ≤ 1024) (b1 : -1024 ≤ b) (b2 : b ≤ 1024) :
    Calls Try.prog 32 #[.int .i64 1, .int .i64 l, .int .i64 b] w fun e w' => e = .returned (.int .i64 (l)) ∧ w = w' := by
  go_enter Try.func32, Try.ntmps32
  go_wp2
  go_ret
  exact ⟨rfl, rfl⟩


set_option maxHeartbeats 400000 in
theorem comingBack_2 (l b : Int) (w : World) (l1 : -1024 ≤ l) (l2 : l ≤ 1024) (b1 : -1024 ≤ b) (b2 : b ≤ 1024) :
    Calls Try.prog 32 #[.int .i64 2, .int .i64 l, .int .i64 b] w fun e w' => e = .returned (.int .i64 (2 * l - b)) ∧ w = w' := by
  go_enter Try.func32, Try.ntmps32
  go_wp2
  go_ret
  exact ⟨rfl, rfl⟩


theorem _root_.Go.MemX.Blk.other {E : TypeId} {w : World} {g h : Nat} {xs : List Int} (hb : Blk E w g xs) (hne : g ≠ h) (i : Nat) (v : Value) : Blk E (w.setCell ⟨h, i, none⟩ v) g xs := by
  unfold Blk at *; rw [Below.heap_setCell _ _ _ _ (by exact hne)]; exact hb


theorem two_made (w : World) (xs ys : List Int) (E : TypeId) : Blk E ((w.alloc (.cells (intsA xs) E)).alloc (.cells (intsA ys) E)).drew w.heap.size xs ∧ Blk E ((w.alloc (.cells (intsA xs) E)).alloc (.cells (intsA ys) E)).drew (w.heap.size + 1) ys ∧
    Below w.heap.size w ((w.alloc (.cells (intsA xs) E)).alloc (.cells (intsA ys) E)).drew := by
  have h1 : Blk E (w.alloc (.cells (intsA xs) E)) w.heap.size xs := heap_alloc_new _ _
  have h2 : Blk E ((w.alloc (.cells (intsA xs) E)).alloc (.cells (intsA ys) E)) (w.alloc (.cells (intsA xs) E)).heap.size ys := heap_alloc_new _ _
  rw [show (w.alloc (.cells (intsA xs) E)).heap.size = w.heap.size + 1 from by simp] at h2
  exact ⟨(show Blk E ((w.alloc (.cells (intsA xs) E)).alloc (.cells (intsA ys) E)) w.heap.size xs from h1.kept (bel_alloc _ _) h1.lt), h2, (bel_step (bel_alloc _ _) (bel_alloc _ _)).drew⟩


set_option maxHeartbeats 4000000 in
theorem shape_0 (v : Value) (s : List Int) (k : Nat) (mode : Int) (w : World) (hs : Sl w v s) (hl : s.length ≤ 64) (hi : InP (-100000) 100000 s) (hk : k ≤ 10) (hm : mode = 0 ∨ mode = 1 ∨ mode = 2) :
    Calls Try.prog 18 #[v, .int .i64 (k : Int), .int .i64 mode, .int .i64 0] w (Gives2 w (shL s k mode 0) (seL s k mode 0)) := by
  obtain ⟨aa, n, cap, rfl, hn, hrd⟩ := id hs.rd
  have Hn := hid hn
  have Hrd := hid hrd
  have HJ := hid hi
  have HM := hid hm
  have HP := hid (pow10 k hk).2
  have hl' : n ≤ 64 := by omega
  have hmk := run_make_ints (P := Try.prog) 24 3 uslice iint n (by omega)
  clear hs hn hrd hi hl hm
  go_enter Try.func18, Try.ntmps18
  go_wp2_with fail
  go_region
  · have hT := two_made w (List.replicate n 0) (List.replicate n 0) 3
    obtain ⟨hblkA, hblkB, hbel⟩ := hT
    have hne : w.heap.size ≠ w.heap.size + 1 := by omega
    have hga : w.heap.size ≤ w.heap.size := Nat.le_refl _
    have hgb : w.heap.size ≤ w.heap.size + 1 := by omega
    generalize ((w.alloc (.cells (intsA (List.replicate n 0)) 3)).alloc (.cells (intsA (List.replicate n 0)) 3)).drew = w1 at hblkA hblkB hbel ⊢
    generalize w.heap.size + 1 = gb at hblkB hne hgb ⊢
    generalize hg0 : w.heap.size = ga at hblkA hne ⊢
    have hga : w.heap.size ≤ ga := by omega
    clear hg0
    have HA0 := hid hblkA
    have HB0 := hid hblkB
    have HBel := hid hbel
    clear hblkA hblkB hbel
    go_wp2
    go_loopw [12, 13, 25] (fun la be i wr => ∃ c : Nat, c ≤ n ∧ la = .int .i64 (erL s k mode 0 c) ∧ be = .int .i64 (erB s k mode 0 c) ∧ i = .int .i64 c ∧ Blk 3 wr ga (upTo (tab n (shI s k mode 0)) c) ∧ Blk 3 wr gb (upTo (tab n (fun i => erL s k mode 0 (i + 1))) c) ∧ Below w.heap.size w wr)
      (fun _ _ i _ => n - (intOf i).toNat)
    case atStart => exact ⟨0, by omega, rfl, rfl, rfl, by rw [upTo_zero, tab_len]; exact HA0.out, by rw [upTo_zero, tab_len]; exact HB0.out, HBel.out⟩
    case round =>
      obtain ⟨c, hc, rfl, rfl, rfl, hblkA, hblkB, hb⟩ := hrel
      have hsz : w.heap.size ≤ wr.heap.size := hb.size
      by_cases hlk : c < n
      · obtain ⟨x, hkx⟩ := get_lt s c (by rw [← Hn.out]; exact hlk)
        obtain ⟨bb, oo, hix, hbb, hce⟩ := (Hrd.out.kept hb).at (P := Try.prog) (T := 24) n cap uslice sone hkx hlk
        obtain ⟨x1, x2⟩ := HJ.out.at hkx
        obtain ⟨⟨l1, l2⟩, b1, b2⟩ := er_in s k mode 0 HP.out c
        have hsv : suI s k mode 0 c = x := by unfold suI; rw [at0_of hkx, bkI_0]; exact Int.add_zero _
        have hys : shI s k mode 0 c = shiftI (x) k mode := by unfold shI; rw [hsv]
        have hes := erL_succ s k mode 0 c
        have hbs := erB_succ s k mode 0 c
        have hrs := rest_in (x) k mode
        rw [hsv, hys] at hes
        have hk1 : (tab n (shI s k mode 0))[c]? = some (shI s k mode 0 c) := tab_get n _ c hlk
        have hk2 : (tab n (fun i => erL s k mode 0 (i + 1)))[c]? = some (erL s k mode 0 (c + 1)) := tab_get n (fun i => erL s k mode 0 (i + 1)) c hlk
        rw [hys] at hk1
        rw [hes] at hk2
        generalize hla : erL s k mode 0 c = la at *
        generalize hbe : erB s k mode 0 c = be at *
        generalize hy : shiftI (x) k mode = y at *
        obtain ⟨q, hq⟩ : ∃ q, q = y * 2 ^ k := ⟨_, rfl⟩
        rw [← hq] at hes hk2 hrs
        have hp1 := HP.out
        have hw1 : wrap64 (y * 2 ^ k) = q := by rw [← hq]; exact IntWalk.wrap64_in _ (by omega)
        have hw2 : wrap64 (y * 2 ^ min k 64) = q := by rw [Nat.min_eq_left (by omega)]; exact hw1
        obtain ⟨q1, q2⟩ : -200000 ≤ q ∧ q ≤ 200000 := by omega
        have Hes := hid hes
        have Hbs := hid hbs
        have Hk1 := hid hk1
        have Hk2 := hid hk2
        have Hy := hid hy
        have HA := hid hblkA
        have HBk := hid hblkB
        have hcA : wr.cell? ⟨ga, c, none⟩ = some (.int .i64 0) := hblkA.cell (upTo_get (tab n (shI s k mode 0)) c (by rw [tab_len]; exact hlk))
        have hcB : wr.cell? ⟨gb, c, none⟩ = some (.int .i64 0) := hblkB.cell (upTo_get (tab n (fun i => erL s k mode 0 (i + 1))) c (by rw [tab_len]; exact hlk))
        have hfA := hblkA.free c
        have hfB := hblkB.free c
        clear hkx hes hbs hk1 hk2 hla hbe hys hsv hq hrs hp1 hblkA hblkB hy
        go_wp2_with (first | (go_at_call 32; refine (comingBack_0 la be _ (by omega) (by omega) (by omega) (by omega)).mono ?_; rintro e w' ⟨rfl, rfl⟩) | (go_at_call 33; refine (shifted_any (x) k mode _ (by omega) (by omega) (by omega) HM.out).mono ?_; rintro e w' ⟨rfl, rfl⟩; rw [Hy.out]))
        go_roundw
        case rel => exact ⟨c + 1, by omega, by rw [Hes.out], by rw [Hbs.out], by go_num, by rw [← upTo_step (tab n (shI s k mode 0)) c y Hk1.out]; exact (HA.out.set c _).other (by omega) _ _, by rw [← upTo_step (tab n (fun i => erL s k mode 0 (i + 1))) c _ Hk2.out]; exact (HBk.out.other (by omega) _ _).set c _, (hb.setCell (by show _ ≤ ga; omega) _).setCell (by show _ ≤ gb; omega) _⟩
        case measure => simp [intOf]; omega
      · have hge : (n : Int) ≤ (c : Int) := by omega
        have hkn : c = n := by omega
        have Hk := hid hkn
        have HA := hid hblkA
        have HBk := hid hblkB
        clear hkn hlk hblkA hblkB
        go_wp2
        go_ret2
        have ha := HA.out
        have hb2 := HBk.out
        rw [Hk.out, show upTo (tab n (shI s k mode 0)) n = tab n (shI s k mode 0) from by have := upTo_full (tab n (shI s k mode 0)); rwa [tab_len] at this] at ha
        rw [Hk.out, show upTo (tab n (fun i => erL s k mode 0 (i + 1))) n = tab n (fun i => erL s k mode 0 (i + 1)) from by have := upTo_full (tab n (fun i => erL s k mode 0 (i + 1))); rwa [tab_len] at this] at hb2
        have r1 := ha.res hga
        have r2 := hb2.res hgb
        rw [tab_len, Hn.out] at r1 r2
        rw [Hn.out]
        exact ⟨_, _, rfl, r1, r2, hb⟩
  · have hT := two_made w (List.replicate n 0) (List.replicate n 0) 3
    obtain ⟨hblkB, hblkA, hbel⟩ := hT
    have hne : w.heap.size + 1 ≠ w.heap.size := by omega
    have hga : w.heap.size ≤ w.heap.size + 1 := by omega
    have hgb : w.heap.size ≤ w.heap.size := Nat.le_refl _
    generalize ((w.alloc (.cells (intsA (List.replicate n 0)) 3)).alloc (.cells (intsA (List.replicate n 0)) 3)).drew = w1 at hblkA hblkB hbel ⊢
    generalize w.heap.size + 1 = ga at hblkA hne hga ⊢
    generalize hg0 : w.heap.size = gb at hblkB hne ⊢
    have hgb : w.heap.size ≤ gb := by omega
    clear hg0
    have HA0 := hid hblkA
    have HB0 := hid hblkB
    have HBel := hid hbel
    clear hblkA hblkB hbel
    go_wp2
    go_loopw [12, 13, 25] (fun la be i wr => ∃ c : Nat, c ≤ n ∧ la = .int .i64 (erL s k mode 0 c) ∧ be = .int .i64 (erB s k mode 0 c) ∧ i = .int .i64 c ∧ Blk 3 wr ga (upTo (tab n (shI s k mode 0)) c) ∧ Blk 3 wr gb (upTo (tab n (fun i => erL s k mode 0 (i + 1))) c) ∧ Below w.heap.size w wr)
      (fun _ _ i _ => n - (intOf i).toNat)
    case atStart => exact ⟨0, by omega, rfl, rfl, rfl, by rw [upTo_zero, tab_len]; exact HA0.out, by rw [upTo_zero, tab_len]; exact HB0.out, HBel.out⟩
    case round =>
      obtain ⟨c, hc, rfl, rfl, rfl, hblkA, hblkB, hb⟩ := hrel
      have hsz : w.heap.size ≤ wr.heap.size := hb.size
      by_cases hlk : c < n
      · obtain ⟨x, hkx⟩ := get_lt s c (by rw [← Hn.out]; exact hlk)
        obtain ⟨bb, oo, hix, hbb, hce⟩ := (Hrd.out.kept hb).at (P := Try.prog) (T := 24) n cap uslice sone hkx hlk
        obtain ⟨x1, x2⟩ := HJ.out.at hkx
        obtain ⟨⟨l1, l2⟩, b1, b2⟩ := er_in s k mode 0 HP.out c
        have hsv : suI s k mode 0 c = x := by unfold suI; rw [at0_of hkx, bkI_0]; exact Int.add_zero _
        have hys : shI s k mode 0 c = shiftI (x) k mode := by unfold shI; rw [hsv]
        have hes := erL_succ s k mode 0 c
        have hbs := erB_succ s k mode 0 c
        have hrs := rest_in (x) k mode
        rw [hsv, hys] at hes
        have hk1 : (tab n (shI s k mode 0))[c]? = some (shI s k mode 0 c) := tab_get n _ c hlk
        have hk2 : (tab n (fun i => erL s k mode 0 (i + 1)))[c]? = some (erL s k mode 0 (c + 1)) := tab_get n (fun i => erL s k mode 0 (i + 1)) c hlk
        rw [hys] at hk1
        rw [hes] at hk2
        generalize hla : erL s k mode 0 c = la at *
        generalize hbe : erB s k mode 0 c = be at *
        generalize hy : shiftI (x) k mode = y at *
        obtain ⟨q, hq⟩ : ∃ q, q = y * 2 ^ k := ⟨_, rfl⟩
        rw [← hq] at hes hk2 hrs
        have hp1 := HP.out
        have hw1 : wrap64 (y * 2 ^ k) = q := by rw [← hq]; exact IntWalk.wrap64_in _ (by omega)
        have hw2 : wrap64 (y * 2 ^ min k 64) = q := by rw [Nat.min_eq_left (by omega)]; exact hw1
        obtain ⟨q1, q2⟩ : -200000 ≤ q ∧ q ≤ 200000 := by omega
        have Hes := hid hes
        have Hbs := hid hbs
        have Hk1 := hid hk1
        have Hk2 := hid hk2
        have Hy := hid hy
        have HA := hid hblkA
        have HBk := hid hblkB
        have hcA : wr.cell? ⟨ga, c, none⟩ = some (.int .i64 0) := hblkA.cell (upTo_get (tab n (shI s k mode 0)) c (by rw [tab_len]; exact hlk))
        have hcB : wr.cell? ⟨gb, c, none⟩ = some (.int .i64 0) := hblkB.cell (upTo_get (tab n (fun i => erL s k mode 0 (i + 1))) c (by rw [tab_len]; exact hlk))
        have hfA := hblkA.free c
        have hfB := hblkB.free c
        clear hkx hes hbs hk1 hk2 hla hbe hys hsv hq hrs hp1 hblkA hblkB hy
        go_wp2_with (first | (go_at_call 32; refine (comingBack_0 la be _ (by omega) (by omega) (by omega) (by omega)).mono ?_; rintro e w' ⟨rfl, rfl⟩) | (go_at_call 33; refine (shifted_any (x) k mode _ (by omega) (by omega) (by omega) HM.out).mono ?_; rintro e w' ⟨rfl, rfl⟩; rw [Hy.out]))
        go_roundw
        case rel => exact ⟨c + 1, by omega, by rw [Hes.out], by rw [Hbs.out], by go_num, by rw [← upTo_step (tab n (shI s k mode 0)) c y Hk1.out]; exact (HA.out.set c _).other (by omega) _ _, by rw [← upTo_step (tab n (fun i => erL s k mode 0 (i + 1))) c _ Hk2.out]; exact (HBk.out.other (by omega) _ _).set c _, (hb.setCell (by show _ ≤ ga; omega) _).setCell (by show _ ≤ gb; omega) _⟩
        case measure => simp [intOf]; omega
      · have hge : (n : Int) ≤ (c : Int) := by omega
        have hkn : c = n := by omega
        have Hk := hid hkn
        have HA := hid hblkA
        have HBk := hid hblkB
        clear hkn hlk hblkA hblkB
        go_wp2
        go_ret2
        have ha := HA.out
        have hb2 := HBk.out
        rw [Hk.out, show upTo (tab n (shI s k mode 0)) n = tab n (shI s k mode 0) from by have := upTo_full (tab n (shI s k mode 0)); rwa [tab_len] at this] at ha
        rw [Hk.out, show upTo (tab n (fun i => erL s k mode 0 (i + 1))) n = tab n (fun i => erL s k mode 0 (i + 1)) from by have := upTo_full (tab n (fun i => erL s k mode 0 (i + 1))); rwa [tab_len] at this] at hb2
        have r1 := ha.res hga
        have r2 := hb2.res hgb
        rw [tab_len, Hn.out] at r1 r2
        rw [Hn.out]
        exact ⟨_, _, rfl, r1, r2, hb⟩


set_option maxHeartbeats 4000000 in
theorem shape_1 (v : Value) (s : List Int) (k : Nat) (mode : Int) (w : World) (hs : Sl w v s) (hl : s.length ≤ 64) (hi : InP (-100000) 100000 s) (hk : k ≤ 10) (hm : mode = 0 ∨ mode = 1 ∨ mode = 2) :
    Calls Try.prog 18 #[v, .int .i64 (k : Int), .int .i64 mode, .int .i64 1] w (Gives2 w (shL s k mode 1) (seL s k mode 1)) := by
  obtain ⟨aa, n, cap, rfl, hn, hrd⟩ := id hs.rd
  have Hn := hid hn
  have Hrd := hid hrd
  have HJ := hid hi
  have HM := hid hm
  have HP := hid (pow10 k hk).2
  have hl' : n ≤ 64 := by omega
  have hmk := run_make_ints (P := Try.prog) 24 3 uslice iint n (by omega)
  clear hs hn hrd hi hl hm
  go_enter Try.func18, Try.ntmps18
  go_wp2_with fail
  go_region
  · have hT := two_made w (List.replicate n 0) (List.replicate n 0) 3
    obtain ⟨hblkA, hblkB, hbel⟩ := hT
    have hne : w.heap.size ≠ w.heap.size + 1 := by omega
    have hga : w.heap.size ≤ w.heap.size := Nat.le_refl _
    have hgb : w.heap.size ≤ w.heap.size + 1 := by omega
    generalize ((w.alloc (.cells (intsA (List.replicate n 0)) 3)).alloc (.cells (intsA (List.replicate n 0)) 3)).drew = w1 at hblkA hblkB hbel ⊢
    generalize w.heap.size + 1 = gb at hblkB hne hgb ⊢
    generalize hg0 : w.heap.size = ga at hblkA hne ⊢
    have hga : w.heap.size ≤ ga := by omega
    clear hg0
    have HA0 := hid hblkA
    have HB0 := hid hblkB
    have HBel := hid hbel
    clear hblkA hblkB hbel
    go_wp2
    go_loopw [12, 13, 25] (fun la be i wr => ∃ c : Nat, c ≤ n ∧ la = .int .i64 (erL s k mode 1 c) ∧ be = .int .i64 (erB s k mode 1 c) ∧ i = .int .i64 c ∧ Blk 3 wr ga (upTo (tab n (shI s k mode 1)) c) ∧ Blk 3 wr gb (upTo (tab n (fun i => erL s k mode 1 (i + 1))) c) ∧ Below w.heap.size w wr)
      (fun _ _ i _ => n - (intOf i).toNat)
    case atStart => exact ⟨0, by omega, rfl, rfl, rfl, by rw [upTo_zero, tab_len]; exact HA0.out, by rw [upTo_zero, tab_len]; exact HB0.out, HBel.out⟩
    case round =>
      obtain ⟨c, hc, rfl, rfl, rfl, hblkA, hblkB, hb⟩ := hrel
      have hsz : w.heap.size ≤ wr.heap.size := hb.size
      by_cases hlk : c < n
      · obtain ⟨x, hkx⟩ := get_lt s c (by rw [← Hn.out]; exact hlk)
        obtain ⟨bb, oo, hix, hbb, hce⟩ := (Hrd.out.kept hb).at (P := Try.prog) (T := 24) n cap uslice sone hkx hlk
        obtain ⟨x1, x2⟩ := HJ.out.at hkx
        obtain ⟨⟨l1, l2⟩, b1, b2⟩ := er_in s k mode 1 HP.out c
        have hsv : suI s k mode 1 c = x + erL s k mode 1 c := by unfold suI; rw [at0_of hkx, bkI_1]
        have hys : shI s k mode 1 c = shiftI (x + erL s k mode 1 c) k mode := by unfold shI; rw [hsv]
        have hes := erL_succ s k mode 1 c
        have hbs := erB_succ s k mode 1 c
        have hrs := rest_in (x + erL s k mode 1 c) k mode
        rw [hsv, hys] at hes
        have hk1 : (tab n (shI s k mode 1))[c]? = some (shI s k mode 1 c) := tab_get n _ c hlk
        have hk2 : (tab n (fun i => erL s k mode 1 (i + 1)))[c]? = some (erL s k mode 1 (c + 1)) := tab_get n (fun i => erL s k mode 1 (i + 1)) c hlk
        rw [hys] at hk1
        rw [hes] at hk2
        generalize hla : erL s k mode 1 c = la at *
        generalize hbe : erB s k mode 1 c = be at *
        generalize hy : shiftI (x + la) k mode = y at *
        obtain ⟨q, hq⟩ : ∃ q, q = y * 2 ^ k := ⟨_, rfl⟩
        rw [← hq] at hes hk2 hrs
        have hp1 := HP.out
        have hw1 : wrap64 (y * 2 ^ k) = q := by rw [← hq]; exact IntWalk.wrap64_in _ (by omega)
        have hw2 : wrap64 (y * 2 ^ min k 64) = q := by rw [Nat.min_eq_left (by omega)]; exact hw1
        obtain ⟨q1, q2⟩ : -200000 ≤ q ∧ q ≤ 200000 := by omega
        have Hes := hid hes
        have Hbs := hid hbs
        have Hk1 := hid hk1
        have Hk2 := hid hk2
        have Hy := hid hy
        have HA := hid hblkA
        have HBk := hid hblkB
        have hcA : wr.cell? ⟨ga, c, none⟩ = some (.int .i64 0) := hblkA.cell (upTo_get (tab n (shI s k mode 1)) c (by rw [tab_len]; exact hlk))
        have hcB : wr.cell? ⟨gb, c, none⟩ = some (.int .i64 0) := hblkB.cell (upTo_get (tab n (fun i => erL s k mode 1 (i + 1))) c (by rw [tab_len]; exact hlk))
        have hfA := hblkA.free c
        have hfB := hblkB.free c
        clear hkx hes hbs hk1 hk2 hla hbe hys hsv hq hrs hp1 hblkA hblkB hy
        go_wp2_with (first | (go_at_call 32; refine (comingBack_1 la be _ (by omega) (by omega) (by omega) (by omega)).mono ?_; rintro e w' ⟨rfl, rfl⟩) | (go_at_call 33; refine (shifted_any (x + la) k mode _ (by omega) (by omega) (by omega) HM.out).mono ?_; rintro e w' ⟨rfl, rfl⟩; rw [Hy.out]))
        go_roundw
        case rel => exact ⟨c + 1, by omega, by rw [Hes.out], by rw [Hbs.out], by go_num, by rw [← upTo_step (tab n (shI s k mode 1)) c y Hk1.out]; exact (HA.out.set c _).other (by omega) _ _, by rw [← upTo_step (tab n (fun i => erL s k mode 1 (i + 1))) c _ Hk2.out]; exact (HBk.out.other (by omega) _ _).set c _, (hb.setCell (by show _ ≤ ga; omega) _).setCell (by show _ ≤ gb; omega) _⟩
        case measure => simp [intOf]; omega
      · have hge : (n : Int) ≤ (c : Int) := by omega
        have hkn : c = n := by omega
        have Hk := hid hkn
        have HA := hid hblkA
        have HBk := hid hblkB
        clear hkn hlk hblkA hblkB
        go_wp2
        go_ret2
        have ha := HA.out
        have hb2 := HBk.out
        rw [Hk.out, show upTo (tab n (shI s k mode 1)) n = tab n (shI s k mode 1) from by have := upTo_full (tab n (shI s k mode 1)); rwa [tab_len] at this] at ha
        rw [Hk.out, show upTo (tab n (fun i => erL s k mode 1 (i + 1))) n = tab n (fun i => erL s k mode 1 (i + 1)) from by have := upTo_full (tab n (fun i => erL s k mode 1 (i + 1))); rwa [tab_len] at this] at hb2
        have r1 := ha.res hga
        have r2 := hb2.res hgb
        rw [tab_len, Hn.out] at r1 r2
        rw [Hn.out]
        exact ⟨_, _, rfl, r1, r2, hb⟩
  · have hT := two_made w (List.replicate n 0) (List.replicate n 0) 3
    obtain ⟨hblkB, hblkA, hbel⟩ := hT
    have hne : w.heap.size + 1 ≠ w.heap.size := by omega
    have hga : w.heap.size ≤ w.heap.size + 1 := by omega
    have hgb : w.heap.size ≤ w.heap.size := Nat.le_refl _
    generalize ((w.alloc (.cells (intsA (List.replicate n 0)) 3)).alloc (.cells (intsA (List.replicate n 0)) 3)).drew = w1 at hblkA hblkB hbel ⊢
    generalize w.heap.size + 1 = ga at hblkA hne hga ⊢
    generalize hg0 : w.heap.size = gb at hblkB hne ⊢
    have hgb : w.heap.size ≤ gb := by omega
    clear hg0
    have HA0 := hid hblkA
    have HB0 := hid hblkB
    have HBel := hid hbel
    clear hblkA hblkB hbel
    go_wp2
    go_loopw [12, 13, 25] (fun la be i wr => ∃ c : Nat, c ≤ n ∧ la = .int .i64 (erL s k mode 1 c) ∧ be = .int .i64 (erB s k mode 1 c) ∧ i = .int .i64 c ∧ Blk 3 wr ga (upTo (tab n (shI s k mode 1)) c) ∧ Blk 3 wr gb (upTo (tab n (fun i => erL s k mode 1 (i + 1))) c) ∧ Below w.heap.size w wr)
      (fun _ _ i _ => n - (intOf i).toNat)
    case atStart => exact ⟨0, by omega, rfl, rfl, rfl, by rw [upTo_zero, tab_len]; exact HA0.out, by rw [upTo_zero, tab_len]; exact HB0.out, HBel.out⟩
    case round =>
      obtain ⟨c, hc, rfl, rfl, rfl, hblkA, hblkB, hb⟩ := hrel
      have hsz : w.heap.size ≤ wr.heap.size := hb.size
      by_cases hlk : c < n
      · obtain ⟨x, hkx⟩ := get_lt s c (by rw [← Hn.out]; exact hlk)
        obtain ⟨bb, oo, hix, hbb, hce⟩ := (Hrd.out.kept hb).at (P := Try.prog) (T := 24) n cap uslice sone hkx hlk
        obtain ⟨x1, x2⟩ := HJ.out.at hkx
        obtain ⟨⟨l1, l2⟩, b1, b2⟩ := er_in s k mode 1 HP.out c
        have hsv : suI s k mode 1 c = x + erL s k mode 1 c := by unfold suI; rw [at0_of hkx, bkI_1]
        have hys : shI s k mode 1 c = shiftI (x + erL s k mode 1 c) k mode := by unfold shI; rw [hsv]
        have hes := erL_succ s k mode 1 c
        have hbs := erB_succ s k mode 1 c
        have hrs := rest_in (x + erL s k mode 1 c) k mode
        rw [hsv, hys] at hes
        have hk1 : (tab n (shI s k mode 1))[c]? = some (shI s k mode 1 c) := tab_get n _ c hlk
        have hk2 : (tab n (fun i => erL s k mode 1 (i + 1)))[c]? = some (erL s k mode 1 (c + 1)) := tab_get n (fun i => erL s k mode 1 (i + 1)) c hlk
        rw [hys] at hk1
        rw [hes] at hk2
        generalize hla : erL s k mode 1 c = la at *
        generalize hbe : erB s k mode 1 c = be at *
        generalize hy : shiftI (x + la) k mode = y at *
        obtain ⟨q, hq⟩ : ∃ q, q = y * 2 ^ k := ⟨_, rfl⟩
        rw [← hq] at hes hk2 hrs
        have hp1 := HP.out
        have hw1 : wrap64 (y * 2 ^ k) = q := by rw [← hq]; exact IntWalk.wrap64_in _ (by omega)
        have hw2 : wrap64 (y * 2 ^ min k 64) = q := by rw [Nat.min_eq_left (by omega)]; exact hw1
        obtain ⟨q1, q2⟩ : -200000 ≤ q ∧ q ≤ 200000 := by omega
        have Hes := hid hes
        have Hbs := hid hbs
        have Hk1 := hid hk1
        have Hk2 := hid hk2
        have Hy := hid hy
        have HA := hid hblkA
        have HBk := hid hblkB
        have hcA : wr.cell? ⟨ga, c, none⟩ = some (.int .i64 0) := hblkA.cell (upTo_get (tab n (shI s k mode 1)) c (by rw [tab_len]; exact hlk))
        have hcB : wr.cell? ⟨gb, c, none⟩ = some (.int .i64 0) := hblkB.cell (upTo_get (tab n (fun i => erL s k mode 1 (i + 1))) c (by rw [tab_len]; exact hlk))
        have hfA := hblkA.free c
        have hfB := hblkB.free c
        clear hkx hes hbs hk1 hk2 hla hbe hys hsv hq hrs hp1 hblkA hblkB hy
        go_wp2_with (first | (go_at_call 32; refine (comingBack_1 la be _ (by omega) (by omega) (by omega) (by omega)).mono ?_; rintro e w' ⟨rfl, rfl⟩) | (go_at_call 33; refine (shifted_any (x + la) k mode _ (by omega) (by omega) (by omega) HM.out).mono ?_; rintro e w' ⟨rfl, rfl⟩; rw [Hy.out]))
        go_roundw
        case rel => exact ⟨c + 1, by omega, by rw [Hes.out], by rw [Hbs.out], by go_num, by rw [← upTo_step (tab n (shI s k mode 1)) c y Hk1.out]; exact (HA.out.set c _).other (by omega) _ _, by rw [← upTo_step (tab n (fun i => erL s k mode 1 (i + 1))) c _ Hk2.out]; exact (HBk.out.other (by omega) _ _).set c _, (hb.setCell (by show _ ≤ ga; omega) _).setCell (by show _ ≤ gb; omega) _⟩
        case measure => simp [intOf]; omega
      · have hge : (n : Int) ≤ (c : Int) := by omega
        have hkn : c = n := by omega
        have Hk := hid hkn
        have HA := hid hblkA
        have HBk := hid hblkB
        clear hkn hlk hblkA hblkB
        go_wp2
        go_ret2
        have ha := HA.out
        have hb2 := HBk.out
        rw [Hk.out, show upTo (tab n (shI s k mode 1)) n = tab n (shI s k mode 1) from by have := upTo_full (tab n (shI s k mode 1)); rwa [tab_len] at this] at ha
        rw [Hk.out, show upTo (tab n (fun i => erL s k mode 1 (i + 1))) n = tab n (fun i => erL s k mode 1 (i + 1)) from by have := upTo_full (tab n (fun i => erL s k mode 1 (i + 1))); rwa [tab_len] at this] at hb2
        have r1 := ha.res hga
        have r2 := hb2.res hgb
        rw [tab_len, Hn.out] at r1 r2
        rw [Hn.out]
        exact ⟨_, _, rfl, r1, r2, hb⟩


set_option maxHeartbeats 4000000 in
theorem shape_2 (v : Value) (s : List Int) (k : Nat) (mode : Int) (w : World) (hs : Sl w v s) (hl : s.length ≤ 64) (hi : InP (-100000) 100000 s) (hk : k ≤ 10) (hm : mode = 0 ∨ mode = 1 ∨ mode = 2) :
    Calls Try.prog 18 #[v, .int .i64 (k : Int), .int .i64 mode, .int .i64 2] w (Gives2 w (shL s k mode 2) (seL s k mode 2)) := by
  obtain ⟨aa, n, cap, rfl, hn, hrd⟩ := id hs.rd
  have Hn := hid hn
  have Hrd := hid hrd
  have HJ := hid hi
  have HM := hid hm
  have HP := hid (pow10 k hk).2
  have hl' : n ≤ 64 := by omega
  have hmk := run_make_ints (P := Try.prog) 24 3 uslice iint n (by omega)
  clear hs hn hrd hi hl hm
  go_enter Try.func18, Try.ntmps18
  go_wp2_with fail
  go_region
  · have hT := two_made w (List.replicate n 0) (List.replicate n 0) 3
    obtain ⟨hblkA, hblkB, hbel⟩ := hT
    have hne : w.heap.size ≠ w.heap.size + 1 := by omega
    have hga : w.heap.size ≤ w.heap.size := Nat.le_refl _
    have hgb : w.heap.size ≤ w.heap.size + 1 := by omega
    generalize ((w.alloc (.cells (intsA (List.replicate n 0)) 3)).alloc (.cells (intsA (List.replicate n 0)) 3)).drew = w1 at hblkA hblkB hbel ⊢
    generalize w.heap.size + 1 = gb at hblkB hne hgb ⊢
    generalize hg0 : w.heap.size = ga at hblkA hne ⊢
    have hga : w.heap.size ≤ ga := by omega
    clear hg0
    have HA0 := hid hblkA
    have HB0 := hid hblkB
    have HBel := hid hbel
    clear hblkA hblkB hbel
    go_wp2
    go_loopw [12, 13, 25] (fun la be i wr => ∃ c : Nat, c ≤ n ∧ la = .int .i64 (erL s k mode 2 c) ∧ be = .int .i64 (erB s k mode 2 c) ∧ i = .int .i64 c ∧ Blk 3 wr ga (upTo (tab n (shI s k mode 2)) c) ∧ Blk 3 wr gb (upTo (tab n (fun i => erL s k mode 2 (i + 1))) c) ∧ Below w.heap.size w wr)
      (fun _ _ i _ => n - (intOf i).toNat)
    case atStart => exact ⟨0, by omega, rfl, rfl, rfl, by rw [upTo_zero, tab_len]; exact HA0.out, by rw [upTo_zero, tab_len]; exact HB0.out, HBel.out⟩
    case round =>
      obtain ⟨c, hc, rfl, rfl, rfl, hblkA, hblkB, hb⟩ := hrel
      have hsz : w.heap.size ≤ wr.heap.size := hb.size
      by_cases hlk : c < n
      · obtain ⟨x, hkx⟩ := get_lt s c (by rw [← Hn.out]; exact hlk)
        obtain ⟨bb, oo, hix, hbb, hce⟩ := (Hrd.out.kept hb).at (P := Try.prog) (T := 24) n cap uslice sone hkx hlk
        obtain ⟨x1, x2⟩ := HJ.out.at hkx
        obtain ⟨⟨l1, l2⟩, b1, b2⟩ := er_in s k mode 2 HP.out c
        have hsv : suI s k mode 2 c = x + (2 * erL s k mode 2 c - erB s k mode 2 c) := by unfold suI; rw [at0_of hkx, bkI_2]
        have hys : shI s k mode 2 c = shiftI (x + (2 * erL s k mode 2 c - erB s k mode 2 c)) k mode := by unfold shI; rw [hsv]
        have hes := erL_succ s k mode 2 c
        have hbs := erB_succ s k mode 2 c
        have hrs := rest_in (x + (2 * erL s k mode 2 c - erB s k mode 2 c)) k mode
        rw [hsv, hys] at hes
        have hk1 : (tab n (shI s k mode 2))[c]? = some (shI s k mode 2 c) := tab_get n _ c hlk
        have hk2 : (tab n (fun i => erL s k mode 2 (i + 1)))[c]? = some (erL s k mode 2 (c + 1)) := tab_get n (fun i => erL s k mode 2 (i + 1)) c hlk
        rw [hys] at hk1
        rw [hes] at hk2
        generalize hla : erL s k mode 2 c = la at *
        generalize hbe : erB s k mode 2 c = be at *
        generalize hy : shiftI (x + (2 * la - be)) k mode = y at *
        obtain ⟨q, hq⟩ : ∃ q, q = y * 2 ^ k := ⟨_, rfl⟩
        rw [← hq] at hes hk2 hrs
        have hp1 := HP.out
        have hw1 : wrap64 (y * 2 ^ k) = q := by rw [← hq]; exact IntWalk.wrap64_in _ (by omega)
        have hw2 : wrap64 (y * 2 ^ min k 64) = q := by rw [Nat.min_eq_left (by omega)]; exact hw1
        obtain ⟨q1, q2⟩ : -200000 ≤ q ∧ q ≤ 200000 := by omega
        have Hes := hid hes
        have Hbs := hid hbs
        have Hk1 := hid hk1
        have Hk2 := hid hk2
        have Hy := hid hy
        have HA := hid hblkA
        have HBk := hid hblkB
        have hcA : wr.cell? ⟨ga, c, none⟩ = some (.int .i64 0) := hblkA.cell (upTo_get (tab n (shI s k mode 2)) c (by rw [tab_len]; exact hlk))
        have hcB : wr.cell? ⟨gb, c, none⟩ = some (.int .i64 0) := hblkB.cell (upTo_get (tab n (fun i => erL s k mode 2 (i + 1))) c (by rw [tab_len]; exact hlk))
        have hfA := hblkA.free c
        have hfB := hblkB.free c
        clear hkx hes hbs hk1 hk2 hla hbe hys hsv hq hrs hp1 hblkA hblkB hy
        go_wp2_with (first | (go_at_call 32; refine (comingBack_2 la be _ (by omega) (by omega) (by omega) (by omega)).mono ?_; rintro e w' ⟨rfl, rfl⟩) | (go_at_call 33; refine (shifted_any (x + (2 * la - be)) k mode _ (by omega) (by omega) (by omega) HM.out).mono ?_; rintro e w' ⟨rfl, rfl⟩; rw [Hy.out]))
        go_roundw
        case rel => exact ⟨c + 1, by omega, by rw [Hes.out], by rw [Hbs.out], by go_num, by rw [← upTo_step (tab n (shI s k mode 2)) c y Hk1.out]; exact (HA.out.set c _).other (by omega) _ _, by rw [← upTo_step (tab n (fun i => erL s k mode 2 (i + 1))) c _ Hk2.out]; exact (HBk.out.other (by omega) _ _).set c _, (hb.setCell (by show _ ≤ ga; omega) _).setCell (by show _ ≤ gb; omega) _⟩
        case measure => simp [intOf]; omega
      · have hge : (n : Int) ≤ (c : Int) := by omega
        have hkn : c = n := by omega
        have Hk := hid hkn
        have HA := hid hblkA
        have HBk := hid hblkB
        clear hkn hlk hblkA hblkB
        go_wp2
        go_ret2
        have ha := HA.out
        have hb2 := HBk.out
        rw [Hk.out, show upTo (tab n (shI s k mode 2)) n = tab n (shI s k mode 2) from by have := upTo_full (tab n (shI s k mode 2)); rwa [tab_len] at this] at ha
        rw [Hk.out, show upTo (tab n (fun i => erL s k mode 2 (i + 1))) n = tab n (fun i => erL s k mode 2 (i + 1)) from by have := upTo_full (tab n (fun i => erL s k mode 2 (i + 1))); rwa [tab_len] at this] at hb2
        have r1 := ha.res hga
        have r2 := hb2.res hgb
        rw [tab_len, Hn.out] at r1 r2
        rw [Hn.out]
        exact ⟨_, _, rfl, r1, r2, hb⟩
  · have hT := two_made w (List.replicate n 0) (List.replicate n 0) 3
    obtain ⟨hblkB, hblkA, hbel⟩ := hT
    have hne : w.heap.size + 1 ≠ w.heap.size := by omega
    have hga : w.heap.size ≤ w.heap.size + 1 := by omega
    have hgb : w.heap.size ≤ w.heap.size := Nat.le_refl _
    generalize ((w.alloc (.cells (intsA (List.replicate n 0)) 3)).alloc (.cells (intsA (List.replicate n 0)) 3)).drew = w1 at hblkA hblkB hbel ⊢
    generalize w.heap.size + 1 = ga at hblkA hne hga ⊢
    generalize hg0 : w.heap.size = gb at hblkB hne ⊢
    have hgb : w.heap.size ≤ gb := by omega
    clear hg0
    have HA0 := hid hblkA
    have HB0 := hid hblkB
    have HBel := hid hbel
    clear hblkA hblkB hbel
    go_wp2
    go_loopw [12, 13, 25] (fun la be i wr => ∃ c : Nat, c ≤ n ∧ la = .int .i64 (erL s k mode 2 c) ∧ be = .int .i64 (erB s k mode 2 c) ∧ i = .int .i64 c ∧ Blk 3 wr ga (upTo (tab n (shI s k mode 2)) c) ∧ Blk 3 wr gb (upTo (tab n (fun i => erL s k mode 2 (i + 1))) c) ∧ Below w.heap.size w wr)
      (fun _ _ i _ => n - (intOf i).toNat)
    case atStart => exact ⟨0, by omega, rfl, rfl, rfl, by rw [upTo_zero, tab_len]; exact HA0.out, by rw [upTo_zero, tab_len]; exact HB0.out, HBel.out⟩
    case round =>
      obtain ⟨c, hc, rfl, rfl, rfl, hblkA, hblkB, hb⟩ := hrel
      have hsz : w.heap.size ≤ wr.heap.size := hb.size
      by_cases hlk : c < n
      · obtain ⟨x, hkx⟩ := get_lt s c (by rw [← Hn.out]; exact hlk)
        obtain ⟨bb, oo, hix, hbb, hce⟩ := (Hrd.out.kept hb).at (P := Try.prog) (T := 24) n cap uslice sone hkx hlk
        obtain ⟨x1, x2⟩ := HJ.out.at hkx
        obtain ⟨⟨l1, l2⟩, b1, b2⟩ := er_in s k mode 2 HP.out c
        have hsv : suI s k mode 2 c = x + (2 * erL s k mode 2 c - erB s k mode 2 c) := by unfold suI; rw [at0_of hkx, bkI_2]
        have hys : shI s k mode 2 c = shiftI (x + (2 * erL s k mode 2 c - erB s k mode 2 c)) k mode := by unfold shI; rw [hsv]
        have hes := erL_succ s k mode 2 c
        have hbs := erB_succ s k mode 2 c
        have hrs := rest_in (x + (2 * erL s k mode 2 c - erB s k mode 2 c)) k mode
        rw [hsv, hys] at hes
        have hk1 : (tab n (shI s k mode 2))[c]? = some (shI s k mode 2 c) := tab_get n _ c hlk
        have hk2 : (tab n (fun i => erL s k mode 2 (i + 1)))[c]? = some (erL s k mode 2 (c + 1)) := tab_get n (fun i => erL s k mode 2 (i + 1)) c hlk
        rw [hys] at hk1
        rw [hes] at hk2
        generalize hla : erL s k mode 2 c = la at *
        generalize hbe : erB s k mode 2 c = be at *
        generalize hy : shiftI (x + (2 * la - be)) k mode = y at *
        obtain ⟨q, hq⟩ : ∃ q, q = y * 2 ^ k := ⟨_, rfl⟩
        rw [← hq] at hes hk2 hrs
        have hp1 := HP.out
        have hw1 : wrap64 (y * 2 ^ k) = q := by rw [← hq]; exact IntWalk.wrap64_in _ (by omega)
        have hw2 : wrap64 (y * 2 ^ min k 64) = q := by rw [Nat.min_eq_left (by omega)]; exact hw1
        obtain ⟨q1, q2⟩ : -200000 ≤ q ∧ q ≤ 200000 := by omega
        have Hes := hid hes
        have Hbs := hid hbs
        have Hk1 := hid hk1
        have Hk2 := hid hk2
        have Hy := hid hy
        have HA := hid hblkA
        have HBk := hid hblkB
        have hcA : wr.cell? ⟨ga, c, none⟩ = some (.int .i64 0) := hblkA.cell (upTo_get (tab n (shI s k mode 2)) c (by rw [tab_len]; exact hlk))
        have hcB : wr.cell? ⟨gb, c, none⟩ = some (.int .i64 0) := hblkB.cell (upTo_get (tab n (fun i => erL s k mode 2 (i + 1))) c (by rw [tab_len]; exact hlk))
        have hfA := hblkA.free c
        have hfB := hblkB.free c
        clear hkx hes hbs hk1 hk2 hla hbe hys hsv hq hrs hp1 hblkA hblkB hy
        go_wp2_with (first | (go_at_call 32; refine (comingBack_2 la be _ (by omega) (by omega) (by omega) (by omega)).mono ?_; rintro e w' ⟨rfl, rfl⟩) | (go_at_call 33; refine (shifted_any (x + (2 * la - be)) k mode _ (by omega) (by omega) (by omega) HM.out).mono ?_; rintro e w' ⟨rfl, rfl⟩; rw [Hy.out]))
        go_roundw
        case rel => exact ⟨c + 1, by omega, by rw [Hes.out], by rw [Hbs.out], by go_num, by rw [← upTo_step (tab n (shI s k mode 2)) c y Hk1.out]; exact (HA.out.set c _).other (by omega) _ _, by rw [← upTo_step (tab n (fun i => erL s k mode 2 (i + 1))) c _ Hk2.out]; exact (HBk.out.other (by omega) _ _).set c _, (hb.setCell (by show _ ≤ ga; omega) _).setCell (by show _ ≤ gb; omega) _⟩
        case measure => simp [intOf]; omega
      · have hge : (n : Int) ≤ (c : Int) := by omega
        have hkn : c = n := by omega
        have Hk := hid hkn
        have HA := hid hblkA
        have HBk := hid hblkB
        clear hkn hlk hblkA hblkB
        go_wp2
        go_ret2
        have ha := HA.out
        have hb2 := HBk.out
        rw [Hk.out, show upTo (tab n (shI s k mode 2)) n = tab n (shI s k mode 2) from by have := upTo_full (tab n (shI s k mode 2)); rwa [tab_len] at this] at ha
        rw [Hk.out, show upTo (tab n (fun i => erL s k mode 2 (i + 1))) n = tab n (fun i => erL s k mode 2 (i + 1)) from by have := upTo_full (tab n (fun i => erL s k mode 2 (i + 1))); rwa [tab_len] at this] at hb2
        have r1 := ha.res hga
        have r2 := hb2.res hgb
        rw [tab_len, Hn.out] at r1 r2
        rw [Hn.out]
        exact ⟨_, _, rfl, r1, r2, hb⟩

end Go.Proofs.Ythgdpmhpieakhaa
