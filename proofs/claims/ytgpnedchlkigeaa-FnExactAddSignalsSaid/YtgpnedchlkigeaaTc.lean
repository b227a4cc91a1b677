
import Derived.Test.YtgpnedchlkigeaaTb
import Derived.Test.YtgpnedchlkigeaaSu
namespace Go.Proofs.Ytgpnedchlkigeaa
open Go.RowKit BitX Go.MemX

theorem SigP.nil : SigP [] := ⟨by simp, InP.nil _ _⟩
theorem sum2_any (v : Value) (x y : Int) (w : World) (hs : Sl w v [x, y]) (hx1 : -1000000 ≤ x) (hx2 : x ≤ 1000000) (hy1 : -1000000 ≤ y) (hy2 : y ≤ 1000000) :
    Calls Try.prog 26 #[v] w fun e w' => e = .returned (.int .i64 (x + y)) ∧ w = w' := by
  refine (Su.sumOf_any v [x, y] w hs (by simp) ?_ ?_).mono fun e w' ⟨he, hw⟩ => ⟨?_, hw⟩
  · intro k hk
    match k, hk with
    | 0, _ => simp [sumL]
    | 1, _ => simp [sumL]; omega
    | 2, _ => simp [sumL]; omega
    | k + 3, hk => simp at hk
  · intro z hz
    simp at hz
    rcases hz with rfl | rfl <;> omega
  · rw [he]; simp [sumL]

set_option maxHeartbeats 1000000 in
theorem impl_ScaleSignal_yes (c : Int) (v : Value) (xs : List Int) (w : World) (hs : Sl w v xs) (h : SigP xs) (c1 : -1000 ≤ c) (c2 : c ≤ 1000) (hy : SigP (tab xs.length (sca xs c))) :
    Calls Try.prog 15 #[v, .int .i64 c] w (Gives w (tab xs.length (sca xs c)) true) := by
  have H := hid h
  have HY := hid hy
  have hl64 : xs.length ≤ 64 := h.1
  have hs' := hs
  clear h hy
  rcases hs with ⟨rfl, a, cap, rfl⟩ | ⟨b, off, n, cap, rfl, hn, h0, hc, hlt, hcell⟩
  · have HS := hid hs'
    have hmk := run_make_ints (P := Try.prog) 22 3 uslice iint 0 (by omega)
    simp only [Int.natCast_zero] at hmk
    clear hs'
    go_enter Try.func15, Try.ntmps15
    go_wp2_with fail
    refine (impl_IsSignal_yes _ [] _ HS.out (Nat.le_trans H.out.1 (by omega)) H.out).mono ?_
    rintro e w' ⟨rfl, rfl⟩
    go_wp2
    refine wp_loop_rounds 1 ?_
    rw [rounds_succ]
    go_wp2_with fail
    refine (onlySignal_yes _ [] _ (Blk.sl (xs := []) (heap_alloc_new _ _)) SigP.nil).mono ?_
    rintro e w' ⟨rfl, rfl⟩
    go_wp2
    go_ret2
    exact ⟨_, rfl, Blk.res (xs := []) (heap_alloc_new _ _) (Nat.le_refl _), bel_alloc _ _⟩
  · have HS := hid hs'
    have Hn := hid hn
    have Hcell := hid hcell
    have hl' : n ≤ 64 := by omega
    have hmk := run_make_ints (P := Try.prog) 22 3 uslice iint n (by omega)
    clear hs' hn hcell hl64
    go_enter Try.func15, Try.ntmps15
    go_wp2_with fail
    refine (impl_IsSignal_yes _ xs _ HS.out (Nat.le_trans H.out.1 (by omega)) H.out).mono ?_
    rintro e w' ⟨rfl, rfl⟩
    go_wp2
    have hly : (tab xs.length (sca xs c)).length = n := by rw [tab_len]; exact Hn.out.symm
    have Hly := hid hly
    clear hly
    go_loopw [25] (fun i wr => ∃ k : Nat, k ≤ n ∧ i = .int .i64 k ∧ Blk 3 wr w.heap.size (upTo (tab xs.length (sca xs c)) k) ∧ Below w.heap.size w wr)
      (fun i _ => n - (intOf i).toNat)
    case atStart => exact ⟨0, by omega, rfl, by rw [upTo_zero, Hly.out]; exact heap_alloc_new _ _, bel_alloc _ _⟩
    case round =>
      obtain ⟨k, hk, rfl, hblk, hb⟩ := hrel
      by_cases hlk : k < n
      · obtain ⟨x, hkx⟩ := get_lt xs k (by rw [← Hn.out]; exact hlk)
        have hce : wr.cell? ⟨b, off + k, none⟩ = some (.int .i64 x) := by rw [hb.cell (by exact hlt)]; exact Hcell.out k x hkx
        have hsr : Sl wr (.slice (some ⟨b, off, none⟩) n cap) xs := HS.out.kept hb
        have Hsr := hid hsr
        clear hsr
        obtain ⟨x1, x2⟩ := H.out.2.at hkx
        obtain ⟨m1, m2⟩ := mul_bound x1 x2 c1 c2
        have hky : (tab xs.length (sca xs c))[k]? = some (x * c) := by rw [tab_get _ _ _ (by rw [← Hn.out]; exact hlk)]; congr 1 <;> (rw [sca, getD_of hkx])
        have hcd := hblk.cell (upTo_get (tab xs.length (sca xs c)) k (by rw [Hly.out]; exact hlk))
        have hfd := hblk.free k
        have hsz : w.heap.size < wr.heap.size := hblk.lt
        have Hkx := hid hkx
        have Hky := hid hky
        have Hblk := hid hblk
        clear hkx hky hblk
        go_wp2
        go_roundw
        case rel => exact ⟨k + 1, by omega, by go_num, by rw [← upTo_step _ k _ Hky.out]; exact Hblk.out.set k _, hb.setCell (Nat.le_refl _) _⟩
        case measure => simp [intOf]; omega
      · have hge : (n : Int) ≤ (k : Int) := by omega
        have hkn : k = (tab xs.length (sca xs c)).length := by rw [Hly.out]; omega
        rw [hkn, upTo_full] at hblk
        have hres : Res 3 w.heap.size wr (.slice (some ⟨w.heap.size, 0, none⟩) n n) (tab xs.length (sca xs c)) := by
          have := hblk.res (Nat.le_refl _); rwa [Hly.out] at this
        have hsl : Sl wr (.slice (some ⟨w.heap.size, 0, none⟩) n n) (tab xs.length (sca xs c)) := hres.sl
        have Hk := hid hkn
        clear hkn hlk hblk
        go_wp2_with fail
        refine (onlySignal_yes _ (tab xs.length (sca xs c)) _ hsl HY.out).mono ?_
        rintro e w' ⟨rfl, rfl⟩
        go_wp2
        go_ret2
        exact ⟨_, rfl, hres, hb⟩

set_option maxHeartbeats 1000000 in
theorem impl_ScaleSignal_out (c : Int) (v : Value) (xs : List Int) (w : World) (hs : Sl w v xs) (h : SigP xs) (c1 : -1000 ≤ c) (c2 : c ≤ 1000) (hy : ¬ SigP (tab xs.length (sca xs c))) :
    Calls Try.prog 15 #[v, .int .i64 c] w (Gives w [] false) := by
  have H := hid h
  have HY := hid hy
  have hl64 : xs.length ≤ 64 := h.1
  have hs' := hs
  clear h hy
  rcases hs with ⟨rfl, a, cap, rfl⟩ | ⟨b, off, n, cap, rfl, hn, h0, hc, hlt, hcell⟩
  · exact absurd SigP.nil HY.out
  · have HS := hid hs'
    have Hn := hid hn
    have Hcell := hid hcell
    have hl' : n ≤ 64 := by omega
    have hmk := run_make_ints (P := Try.prog) 22 3 uslice iint n (by omega)
    clear hs' hn hcell hl64
    go_enter Try.func15, Try.ntmps15
    go_wp2_with fail
    refine (impl_IsSignal_yes _ xs _ HS.out (Nat.le_trans H.out.1 (by omega)) H.out).mono ?_
    rintro e w' ⟨rfl, rfl⟩
    go_wp2
    have hly : (tab xs.length (sca xs c)).length = n := by rw [tab_len]; exact Hn.out.symm
    have Hly := hid hly
    clear hly
    go_loopw [25] (fun i wr => ∃ k : Nat, k ≤ n ∧ i = .int .i64 k ∧ Blk 3 wr w.heap.size (upTo (tab xs.length (sca xs c)) k) ∧ Below w.heap.size w wr)
      (fun i _ => n - (intOf i).toNat)
    case atStart => exact ⟨0, by omega, rfl, by rw [upTo_zero, Hly.out]; exact heap_alloc_new _ _, bel_alloc _ _⟩
    case round =>
      obtain ⟨k, hk, rfl, hblk, hb⟩ := hrel
      by_cases hlk : k < n
      · obtain ⟨x, hkx⟩ := get_lt xs k (by rw [← Hn.out]; exact hlk)
        have hce : wr.cell? ⟨b, off + k, none⟩ = some (.int .i64 x) := by rw [hb.cell (by exact hlt)]; exact Hcell.out k x hkx
        have hsr : Sl wr (.slice (some ⟨b, off, none⟩) n cap) xs := HS.out.kept hb
        have Hsr := hid hsr
        clear hsr
        obtain ⟨x1, x2⟩ := H.out.2.at hkx
        obtain ⟨m1, m2⟩ := mul_bound x1 x2 c1 c2
        have hky : (tab xs.length (sca xs c))[k]? = some (x * c) := by rw [tab_get _ _ _ (by rw [← Hn.out]; exact hlk)]; congr 1 <;> (rw [sca, getD_of hkx])
        have hcd := hblk.cell (upTo_get (tab xs.length (sca xs c)) k (by rw [Hly.out]; exact hlk))
        have hfd := hblk.free k
        have hsz : w.heap.size < wr.heap.size := hblk.lt
        have Hkx := hid hkx
        have Hky := hid hky
        have Hblk := hid hblk
        clear hkx hky hblk
        go_wp2
        go_roundw
        case rel => exact ⟨k + 1, by omega, by go_num, by rw [← upTo_step _ k _ Hky.out]; exact Hblk.out.set k _, hb.setCell (Nat.le_refl _) _⟩
        case measure => simp [intOf]; omega
      · have hge : (n : Int) ≤ (k : Int) := by omega
        have hkn : k = (tab xs.length (sca xs c)).length := by rw [Hly.out]; omega
        rw [hkn, upTo_full] at hblk
        have hres : Res 3 w.heap.size wr (.slice (some ⟨w.heap.size, 0, none⟩) n n) (tab xs.length (sca xs c)) := by
          have := hblk.res (Nat.le_refl _); rwa [Hly.out] at this
        have hsl : Sl wr (.slice (some ⟨w.heap.size, 0, none⟩) n n) (tab xs.length (sca xs c)) := hres.sl
        have Hk := hid hkn
        clear hkn hlk hblk
        go_wp2_with fail
        refine (onlySignal_no _ (tab xs.length (sca xs c)) _ hsl HY.out).mono ?_
        rintro e w' ⟨rfl, rfl⟩
        go_wp2
        go_ret2
        exact ⟨_, rfl, Res.nil _ _ _, hb⟩

theorem _root_.Go.MemX.Sl.pre {w : World} {b off n cap : Nat} {xs : List Int} (h : Sl w (.slice (some ⟨b, off, none⟩) n cap) xs) {k : Nat} (h0 : 0 < k) (hk : k ≤ xs.length) : Sl w (.slice (some ⟨b, off, none⟩) k cap) (xs.take k) := by
  rcases h with ⟨rfl, _⟩ | ⟨b2, off2, n2, cap2, hv, hn, hp, hc, hlt, hx⟩
  · simp at hk; omega
  · cases hv
    refine .inr ⟨b, off, k, cap, rfl, by simp; omega, h0, by omega, hlt, fun i x hi => ?_⟩
    have hil : i < k := by
      by_cases hh : i < k
      · exact hh
      · rw [List.getElem?_take_eq_none (by omega)] at hi; cases hi
    rw [List.getElem?_take_of_lt hil] at hi
    exact hx i x hi

set_option maxHeartbeats 1000000 in
theorem impl_RunningSums_yes  (v : Value) (xs : List Int) (w : World) (hs : Sl w v xs) (h : SigP xs)  (hy : SigP (tab xs.length (run xs))) :
    Calls Try.prog 21 #[v] w (Gives w (tab xs.length (run xs)) true) := by
  have H := hid h
  have HY := hid hy
  have hl64 : xs.length ≤ 64 := h.1
  have hs' := hs
  clear h hy
  rcases hs with ⟨rfl, a, cap, rfl⟩ | ⟨b, off, n, cap, rfl, hn, h0, hc, hlt, hcell⟩
  · have HS := hid hs'
    have hmk := run_make_ints (P := Try.prog) 22 3 uslice iint 0 (by omega)
    simp only [Int.natCast_zero] at hmk
    clear hs'
    go_enter Try.func21, Try.ntmps21
    go_wp2_with fail
    refine (impl_IsSignal_yes _ [] _ HS.out (Nat.le_trans H.out.1 (by omega)) H.out).mono ?_
    rintro e w' ⟨rfl, rfl⟩
    go_wp2
    refine wp_loop_rounds 1 ?_
    rw [rounds_succ]
    go_wp2_with fail
    refine (onlySignal_yes _ [] _ (Blk.sl (xs := []) (heap_alloc_new _ _)) SigP.nil).mono ?_
    rintro e w' ⟨rfl, rfl⟩
    go_wp2
    go_ret2
    exact ⟨_, rfl, Blk.res (xs := []) (heap_alloc_new _ _) (Nat.le_refl _), bel_alloc _ _⟩
  · have HS := hid hs'
    have Hn := hid hn
    have Hcell := hid hcell
    have hl' : n ≤ 64 := by omega
    have hmk := run_make_ints (P := Try.prog) 22 3 uslice iint n (by omega)
    clear hs' hn hcell hl64
    go_enter Try.func21, Try.ntmps21
    go_wp2_with fail
    refine (impl_IsSignal_yes _ xs _ HS.out (Nat.le_trans H.out.1 (by omega)) H.out).mono ?_
    rintro e w' ⟨rfl, rfl⟩
    go_wp2
    have hly : (tab xs.length (run xs)).length = n := by rw [tab_len]; exact Hn.out.symm
    have Hly := hid hly
    clear hly
    go_loopw [14] (fun i wr => ∃ k : Nat, k ≤ n ∧ i = .int .i64 k ∧ Blk 3 wr w.heap.size (upTo (tab xs.length (run xs)) k) ∧ Below w.heap.size w wr)
      (fun i _ => n - (intOf i).toNat)
    case atStart => exact ⟨0, by omega, rfl, by rw [upTo_zero, Hly.out]; exact heap_alloc_new _ _, bel_alloc _ _⟩
    case round =>
      obtain ⟨k, hk, rfl, hblk, hb⟩ := hrel
      by_cases hlk : k < n
      · obtain ⟨x, hkx⟩ := get_lt xs k (by rw [← Hn.out]; exact hlk)
        have hce : wr.cell? ⟨b, off + k, none⟩ = some (.int .i64 x) := by rw [hb.cell (by exact hlt)]; exact Hcell.out k x hkx
        have hsr : Sl wr (.slice (some ⟨b, off, none⟩) n cap) xs := HS.out.kept hb
        have Hsr := hid hsr
        clear hsr
        obtain ⟨x1, x2⟩ := H.out.2.at hkx
        have hky : (tab xs.length (run xs))[k]? = some (sumL (xs.take (k + 1))) := by rw [tab_get _ _ _ (by rw [← Hn.out]; exact hlk)]; congr 1 <;> (rfl)
        have hcd := hblk.cell (upTo_get (tab xs.length (run xs)) k (by rw [Hly.out]; exact hlk))
        have hfd := hblk.free k
        have hsz : w.heap.size < wr.heap.size := hblk.lt
        have Hkx := hid hkx
        have Hky := hid hky
        have Hblk := hid hblk
        clear hkx hky hblk
        have hbd : ∀ j, j ≤ (xs.take (k + 1)).length → (sumL ((xs.take (k + 1)).take j)).natAbs < 16777216 := fun j hj => by
          have a := sumL_bound ((xs.take (k + 1)).take j) ((H.out.2.take (k + 1)).take j)
          have a2 : ((xs.take (k + 1)).take j).length ≤ 64 := by simp; have := H.out.1; omega
          omega
        have hxb : ∀ z ∈ xs.take (k + 1), z.natAbs < 16777216 := fun z hz => by have := H.out.2.take (k + 1) z hz; omega
        have hsp : Sl wr (.slice (some ⟨b, off, none⟩) (k + 1) cap) (xs.take (k + 1)) := Sl.pre Hsr.out (by omega) (by rw [← Hn.out]; omega)
        have Hsp := hid hsp
        have Hbd := hid hbd
        have Hxb := hid hxb
        have hln : (xs.take (k + 1)).length ≤ 1000000 := by simp; omega
        have Hln := hid hln
        clear hsp hbd hxb hln
        go_wp2_with fail
        refine (Su.sumOf_any _ (xs.take (k + 1)) _ Hsp.out Hln.out Hbd.out Hxb.out).mono ?_
        rintro e w' ⟨rfl, rfl⟩
        go_wp2
        go_roundw
        case rel => exact ⟨k + 1, by omega, by go_num, by rw [← upTo_step _ k _ Hky.out]; exact Hblk.out.set k _, hb.setCell (Nat.le_refl _) _⟩
        case measure => simp [intOf]; omega
      · have hge : (n : Int) ≤ (k : Int) := by omega
        have hkn : k = (tab xs.length (run xs)).length := by rw [Hly.out]; omega
        rw [hkn, upTo_full] at hblk
        have hres : Res 3 w.heap.size wr (.slice (some ⟨w.heap.size, 0, none⟩) n n) (tab xs.length (run xs)) := by
          have := hblk.res (Nat.le_refl _); rwa [Hly.out] at this
        have hsl : Sl wr (.slice (some ⟨w.heap.size, 0, none⟩) n n) (tab xs.length (run xs)) := hres.sl
        have Hk := hid hkn
        clear hkn hlk hblk
        go_wp2_with fail
        refine (onlySignal_yes _ (tab xs.length (run xs)) _ hsl HY.out).mono ?_
        rintro e w' ⟨rfl, rfl⟩
        go_wp2
        go_ret2
        exact ⟨_, rfl, hres, hb⟩

set_option maxHeartbeats 1000000 in
theorem impl_RunningSums_out  (v : Value) (xs : List Int) (w : World) (hs : Sl w v xs) (h : SigP xs)  (hy : ¬ SigP (tab xs.length (run xs))) :
    Calls Try.prog 21 #[v] w (Gives w [] false) := by
  have H := hid h
  have HY := hid hy
  have hl64 : xs.length ≤ 64 := h.1
  have hs' := hs
  clear h hy
  rcases hs with ⟨rfl, a, cap, rfl⟩ | ⟨b, off, n, cap, rfl, hn, h0, hc, hlt, hcell⟩
  · exact absurd SigP.nil HY.out
  · have HS := hid hs'
    have Hn := hid hn
    have Hcell := hid hcell
    have hl' : n ≤ 64 := by omega
    have hmk := run_make_ints (P := Try.prog) 22 3 uslice iint n (by omega)
    clear hs' hn hcell hl64
    go_enter Try.func21, Try.ntmps21
    go_wp2_with fail
    refine (impl_IsSignal_yes _ xs _ HS.out (Nat.le_trans H.out.1 (by omega)) H.out).mono ?_
    rintro e w' ⟨rfl, rfl⟩
    go_wp2
    have hly : (tab xs.length (run xs)).length = n := by rw [tab_len]; exact Hn.out.symm
    have Hly := hid hly
    clear hly
    go_loopw [14] (fun i wr => ∃ k : Nat, k ≤ n ∧ i = .int .i64 k ∧ Blk 3 wr w.heap.size (upTo (tab xs.length (run xs)) k) ∧ Below w.heap.size w wr)
      (fun i _ => n - (intOf i).toNat)
    case atStart => exact ⟨0, by omega, rfl, by rw [upTo_zero, Hly.out]; exact heap_alloc_new _ _, bel_alloc _ _⟩
    case round =>
      obtain ⟨k, hk, rfl, hblk, hb⟩ := hrel
      by_cases hlk : k < n
      · obtain ⟨x, hkx⟩ := get_lt xs k (by rw [← Hn.out]; exact hlk)
        have hce : wr.cell? ⟨b, off + k, none⟩ = some (.int .i64 x) := by rw [hb.cell (by exact hlt)]; exact Hcell.out k x hkx
        have hsr : Sl wr (.slice (some ⟨b, off, none⟩) n cap) xs := HS.out.kept hb
        have Hsr := hid hsr
        clear hsr
        obtain ⟨x1, x2⟩ := H.out.2.at hkx
        have hky : (tab xs.length (run xs))[k]? = some (sumL (xs.take (k + 1))) := by rw [tab_get _ _ _ (by rw [← Hn.out]; exact hlk)]; congr 1 <;> (rfl)
        have hcd := hblk.cell (upTo_get (tab xs.length (run xs)) k (by rw [Hly.out]; exact hlk))
        have hfd := hblk.free k
        have hsz : w.heap.size < wr.heap.size := hblk.lt
        have Hkx := hid hkx
        have Hky := hid hky
        have Hblk := hid hblk
        clear hkx hky hblk
        have hbd : ∀ j, j ≤ (xs.take (k + 1)).length → (sumL ((xs.take (k + 1)).take j)).natAbs < 16777216 := fun j hj => by
          have a := sumL_bound ((xs.take (k + 1)).take j) ((H.out.2.take (k + 1)).take j)
          have a2 : ((xs.take (k + 1)).take j).length ≤ 64 := by simp; have := H.out.1; omega
          omega
        have hxb : ∀ z ∈ xs.take (k + 1), z.natAbs < 16777216 := fun z hz => by have := H.out.2.take (k + 1) z hz; omega
        have hsp : Sl wr (.slice (some ⟨b, off, none⟩) (k + 1) cap) (xs.take (k + 1)) := Sl.pre Hsr.out (by omega) (by rw [← Hn.out]; omega)
        have Hsp := hid hsp
        have Hbd := hid hbd
        have Hxb := hid hxb
        have hln : (xs.take (k + 1)).length ≤ 1000000 := by simp; omega
        have Hln := hid hln
        clear hsp hbd hxb hln
        go_wp2_with fail
        refine (Su.sumOf_any _ (xs.take (k + 1)) _ Hsp.out Hln.out Hbd.out Hxb.out).mono ?_
        rintro e w' ⟨rfl, rfl⟩
        go_wp2
        go_roundw
        case rel => exact ⟨k + 1, by omega, by go_num, by rw [← upTo_step _ k _ Hky.out]; exact Hblk.out.set k _, hb.setCell (Nat.le_refl _) _⟩
        case measure => simp [intOf]; omega
      · have hge : (n : Int) ≤ (k : Int) := by omega
        have hkn : k = (tab xs.length (run xs)).length := by rw [Hly.out]; omega
        rw [hkn, upTo_full] at hblk
        have hres : Res 3 w.heap.size wr (.slice (some ⟨w.heap.size, 0, none⟩) n n) (tab xs.length (run xs)) := by
          have := hblk.res (Nat.le_refl _); rwa [Hly.out] at this
        have hsl : Sl wr (.slice (some ⟨w.heap.size, 0, none⟩) n n) (tab xs.length (run xs)) := hres.sl
        have Hk := hid hkn
        clear hkn hlk hblk
        go_wp2_with fail
        refine (onlySignal_no _ (tab xs.length (run xs)) _ hsl HY.out).mono ?_
        rintro e w' ⟨rfl, rfl⟩
        go_wp2
        go_ret2
        exact ⟨_, rfl, Res.nil _ _ _, hb⟩

set_option maxHeartbeats 1000000 in
theorem impl_DifferencesOf_yes  (v : Value) (xs : List Int) (w : World) (hs : Sl w v xs) (h : SigP xs)  (hy : SigP (tab xs.length (dif xs))) :
    Calls Try.prog 19 #[v] w (Gives w (tab xs.length (dif xs)) true) := by
  have H := hid h
  have HY := hid hy
  have hl64 : xs.length ≤ 64 := h.1
  have hs' := hs
  clear h hy
  rcases hs with ⟨rfl, a, cap, rfl⟩ | ⟨b, off, n, cap, rfl, hn, h0, hc, hlt, hcell⟩
  · have HS := hid hs'
    have hmk := run_make_ints (P := Try.prog) 22 3 uslice iint 0 (by omega)
    simp only [Int.natCast_zero] at hmk
    clear hs'
    go_enter Try.func19, Try.ntmps19
    go_wp2_with fail
    refine (impl_IsSignal_yes _ [] _ HS.out (Nat.le_trans H.out.1 (by omega)) H.out).mono ?_
    rintro e w' ⟨rfl, rfl⟩
    go_wp2
    refine wp_loop_rounds 1 ?_
    rw [rounds_succ]
    go_wp2_with fail
    refine (onlySignal_yes _ [] _ (Blk.sl (xs := []) (heap_alloc_new _ _)) SigP.nil).mono ?_
    rintro e w' ⟨rfl, rfl⟩
    go_wp2
    go_ret2
    exact ⟨_, rfl, Blk.res (xs := []) (heap_alloc_new _ _) (Nat.le_refl _), bel_alloc _ _⟩
  · have HS := hid hs'
    have Hn := hid hn
    have Hcell := hid hcell
    have hl' : n ≤ 64 := by omega
    have hmk := run_make_ints (P := Try.prog) 22 3 uslice iint n (by omega)
    clear hs' hn hcell hl64
    go_enter Try.func19, Try.ntmps19
    go_wp2_with fail
    refine (impl_IsSignal_yes _ xs _ HS.out (Nat.le_trans H.out.1 (by omega)) H.out).mono ?_
    rintro e w' ⟨rfl, rfl⟩
    go_wp2
    have hly : (tab xs.length (dif xs)).length = n := by rw [tab_len]; exact Hn.out.symm
    have Hly := hid hly
    clear hly
    go_loopw [5, 16] (fun st i wr => ∃ k : Nat, k ≤ n ∧ i = .int .i64 k ∧ st = .int .i64 (las xs k) ∧ Blk 3 wr w.heap.size (upTo (tab xs.length (dif xs)) k) ∧ Below w.heap.size w wr)
      (fun _ i _ => n - (intOf i).toNat)
    case atStart => exact ⟨0, by omega, rfl, rfl, by rw [upTo_zero, Hly.out]; exact heap_alloc_new _ _, bel_alloc _ _⟩
    case round =>
      obtain ⟨k, hk, rfl, rfl, hblk, hb⟩ := hrel
      by_cases hlk : k < n
      · obtain ⟨x, hkx⟩ := get_lt xs k (by rw [← Hn.out]; exact hlk)
        have hce : wr.cell? ⟨b, off + k, none⟩ = some (.int .i64 x) := by rw [hb.cell (by exact hlt)]; exact Hcell.out k x hkx
        have hsr : Sl wr (.slice (some ⟨b, off, none⟩) n cap) xs := HS.out.kept hb
        have Hsr := hid hsr
        clear hsr
        obtain ⟨x1, x2⟩ := H.out.2.at hkx
        obtain ⟨m1, m2⟩ := las_bound H.out.2 k
        have hls := las_succ hkx
        have Hls := hid hls
        clear hls
        have hky : (tab xs.length (dif xs))[k]? = some (x + -las xs k) := by rw [tab_get _ _ _ (by rw [← Hn.out]; exact hlk)]; congr 1 <;> (rw [dif, getD_of hkx, Int.sub_eq_add_neg])
        have hcd := hblk.cell (upTo_get (tab xs.length (dif xs)) k (by rw [Hly.out]; exact hlk))
        have hfd := hblk.free k
        have hsz : w.heap.size < wr.heap.size := hblk.lt
        have Hkx := hid hkx
        have Hky := hid hky
        have Hblk := hid hblk
        clear hkx hky hblk
        generalize las xs k = l at *
        have hneg : IntKind.i64.wrap (-l) = -l := IntWalk.i64_in _ (by omega)
        go_wp2_with fail
        refine (sum2_any _ x (-l) _ (by first | exact Sl.two _ _ _ _ | exact (Sl.two _ _ _ _).drew) (by omega) (by omega) (by omega) (by omega)).mono ?_
        rintro e w' ⟨rfl, rfl⟩
        go_wp2
        go_roundw
        case rel => exact ⟨k + 1, by omega, by go_num, by rw [Hls.out], by rw [← upTo_step _ k _ Hky.out]; exact (Hblk.out.set k _).kept (bel_alloc _ _) (Hblk.out.set k _).lt, (hb.setCell (Nat.le_refl _) _).alloc (by simp; omega) _⟩
        case measure => simp [intOf]; omega
      · have hge : (n : Int) ≤ (k : Int) := by omega
        have hkn : k = (tab xs.length (dif xs)).length := by rw [Hly.out]; omega
        rw [hkn, upTo_full] at hblk
        have hres : Res 3 w.heap.size wr (.slice (some ⟨w.heap.size, 0, none⟩) n n) (tab xs.length (dif xs)) := by
          have := hblk.res (Nat.le_refl _); rwa [Hly.out] at this
        have hsl : Sl wr (.slice (some ⟨w.heap.size, 0, none⟩) n n) (tab xs.length (dif xs)) := hres.sl
        have Hk := hid hkn
        clear hkn hlk hblk
        go_wp2_with fail
        refine (onlySignal_yes _ (tab xs.length (dif xs)) _ hsl HY.out).mono ?_
        rintro e w' ⟨rfl, rfl⟩
        go_wp2
        go_ret2
        exact ⟨_, rfl, hres, hb⟩

set_option maxHeartbeats 1000000 in
theorem impl_DifferencesOf_out  (v : Value) (xs : List Int) (w : World) (hs : Sl w v xs) (h : SigP xs)  (hy : ¬ SigP (tab xs.length (dif xs))) :
    Calls Try.prog 19 #[v] w (Gives w [] false) := by
  have H := hid h
  have HY := hid hy
  have hl64 : xs.length ≤ 64 := h.1
  have hs' := hs
  clear h hy
  rcases hs with ⟨rfl, a, cap, rfl⟩ | ⟨b, off, n, cap, rfl, hn, h0, hc, hlt, hcell⟩
  · exact absurd SigP.nil HY.out
  · have HS := hid hs'
    have Hn := hid hn
    have Hcell := hid hcell
    have hl' : n ≤ 64 := by omega
    have hmk := run_make_ints (P := Try.prog) 22 3 uslice iint n (by omega)
    clear hs' hn hcell hl64
    go_enter Try.func19, Try.ntmps19
    go_wp2_with fail
    refine (impl_IsSignal_yes _ xs _ HS.out (Nat.le_trans H.out.1 (by omega)) H.out).mono ?_
    rintro e w' ⟨rfl, rfl⟩
    go_wp2
    have hly : (tab xs.length (dif xs)).length = n := by rw [tab_len]; exact Hn.out.symm
    have Hly := hid hly
    clear hly
    go_loopw [5, 16] (fun st i wr => ∃ k : Nat, k ≤ n ∧ i = .int .i64 k ∧ st = .int .i64 (las xs k) ∧ Blk 3 wr w.heap.size (upTo (tab xs.length (dif xs)) k) ∧ Below w.heap.size w wr)
      (fun _ i _ => n - (intOf i).toNat)
    case atStart => exact ⟨0, by omega, rfl, rfl, by rw [upTo_zero, Hly.out]; exact heap_alloc_new _ _, bel_alloc _ _⟩
    case round =>
      obtain ⟨k, hk, rfl, rfl, hblk, hb⟩ := hrel
      by_cases hlk : k < n
      · obtain ⟨x, hkx⟩ := get_lt xs k (by rw [← Hn.out]; exact hlk)
        have hce : wr.cell? ⟨b, off + k, none⟩ = some (.int .i64 x) := by rw [hb.cell (by exact hlt)]; exact Hcell.out k x hkx
        have hsr : Sl wr (.slice (some ⟨b, off, none⟩) n cap) xs := HS.out.kept hb
        have Hsr := hid hsr
        clear hsr
        obtain ⟨x1, x2⟩ := H.out.2.at hkx
        obtain ⟨m1, m2⟩ := las_bound H.out.2 k
        have hls := las_succ hkx
        have Hls := hid hls
        clear hls
        have hky : (tab xs.length (dif xs))[k]? = some (x + -las xs k) := by rw [tab_get _ _ _ (by rw [← Hn.out]; exact hlk)]; congr 1 <;> (rw [dif, getD_of hkx, Int.sub_eq_add_neg])
        have hcd := hblk.cell (upTo_get (tab xs.length (dif xs)) k (by rw [Hly.out]; exact hlk))
        have hfd := hblk.free k
        have hsz : w.heap.size < wr.heap.size := hblk.lt
        have Hkx := hid hkx
        have Hky := hid hky
        have Hblk := hid hblk
        clear hkx hky hblk
        generalize las xs k = l at *
        have hneg : IntKind.i64.wrap (-l) = -l := IntWalk.i64_in _ (by omega)
        go_wp2_with fail
        refine (sum2_any _ x (-l) _ (by first | exact Sl.two _ _ _ _ | exact (Sl.two _ _ _ _).drew) (by omega) (by omega) (by omega) (by omega)).mono ?_
        rintro e w' ⟨rfl, rfl⟩
        go_wp2
        go_roundw
        case rel => exact ⟨k + 1, by omega, by go_num, by rw [Hls.out], by rw [← upTo_step _ k _ Hky.out]; exact (Hblk.out.set k _).kept (bel_alloc _ _) (Hblk.out.set k _).lt, (hb.setCell (Nat.le_refl _) _).alloc (by simp; omega) _⟩
        case measure => simp [intOf]; omega
      · have hge : (n : Int) ≤ (k : Int) := by omega
        have hkn : k = (tab xs.length (dif xs)).length := by rw [Hly.out]; omega
        rw [hkn, upTo_full] at hblk
        have hres : Res 3 w.heap.size wr (.slice (some ⟨w.heap.size, 0, none⟩) n n) (tab xs.length (dif xs)) := by
          have := hblk.res (Nat.le_refl _); rwa [Hly.out] at this
        have hsl : Sl wr (.slice (some ⟨w.heap.size, 0, none⟩) n n) (tab xs.length (dif xs)) := hres.sl
        have Hk := hid hkn
        clear hkn hlk hblk
        go_wp2_with fail
        refine (onlySignal_no _ (tab xs.length (dif xs)) _ hsl HY.out).mono ?_
        rintro e w' ⟨rfl, rfl⟩
        go_wp2
        go_ret2
        exact ⟨_, rfl, Res.nil _ _ _, hb⟩
end Go.Proofs.Ytgpnedchlkigeaa
