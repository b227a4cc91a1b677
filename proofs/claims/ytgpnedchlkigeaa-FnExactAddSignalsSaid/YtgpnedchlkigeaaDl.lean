
import Derived.Test.YtgpnedchlkigeaaTc
import Derived.Laws.CopyOwn
namespace Go.Proofs.Ytgpnedchlkigeaa
open Go.RowKit BitX Go.MemX

/-- a slice at an address that is known, be it empty -/
def Sl1 (w : World) (v : Value) (xs : List Int) : Prop :=
  ∃ b off n cap, v = .slice (some ⟨b, off, none⟩) n cap ∧ n = xs.length ∧ n ≤ cap ∧ b < w.heap.size ∧ ∀ i x, xs[i]? = some x → w.cell? ⟨b, off + i, none⟩ = some (.int .i64 x)
theorem Sl1.sl {w : World} {v : Value} {xs : List Int} (h : Sl1 w v xs) : Sl w v xs := by
  obtain ⟨b, off, n, cap, rfl, hn, hc, hlt, hx⟩ := h
  by_cases h0 : n = 0
  · subst h0; exact .inl ⟨List.length_eq_zero_iff.1 hn.symm, _, cap, rfl⟩
  · exact .inr ⟨b, off, n, cap, rfl, hn, by omega, hc, hlt, hx⟩
theorem _root_.Go.MemX.RowB.sl1 {E : TypeId} {w : World} {g cap : Nat} {xs : List Int} (h : RowB E w g cap xs) : Sl1 w (.slice (some ⟨g, 0, none⟩) xs.length cap) xs :=
  ⟨g, 0, xs.length, cap, rfl, rfl, by obtain ⟨_, _, _, h, _⟩ := h; exact h, h.lt, fun i x hi => by rw [Nat.zero_add]; exact h.cell hi⟩
theorem add_plain' (b off j : Nat) : (⟨b, off, none⟩ : Addr).add j = ⟨b, off + j, none⟩ := by unfold Addr.add; split <;> simp_all
def dly (d : Nat) (xs : List Int) : List Int := List.replicate d 0 ++ xs
theorem dly_len (d : Nat) (xs : List Int) : (dly d xs).length = d + xs.length := by simp [dly]
theorem dly_sig {d : Nat} {xs : List Int} (h : InP (-100000) 100000 xs) (hd : d + xs.length ≤ 64) : SigP (dly d xs) := by
  refine ⟨by rw [dly_len]; exact hd, fun x hx => ?_⟩
  rcases List.mem_append.1 hx with hx | hx
  · rw [List.eq_of_mem_replicate hx]; omega
  · exact h x hx
theorem dly_out {d : Nat} {xs : List Int} (hd : 64 < d + xs.length) : ¬ SigP (dly d xs) := fun h => by have := h.1; rw [dly_len] at this; omega

set_option maxHeartbeats 1000000 in
theorem spec_DelaySignal_yes (v : Value) (xs : List Int) (d : Nat) (w : World) (hs : Sl1 w v xs) (h : SigP xs) (hd : d ≤ 64) (hy : SigP (dly d xs)) :
    Calls Try.prog 16 #[v, .int .i64 (d : Int)] w (Gives w (dly d xs) true) := by
  obtain ⟨b, off, n, cap, rfl, hn, hc, hlt, hcell⟩ := hs
  have hs' : Sl w (.slice (some ⟨b, off, none⟩) n cap) xs := Sl1.sl ⟨b, off, n, cap, rfl, hn, hc, hlt, hcell⟩
  have HS := hid hs'
  have H := hid h
  have HY := hid hy
  have Hn := hid hn
  have Hcell := hid hcell
  have hl64 : n ≤ 64 := by rw [hn]; exact h.1
  have hmk := run_make_ints (P := Try.prog) 22 3 uslice iint d (by omega)
  have hown := World.ownsRow_lit (base := w.heap.size) (e := 3) (size := 1) w (intsA (List.replicate d 0)) d (Nat.le_refl _) (by unfold maxLen; omega) (by simp [intsA_size])
  have Hown := hid hown
  obtain ⟨i0, hi0, hz0, hz1, hz2⟩ := info_parts iint
  have hd1 : (0 : Int) ≤ (d : Int) := by omega
  have hd2 : (d : Int) ≤ 64 := by omega
  clear hs' h hy hn hcell hown
  go_enter Try.func16, Try.ntmps16
  go_wp2_with fail
  refine (wdSignal_yes _ xs _ HS.out H.out).mono ?_
  rintro e w' ⟨rfl, rfl⟩
  go_wp2_with fail
  refine (l1In_yes _ _ _ _ hd1 hd2).mono ?_
  rintro e w' ⟨rfl, rfl⟩
  go_wp2_with (at_builtin; refine wpList_append_own _ rfl _ _ 22 rfl w.heap.size 3 i0 (.int .i64 0) 1 8 uslice hi0 hz0 hz1 hz2 rfl (by decide) _ _ _ rfl Hown.out ⟨b, off, none⟩ n cap (xs.map (Value.int .i64)) rfl (by rw [List.length_map, Nat.mul_one]; exact Hn.out.symm) ?c1 ?c2 ?c3 ?c4 ?c5 ?_)
  case c1 =>
    intro j u hj
    rw [List.getElem?_map] at hj
    cases hx : xs[j]? with
    | none => rw [hx] at hj; cases hj
    | some x =>
      rw [hx] at hj
      cases hj
      rw [add_plain', World.cell?_alloc_past _ _ _ hlt]; exact Hcell.out j x hx
  case c2 => intro u hu; obtain ⟨x, _, rfl⟩ := List.mem_map.1 hu; rfl
  case c3 => unfold maxLen; omega
  case c4 => omega
  case c5 => simp
  · intro v' w3 hown3 hgrow _
    have hb3 : Below w.heap.size w w3 := (bel_alloc w _).grown hgrow (by simp) (fun j hj => by cases hj; exact Nat.le_refl _)
    have hres : Res 3 w.heap.size w3 v' (dly d xs) := Res.owns (by
      rw [dly_len, ← Hn.out]
      simpa [dly, intsA] using hown3)
    have Hres := hid hres
    clear hown3 hgrow hres
    go_wp2_with fail
    refine (wdIf_yes _ (dly d xs) _ Hres.out.sl HY.out).mono ?_
    rintro e w' ⟨rfl, rfl⟩
    go_wp2
    go_ret2
    exact ⟨_, rfl, Hres.out, hb3⟩

set_option maxHeartbeats 1000000 in
theorem impl_DelaySignal_yes (v : Value) (xs : List Int) (d : Nat) (w : World) (hs : Sl1 w v xs) (h : SigP xs) (hd : d ≤ 64) (hy : SigP (dly d xs)) :
    Calls Try.prog 17 #[v, .int .i64 (d : Int)] w (Gives w (dly d xs) true) := by
  obtain ⟨b, off, n, cap, rfl, hn, hc, hlt, hcell⟩ := hs
  have hs' : Sl w (.slice (some ⟨b, off, none⟩) n cap) xs := Sl1.sl ⟨b, off, n, cap, rfl, hn, hc, hlt, hcell⟩
  have H := hid h
  have HY := hid hy
  have Hcell := hid hcell
  have hl64 : n ≤ 64 := by rw [hn]; exact h.1
  clear h hy hcell
  by_cases hn0 : n = 0
  · subst hn0
    have HS := hid hs'
    have Hn := hid hn
    have hmk := run_make_ints (P := Try.prog) 22 3 uslice iint d (by omega)
    have hd2 : (d : Int) ≤ 64 := by omega
    clear hs' hn
    go_enter Try.func17, Try.ntmps17
    go_wp2_with fail
    refine (impl_IsSignal_yes _ xs _ HS.out (Nat.le_trans H.out.1 (by omega)) H.out).mono ?_
    rintro e w' ⟨rfl, rfl⟩
    go_wp2_with (with_reducible refine wpList_copy_splice rfl (.tmp 25) (.tmp 26) 22 22 rfl 3 uslice ?s1 _ _ _ _ _ _ rfl rfl w.heap.size d ((List.replicate d 0).map (Value.int .i64)) 3 ?hg (xs.map (Value.int .i64)) ?hn ?hpos ?hfit ?h1 w.heap.size w ?hb (Nat.le_refl _) ?_)
    case s1 => kernel_rfl
    case hg => exact heap_alloc_new _ _
    case hn => rw [List.length_map, ← Hn.out]; simp
    case hpos => intro hp; exfalso; have := Hn.out; simp at hp; omega
    case hfit => have := Hn.out; simp; omega
    case h1 => intro u hu; obtain ⟨x, _, rfl⟩ := List.mem_map.1 hu; rfl
    case hb => exact bel_alloc _ _
    · intro w3 hbk hb3
      have hblk : Blk 3 w3 w.heap.size (dly d xs) := by
        have hh := hbk.out
        unfold Blk
        rw [hh]
        have hnn := Hn.out
        congr 2
        simp [splice, intsA, dly]
        try omega
      have hres : Res 3 w.heap.size w3 (.slice (some ⟨w.heap.size, 0, none⟩) d d) (dly d xs) := by
        have := hblk.res (Nat.le_refl _)
        rw [dly_len, ← Hn.out] at this
        exact this
      have Hres := hid hres
      clear hbk hblk hres
      go_wp2_with fail
      refine (onlySignal_yes _ (dly d xs) _ Hres.out.sl HY.out).mono ?_
      rintro e w' ⟨rfl, rfl⟩
      go_wp2
      go_ret2
      exact ⟨_, rfl, Hres.out, hb3⟩
  · have HS := hid hs'
    have Hn := hid hn
    have hnp : 0 < n := by omega
    have hmk := run_make_ints (P := Try.prog) 22 3 uslice iint (d + n) (by omega)
    rw [Int.natCast_add] at hmk
    have hd2 : (d : Int) ≤ 64 := by omega
    clear hs' hn hn0
    go_enter Try.func17, Try.ntmps17
    go_wp2_with fail
    refine (impl_IsSignal_yes _ xs _ HS.out (Nat.le_trans H.out.1 (by omega)) H.out).mono ?_
    rintro e w' ⟨rfl, rfl⟩
    go_wp2_with (with_reducible refine wpList_copy_splice rfl (.tmp 25) (.tmp 26) 22 22 rfl 3 uslice ?s1 _ _ _ _ _ _ rfl rfl w.heap.size d ((List.replicate (d + n) 0).map (Value.int .i64)) 3 ?hg (xs.map (Value.int .i64)) ?hn ?hpos ?hfit ?h1 w.heap.size w ?hb (Nat.le_refl _) ?_)
    case s1 => kernel_rfl
    case hg => exact heap_alloc_new _ _
    case hn => rw [List.length_map, ← Hn.out]; simp
    case hpos => intro hp; first | (intro j x hx; exact Hcell.out j x hx) | (refine ⟨by first | rfl | simp, ?_⟩; first | (intro j x hx; exact Hcell.out j x hx) | skip)
    case hfit => have := Hn.out; simp; omega
    case h1 => intro u hu; obtain ⟨x, _, rfl⟩ := List.mem_map.1 hu; rfl
    case hb => exact bel_alloc _ _
    · intro w3 hbk hb3
      have hblk : Blk 3 w3 w.heap.size (dly d xs) := by
        have hh := hbk.out
        unfold Blk
        rw [hh]
        have hnn := Hn.out
        congr 2
        simp [splice, intsA, dly]
        try omega
      have hres : Res 3 w.heap.size w3 (.slice (some ⟨w.heap.size, 0, none⟩) (d + n) (d + n)) (dly d xs) := by
        have := hblk.res (Nat.le_refl _)
        rw [dly_len, ← Hn.out] at this
        exact this
      have Hres := hid hres
      clear hbk hblk hres
      go_wp2_with fail
      refine (onlySignal_yes _ (dly d xs) _ Hres.out.sl HY.out).mono ?_
      rintro e w' ⟨rfl, rfl⟩
      go_wp2
      go_ret2
      exact ⟨_, rfl, Hres.out, hb3⟩

set_option maxHeartbeats 1000000 in
theorem spec_DelaySignal_out (v : Value) (xs : List Int) (d : Nat) (w : World) (hs : Sl1 w v xs) (h : SigP xs) (hd : d ≤ 64) (hy : ¬ SigP (dly d xs)) :
    Calls Try.prog 16 #[v, .int .i64 (d : Int)] w (Gives w [] false) := by
  obtain ⟨b, off, n, cap, rfl, hn, hc, hlt, hcell⟩ := hs
  have hs' : Sl w (.slice (some ⟨b, off, none⟩) n cap) xs := Sl1.sl ⟨b, off, n, cap, rfl, hn, hc, hlt, hcell⟩
  have HS := hid hs'
  have H := hid h
  have HY := hid hy
  have Hn := hid hn
  have Hcell := hid hcell
  have hl64 : n ≤ 64 := by rw [hn]; exact h.1
  have hmk := run_make_ints (P := Try.prog) 22 3 uslice iint d (by omega)
  have hown := World.ownsRow_lit (base := w.heap.size) (e := 3) (size := 1) w (intsA (List.replicate d 0)) d (Nat.le_refl _) (by unfold maxLen; omega) (by simp [intsA_size])
  have Hown := hid hown
  obtain ⟨i0, hi0, hz0, hz1, hz2⟩ := info_parts iint
  have hd1 : (0 : Int) ≤ (d : Int) := by omega
  have hd2 : (d : Int) ≤ 64 := by omega
  clear hs' h hy hn hcell hown
  go_enter Try.func16, Try.ntmps16
  go_wp2_with fail
  refine (wdSignal_yes _ xs _ HS.out H.out).mono ?_
  rintro e w' ⟨rfl, rfl⟩
  go_wp2_with fail
  refine (l1In_yes _ _ _ _ hd1 hd2).mono ?_
  rintro e w' ⟨rfl, rfl⟩
  go_wp2_with (at_builtin; refine wpList_append_own _ rfl _ _ 22 rfl w.heap.size 3 i0 (.int .i64 0) 1 8 uslice hi0 hz0 hz1 hz2 rfl (by decide) _ _ _ rfl Hown.out ⟨b, off, none⟩ n cap (xs.map (Value.int .i64)) rfl (by rw [List.length_map, Nat.mul_one]; exact Hn.out.symm) ?c1 ?c2 ?c3 ?c4 ?c5 ?_)
  case c1 =>
    intro j u hj
    rw [List.getElem?_map] at hj
    cases hx : xs[j]? with
    | none => rw [hx] at hj; cases hj
    | some x =>
      rw [hx] at hj
      cases hj
      rw [add_plain', World.cell?_alloc_past _ _ _ hlt]; exact Hcell.out j x hx
  case c2 => intro u hu; obtain ⟨x, _, rfl⟩ := List.mem_map.1 hu; rfl
  case c3 => unfold maxLen; omega
  case c4 => omega
  case c5 => simp
  · intro v' w3 hown3 hgrow _
    have hb3 : Below w.heap.size w w3 := (bel_alloc w _).grown hgrow (by simp) (fun j hj => by cases hj; exact Nat.le_refl _)
    have hres : Res 3 w.heap.size w3 v' (dly d xs) := Res.owns (by
      rw [dly_len, ← Hn.out]
      simpa [dly, intsA] using hown3)
    have Hres := hid hres
    clear hown3 hgrow hres
    go_wp2_with fail
    refine (wdIf_no _ (dly d xs) _ Hres.out.sl HY.out).mono ?_
    rintro e w' ⟨rfl, rfl⟩
    go_wp2
    go_ret2
    exact ⟨_, rfl, Res.nil _ _ _, hb3⟩

set_option maxHeartbeats 1000000 in
theorem impl_DelaySignal_out (v : Value) (xs : List Int) (d : Nat) (w : World) (hs : Sl1 w v xs) (h : SigP xs) (hd : d ≤ 64) (hy : ¬ SigP (dly d xs)) :
    Calls Try.prog 17 #[v, .int .i64 (d : Int)] w (Gives w [] false) := by
  obtain ⟨b, off, n, cap, rfl, hn, hc, hlt, hcell⟩ := hs
  have hs' : Sl w (.slice (some ⟨b, off, none⟩) n cap) xs := Sl1.sl ⟨b, off, n, cap, rfl, hn, hc, hlt, hcell⟩
  have H := hid h
  have HY := hid hy
  have Hcell := hid hcell
  have hl64 : n ≤ 64 := by rw [hn]; exact h.1
  clear h hy hcell
  by_cases hn0 : n = 0
  · subst hn0
    have HS := hid hs'
    have Hn := hid hn
    have hmk := run_make_ints (P := Try.prog) 22 3 uslice iint d (by omega)
    have hd2 : (d : Int) ≤ 64 := by omega
    clear hs' hn
    go_enter Try.func17, Try.ntmps17
    go_wp2_with fail
    refine (impl_IsSignal_yes _ xs _ HS.out (Nat.le_trans H.out.1 (by omega)) H.out).mono ?_
    rintro e w' ⟨rfl, rfl⟩
    go_wp2_with (with_reducible refine wpList_copy_splice rfl (.tmp 25) (.tmp 26) 22 22 rfl 3 uslice ?s1 _ _ _ _ _ _ rfl rfl w.heap.size d ((List.replicate d 0).map (Value.int .i64)) 3 ?hg (xs.map (Value.int .i64)) ?hn ?hpos ?hfit ?h1 w.heap.size w ?hb (Nat.le_refl _) ?_)
    case s1 => kernel_rfl
    case hg => exact heap_alloc_new _ _
    case hn => rw [List.length_map, ← Hn.out]; simp
    case hpos => intro hp; exfalso; have := Hn.out; simp at hp; omega
    case hfit => have := Hn.out; simp; omega
    case h1 => intro u hu; obtain ⟨x, _, rfl⟩ := List.mem_map.1 hu; rfl
    case hb => exact bel_alloc _ _
    · intro w3 hbk hb3
      have hblk : Blk 3 w3 w.heap.size (dly d xs) := by
        have hh := hbk.out
        unfold Blk
        rw [hh]
        have hnn := Hn.out
        congr 2
        simp [splice, intsA, dly]
        try omega
      have hres : Res 3 w.heap.size w3 (.slice (some ⟨w.heap.size, 0, none⟩) d d) (dly d xs) := by
        have := hblk.res (Nat.le_refl _)
        rw [dly_len, ← Hn.out] at this
        exact this
      have Hres := hid hres
      clear hbk hblk hres
      go_wp2_with fail
      refine (onlySignal_no _ (dly d xs) _ Hres.out.sl HY.out).mono ?_
      rintro e w' ⟨rfl, rfl⟩
      go_wp2
      go_ret2
      exact ⟨_, rfl, Res.nil _ _ _, hb3⟩
  · have HS := hid hs'
    have Hn := hid hn
    have hnp : 0 < n := by omega
    have hmk := run_make_ints (P := Try.prog) 22 3 uslice iint (d + n) (by omega)
    rw [Int.natCast_add] at hmk
    have hd2 : (d : Int) ≤ 64 := by omega
    clear hs' hn hn0
    go_enter Try.func17, Try.ntmps17
    go_wp2_with fail
    refine (impl_IsSignal_yes _ xs _ HS.out (Nat.le_trans H.out.1 (by omega)) H.out).mono ?_
    rintro e w' ⟨rfl, rfl⟩
    go_wp2_with (with_reducible refine wpList_copy_splice rfl (.tmp 25) (.tmp 26) 22 22 rfl 3 uslice ?s1 _ _ _ _ _ _ rfl rfl w.heap.size d ((List.replicate (d + n) 0).map (Value.int .i64)) 3 ?hg (xs.map (Value.int .i64)) ?hn ?hpos ?hfit ?h1 w.heap.size w ?hb (Nat.le_refl _) ?_)
    case s1 => kernel_rfl
    case hg => exact heap_alloc_new _ _
    case hn => rw [List.length_map, ← Hn.out]; simp
    case hpos => intro hp; first | (intro j x hx; exact Hcell.out j x hx) | (refine ⟨by first | rfl | simp, ?_⟩; first | (intro j x hx; exact Hcell.out j x hx) | skip)
    case hfit => have := Hn.out; simp; omega
    case h1 => intro u hu; obtain ⟨x, _, rfl⟩ := List.mem_map.1 hu; rfl
    case hb => exact bel_alloc _ _
    · intro w3 hbk hb3
      have hblk : Blk 3 w3 w.heap.size (dly d xs) := by
        have hh := hbk.out
        unfold Blk
        rw [hh]
        have hnn := Hn.out
        congr 2
        simp [splice, intsA, dly]
        try omega
      have hres : Res 3 w.heap.size w3 (.slice (some ⟨w.heap.size, 0, none⟩) (d + n) (d + n)) (dly d xs) := by
        have := hblk.res (Nat.le_refl _)
        rw [dly_len, ← Hn.out] at this
        exact this
      have Hres := hid hres
      clear hbk hblk hres
      go_wp2_with fail
      refine (onlySignal_no _ (dly d xs) _ Hres.out.sl HY.out).mono ?_
      rintro e w' ⟨rfl, rfl⟩
      go_wp2
      go_ret2
      exact ⟨_, rfl, Res.nil _ _ _, hb3⟩
end Go.Proofs.Ytgpnedchlkigeaa
