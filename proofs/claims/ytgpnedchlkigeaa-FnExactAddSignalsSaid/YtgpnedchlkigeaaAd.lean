
import Derived.Test.YtgpnedchlkigeaaDm
namespace Go.Proofs.Ytgpnedchlkigeaa
open Go.RowKit BitX Go.MemX
theorem markIntS_plus (v : Value) (xs : List Int) (j B : Nat) (w : World) (hv : Res 3 B w v xs) (hl : xs.length ≤ 2000000) (hj : j ≤ 2000000) :
    Calls Try.prog 12 #[v, .int .i64 (1 + (j : Int))] w fun e w' => e = .returned (.int .i64 ((1 + j + xs.length : Nat) : Int)) ∧ OnlyV v w w' ∧ Res 3 B w' v (marks (1 + j) xs.length) := by
  have := markIntS_res v xs (1 + j) B w hv hl (by omega)
  rw [Int.natCast_add] at this
  exact this
def add (xs ys : List Int) (i : Nat) : Int := xs.getD i 0 + ys.getD i 0
def addL (xs ys : List Int) : List Int := tab (max xs.length ys.length) (add xs ys)
def addTo (xs ys : List Int) (k : Nat) (i : Nat) : Int := xs.getD i 0 + if i < k then ys.getD i 0 else 0
theorem getD_out {xs : List Int} {k : Nat} (h : xs.length ≤ k) : xs.getD k 0 = 0 := by rw [List.getD_eq_getElem?_getD, List.getElem?_eq_none h]; rfl
theorem getD_bound {xs : List Int} (h : InP (-100000) 100000 xs) (i : Nat) : -100000 ≤ xs.getD i 0 ∧ xs.getD i 0 ≤ 100000 := by
  rw [List.getD_eq_getElem?_getD]
  cases hx : xs[i]? with
  | none => simp
  | some x => exact h.at hx
theorem tab_congr {n : Nat} {d e : Nat → Int} (h : ∀ i, i < n → d i = e i) : tab n d = tab n e := List.map_congr_left fun i hi => h i (List.mem_range.1 hi)
theorem tab_set (n k : Nat) (d : Nat → Int) (v : Int) (_ : k < n) : (tab n d).set k v = tab n fun i => if i = k then v else d i := by
  apply List.ext_getElem?
  intro i
  by_cases hi : i < n
  · rw [tab_get _ _ _ hi, List.getElem?_set]
    by_cases hik : k = i
    · subst hik; simp [tab_len, hi]
    · have h2 : ¬ i = k := fun h => hik h.symm
      rw [if_neg hik, tab_get _ _ _ hi, if_neg h2]
  · rw [List.getElem?_eq_none (by rw [List.length_set, tab_len]; omega), List.getElem?_eq_none (by rw [tab_len]; omega)]
theorem addTo_start (xs ys : List Int) (n N : Nat) (hn : n = xs.length) (h : n ≤ N) : xs ++ List.replicate (N - n) 0 = tab N (addTo xs ys 0) := by
  apply List.ext_getElem?
  intro i
  by_cases hi : i < N
  · rw [tab_get _ _ _ hi]
    by_cases hx : i < n
    · rw [List.getElem?_append_left (by omega)]
      obtain ⟨x, hxx⟩ := get_lt xs i (by omega)
      rw [hxx, addTo, getD_of hxx]; simp
    · rw [List.getElem?_append_right (by omega), addTo, getD_out (by omega)]
      rw [List.getElem?_replicate, if_pos (by omega)]; simp
  · rw [List.getElem?_eq_none (by simp; omega), List.getElem?_eq_none (by rw [tab_len]; omega)]
theorem addTo_step (xs ys : List Int) (N k : Nat) (y : Int) (hk : k < N) (hy : ys[k]? = some y) : (tab N (addTo xs ys k)).set k (xs.getD k 0 + y) = tab N (addTo xs ys (k + 1)) := by
  rw [tab_set _ _ _ _ hk]
  refine tab_congr fun i _ => ?_
  unfold addTo
  by_cases h : i = k
  · subst h; rw [if_pos rfl, if_pos (by omega), getD_of hy]
  · rw [if_neg h]
    by_cases h2 : i < k
    · rw [if_pos h2, if_pos (by omega)]
    · rw [if_neg h2, if_neg (by omega)]
theorem addTo_full (xs ys : List Int) (N : Nat) : tab N (addTo xs ys ys.length) = tab N (add xs ys) := by
  refine tab_congr fun i _ => ?_
  unfold addTo add
  split
  · rfl
  · rw [getD_out (xs := ys) (by omega)]
theorem addTo_get (xs ys : List Int) (N k : Nat) (hk : k < N) : (tab N (addTo xs ys k))[k]? = some (xs.getD k 0) := by
  rw [tab_get _ _ _ hk, addTo, if_neg (by omega)]; simp

set_option maxHeartbeats 2000000 in
theorem wdAdd_any (u v : Value) (xs ys : List Int) (w : World) (hs : Sl1 w u xs) (ht : Sl1 w v ys) (hl : xs.length ≤ 64) (hl2 : ys.length ≤ 64) (hi : InP (-100000) 100000 xs) (hj : InP (-100000) 100000 ys) :
    Calls Try.prog 24 #[u, v] w (GivesL w (addL xs ys)) := by
  obtain ⟨b, off, n, cap, rfl, hn, hc, hlt, hcell⟩ := hs
  obtain ⟨b2, off2, m, cap2, rfl, hm, hc2, hlt2, hcell2⟩ := ht
  have hs' : Sl w (.slice (some ⟨b, off, none⟩) n cap) xs := Sl1.sl ⟨b, off, n, cap, rfl, hn, hc, hlt, hcell⟩
  have ht' : Sl w (.slice (some ⟨b2, off2, none⟩) m cap2) ys := Sl1.sl ⟨b2, off2, m, cap2, rfl, hm, hc2, hlt2, hcell2⟩
  have Hn := hid hn
  have Hm := hid hm
  have Hcell := hid hcell
  have Hcell2 := hid hcell2
  have HI := hid hi
  have HJ := hid hj
  have hl' : n ≤ 64 := by omega
  have hm' : m ≤ 64 := by omega
  obtain ⟨N, hN⟩ : ∃ N, N = max n m := ⟨_, rfl⟩
  have hN1 : n ≤ N := by omega
  have hN2 : m ≤ N := by omega
  have hN3 : ∀ k, k < N → k < n ∨ k < m := fun k hk => by omega
  have HN := hid hN
  have HN3 := hid hN3
  have hN4 : N ≤ 64 := by omega
  clear hs' ht' hn hm hcell hcell2 hl hl2 hi hj hN hN3
  obtain ⟨i0, hi0, hz0, hz1, hz2⟩ := info_parts iint
  go_enter Try.func24, Try.ntmps24
  go_wp2
  go_loopw [5, 6] (fun v i wr => ∃ k : Nat, k ≤ N ∧ i = .int .i64 k ∧ wr.ownsRow w.heap.size 3 1 v k ((tab k (add xs ys)).map (Value.int .i64)) ∧ Below w.heap.size w wr)
    (fun _ i _ => N - (intOf i).toNat)
  case atStart => exact ⟨0, by omega, rfl, World.ownsRow_nil _ _ _ _, Below.refl _ _⟩
  case round =>
    obtain ⟨k, hk, rfl, hown, hb⟩ := hrel
    have hsz : w.heap.size ≤ wr.heap.size := hb.size
    by_cases hka : k < n
    · by_cases hkb : k < m
      · skip
        obtain ⟨x, hkx⟩ := get_lt xs k (by rw [← Hn.out]; exact hka)
        have hce : wr.cell? ⟨b, off + k, none⟩ = some (.int .i64 x) := by rw [hb.cell (by exact hlt)]; exact Hcell.out k x hkx
        obtain ⟨x1, x2⟩ := HI.out.at hkx
        obtain ⟨y, hky⟩ := get_lt ys k (by rw [← Hm.out]; exact hkb)
        have hcf : wr.cell? ⟨b2, off2 + k, none⟩ = some (.int .i64 y) := by rw [hb.cell (by exact hlt2)]; exact Hcell2.out k y hky
        obtain ⟨y1, y2⟩ := HJ.out.at hky
        have hst : tab (k + 1) (add xs ys) = tab k (add xs ys) ++ [x + y] := by rw [tab_step]; congr 2 <;> (rw [add, getD_of hkx, getD_of hky])
        generalize hys : tab k (add xs ys) = zs at hst hown
        have Hob := hid (ownsRow_base hown)
        have Hst := hid hst
        have Hown := hid hown
        clear hst hown hys hkx hky
        go_wp2_with (at_builtin; refine wpList_append_own _ rfl _ _ 22 rfl w.heap.size 3 i0 (.int .i64 0) 1 8 uslice hi0 hz0 hz1 hz2 rfl (by decide) _ _ _ rfl (Hown.out.alloc _) ⟨wr.heap.size, 0, none⟩ 1 1 [.int .i64 (x + y)] rfl rfl ?c1 ?c2 ?c3 ?c4 ?c5 ?_)
        case c1 => exact cell_one_new _ _ _
        case c2 => intro u hu; simp at hu; subst hu; rfl
        case c3 => unfold maxLen; omega
        case c4 => omega
        case c5 => simp; omega
        · intro v' w3 hown3 hgrow _
          have hb3 : Below w.heap.size w w3 := (hb.alloc hsz _).grown hgrow (by simp; omega) (fun j hj => Hob.out j hj)
          have Hown3 := hid hown3
          clear hown3 hgrow
          go_wp2
          go_roundw
          case rel => exact ⟨k + 1, by omega, by go_num, by rw [Hst.out, List.map_append]; exact Hown3.out, hb3⟩
          case measure => simp [intOf]; omega
      · have hkb2 : (m : Int) ≤ (k : Int) := by omega
        have hkc : ys.getD k 0 = 0 := getD_out (by have := Hm.out; omega)
        obtain ⟨x, hkx⟩ := get_lt xs k (by rw [← Hn.out]; exact hka)
        have hce : wr.cell? ⟨b, off + k, none⟩ = some (.int .i64 x) := by rw [hb.cell (by exact hlt)]; exact Hcell.out k x hkx
        obtain ⟨x1, x2⟩ := HI.out.at hkx
        have hst : tab (k + 1) (add xs ys) = tab k (add xs ys) ++ [x] := by rw [tab_step]; congr 2 <;> (rw [add, getD_of hkx, hkc, Int.add_zero])
        generalize hys : tab k (add xs ys) = zs at hst hown
        have Hob := hid (ownsRow_base hown)
        have Hst := hid hst
        have Hown := hid hown
        clear hst hown hys hkx hkc hkb
        go_wp2_with (at_builtin; refine wpList_append_own _ rfl _ _ 22 rfl w.heap.size 3 i0 (.int .i64 0) 1 8 uslice hi0 hz0 hz1 hz2 rfl (by decide) _ _ _ rfl (Hown.out.alloc _) ⟨wr.heap.size, 0, none⟩ 1 1 [.int .i64 (x)] rfl rfl ?c1 ?c2 ?c3 ?c4 ?c5 ?_)
        case c1 => exact cell_one_new _ _ _
        case c2 => intro u hu; simp at hu; subst hu; rfl
        case c3 => unfold maxLen; omega
        case c4 => omega
        case c5 => simp; omega
        · intro v' w3 hown3 hgrow _
          have hb3 : Below w.heap.size w w3 := (hb.alloc hsz _).grown hgrow (by simp; omega) (fun j hj => Hob.out j hj)
          have Hown3 := hid hown3
          clear hown3 hgrow
          go_wp2
          go_roundw
          case rel => exact ⟨k + 1, by omega, by go_num, by rw [Hst.out, List.map_append]; exact Hown3.out, hb3⟩
          case measure => simp [intOf]; omega
    · by_cases hkb : k < m
      · have hka2 : (n : Int) ≤ (k : Int) := by omega
        have hkc : xs.getD k 0 = 0 := getD_out (by have := Hn.out; omega)
        obtain ⟨y, hky⟩ := get_lt ys k (by rw [← Hm.out]; exact hkb)
        have hcf : wr.cell? ⟨b2, off2 + k, none⟩ = some (.int .i64 y) := by rw [hb.cell (by exact hlt2)]; exact Hcell2.out k y hky
        obtain ⟨y1, y2⟩ := HJ.out.at hky
        have hst : tab (k + 1) (add xs ys) = tab k (add xs ys) ++ [y] := by rw [tab_step]; congr 2 <;> (rw [add, getD_of hky, hkc, Int.zero_add])
        generalize hys : tab k (add xs ys) = zs at hst hown
        have Hob := hid (ownsRow_base hown)
        have Hst := hid hst
        have Hown := hid hown
        clear hst hown hys hky hkc hka
        go_wp2_with (at_builtin; refine wpList_append_own _ rfl _ _ 22 rfl w.heap.size 3 i0 (.int .i64 0) 1 8 uslice hi0 hz0 hz1 hz2 rfl (by decide) _ _ _ rfl (Hown.out.alloc _) ⟨wr.heap.size, 0, none⟩ 1 1 [.int .i64 (y)] rfl rfl ?c1 ?c2 ?c3 ?c4 ?c5 ?_)
        case c1 => exact cell_one_new _ _ _
        case c2 => intro u hu; simp at hu; subst hu; rfl
        case c3 => unfold maxLen; omega
        case c4 => omega
        case c5 => simp; omega
        · intro v' w3 hown3 hgrow _
          have hb3 : Below w.heap.size w w3 := (hb.alloc hsz _).grown hgrow (by simp; omega) (fun j hj => Hob.out j hj)
          have Hown3 := hid hown3
          clear hown3 hgrow
          go_wp2
          go_roundw
          case rel => exact ⟨k + 1, by omega, by go_num, by rw [Hst.out, List.map_append]; exact Hown3.out, hb3⟩
          case measure => simp [intOf]; omega
      · have hka2 : (n : Int) ≤ (k : Int) := by omega
        have hkb2 : (m : Int) ≤ (k : Int) := by omega
        have hkN : k = N := by
          by_cases h : k < N
          · have := HN3.out k h; omega
          · omega
        have Hk := hid hkN
        have Hown := hid hown
        clear hka hkb hkN hown
        go_wp2
        go_ret
        have ho := Hown.out
        rw [Hk.out, HN.out, Hn.out, Hm.out] at ho
        exact ⟨_, rfl, Res.owns (by rw [addL, tab_len]; exact ho), hb⟩

set_option maxHeartbeats 400000 in
theorem spec_AddSignals_yes (u v : Value) (xs ys : List Int) (w : World) (hs : Sl1 w u xs) (ht : Sl1 w v ys) (h : SigP xs) (h2 : SigP ys) (hy : SigP (addL xs ys)) :
    Calls Try.prog 8 #[u, v] w (Gives w (addL xs ys) true) := by
  have HS1 := hid hs
  have HT1 := hid ht
  have HS := hid hs.sl
  have HT := hid ht.sl
  have H := hid h
  have H2 := hid h2
  have HY := hid hy
  clear hs ht h h2 hy
  go_enter Try.func8, Try.ntmps8
  go_wp2_with fail
  refine (wdSignal_yes _ xs _ HS.out H.out).mono ?_
  rintro e w' ⟨rfl, rfl⟩
  go_wp2_with fail
  refine (wdSignal_yes _ ys _ HT.out H2.out).mono ?_
  rintro e w' ⟨rfl, rfl⟩
  go_wp2_with fail
  refine (wdAdd_any _ _ xs ys _ HS1.out HT1.out H.out.1 H2.out.1 H.out.2 H2.out.2).mono ?_
  rintro e w1 ⟨u1, rfl, R, hb⟩
  go_wp2_with fail
  refine (wdIf_yes _ (addL xs ys) _ R.sl HY.out).mono ?_
  rintro e w' ⟨rfl, rfl⟩
  go_wp2
  go_ret2
  exact ⟨_, rfl, R, hb⟩

set_option maxHeartbeats 2000000 in
theorem impl_AddSignals_yes (u v : Value) (xs ys : List Int) (w : World) (hs : Sl1 w u xs) (ht : Sl1 w v ys) (h : SigP xs) (h2 : SigP ys) (hy : SigP (addL xs ys)) :
    Calls Try.prog 10 #[u, v] w (Gives w (addL xs ys) true) := by
  obtain ⟨b, off, n, cap, rfl, hn, hc, hlt, hcell⟩ := hs
  obtain ⟨b2, off2, m, cap2, rfl, hm, hc2, hlt2, hcell2⟩ := ht
  have hs' : Sl w (.slice (some ⟨b, off, none⟩) n cap) xs := Sl1.sl ⟨b, off, n, cap, rfl, hn, hc, hlt, hcell⟩
  have ht' : Sl w (.slice (some ⟨b2, off2, none⟩) m cap2) ys := Sl1.sl ⟨b2, off2, m, cap2, rfl, hm, hc2, hlt2, hcell2⟩
  have HS := hid hs'
  have HT := hid ht'
  have H := hid h
  have H2 := hid h2
  have HY := hid hy
  have Hn := hid hn
  have Hm := hid hm
  have Hcell := hid hcell
  have Hcell2 := hid hcell2
  have hl' : n ≤ 64 := by rw [hn]; exact h.1
  have hm' : m ≤ 64 := by rw [hm]; exact h2.1
  clear hs' ht' h h2 hy hn hm hcell hcell2
  by_cases hnm : n < m
  · skip
    have hmk := run_make_ints (P := Try.prog) 22 3 uslice iint m (by omega)
    have hNe : m = max xs.length ys.length := by rw [← Hn.out, ← Hm.out]; omega
    have HN := hid hNe
    clear hNe
    go_enter Try.func10, Try.ntmps10
    go_wp2_with fail
    refine (impl_IsSignal_yes _ xs _ HS.out (Nat.le_trans H.out.1 (by omega)) H.out).mono ?_
    rintro e w' ⟨rfl, rfl⟩
    go_wp2_with fail
    refine (impl_IsSignal_yes _ ys _ HT.out (Nat.le_trans H2.out.1 (by omega)) H2.out).mono ?_
    rintro e w' ⟨rfl, rfl⟩
    go_wp2_with (with_reducible refine wpList_copy_splice rfl (.tmp 23) (.tmp 24) 22 22 rfl 3 uslice ?s1 _ _ _ _ _ _ rfl rfl w.heap.size 0 ((List.replicate m 0).map (Value.int .i64)) 3 ?hg (xs.map (Value.int .i64)) ?hn ?hpos ?hfit ?h1 w.heap.size w ?hb (Nat.le_refl _) ?_)
    case s1 => kernel_rfl
    case hg => exact heap_alloc_new _ _
    case hn => rw [List.length_map, ← Hn.out]; first | exact (Nat.min_eq_left (by omega)).symm | exact (Nat.min_self n).symm
    case hpos =>
      intro _
      first
        | (intro j x hx; exact Hcell.out j x hx)
        | (refine ⟨by first | rfl | simp, ?_⟩; intro j x hx; exact Hcell.out j x hx)
    case hfit => have := Hn.out; simp; omega
    case h1 => intro z hz; obtain ⟨x, _, rfl⟩ := List.mem_map.1 hz; rfl
    case hb => exact bel_alloc _ _
    · intro w3 hbk hb3
      have hblk3 : Blk 3 w3 w.heap.size (tab m (addTo xs ys 0)) := by
        have hh := hbk.out
        have hnn := Hn.out
        rw [← addTo_start xs ys n m hnn (by omega)]
        unfold Blk
        rw [hh]
        congr 2
        simp [splice, intsA, hnn]
      have Hblk3 := hid hblk3
      clear hbk hblk3
      go_wp2
      go_loopw [28] (fun i wr => ∃ k : Nat, k ≤ m ∧ i = .int .i64 k ∧ Blk 3 wr w.heap.size (tab m (addTo xs ys k)) ∧ Below w.heap.size w wr)
        (fun i _ => m - (intOf i).toNat)
      case atStart => exact ⟨0, by omega, rfl, Hblk3.out, hb3⟩
      case round =>
        obtain ⟨k, hk, rfl, hblk, hb⟩ := hrel
        by_cases hlk : k < m
        · obtain ⟨y, hky⟩ := get_lt ys k (by rw [← Hm.out]; exact hlk)
          have hcf : wr.cell? ⟨b2, off2 + k, none⟩ = some (.int .i64 y) := by rw [hb.cell (by exact hlt2)]; exact Hcell2.out k y hky
          obtain ⟨y1, y2⟩ := H2.out.2.at hky
          have hkN : k < m := by omega
          have hcd := hblk.cell (addTo_get xs ys m k hkN)
          obtain ⟨c1, c2⟩ := getD_bound H.out.2 k
          have hstp := addTo_step xs ys m k y hkN hky
          have hfd := hblk.free k
          have hsz : w.heap.size < wr.heap.size := hblk.lt
          have Hstp := hid hstp
          have Hblk := hid hblk
          clear hky hblk hstp
          generalize hcg : xs.getD k 0 = c at hcd c1 c2
          have Hcg := hid hcg
          clear hcg
          go_wp2_with fail
          refine (sum2_any _ c y _ (by first | exact Sl.two _ _ _ _ | exact (Sl.two _ _ _ _).drew) (by omega) (by omega) (by omega) (by omega)).mono ?_
          rintro e w' ⟨rfl, rfl⟩
          go_wp2
          go_roundw
          case rel => exact ⟨k + 1, by omega, by go_num, by rw [← Hstp.out, Hcg.out]; exact (Hblk.out.set k _).kept (bel_alloc _ _) (Hblk.out.set k _).lt, (hb.setCell (Nat.le_refl _) _).alloc (by simp; omega) _⟩
          case measure => simp [intOf]; omega
        · have hge : (m : Int) ≤ (k : Int) := by omega
          have hkm : k = ys.length := by rw [← Hm.out]; omega
          rw [hkm, addTo_full] at hblk
          have hres : Res 3 w.heap.size wr (.slice (some ⟨w.heap.size, 0, none⟩) m m) (addL xs ys) := by
            have := hblk.res (Nat.le_refl _)
            rw [tab_len] at this
            rw [addL, ← HN.out]; exact this
          have hsl := hres.sl
          have Hsl := hid hsl
          clear hkm hlk hblk hsl
          go_wp2_with fail
          refine (onlySignal_yes _ (addL xs ys) _ Hsl.out HY.out).mono ?_
          rintro e w' ⟨rfl, rfl⟩
          go_wp2
          go_ret2
          exact ⟨_, rfl, hres, hb⟩
  · have hnm2 : m ≤ n := by omega
    clear hnm
    have hmk := run_make_ints (P := Try.prog) 22 3 uslice iint n (by omega)
    have hNe : n = max xs.length ys.length := by rw [← Hn.out, ← Hm.out]; omega
    have HN := hid hNe
    clear hNe
    go_enter Try.func10, Try.ntmps10
    go_wp2_with fail
    refine (impl_IsSignal_yes _ xs _ HS.out (Nat.le_trans H.out.1 (by omega)) H.out).mono ?_
    rintro e w' ⟨rfl, rfl⟩
    go_wp2_with fail
    refine (impl_IsSignal_yes _ ys _ HT.out (Nat.le_trans H2.out.1 (by omega)) H2.out).mono ?_
    rintro e w' ⟨rfl, rfl⟩
    go_wp2_with (with_reducible refine wpList_copy_splice rfl (.tmp 23) (.tmp 24) 22 22 rfl 3 uslice ?s1 _ _ _ _ _ _ rfl rfl w.heap.size 0 ((List.replicate n 0).map (Value.int .i64)) 3 ?hg (xs.map (Value.int .i64)) ?hn ?hpos ?hfit ?h1 w.heap.size w ?hb (Nat.le_refl _) ?_)
    case s1 => kernel_rfl
    case hg => exact heap_alloc_new _ _
    case hn => rw [List.length_map, ← Hn.out]; first | exact (Nat.min_eq_left (by omega)).symm | exact (Nat.min_self n).symm
    case hpos =>
      intro _
      first
        | (intro j x hx; exact Hcell.out j x hx)
        | (refine ⟨by first | rfl | simp, ?_⟩; intro j x hx; exact Hcell.out j x hx)
    case hfit => have := Hn.out; simp; omega
    case h1 => intro z hz; obtain ⟨x, _, rfl⟩ := List.mem_map.1 hz; rfl
    case hb => exact bel_alloc _ _
    · intro w3 hbk hb3
      have hblk3 : Blk 3 w3 w.heap.size (tab n (addTo xs ys 0)) := by
        have hh := hbk.out
        have hnn := Hn.out
        rw [← addTo_start xs ys n n hnn (by omega)]
        unfold Blk
        rw [hh]
        congr 2
        simp [splice, intsA, hnn]
      have Hblk3 := hid hblk3
      clear hbk hblk3
      go_wp2
      go_loopw [28] (fun i wr => ∃ k : Nat, k ≤ m ∧ i = .int .i64 k ∧ Blk 3 wr w.heap.size (tab n (addTo xs ys k)) ∧ Below w.heap.size w wr)
        (fun i _ => m - (intOf i).toNat)
      case atStart => exact ⟨0, by omega, rfl, Hblk3.out, hb3⟩
      case round =>
        obtain ⟨k, hk, rfl, hblk, hb⟩ := hrel
        by_cases hlk : k < m
        · obtain ⟨y, hky⟩ := get_lt ys k (by rw [← Hm.out]; exact hlk)
          have hcf : wr.cell? ⟨b2, off2 + k, none⟩ = some (.int .i64 y) := by rw [hb.cell (by exact hlt2)]; exact Hcell2.out k y hky
          obtain ⟨y1, y2⟩ := H2.out.2.at hky
          have hkN : k < n := by omega
          have hcd := hblk.cell (addTo_get xs ys n k hkN)
          obtain ⟨c1, c2⟩ := getD_bound H.out.2 k
          have hstp := addTo_step xs ys n k y hkN hky
          have hfd := hblk.free k
          have hsz : w.heap.size < wr.heap.size := hblk.lt
          have Hstp := hid hstp
          have Hblk := hid hblk
          clear hky hblk hstp
          generalize hcg : xs.getD k 0 = c at hcd c1 c2
          have Hcg := hid hcg
          clear hcg
          go_wp2_with fail
          refine (sum2_any _ c y _ (by first | exact Sl.two _ _ _ _ | exact (Sl.two _ _ _ _).drew) (by omega) (by omega) (by omega) (by omega)).mono ?_
          rintro e w' ⟨rfl, rfl⟩
          go_wp2
          go_roundw
          case rel => exact ⟨k + 1, by omega, by go_num, by rw [← Hstp.out, Hcg.out]; exact (Hblk.out.set k _).kept (bel_alloc _ _) (Hblk.out.set k _).lt, (hb.setCell (Nat.le_refl _) _).alloc (by simp; omega) _⟩
          case measure => simp [intOf]; omega
        · have hge : (m : Int) ≤ (k : Int) := by omega
          have hkm : k = ys.length := by rw [← Hm.out]; omega
          rw [hkm, addTo_full] at hblk
          have hres : Res 3 w.heap.size wr (.slice (some ⟨w.heap.size, 0, none⟩) n n) (addL xs ys) := by
            have := hblk.res (Nat.le_refl _)
            rw [tab_len] at this
            rw [addL, ← HN.out]; exact this
          have hsl := hres.sl
          have Hsl := hid hsl
          clear hkm hlk hblk hsl
          go_wp2_with fail
          refine (onlySignal_yes _ (addL xs ys) _ Hsl.out HY.out).mono ?_
          rintro e w' ⟨rfl, rfl⟩
          go_wp2
          go_ret2
          exact ⟨_, rfl, hres, hb⟩

set_option maxHeartbeats 400000 in
theorem spec_AddSignals_out (u v : Value) (xs ys : List Int) (w : World) (hs : Sl1 w u xs) (ht : Sl1 w v ys) (h : SigP xs) (h2 : SigP ys) (hy : ¬ SigP (addL xs ys)) :
    Calls Try.prog 8 #[u, v] w (Gives w [] false) := by
  have HS1 := hid hs
  have HT1 := hid ht
  have HS := hid hs.sl
  have HT := hid ht.sl
  have H := hid h
  have H2 := hid h2
  have HY := hid hy
  clear hs ht h h2 hy
  go_enter Try.func8, Try.ntmps8
  go_wp2_with fail
  refine (wdSignal_yes _ xs _ HS.out H.out).mono ?_
  rintro e w' ⟨rfl, rfl⟩
  go_wp2_with fail
  refine (wdSignal_yes _ ys _ HT.out H2.out).mono ?_
  rintro e w' ⟨rfl, rfl⟩
  go_wp2_with fail
  refine (wdAdd_any _ _ xs ys _ HS1.out HT1.out H.out.1 H2.out.1 H.out.2 H2.out.2).mono ?_
  rintro e w1 ⟨u1, rfl, R, hb⟩
  go_wp2_with fail
  refine (wdIf_no _ (addL xs ys) _ R.sl HY.out).mono ?_
  rintro e w' ⟨rfl, rfl⟩
  go_wp2
  go_ret2
  exact ⟨_, rfl, Res.nil _ _ _, hb⟩

set_option maxHeartbeats 2000000 in
theorem impl_AddSignals_out (u v : Value) (xs ys : List Int) (w : World) (hs : Sl1 w u xs) (ht : Sl1 w v ys) (h : SigP xs) (h2 : SigP ys) (hy : ¬ SigP (addL xs ys)) :
    Calls Try.prog 10 #[u, v] w (Gives w [] false) := by
  obtain ⟨b, off, n, cap, rfl, hn, hc, hlt, hcell⟩ := hs
  obtain ⟨b2, off2, m, cap2, rfl, hm, hc2, hlt2, hcell2⟩ := ht
  have hs' : Sl w (.slice (some ⟨b, off, none⟩) n cap) xs := Sl1.sl ⟨b, off, n, cap, rfl, hn, hc, hlt, hcell⟩
  have ht' : Sl w (.slice (some ⟨b2, off2, none⟩) m cap2) ys := Sl1.sl ⟨b2, off2, m, cap2, rfl, hm, hc2, hlt2, hcell2⟩
  have HS := hid hs'
  have HT := hid ht'
  have H := hid h
  have H2 := hid h2
  have HY := hid hy
  have Hn := hid hn
  have Hm := hid hm
  have Hcell := hid hcell
  have Hcell2 := hid hcell2
  have hl' : n ≤ 64 := by rw [hn]; exact h.1
  have hm' : m ≤ 64 := by rw [hm]; exact h2.1
  clear hs' ht' h h2 hy hn hm hcell hcell2
  by_cases hnm : n < m
  · skip
    have hmk := run_make_ints (P := Try.prog) 22 3 uslice iint m (by omega)
    have hNe : m = max xs.length ys.length := by rw [← Hn.out, ← Hm.out]; omega
    have HN := hid hNe
    clear hNe
    go_enter Try.func10, Try.ntmps10
    go_wp2_with fail
    refine (impl_IsSignal_yes _ xs _ HS.out (Nat.le_trans H.out.1 (by omega)) H.out).mono ?_
    rintro e w' ⟨rfl, rfl⟩
    go_wp2_with fail
    refine (impl_IsSignal_yes _ ys _ HT.out (Nat.le_trans H2.out.1 (by omega)) H2.out).mono ?_
    rintro e w' ⟨rfl, rfl⟩
    go_wp2_with (with_reducible refine wpList_copy_splice rfl (.tmp 23) (.tmp 24) 22 22 rfl 3 uslice ?s1 _ _ _ _ _ _ rfl rfl w.heap.size 0 ((List.replicate m 0).map (Value.int .i64)) 3 ?hg (xs.map (Value.int .i64)) ?hn ?hpos ?hfit ?h1 w.heap.size w ?hb (Nat.le_refl _) ?_)
    case s1 => kernel_rfl
    case hg => exact heap_alloc_new _ _
    case hn => rw [List.length_map, ← Hn.out]; first | exact (Nat.min_eq_left (by omega)).symm | exact (Nat.min_self n).symm
    case hpos =>
      intro _
      first
        | (intro j x hx; exact Hcell.out j x hx)
        | (refine ⟨by first | rfl | simp, ?_⟩; intro j x hx; exact Hcell.out j x hx)
    case hfit => have := Hn.out; simp; omega
    case h1 => intro z hz; obtain ⟨x, _, rfl⟩ := List.mem_map.1 hz; rfl
    case hb => exact bel_alloc _ _
    · intro w3 hbk hb3
      have hblk3 : Blk 3 w3 w.heap.size (tab m (addTo xs ys 0)) := by
        have hh := hbk.out
        have hnn := Hn.out
        rw [← addTo_start xs ys n m hnn (by omega)]
        unfold Blk
        rw [hh]
        congr 2
        simp [splice, intsA, hnn]
      have Hblk3 := hid hblk3
      clear hbk hblk3
      go_wp2
      go_loopw [28] (fun i wr => ∃ k : Nat, k ≤ m ∧ i = .int .i64 k ∧ Blk 3 wr w.heap.size (tab m (addTo xs ys k)) ∧ Below w.heap.size w wr)
        (fun i _ => m - (intOf i).toNat)
      case atStart => exact ⟨0, by omega, rfl, Hblk3.out, hb3⟩
      case round =>
        obtain ⟨k, hk, rfl, hblk, hb⟩ := hrel
        by_cases hlk : k < m
        · obtain ⟨y, hky⟩ := get_lt ys k (by rw [← Hm.out]; exact hlk)
          have hcf : wr.cell? ⟨b2, off2 + k, none⟩ = some (.int .i64 y) := by rw [hb.cell (by exact hlt2)]; exact Hcell2.out k y hky
          obtain ⟨y1, y2⟩ := H2.out.2.at hky
          have hkN : k < m := by omega
          have hcd := hblk.cell (addTo_get xs ys m k hkN)
          obtain ⟨c1, c2⟩ := getD_bound H.out.2 k
          have hstp := addTo_step xs ys m k y hkN hky
          have hfd := hblk.free k
          have hsz : w.heap.size < wr.heap.size := hblk.lt
          have Hstp := hid hstp
          have Hblk := hid hblk
          clear hky hblk hstp
          generalize hcg : xs.getD k 0 = c at hcd c1 c2
          have Hcg := hid hcg
          clear hcg
          go_wp2_with fail
          refine (sum2_any _ c y _ (by first | exact Sl.two _ _ _ _ | exact (Sl.two _ _ _ _).drew) (by omega) (by omega) (by omega) (by omega)).mono ?_
          rintro e w' ⟨rfl, rfl⟩
          go_wp2
          go_roundw
          case rel => exact ⟨k + 1, by omega, by go_num, by rw [← Hstp.out, Hcg.out]; exact (Hblk.out.set k _).kept (bel_alloc _ _) (Hblk.out.set k _).lt, (hb.setCell (Nat.le_refl _) _).alloc (by simp; omega) _⟩
          case measure => simp [intOf]; omega
        · have hge : (m : Int) ≤ (k : Int) := by omega
          have hkm : k = ys.length := by rw [← Hm.out]; omega
          rw [hkm, addTo_full] at hblk
          have hres : Res 3 w.heap.size wr (.slice (some ⟨w.heap.size, 0, none⟩) m m) (addL xs ys) := by
            have := hblk.res (Nat.le_refl _)
            rw [tab_len] at this
            rw [addL, ← HN.out]; exact this
          have hsl := hres.sl
          have Hsl := hid hsl
          clear hkm hlk hblk hsl
          go_wp2_with fail
          refine (onlySignal_no _ (addL xs ys) _ Hsl.out HY.out).mono ?_
          rintro e w' ⟨rfl, rfl⟩
          go_wp2
          go_ret2
          exact ⟨_, rfl, Res.nil _ _ _, hb⟩
  · have hnm2 : m ≤ n := by omega
    clear hnm
    have hmk := run_make_ints (P := Try.prog) 22 3 uslice iint n (by omega)
    have hNe : n = max xs.length ys.length := by rw [← Hn.out, ← Hm.out]; omega
    have HN := hid hNe
    clear hNe
    go_enter Try.func10, Try.ntmps10
    go_wp2_with fail
    refine (impl_IsSignal_yes _ xs _ HS.out (Nat.le_trans H.out.1 (by omega)) H.out).mono ?_
    rintro e w' ⟨rfl, rfl⟩
    go_wp2_with fail
    refine (impl_IsSignal_yes _ ys _ HT.out (Nat.le_trans H2.out.1 (by omega)) H2.out).mono ?_
    rintro e w' ⟨rfl, rfl⟩
    go_wp2_with (with_reducible refine wpList_copy_splice rfl (.tmp 23) (.tmp 24) 22 22 rfl 3 uslice ?s1 _ _ _ _ _ _ rfl rfl w.heap.size 0 ((List.replicate n 0).map (Value.int .i64)) 3 ?hg (xs.map (Value.int .i64)) ?hn ?hpos ?hfit ?h1 w.heap.size w ?hb (Nat.le_refl _) ?_)
    case s1 => kernel_rfl
    case hg => exact heap_alloc_new _ _
    case hn => rw [List.length_map, ← Hn.out]; first | exact (Nat.min_eq_left (by omega)).symm | exact (Nat.min_self n).symm
    case hpos =>
      intro _
      first
        | (intro j x hx; exact Hcell.out j x hx)
        | (refine ⟨by first | rfl | simp, ?_⟩; intro j x hx; exact Hcell.out j x hx)
    case hfit => have := Hn.out; simp; omega
    case h1 => intro z hz; obtain ⟨x, _, rfl⟩ := List.mem_map.1 hz; rfl
    case hb => exact bel_alloc _ _
    · intro w3 hbk hb3
      have hblk3 : Blk 3 w3 w.heap.size (tab n (addTo xs ys 0)) := by
        have hh := hbk.out
        have hnn := Hn.out
        rw [← addTo_start xs ys n n hnn (by omega)]
        unfold Blk
        rw [hh]
        congr 2
        simp [splice, intsA, hnn]
      have Hblk3 := hid hblk3
      clear hbk hblk3
      go_wp2
      go_loopw [28] (fun i wr => ∃ k : Nat, k ≤ m ∧ i = .int .i64 k ∧ Blk 3 wr w.heap.size (tab n (addTo xs ys k)) ∧ Below w.heap.size w wr)
        (fun i _ => m - (intOf i).toNat)
      case atStart => exact ⟨0, by omega, rfl, Hblk3.out, hb3⟩
      case round =>
        obtain ⟨k, hk, rfl, hblk, hb⟩ := hrel
        by_cases hlk : k < m
        · obtain ⟨y, hky⟩ := get_lt ys k (by rw [← Hm.out]; exact hlk)
          have hcf : wr.cell? ⟨b2, off2 + k, none⟩ = some (.int .i64 y) := by rw [hb.cell (by exact hlt2)]; exact Hcell2.out k y hky
          obtain ⟨y1, y2⟩ := H2.out.2.at hky
          have hkN : k < n := by omega
          have hcd := hblk.cell (addTo_get xs ys n k hkN)
          obtain ⟨c1, c2⟩ := getD_bound H.out.2 k
          have hstp := addTo_step xs ys n k y hkN hky
          have hfd := hblk.free k
          have hsz : w.heap.size < wr.heap.size := hblk.lt
          have Hstp := hid hstp
          have Hblk := hid hblk
          clear hky hblk hstp
          generalize hcg : xs.getD k 0 = c at hcd c1 c2
          have Hcg := hid hcg
          clear hcg
          go_wp2_with fail
          refine (sum2_any _ c y _ (by first | exact Sl.two _ _ _ _ | exact (Sl.two _ _ _ _).drew) (by omega) (by omega) (by omega) (by omega)).mono ?_
          rintro e w' ⟨rfl, rfl⟩
          go_wp2
          go_roundw
          case rel => exact ⟨k + 1, by omega, by go_num, by rw [← Hstp.out, Hcg.out]; exact (Hblk.out.set k _).kept (bel_alloc _ _) (Hblk.out.set k _).lt, (hb.setCell (Nat.le_refl _) _).alloc (by simp; omega) _⟩
          case measure => simp [intOf]; omega
        · have hge : (m : Int) ≤ (k : Int) := by omega
          have hkm : k = ys.length := by rw [← Hm.out]; omega
          rw [hkm, addTo_full] at hblk
          have hres : Res 3 w.heap.size wr (.slice (some ⟨w.heap.size, 0, none⟩) n n) (addL xs ys) := by
            have := hblk.res (Nat.le_refl _)
            rw [tab_len] at this
            rw [addL, ← HN.out]; exact this
          have hsl := hres.sl
          have Hsl := hid hsl
          clear hkm hlk hblk hsl
          go_wp2_with fail
          refine (onlySignal_no _ (addL xs ys) _ Hsl.out HY.out).mono ?_
          rintro e w' ⟨rfl, rfl⟩
          go_wp2
          go_ret2
          exact ⟨_, rfl, Res.nil _ _ _, hb⟩

set_option maxHeartbeats 400000 in
theorem spec_AddSignals_no1 (u v : Value) (xs : List Int) (w : World) (hs : Sl w u xs) (h : ¬ SigP xs) :
    Calls Try.prog 8 #[u, v] w (Gives w [] false) := by
  have H := hid h
  clear h
  have HS := hid hs
  clear hs
  go_enter Try.func8, Try.ntmps8
  go_wp2_with fail
  refine (wdSignal_no _ xs _ HS.out H.out).mono ?_
  rintro e w' ⟨rfl, rfl⟩
  go_wp2
  go_ret2
  exact ⟨_, rfl, Res.nil _ _ _, Below.refl _ _⟩

set_option maxHeartbeats 400000 in
theorem spec_AddSignals_no2 (u v : Value) (xs ys : List Int) (w : World) (hs : Sl w u xs) (ht : Sl w v ys) (h : SigP xs) (h2 : ¬ SigP ys) :
    Calls Try.prog 8 #[u, v] w (Gives w [] false) := by
  have H := hid h
  clear h
  have H2 := hid h2
  clear h2
  have HS := hid hs
  clear hs
  have HT := hid ht
  clear ht
  go_enter Try.func8, Try.ntmps8
  go_wp2_with fail
  refine (wdSignal_yes _ xs _ HS.out H.out).mono ?_
  rintro e w' ⟨rfl, rfl⟩
  go_wp2_with fail
  refine (wdSignal_no _ ys _ HT.out H2.out).mono ?_
  rintro e w' ⟨rfl, rfl⟩
  go_wp2
  go_ret2
  exact ⟨_, rfl, Res.nil _ _ _, Below.refl _ _⟩

set_option maxHeartbeats 400000 in
theorem impl_AddSignals_no1 (u v : Value) (xs : List Int) (w : World) (hs : Sl w u xs) (h : ¬ SigP xs) :
    Calls Try.prog 10 #[u, v] w (Gives w [] false) := by
  have H := hid h
  clear h
  have HS := hid hs
  clear hs
  go_enter Try.func10, Try.ntmps10
  go_wp2_with fail
  refine (impl_IsSignal_no _ xs _ HS.out H.out).mono ?_
  rintro e w' ⟨rfl, rfl⟩
  go_wp2
  go_ret2
  exact ⟨_, rfl, Res.nil _ _ _, Below.refl _ _⟩

set_option maxHeartbeats 400000 in
theorem impl_AddSignals_no2 (u v : Value) (xs ys : List Int) (w : World) (hs : Sl w u xs) (ht : Sl w v ys) (h : SigP xs) (h2 : ¬ SigP ys) :
    Calls Try.prog 10 #[u, v] w (Gives w [] false) := by
  have H := hid h
  clear h
  have H2 := hid h2
  clear h2
  have HS := hid hs
  clear hs
  have HT := hid ht
  clear ht
  go_enter Try.func10, Try.ntmps10
  go_wp2_with fail
  refine (impl_IsSignal_yes _ xs _ HS.out (Nat.le_trans H.out.1 (by omega)) H.out).mono ?_
  rintro e w' ⟨rfl, rfl⟩
  go_wp2_with fail
  refine (impl_IsSignal_no _ ys _ HT.out H2.out).mono ?_
  rintro e w' ⟨rfl, rfl⟩
  go_wp2
  go_ret2
  exact ⟨_, rfl, Res.nil _ _ _, Below.refl _ _⟩
end Go.Proofs.Ytgpnedchlkigeaa
