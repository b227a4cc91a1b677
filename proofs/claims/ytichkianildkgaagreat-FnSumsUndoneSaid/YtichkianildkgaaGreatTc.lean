import Derived.Test.YtichkianildkgaaGreatWg
import Derived.Test.YtichkianildkgaaGreatSu
namespace Go.Proofs.YtichkianildkgaaGreat
open Go.RowKit BitX Go.MemX

theorem getD_of {xs : List Int} {k : Nat} {x : Int} (h : xs[k]? = some x) : xs.getD k 0 = x := by simp [List.getD_eq_getElem?_getD, h]
def las (xs : List Int) (i : Nat) : Int := if i = 0 then 0 else xs.getD (i - 1) 0
theorem las_zero (xs : List Int) : las xs 0 = 0 := rfl
theorem las_succ {xs : List Int} {k : Nat} {x : Int} (h : xs[k]? = some x) : las xs (k + 1) = x := by
  unfold las; rw [if_neg (by omega), Nat.add_sub_cancel]; exact getD_of h
theorem las_bound {xs : List Int} (h : InP (-100000) 100000 xs) (i : Nat) : -100000 ≤ las xs i ∧ las xs i ≤ 100000 := by
  unfold las
  split
  · omega
  · rw [List.getD_eq_getElem?_getD]
    cases hx : xs[i - 1]? with
    | none => simp
    | some x => exact h.at hx
def dif (xs : List Int) (i : Nat) : Int := xs.getD i 0 - las xs i
def run (xs : List Int) (i : Nat) : Int := sumL (xs.take (i + 1))
def sca (xs : List Int) (c : Int) (i : Nat) : Int := xs.getD i 0 * c
theorem InP.take {lo hi : Int} {xs : List Int} (h : InP lo hi xs) (k : Nat) : InP lo hi (xs.take k) := fun x hx => h x (List.mem_of_mem_take hx)
theorem sumL_bound (xs : List Int) (h : InP (-100000) 100000 xs) : -(xs.length * 100000 : Int) ≤ sumL xs ∧ sumL xs ≤ xs.length * 100000 := by
  induction xs with
  | nil => simp [sumL]
  | cons x xs ih =>
    have a := h x (by simp)
    have b := ih fun y hy => h y (by simp [hy])
    simp only [sumL, List.length_cons]
    omega
theorem mul_bound {x c : Int} (x1 : -100000 ≤ x) (x2 : x ≤ 100000) (c1 : -1000 ≤ c) (c2 : c ≤ 1000) : -100000000 ≤ x * c ∧ x * c ≤ 100000000 := by
  have h : (x * c).natAbs ≤ 100000 * 1000 := by rw [Int.natAbs_mul]; exact Nat.mul_le_mul (by omega) (by omega)
  omega

set_option maxHeartbeats 400000 in
theorem wdIf_yes (v : Value) (ys : List Int) (w : World) (hs : Sl w v ys) (h : SigP ys) :
    Calls Tryz.prog 67 #[v] w fun e w' => e = .returned (.tuple #[v, .bool true]) ∧ w = w' := by
  have H := hid h
  clear h
  have HS := hid hs
  clear hs
  go_enter Tryz.func67, Tryz.ntmps67
  go_wp2_with fail
  refine (wdSignal_yes _ ys _ HS.out H.out).mono ?_
  rintro e w' ⟨rfl, rfl⟩
  go_wp2
  go_ret2
  exact ⟨rfl, rfl⟩
set_option maxHeartbeats 400000 in
theorem wdIf_no (v : Value) (ys : List Int) (w : World) (hs : Sl w v ys) (h : ¬ SigP ys) :
    Calls Tryz.prog 67 #[v] w fun e w' => e = .returned (.tuple #[.slice none 0 0, .bool false]) ∧ w = w' := by
  have H := hid h
  clear h
  have HS := hid hs
  clear hs
  go_enter Tryz.func67, Tryz.ntmps67
  go_wp2_with fail
  refine (wdSignal_no _ ys _ HS.out H.out).mono ?_
  rintro e w' ⟨rfl, rfl⟩
  go_wp2
  go_ret2
  exact ⟨rfl, rfl⟩

set_option maxHeartbeats 400000 in
theorem onlySignal_yes (v : Value) (ys : List Int) (w : World) (hs : Sl w v ys) (h : SigP ys) :
    Calls Tryz.prog 50 #[v] w fun e w' => e = .returned (.tuple #[v, .bool true]) ∧ w = w' := by
  have H := hid h
  clear h
  have HS := hid hs
  clear hs
  go_enter Tryz.func50, Tryz.ntmps50
  go_wp2_with fail
  refine (impl_IsSignal_yes _ ys _ HS.out (Nat.le_trans H.out.1 (by omega)) H.out).mono ?_
  rintro e w' ⟨rfl, rfl⟩
  go_wp2
  go_ret2
  exact ⟨rfl, rfl⟩
set_option maxHeartbeats 400000 in
theorem onlySignal_no (v : Value) (ys : List Int) (w : World) (hs : Sl w v ys) (h : ¬ SigP ys) :
    Calls Tryz.prog 50 #[v] w fun e w' => e = .returned (.tuple #[.slice none 0 0, .bool false]) ∧ w = w' := by
  have H := hid h
  clear h
  have HS := hid hs
  clear hs
  go_enter Tryz.func50, Tryz.ntmps50
  go_wp2_with fail
  refine (impl_IsSignal_no _ ys _ HS.out H.out).mono ?_
  rintro e w' ⟨rfl, rfl⟩
  go_wp2
  go_ret2
  exact ⟨rfl, rfl⟩

set_option maxHeartbeats 1000000 in
theorem wdDiff_any  (v : Value) (xs : List Int) (w : World) (hs : Sl w v xs) (hl : xs.length ≤ 64) (hi : InP (-100000) 100000 xs)  :
    Calls Tryz.prog 84 #[v] w (GivesL w (tab xs.length (dif xs))) := by
  rcases hs with ⟨rfl, a, cap, rfl⟩ | ⟨b, off, n, cap, rfl, hn, h0, hc, hlt, hcell⟩
  · clear hi
    go_enter Tryz.func84, Tryz.ntmps84
    go_wp2
    refine wp_loop_rounds 1 ?_
    rw [rounds_succ]
    go_wp2
    go_ret
    exact ⟨_, rfl, .inl ⟨rfl, rfl⟩, Below.refl _ _⟩
  · have Hn := hid hn
    have Hcell := hid hcell
    have HI := hid hi
    have hl' : n ≤ 64 := by omega
    clear hn hcell hl hi
    obtain ⟨i0, hi0, hz0, hz1, hz2⟩ := info_parts iint
    go_enter Tryz.func84, Tryz.ntmps84
    go_wp2
    go_loopw [3, 4, 9] (fun v st i wr => ∃ k : Nat, k ≤ n ∧ i = .int .i64 k ∧ st = .int .i64 (las xs k) ∧ wr.ownsRow w.heap.size 3 1 v k ((tab k (dif xs)).map (Value.int .i64)) ∧ Below w.heap.size w wr)
      (fun _ _ i _ => n - (intOf i).toNat)
    case atStart => exact ⟨0, by omega, rfl, rfl, World.ownsRow_nil _ _ _ _, Below.refl _ _⟩
    case round =>
      obtain ⟨k, hk, rfl, rfl, hown, hb⟩ := hrel
      have hsz : w.heap.size ≤ wr.heap.size := hb.size
      by_cases hlk : k < n
      · obtain ⟨x, hkx⟩ := get_lt xs k (by rw [← Hn.out]; exact hlk)
        have hce : wr.cell? ⟨b, off + k, none⟩ = some (.int .i64 x) := by rw [hb.cell (by exact hlt)]; exact Hcell.out k x hkx
        obtain ⟨x1, x2⟩ := HI.out.at hkx
        obtain ⟨m1, m2⟩ := las_bound HI.out k
        have hls := las_succ hkx
        have Hls := hid hls
        clear hls
        have hst : tab (k + 1) (dif xs) = tab k (dif xs) ++ [x - las xs k] := by rw [tab_step]; congr 2 <;> (rw [dif, getD_of hkx])
        generalize hys : tab k (dif xs) = ys at hst hown
        have Hob := hid (ownsRow_base hown)
        have Hst := hid hst
        have Hown := hid hown
        have Hkx := hid hkx
        clear hkx hst hown hys
        generalize las xs k = l at *
        go_wp2_with (at_builtin; refine wpList_append_own _ rfl _ _ 24 rfl w.heap.size 3 i0 (.int .i64 0) 1 8 uslice hi0 hz0 hz1 hz2 rfl (by decide) _ _ _ rfl (Hown.out.alloc _) ⟨wr.heap.size, 0, none⟩ 1 1 [.int .i64 (x - l)] rfl rfl ?c1 ?c2 ?c3 ?c4 ?c5 ?_)
        case c1 => exact cell_one_new _ _ _
        case c2 => intro u hu; simp at hu; subst hu; rfl
        case c3 => unfold maxLen; omega
        case c4 => omega
        case c5 => simp; omega
        · intro v' w3 hown3 hgrow _
          have hb3 : Below w.heap.size w w3 := (hb.alloc hsz _).grown hgrow (by simp; omega) (fun j hj => Hob.out j hj)
          have Hown3 := hid hown3
          clear hown3 hgrow
          go_wp2
          go_roundw
          case rel => exact ⟨k + 1, by omega, by go_num, by rw [Hls.out], by rw [Hst.out, List.map_append]; exact Hown3.out, hb3⟩
          case measure => simp [intOf]; omega
      · have hge : (n : Int) ≤ (k : Int) := by omega
        have hkn : k = xs.length := by rw [← Hn.out]; omega
        have Hk := hid hkn
        have Hown := hid hown
        clear hkn hlk hown
        go_wp2
        go_ret
        have ho := Hown.out
        rw [Hk.out] at ho
        exact ⟨_, rfl, Res.owns (by rw [tab_len]; exact ho), hb⟩

set_option maxHeartbeats 1000000 in
theorem wdSums_any  (v : Value) (xs : List Int) (w : World) (hs : Sl w v xs) (hl : xs.length ≤ 64) (hi : InP (-100000) 100000 xs)  :
    Calls Tryz.prog 83 #[v] w (GivesL w (tab xs.length (run xs))) := by
  rcases hs with ⟨rfl, a, cap, rfl⟩ | ⟨b, off, n, cap, rfl, hn, h0, hc, hlt, hcell⟩
  · clear hi
    go_enter Tryz.func83, Tryz.ntmps83
    go_wp2
    refine wp_loop_rounds 1 ?_
    rw [rounds_succ]
    go_wp2
    go_ret
    exact ⟨_, rfl, .inl ⟨rfl, rfl⟩, Below.refl _ _⟩
  · have Hn := hid hn
    have Hcell := hid hcell
    have HI := hid hi
    have hl' : n ≤ 64 := by omega
    clear hn hcell hl hi
    obtain ⟨i0, hi0, hz0, hz1, hz2⟩ := info_parts iint
    go_enter Tryz.func83, Tryz.ntmps83
    go_wp2
    go_loopw [3, 4, 9] (fun v st i wr => ∃ k : Nat, k ≤ n ∧ i = .int .i64 k ∧ st = .int .i64 (sumL (xs.take k)) ∧ wr.ownsRow w.heap.size 3 1 v k ((tab k (run xs)).map (Value.int .i64)) ∧ Below w.heap.size w wr)
      (fun _ _ i _ => n - (intOf i).toNat)
    case atStart => exact ⟨0, by omega, rfl, rfl, World.ownsRow_nil _ _ _ _, Below.refl _ _⟩
    case round =>
      obtain ⟨k, hk, rfl, rfl, hown, hb⟩ := hrel
      have hsz : w.heap.size ≤ wr.heap.size := hb.size
      by_cases hlk : k < n
      · obtain ⟨x, hkx⟩ := get_lt xs k (by rw [← Hn.out]; exact hlk)
        have hce : wr.cell? ⟨b, off + k, none⟩ = some (.int .i64 x) := by rw [hb.cell (by exact hlt)]; exact Hcell.out k x hkx
        obtain ⟨x1, x2⟩ := HI.out.at hkx
        have hbd := sumL_bound (xs.take k) (HI.out.take k)
        have hlt2 : (xs.take k).length ≤ 64 := by simp; omega
        obtain ⟨m1, m2⟩ := hbd
        have m3 : -6400000 ≤ sumL (xs.take k) := by omega
        have m4 : sumL (xs.take k) ≤ 6400000 := by omega
        clear m1 m2
        have hls := sumL_step xs k x hkx
        have Hls := hid hls
        clear hls
        have hst : tab (k + 1) (run xs) = tab k (run xs) ++ [sumL (xs.take k) + x] := by rw [tab_step]; congr 2 <;> (rw [run, Hls.out])
        generalize hys : tab k (run xs) = ys at hst hown
        have Hob := hid (ownsRow_base hown)
        have Hst := hid hst
        have Hown := hid hown
        have Hkx := hid hkx
        clear hkx hst hown hys
        generalize sumL (xs.take k) = l at *
        go_wp2_with (at_builtin; refine wpList_append_own _ rfl _ _ 24 rfl w.heap.size 3 i0 (.int .i64 0) 1 8 uslice hi0 hz0 hz1 hz2 rfl (by decide) _ _ _ rfl (Hown.out.alloc _) ⟨wr.heap.size, 0, none⟩ 1 1 [.int .i64 (l + x)] rfl rfl ?c1 ?c2 ?c3 ?c4 ?c5 ?_)
        case c1 => exact cell_one_new _ _ _
        case c2 => intro u hu; simp at hu; subst hu; rfl
        case c3 => unfold maxLen; omega
        case c4 => omega
        case c5 => simp; omega
        · intro v' w3 hown3 hgrow _
          have hb3 : Below w.heap.size w w3 := (hb.alloc hsz _).grown hgrow (by simp; omega) (fun j hj => Hob.out j hj)
          have Hown3 := hid hown3
          clear hown3 hgrow
          go_wp2
          go_roundw
          case rel => exact ⟨k + 1, by omega, by go_num, by rw [Hls.out], by rw [Hst.out, List.map_append]; exact Hown3.out, hb3⟩
          case measure => simp [intOf]; omega
      · have hge : (n : Int) ≤ (k : Int) := by omega
        have hkn : k = xs.length := by rw [← Hn.out]; omega
        have Hk := hid hkn
        have Hown := hid hown
        clear hkn hlk hown
        go_wp2
        go_ret
        have ho := Hown.out
        rw [Hk.out] at ho
        exact ⟨_, rfl, Res.owns (by rw [tab_len]; exact ho), hb⟩
end Go.Proofs.YtichkianildkgaaGreat

namespace Go.Proofs.YtichkianildkgaaGreat
open Go.RowKit BitX Go.MemX

theorem SigP.nil : SigP [] := ⟨by simp, InP.nil _ _⟩
theorem sum2_any (v : Value) (x y : Int) (w : World) (hs : Sl w v [x, y]) (hx1 : -1000000 ≤ x) (hx2 : x ≤ 1000000) (hy1 : -1000000 ≤ y) (hy2 : y ≤ 1000000) :
    Calls Tryz.prog 49 #[v] w fun e w' => e = .returned (.int .i64 (x + y)) ∧ w = w' := by
  refine (Su.sumOf_any v [x, y] w hs (by simp) ?_ ?_).mono fun e w' ⟨he, hw⟩ => ⟨?_, hw⟩
  · intro k hk
    match k, hk with
    | 0, _ => simp [sumL]
    | 1, _ => simp [sumL]; omega
    | 2, _ => simp [sumL]; omega
    | k + 3, hk => simp at hk
  · intro z hz
    simp at hz
    rcases hz with rfl | rfl <;> omega
  · rw [he]; simp [sumL]

theorem _root_.Go.MemX.Sl.pre {w : World} {b off n cap : Nat} {xs : List Int} (h : Sl w (.slice (some ⟨b, off, none⟩) n cap) xs) {k : Nat} (h0 : 0 < k) (hk : k ≤ xs.length) : Sl w (.slice (some ⟨b, off, none⟩) k cap) (xs.take k) := by
  rcases h with ⟨rfl, _⟩ | ⟨b2, off2, n2, cap2, hv, hn, hp, hc, hlt, hx⟩
  · simp at hk; omega
  · cases hv
    refine .inr ⟨b, off, k, cap, rfl, by simp; omega, h0, by omega, hlt, fun i x hi => ?_⟩
    have hil : i < k := by
      by_cases hh : i < k
      · exact hh
      · rw [List.getElem?_take_eq_none (by omega)] at hi; cases hi
    rw [List.getElem?_take_of_lt hil] at hi
    exact hx i x hi

set_option maxHeartbeats 1000000 in
theorem impl_RunningSums_yes  (v : Value) (xs : List Int) (w : World) (hs : Sl w v xs) (h : SigP xs)  (hy : SigP (tab xs.length (run xs))) :
    Calls Tryz.prog 14 #[v] w (Gives w (tab xs.length (run xs)) true) := by
  have H := hid h
  have HY := hid hy
  have hl64 : xs.length ≤ 64 := h.1
  have hs' := hs
  clear h hy
  rcases hs with ⟨rfl, a, cap, rfl⟩ | ⟨b, off, n, cap, rfl, hn, h0, hc, hlt, hcell⟩
  · have HS := hid hs'
    have hmk := run_make_ints (P := Tryz.prog) 24 3 uslice iint 0 (by omega)
    simp only [Int.natCast_zero] at hmk
    clear hs'
    go_enter Tryz.func14, Tryz.ntmps14
    go_wp2_with fail
    refine (impl_IsSignal_yes _ [] _ HS.out (Nat.le_trans H.out.1 (by omega)) H.out).mono ?_
    rintro e w' ⟨rfl, rfl⟩
    go_wp2
    refine wp_loop_rounds 1 ?_
    rw [rounds_succ]
    go_wp2_with fail
    refine (onlySignal_yes _ [] _ (Blk.sl (xs := []) (heap_alloc_new _ _)) SigP.nil).mono ?_
    rintro e w' ⟨rfl, rfl⟩
    go_wp2
    go_ret2
    exact ⟨_, rfl, Blk.res (xs := []) (heap_alloc_new _ _) (Nat.le_refl _), bel_alloc _ _⟩
  · have HS := hid hs'
    have Hn := hid hn
    have Hcell := hid hcell
    have hl' : n ≤ 64 := by omega
    have hmk := run_make_ints (P := Tryz.prog) 24 3 uslice iint n (by omega)
    clear hs' hn hcell hl64
    go_enter Tryz.func14, Tryz.ntmps14
    go_wp2_with fail
    refine (impl_IsSignal_yes _ xs _ HS.out (Nat.le_trans H.out.1 (by omega)) H.out).mono ?_
    rintro e w' ⟨rfl, rfl⟩
    go_wp2
    have hly : (tab xs.length (run xs)).length = n := by rw [tab_len]; exact Hn.out.symm
    have Hly := hid hly
    clear hly
    go_loopw [14] (fun i wr => ∃ k : Nat, k ≤ n ∧ i = .int .i64 k ∧ Blk 3 wr w.heap.size (upTo (tab xs.length (run xs)) k) ∧ Below w.heap.size w wr)
      (fun i _ => n - (intOf i).toNat)
    case atStart => exact ⟨0, by omega, rfl, by rw [upTo_zero, Hly.out]; exact heap_alloc_new _ _, bel_alloc _ _⟩
    case round =>
      obtain ⟨k, hk, rfl, hblk, hb⟩ := hrel
      by_cases hlk : k < n
      · obtain ⟨x, hkx⟩ := get_lt xs k (by rw [← Hn.out]; exact hlk)
        have hce : wr.cell? ⟨b, off + k, none⟩ = some (.int .i64 x) := by rw [hb.cell (by exact hlt)]; exact Hcell.out k x hkx
        have hsr : Sl wr (.slice (some ⟨b, off, none⟩) n cap) xs := HS.out.kept hb
        have Hsr := hid hsr
        clear hsr
        obtain ⟨x1, x2⟩ := H.out.2.at hkx
        have hky : (tab xs.length (run xs))[k]? = some (sumL (xs.take (k + 1))) := by rw [tab_get _ _ _ (by rw [← Hn.out]; exact hlk)]; congr 1 <;> (rfl)
        have hcd := hblk.cell (upTo_get (tab xs.length (run xs)) k (by rw [Hly.out]; exact hlk))
        have hfd := hblk.free k
        have hsz : w.heap.size < wr.heap.size := hblk.lt
        have Hkx := hid hkx
        have Hky := hid hky
        have Hblk := hid hblk
        clear hkx hky hblk
        have hbd : ∀ j, j ≤ (xs.take (k + 1)).length → (sumL ((xs.take (k + 1)).take j)).natAbs < 16777216 := fun j hj => by
          have a := sumL_bound ((xs.take (k + 1)).take j) ((H.out.2.take (k + 1)).take j)
          have a2 : ((xs.take (k + 1)).take j).length ≤ 64 := by simp; have := H.out.1; omega
          omega
        have hxb : ∀ z ∈ xs.take (k + 1), z.natAbs < 16777216 := fun z hz => by have := H.out.2.take (k + 1) z hz; omega
        have hsp : Sl wr (.slice (some ⟨b, off, none⟩) (k + 1) cap) (xs.take (k + 1)) := Sl.pre Hsr.out (by omega) (by rw [← Hn.out]; omega)
        have Hsp := hid hsp
        have Hbd := hid hbd
        have Hxb := hid hxb
        have hln : (xs.take (k + 1)).length ≤ 1000000 := by simp; omega
        have Hln := hid hln
        clear hsp hbd hxb hln
        go_wp2_with fail
        refine (Su.sumOf_any _ (xs.take (k + 1)) _ Hsp.out Hln.out Hbd.out Hxb.out).mono ?_
        rintro e w' ⟨rfl, rfl⟩
        go_wp2
        go_roundw
        case rel => exact ⟨k + 1, by omega, by go_num, by rw [← upTo_step _ k _ Hky.out]; exact Hblk.out.set k _, hb.setCell (Nat.le_refl _) _⟩
        case measure => simp [intOf]; omega
      · have hge : (n : Int) ≤ (k : Int) := by omega
        have hkn : k = (tab xs.length (run xs)).length := by rw [Hly.out]; omega
        rw [hkn, upTo_full] at hblk
        have hres : Res 3 w.heap.size wr (.slice (some ⟨w.heap.size, 0, none⟩) n n) (tab xs.length (run xs)) := by
          have := hblk.res (Nat.le_refl _); rwa [Hly.out] at this
        have hsl : Sl wr (.slice (some ⟨w.heap.size, 0, none⟩) n n) (tab xs.length (run xs)) := hres.sl
        have Hk := hid hkn
        clear hkn hlk hblk
        go_wp2_with fail
        refine (onlySignal_yes _ (tab xs.length (run xs)) _ hsl HY.out).mono ?_
        rintro e w' ⟨rfl, rfl⟩
        go_wp2
        go_ret2
        exact ⟨_, rfl, hres, hb⟩

set_option maxHeartbeats 1000000 in
theorem impl_RunningSums_out  (v : Value) (xs : List Int) (w : World) (hs : Sl w v xs) (h : SigP xs)  (hy : ¬ SigP (tab xs.length (run xs))) :
    Calls Tryz.prog 14 #[v] w (Gives w [] false) := by
  have H := hid h
  have HY := hid hy
  have hl64 : xs.length ≤ 64 := h.1
  have hs' := hs
  clear h hy
  rcases hs with ⟨rfl, a, cap, rfl⟩ | ⟨b, off, n, cap, rfl, hn, h0, hc, hlt, hcell⟩
  · exact absurd SigP.nil HY.out
  · have HS := hid hs'
    have Hn := hid hn
    have Hcell := hid hcell
    have hl' : n ≤ 64 := by omega
    have hmk := run_make_ints (P := Tryz.prog) 24 3 uslice iint n (by omega)
    clear hs' hn hcell hl64
    go_enter Tryz.func14, Tryz.ntmps14
    go_wp2_with fail
    refine (impl_IsSignal_yes _ xs _ HS.out (Nat.le_trans H.out.1 (by omega)) H.out).mono ?_
    rintro e w' ⟨rfl, rfl⟩
    go_wp2
    have hly : (tab xs.length (run xs)).length = n := by rw [tab_len]; exact Hn.out.symm
    have Hly := hid hly
    clear hly
    go_loopw [14] (fun i wr => ∃ k : Nat, k ≤ n ∧ i = .int .i64 k ∧ Blk 3 wr w.heap.size (upTo (tab xs.length (run xs)) k) ∧ Below w.heap.size w wr)
      (fun i _ => n - (intOf i).toNat)
    case atStart => exact ⟨0, by omega, rfl, by rw [upTo_zero, Hly.out]; exact heap_alloc_new _ _, bel_alloc _ _⟩
    case round =>
      obtain ⟨k, hk, rfl, hblk, hb⟩ := hrel
      by_cases hlk : k < n
      · obtain ⟨x, hkx⟩ := get_lt xs k (by rw [← Hn.out]; exact hlk)
        have hce : wr.cell? ⟨b, off + k, none⟩ = some (.int .i64 x) := by rw [hb.cell (by exact hlt)]; exact Hcell.out k x hkx
        have hsr : Sl wr (.slice (some ⟨b, off, none⟩) n cap) xs := HS.out.kept hb
        have Hsr := hid hsr
        clear hsr
        obtain ⟨x1, x2⟩ := H.out.2.at hkx
        have hky : (tab xs.length (run xs))[k]? = some (sumL (xs.take (k + 1))) := by rw [tab_get _ _ _ (by rw [← Hn.out]; exact hlk)]; congr 1 <;> (rfl)
        have hcd := hblk.cell (upTo_get (tab xs.length (run xs)) k (by rw [Hly.out]; exact hlk))
        have hfd := hblk.free k
        have hsz : w.heap.size < wr.heap.size := hblk.lt
        have Hkx := hid hkx
        have Hky := hid hky
        have Hblk := hid hblk
        clear hkx hky hblk
        have hbd : ∀ j, j ≤ (xs.take (k + 1)).length → (sumL ((xs.take (k + 1)).take j)).natAbs < 16777216 := fun j hj => by
          have a := sumL_bound ((xs.take (k + 1)).take j) ((H.out.2.take (k + 1)).take j)
          have a2 : ((xs.take (k + 1)).take j).length ≤ 64 := by simp; have := H.out.1; omega
          omega
        have hxb : ∀ z ∈ xs.take (k + 1), z.natAbs < 16777216 := fun z hz => by have := H.out.2.take (k + 1) z hz; omega
        have hsp : Sl wr (.slice (some ⟨b, off, none⟩) (k + 1) cap) (xs.take (k + 1)) := Sl.pre Hsr.out (by omega) (by rw [← Hn.out]; omega)
        have Hsp := hid hsp
        have Hbd := hid hbd
        have Hxb := hid hxb
        have hln : (xs.take (k + 1)).length ≤ 1000000 := by simp; omega
        have Hln := hid hln
        clear hsp hbd hxb hln
        go_wp2_with fail
        refine (Su.sumOf_any _ (xs.take (k + 1)) _ Hsp.out Hln.out Hbd.out Hxb.out).mono ?_
        rintro e w' ⟨rfl, rfl⟩
        go_wp2
        go_roundw
        case rel => exact ⟨k + 1, by omega, by go_num, by rw [← upTo_step _ k _ Hky.out]; exact Hblk.out.set k _, hb.setCell (Nat.le_refl _) _⟩
        case measure => simp [intOf]; omega
      · have hge : (n : Int) ≤ (k : Int) := by omega
        have hkn : k = (tab xs.length (run xs)).length := by rw [Hly.out]; omega
        rw [hkn, upTo_full] at hblk
        have hres : Res 3 w.heap.size wr (.slice (some ⟨w.heap.size, 0, none⟩) n n) (tab xs.length (run xs)) := by
          have := hblk.res (Nat.le_refl _); rwa [Hly.out] at this
        have hsl : Sl wr (.slice (some ⟨w.heap.size, 0, none⟩) n n) (tab xs.length (run xs)) := hres.sl
        have Hk := hid hkn
        clear hkn hlk hblk
        go_wp2_with fail
        refine (onlySignal_no _ (tab xs.length (run xs)) _ hsl HY.out).mono ?_
        rintro e w' ⟨rfl, rfl⟩
        go_wp2
        go_ret2
        exact ⟨_, rfl, Res.nil _ _ _, hb⟩

end Go.Proofs.YtichkianildkgaaGreat

