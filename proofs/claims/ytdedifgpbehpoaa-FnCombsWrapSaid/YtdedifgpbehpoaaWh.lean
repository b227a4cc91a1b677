
import Derived.Test.YtdedifgpbehpoaaCt
import Derived.Test.YtdedifgpbehpoaaAx
import Derived.Deep.RegionWith
namespace Go.Proofs.Ytdedifgpbehpoaa
open Go.RowKit BitX Go.MemX
set_option linter.unusedVariables false


/-- what the joining of the samples and the noughts leaves, the closure's variable in block gh -/
def Joined (w : World) (gh : Nat) (hv : Value) (xs : List Int) (e : Ending) (w' : World) : Prop :=
  ∃ v, e = .returned v ∧ Res 3 w.heap.size w' v xs ∧ Below w.heap.size w w' ∧ w'.cell? ⟨gh, 0, none⟩ = some hv
theorem joined_of {w W : World} {gb bm gh b2 o2 n2 c2 z : Nat} {hv : Value} {xs : List Int} (hb : Below w.heap.size w W) (hc1 : W.cell? ⟨gb, 0, none⟩ = some (.slice (some ⟨b2, o2, none⟩) n2 c2)) (hc2 : W.cell? ⟨gb, 1, none⟩ = some (.slice (some ⟨bm, 0, none⟩) z z)) (hm : Blk 3 W bm (List.replicate z 0)) (hg : W.cell? ⟨gh, 0, none⟩ = some hv)
    (hl : n2 = xs.length) (h1 : 1 ≤ n2) (hm1 : n2 ≤ 64) (hz : z ≤ 64) (hlt : b2 < w.heap.size) (hx : ∀ i x, xs[i]? = some x → w.cell? ⟨b2, o2 + i, none⟩ = some (.int .i64 x)) :
    Calls Try.prog 79 #[.slice (some ⟨gb, 0, none⟩) 2 2] W (Joined w gh hv (xs ++ List.replicate z 0)) := by
  refine (slConcat_two gb b2 o2 n2 c2 bm 0 z z 2 xs (List.replicate z 0) W hc1 hc2 hl (by simp) h1 (by omega) (by omega) (Nat.lt_of_lt_of_le hlt hb.size) hm.lt (fun i x hi => by rw [hb.cell (by exact hlt)]; exact hx i x hi) (fun i x hi => by rw [Nat.zero_add]; exact hm.cell hi)).mono fun e w' ⟨v, he, hr, hb2⟩ => ⟨v, he, hr.mono hb.size, hb.trans (hb2.mono hb.size), ?_⟩
  rw [hb2.cell (by exact block_lt_of_cell hg)]; exact hg


theorem alloc3 (w : World) (x y z : Obj) : (((w.alloc x).alloc y).alloc z).drew.heap[w.heap.size]? = some x ∧ (((w.alloc x).alloc y).alloc z).drew.heap[w.heap.size + 1]? = some y ∧ (((w.alloc x).alloc y).alloc z).drew.heap[w.heap.size + 1 + 1]? = some z := by
  have e : (((w.alloc x).alloc y).alloc z).drew.heap = ((w.heap.push x).push y).push z := rfl
  rw [e]
  refine ⟨?_, ?_, ?_⟩
  · rw [Array.getElem?_push, if_neg (by simp; omega), Array.getElem?_push, if_neg (by simp), Array.getElem?_push_size]
  · rw [Array.getElem?_push, if_neg (by simp), show w.heap.size + 1 = (w.heap.push x).size from by simp, Array.getElem?_push_size]
  · rw [show w.heap.size + 1 + 1 = ((w.heap.push x).push y).size from by simp, Array.getElem?_push_size]


theorem join_1 (w : World) (b2 o2 n2 c2 z : Nat) (hv : Value) (xs : List Int) (hl : n2 = xs.length) (h1 : 1 ≤ n2) (hm1 : n2 ≤ 64) (hz : z ≤ 64) (hlt : b2 < w.heap.size) (hx : ∀ i x, xs[i]? = some x → w.cell? ⟨b2, o2 + i, none⟩ = some (.int .i64 x)) :
    Calls Try.prog 79 #[.slice (some ⟨w.heap.size + 1 + 1, 0, none⟩) 2 2] (((w.alloc (.cells #[hv] 24)).alloc (.cells (intsA (List.replicate z 0)) 3)).alloc (.cells #[.slice (some ⟨b2, o2, none⟩) n2 c2, .slice (some ⟨w.heap.size + 1, 0, none⟩) z z] 24)).drew (Joined w (w.heap.size) hv (xs ++ List.replicate z 0)) := by
  have a := alloc3 w (.cells #[hv] 24) (.cells (intsA (List.replicate z 0)) 3) (.cells #[.slice (some ⟨b2, o2, none⟩) n2 c2, .slice (some ⟨w.heap.size + 1, 0, none⟩) z z] 24)
  refine joined_of (bm := w.heap.size + 1) (c2 := c2) (((((Below.refl _ w).alloc (Nat.le_refl _) _).alloc (by simp) _).alloc (by simp; omega) _).drew) ?_ ?_ a.2.1 ?_ hl h1 hm1 hz hlt hx
  · rw [cell_of_row _ _ 0 _ _ _ a.2.2]; rfl
  · rw [cell_of_row _ _ 1 _ _ _ a.2.2]; rfl
  · rw [cell_of_row _ _ 0 _ _ _ a.1]; rfl


theorem join_2 (w : World) (b2 o2 n2 c2 z : Nat) (hv : Value) (xs : List Int) (hl : n2 = xs.length) (h1 : 1 ≤ n2) (hm1 : n2 ≤ 64) (hz : z ≤ 64) (hlt : b2 < w.heap.size) (hx : ∀ i x, xs[i]? = some x → w.cell? ⟨b2, o2 + i, none⟩ = some (.int .i64 x)) :
    Calls Try.prog 79 #[.slice (some ⟨w.heap.size + 1 + 1, 0, none⟩) 2 2] (((w.alloc (.cells (intsA (List.replicate z 0)) 3)).alloc (.cells #[hv] 24)).alloc (.cells #[.slice (some ⟨b2, o2, none⟩) n2 c2, .slice (some ⟨w.heap.size, 0, none⟩) z z] 24)).drew (Joined w (w.heap.size + 1) hv (xs ++ List.replicate z 0)) := by
  have a := alloc3 w (.cells (intsA (List.replicate z 0)) 3) (.cells #[hv] 24) (.cells #[.slice (some ⟨b2, o2, none⟩) n2 c2, .slice (some ⟨w.heap.size, 0, none⟩) z z] 24)
  refine joined_of (bm := w.heap.size) (c2 := c2) (((((Below.refl _ w).alloc (Nat.le_refl _) _).alloc (by simp) _).alloc (by simp; omega) _).drew) ?_ ?_ a.1 ?_ hl h1 hm1 hz hlt hx
  · rw [cell_of_row _ _ 0 _ _ _ a.2.2]; rfl
  · rw [cell_of_row _ _ 1 _ _ _ a.2.2]; rfl
  · rw [cell_of_row _ _ 0 _ _ _ a.2.1]; rfl


theorem join_3 (w : World) (b2 o2 n2 c2 z : Nat) (hv : Value) (xs : List Int) (hl : n2 = xs.length) (h1 : 1 ≤ n2) (hm1 : n2 ≤ 64) (hz : z ≤ 64) (hlt : b2 < w.heap.size) (hx : ∀ i x, xs[i]? = some x → w.cell? ⟨b2, o2 + i, none⟩ = some (.int .i64 x)) :
    Calls Try.prog 79 #[.slice (some ⟨w.heap.size + 1, 0, none⟩) 2 2] (((w.alloc (.cells (intsA (List.replicate z 0)) 3)).alloc (.cells #[.slice (some ⟨b2, o2, none⟩) n2 c2, .slice (some ⟨w.heap.size, 0, none⟩) z z] 24)).alloc (.cells #[hv] 24)).drew (Joined w (w.heap.size + 1 + 1) hv (xs ++ List.replicate z 0)) := by
  have a := alloc3 w (.cells (intsA (List.replicate z 0)) 3) (.cells #[.slice (some ⟨b2, o2, none⟩) n2 c2, .slice (some ⟨w.heap.size, 0, none⟩) z z] 24) (.cells #[hv] 24)
  refine joined_of (bm := w.heap.size) (c2 := c2) (((((Below.refl _ w).alloc (Nat.le_refl _) _).alloc (by simp) _).alloc (by simp; omega) _).drew) ?_ ?_ a.1 ?_ hl h1 hm1 hz hlt hx
  · rw [cell_of_row _ _ 0 _ _ _ a.2.1]; rfl
  · rw [cell_of_row _ _ 1 _ _ _ a.2.1]; rfl
  · rw [cell_of_row _ _ 0 _ _ _ a.2.2]; rfl


set_option maxHeartbeats 4000000 in
theorem whole_some (b1 o1 n c1 b2 o2 m c2 : Nat) (h s : List Int) (w : World) (hsh : Sl w (.slice (some ⟨b1, o1, none⟩) n c1) h) (hw : WgtP h) (hnl : n = h.length) (hn : 1 ≤ n) (hn9 : n ≤ 9) (hml : m = s.length) (hm1 : 1 ≤ m) (hm9 : m ≤ 64) (hlt2 : b2 < w.heap.size) (hs : InP (-100000) 100000 s)
    (hx : ∀ i x, s[i]? = some x → w.cell? ⟨b2, o2 + i, none⟩ = some (.int .i64 x)) :
    Calls Try.prog 67 #[.slice (some ⟨b1, o1, none⟩) n c1, .slice (some ⟨b2, o2, none⟩) m c2] w (GivesL w (ans h s)) := by
  have hz64 : n - 1 ≤ 64 := by omega
  have hF : ∀ (W : World) (gh : Nat), Below w.heap.size w W → W.cell? ⟨gh, 0, none⟩ = some (.slice (some ⟨b1, o1, none⟩) n c1) → FilAt Try.prog 75 #[.pointer (some ⟨gh, 0, none⟩)] (s ++ List.replicate (n - 1) 0) n (conv h (s ++ List.replicate (n - 1) 0)) W := fun W gh hb hc => by
    have h3 := exact_fil (s := s ++ List.replicate (n - 1) 0) hc (hsh.kept hb) hw (fun x hx => by
      rcases List.mem_append.1 hx with hx | hx
      · exact hs x hx
      · rw [List.eq_of_mem_replicate hx]; omega)
    rw [← hnl] at h3
    exact h3
  have hans : ans h s = tab (s ++ List.replicate (n - 1) 0).length (conv h (s ++ List.replicate (n - 1) 0)) := by
    have hs0 : s ≠ [] := fun e => by subst e; simp at hml; omega
    have hh0 : h ≠ [] := fun e => by subst e; simp at hnl; omega
    rw [ans_padded h s hs0 hh0, ← hnl]
    exact tab_congr _ _ _ fun i hi => by rw [hnl]; rw [hnl] at hi; exact filt_win h _ i hi
  have hlen : (s ++ List.replicate (n - 1) 0).length ≤ 2000000 := by simp; omega
  have HF := hid hF
  have Hans := hid hans
  have Hx := hid hx
  have Hm := hid hml
  have Hnl := hid hnl
  have Hlen := hid hlen
  have hmk := run_make_ints (P := Try.prog) 24 3 uslice iint (n - 1) (by omega)
  rw [show ((n - 1 : Nat) : Int) = (n : Int) - 1 from by omega] at hmk
  have e1 : IntKind.i64.wrap ((n : Int) - 1) = (n : Int) - 1 := IntWalk.i64_in _ (by omega)
  have hm0 : (m == 0) = false := by rw [beq_eq_false_iff_ne]; omega
  have hm2 : ((m : Int) == 0) = false := by rw [beq_eq_false_iff_ne]; omega
  clear hsh hw hnl hml hs hx hF hans hlen
  go_enter Try.func67, Try.ntmps67
  go_wp2_with fail
  go_region_with (first | (go_at_call 62; refine (exactFilter_v _ _ _ _).mono ?_; rintro e w1 ⟨rfl, rfl⟩) | (go_at_call 79; (with_reducible refine (join_1 w b2 o2 m c2 (n - 1) (.slice (some ⟨b1, o1, none⟩) n c1) s Hm.out hm1 hm9 hz64 hlt2 Hx.out).mono ?_); rintro e w1 ⟨v, rfl, hr, hb1, hc1⟩; have hfil := HF.out w1 _ hb1 hc1; have hsl := hr.sl; have Hfil := hid hfil; have Hsl := hid hsl; clear hfil hsl hc1) | (go_at_call 79; (with_reducible refine (join_2 w b2 o2 m c2 (n - 1) (.slice (some ⟨b1, o1, none⟩) n c1) s Hm.out hm1 hm9 hz64 hlt2 Hx.out).mono ?_); rintro e w1 ⟨v, rfl, hr, hb1, hc1⟩; have hfil := HF.out w1 _ hb1 hc1; have hsl := hr.sl; have Hfil := hid hfil; have Hsl := hid hsl; clear hfil hsl hc1) | (go_at_call 79; (with_reducible refine (join_3 w b2 o2 m c2 (n - 1) (.slice (some ⟨b1, o1, none⟩) n c1) s Hm.out hm1 hm9 hz64 hlt2 Hx.out).mono ?_); rintro e w1 ⟨v, rfl, hr, hb1, hc1⟩; have hfil := HF.out w1 _ hb1 hc1; have hsl := hr.sl; have Hfil := hid hfil; have Hsl := hid hsl; clear hfil hsl hc1) | (go_at_call 61; refine (runFilter_any _ _ (enterEx) _ (s ++ List.replicate (n - 1) 0) n (conv h (s ++ List.replicate (n - 1) 0)) _ Hsl.out Hlen.out hn (by omega) Hfil.out).mono ?_; rintro e w2 ⟨v2, rfl, hr2, hb2⟩))
  all_goals go_wp2
  all_goals go_ret
  all_goals exact ⟨_, rfl, by rw [Hans.out]; exact hr2.mono hb1.size, hb1.trans (hb2.mono hb1.size)⟩


theorem wholeAnswer_none (u v : Value) (h : List Int) (w : World) (hu : Sl w u h) (hv : Sl w v []) :
    Calls Try.prog 67 #[u, v] w (GivesL w (ans h [])) := by
  rw [ans_nil]
  obtain ⟨a, n, cap, rfl, hn, hr⟩ := hu.rd
  obtain ⟨a2, n2, cap2, rfl, hn2, hr2⟩ := hv.rd
  obtain rfl : n2 = 0 := by simpa using hn2
  clear hn hr hn2 hr2 hu hv
  go_enter Try.func67, Try.ntmps67
  go_wp2
  go_ret
  exact ⟨_, rfl, .inl ⟨rfl, rfl⟩, Below.refl _ _⟩
theorem wholeAnswer_any (u v : Value) (h s : List Int) (w : World) (hu : Sl w u h) (hv : Sl w v s) (hw : WgtP h) (hl : s.length ≤ 64) (hs : InP (-100000) 100000 s) :
    Calls Try.prog 67 #[u, v] w (GivesL w (ans h s)) := by
  by_cases hs0 : s = []
  · subst hs0; exact wholeAnswer_none u v h w hu hv
  · have h1 := List.length_pos_iff.2 hs0
    have hu0 := hu
    rcases hu with ⟨rfl, _⟩ | ⟨b1, o1, n, c1, rfl, hn, h0, hc, hlt, hx⟩
    · have := hw.1.1; simp at this
    · rcases hv with ⟨rfl, _⟩ | ⟨b2, o2, m, c2, rfl, hm, h02, hc2, hlt2, hx2⟩
      · exact absurd rfl hs0
      · exact whole_some b1 o1 n c1 b2 o2 m c2 h s w hu0 hw hn h0 (by rw [hn]; exact hw.1.2) hm (by omega) (by omega) hlt2 hs hx2


theorem weAnswer_none (u v : Value) (h : List Int) (w : World) (hu : Sl w u h) (hv : Sl w v []) :
    Calls Try.prog 48 #[u, v] w (GivesL w (ans h [])) := by
  rw [ans_nil]
  obtain ⟨a, n, cap, rfl, hn, hr⟩ := hu.rd
  obtain ⟨a2, n2, cap2, rfl, hn2, hr2⟩ := hv.rd
  obtain rfl : n2 = 0 := by simpa using hn2
  clear hn hr hn2 hr2 hu hv
  go_enter Try.func48, Try.ntmps48
  go_wp2
  go_ret
  exact ⟨_, rfl, .inl ⟨rfl, rfl⟩, Below.refl _ _⟩
set_option maxHeartbeats 1600000 in
theorem weAnswer_some (u v : Value) (h s : List Int) (w : World) (hu : Sl w u h) (hv : Sl w v s) (hw : WgtP h) (hl1 : 1 ≤ s.length) (hl : s.length ≤ 64) (hs : InP (-100000) 100000 s) :
    Calls Try.prog 48 #[u, v] w (GivesL w (ans h s)) := by
  have hans : ans h s = tab (h.length + s.length - 1) (conv h s) := ans_cons h s (fun e => by subst e; simp at hl1)
  obtain ⟨a, n, cap, rfl, hn, hr⟩ := hu.rd
  obtain ⟨a2, m, cap2, rfl, hm, hr2⟩ := hv.rd
  have hn1 : 1 ≤ n := by rw [hn]; exact hw.1.1
  have hn9 : n ≤ 9 := by rw [hn]; exact hw.1.2
  have hm1 : 1 ≤ m := by omega
  have hm9 : m ≤ 64 := by omega
  rw [hans, ← hn, ← hm]
  obtain ⟨L, hL⟩ : ∃ L, L = n + m - 1 := ⟨_, rfl⟩
  rw [← hL]
  have Hn := hid hn
  have Hm := hid hm
  have Hr := hid hr
  have Hr2 := hid hr2
  have Hi := hid hw.2
  have Hj := hid hs
  have hmk := run_make_ints (P := Try.prog) 24 3 uslice iint L (by omega)
  rw [show ((L : Nat) : Int) = (n : Int) + m - 1 from by omega] at hmk
  have hm0 : (m == 0) = false := by rw [beq_eq_false_iff_ne]; omega
  have hm2 : ((m : Int) == 0) = false := by rw [beq_eq_false_iff_ne]; omega
  have hL1 : L + 1 = n + m := by omega
  have hL2 : L ≤ 72 := by omega
  have HL : Hid (L = n + m - 1) := hL
  clear hn hm hr hr2 hw hs hu hv hans hL hl hl1
  go_enter Try.func48, Try.ntmps48
  go_wp2
  go_loopw [22] (fun i wr => ∃ k : Nat, k ≤ n ∧ i = .int .i64 k ∧ Blk 3 wr w.heap.size (tab L (par h s k 0)) ∧ Below w.heap.size w wr)
    (fun i _ => n - (intOf i).toNat)
  case atStart =>
    refine ⟨0, by omega, rfl, ?_, bel_alloc _ _⟩
    have e : tab L (par h s 0 0) = List.replicate L 0 := by rw [← tab_zero]; exact tab_congr _ _ _ fun i _ => par_start h s i
    rw [e]; exact heap_alloc_new _ _
  case round =>
    obtain ⟨k, hk, rfl, hblk, hb⟩ := hrel
    by_cases hlk : k < n
    · obtain ⟨y, hky⟩ := get_lt h k (by rw [← Hn.out]; exact hlk)
      obtain ⟨bb, oo, hix, hbb, hce⟩ := (Hr.out.kept hb).at (P := Try.prog) (T := 24) n cap uslice sone hky hlk
      obtain ⟨y1, y2⟩ := Hi.out.at hky
      have Hky := hid (at0_of hky)
      have Hblk := hid hblk
      clear hky hblk
      go_wp2_with fail
      obtain ⟨wo, rfl⟩ : ∃ wo : World, wo = wr := ⟨_, rfl⟩
      go_loopw [29] (fun i wq => ∃ j : Nat, j ≤ m ∧ i = .int .i64 j ∧ Blk 3 wq w.heap.size (tab L (par h s k j)) ∧ Below w.heap.size w wq)
        (fun i _ => m - (intOf i).toNat)
      case atStart => exact ⟨0, by omega, rfl, Hblk.out, hb⟩
      case round =>
        obtain ⟨j, hj, rfl, hblk2, hb2⟩ := hrel
        by_cases hlj : j < m
        · obtain ⟨x, hjx⟩ := get_lt s j (by rw [← Hm.out]; exact hlj)
          obtain ⟨b3, o3, hix3, hbb3, hce3⟩ := (Hr2.out.kept hb2).at (P := Try.prog) (T := 24) m cap2 uslice sone hjx hlj
          obtain ⟨x1, x2⟩ := Hj.out.at hjx
          have hkj : k + j < L := by omega
          have hpb := par_bound h s k j (k + j) (by omega) (at0_in Hi.out (by omega) (by omega)) (at0_in Hj.out (by omega) (by omega))
          have hst := par_at h s k j
          rw [at0_of hjx, Hky.out] at hst
          have hcd : wr.cell? ⟨w.heap.size, k + j, none⟩ = some (.int .i64 (par h s k j (k + j))) := hblk2.cell (tab_get _ _ _ hkj)
          have hfd := hblk2.free (k + j)
          have hmm := mul_in y1 y2 x1 x2 (by omega)
          have hm3 : -100000000 ≤ y * x := by omega
          have hm4 : y * x ≤ 100000000 := by omega
          obtain ⟨p1, p2⟩ := hpb
          have hset : (tab L (par h s k j)).set (k + j) (par h s k j (k + j) + y * x) = tab L (par h s k (j + 1)) := tab_set _ _ _ _ hst fun i _ hne => par_other h s k j i hne
          have hkj2 : ((k : Int) + (j : Int)).toNat = k + j := by omega
          have hkj3 : (0 : Int) ≤ (k : Int) + j := by omega
          have hkj4 : (k : Int) + j < (L : Int) := by omega
          generalize par h s k j (k + j) = z at *
          have Hset := hid hset
          have Hblk2 := hid hblk2
          clear hset hblk2 hst hjx hmm
          go_wp2
          go_roundw
          case rel => exact ⟨j + 1, by omega, by go_num, by rw [← Hset.out]; exact Hblk2.out.set (k + j) _, hb2.setCell (by simp) _⟩
          case measure => simp [intOf]; omega
        · have hge : (m : Int) ≤ (j : Int) := by omega
          have hjm : j = s.length := by rw [← Hm.out]; omega
          have hfull : tab L (par h s k j) = tab L (par h s (k + 1) 0) := by rw [hjm]; exact tab_congr _ _ _ fun i _ => par_full h s k i
          rw [hfull] at hblk2
          have Hblk2 := hid hblk2
          clear hlj hjm hfull hblk2
          go_wp2
          go_roundw
          case rel => exact ⟨k + 1, by omega, by go_num, Hblk2.out, hb2⟩
          case measure => simp [intOf]; omega
    · have hge : (n : Int) ≤ (k : Int) := by omega
      have hkn : k = h.length := by rw [← Hn.out]; omega
      have hdone : tab L (par h s k 0) = tab L (conv h s) := by rw [hkn]; exact tab_congr _ _ _ fun i _ => par_done h s i
      rw [hdone] at hblk
      have Hblk := hid hblk
      clear hlk hkn hdone hblk
      go_wp2
      go_ret
      refine ⟨_, rfl, ?_, hb⟩
      have := Hblk.out.res (Nat.le_refl _)
      rw [tab_len] at this
      exact this
theorem weAnswer_any (u v : Value) (h s : List Int) (w : World) (hu : Sl w u h) (hv : Sl w v s) (hw : WgtP h) (hl : s.length ≤ 64) (hs : InP (-100000) 100000 s) :
    Calls Try.prog 48 #[u, v] w (GivesL w (ans h s)) := by
  by_cases hs0 : s = []
  · subst hs0; exact weAnswer_none u v h w hu hv
  · exact weAnswer_some u v h s w hu hv hw (List.length_pos_iff.2 hs0) hl hs

end Go.Proofs.Ytdedifgpbehpoaa
