
import Derived.Test.YtdedifgpbehpoaaEi
import Derived.Test.YtdedifgpbehpoaaWh
namespace Go.Proofs.Ytdedifgpbehpoaa
open Go.RowKit BitX Go.MemX Go.Ch6
set_option linter.unusedVariables false
/-- longer weights -/
def WgtQ (xs : List Int) : Prop := (1 ≤ xs.length ∧ xs.length ≤ 29) ∧ InP (-1000) 1000 xs
theorem cbW_q {r st : Nat} (h1 : 1 ≤ r) (h2 : r ≤ 8) (h3 : st ≤ 4) : WgtQ (cbW r st) := by
  obtain ⟨a, b, _⟩ := cb_parts h1 h2 h3
  exact ⟨a, fun x hx => by have := b x hx; omega⟩
theorem box_w {r : Nat} (h1 : 1 ≤ r) (h2 : r ≤ 8) : WgtP (List.replicate r 1) := ⟨by rw [List.length_replicate]; omega, fun x hx => by rw [List.eq_of_mem_replicate hx]; omega⟩
theorem cbW_s {r st : Nat} (h1 : 1 ≤ r) (h2 : r ≤ 8) (h3 : st ≤ 4) : (cbW r st).length ≤ 64 ∧ InP (-100000) 100000 (cbW r st) := by
  obtain ⟨a, b⟩ := cbW_q h1 h2 h3
  exact ⟨by omega, fun x hx => by have := b x hx; omega⟩
theorem filL_zero (c : Int) (q : Nat) : filL c q 0 = List.replicate q 0 := by simp [filL]
theorem filL_at0 (c : Int) (q k : Nat) (h : k < q) : (filL c q k)[k]? = some 0 := by
  unfold filL
  rw [List.getElem?_append_right (by simp), List.length_replicate, Nat.sub_self, List.getElem?_replicate, if_pos (by omega)]
theorem filL_set (c : Int) (q k : Nat) (h : k < q) : (filL c q k).set k c = filL c q (k + 1) := by
  unfold filL
  rw [List.set_append_right _ _ (by simp), List.length_replicate, Nat.sub_self]
  obtain ⟨m, hm⟩ : ∃ m, q - k = m + 1 := ⟨q - k - 1, by omega⟩
  rw [hm, show q - (k + 1) = m from by omega, List.replicate_succ, List.set_cons_zero, List.replicate_succ', List.append_assoc]; rfl
theorem blk_one (w : World) (c : Int) (E : TypeId) : Blk E (w.alloc (.cells #[.int .i64 c] E)) w.heap.size [c] := heap_alloc_new _ _

theorem par_boundQ (h s : List Int) (k i j : Nat) (hk : k ≤ 29) (hh : ∀ k, -1000 ≤ at0 h k ∧ at0 h k ≤ 1000) (hs : ∀ k, -100000 ≤ at0 s k ∧ at0 s k ≤ 100000) : -3000000000 ≤ par h s k i j ∧ par h s k i j ≤ 3000000000 := by
  unfold par
  have hm : ∀ a b, -100000000 ≤ at0 h a * at0 s b ∧ at0 h a * at0 s b ≤ 100000000 := fun a b => by
    have := mul_in (hh a).1 (hh a).2 (hs b).1 (hs b).2 (by omega); omega
  have b := sumF_bound (min k (j + 1)) (fun m => at0 h m * at0 s (j - m)) 100000000 fun i _ => hm _ _
  have c := hm k (j - k)
  generalize sumF (min k (j + 1)) (fun m => at0 h m * at0 s (j - m)) = u at *
  generalize at0 h k * at0 s (j - k) = v at *
  split <;> omega

set_option maxHeartbeats 1600000 in
theorem weAnswerQ_some (u v : Value) (h s : List Int) (w : World) (hu : Sl w u h) (hv : Sl w v s) (hw : WgtQ h) (hl1 : 1 ≤ s.length) (hl : s.length ≤ 64) (hs : InP (-100000) 100000 s) :
    Calls Try.prog 48 #[u, v] w (GivesL w (ans h s)) := by
  have hans : ans h s = tab (h.length + s.length - 1) (conv h s) := ans_cons h s (fun e => by subst e; simp at hl1)
  obtain ⟨a, n, cap, rfl, hn, hr⟩ := hu.rd
  obtain ⟨a2, m, cap2, rfl, hm, hr2⟩ := hv.rd
  have hn1 : 1 ≤ n := by rw [hn]; exact hw.1.1
  have hn9 : n ≤ 29 := by rw [hn]; exact hw.1.2
  have hm1 : 1 ≤ m := by omega
  have hm9 : m ≤ 64 := by omega
  rw [hans, ← hn, ← hm]
  obtain ⟨L, hL⟩ : ∃ L, L = n + m - 1 := ⟨_, rfl⟩
  rw [← hL]
  have Hn := hid hn
  have Hm := hid hm
  have Hr := hid hr
  have Hr2 := hid hr2
  have Hi := hid hw.2
  have Hj := hid hs
  have hmk := run_make_ints (P := Try.prog) 24 3 uslice iint L (by omega)
  rw [show ((L : Nat) : Int) = (n : Int) + m - 1 from by omega] at hmk
  have hm0 : (m == 0) = false := by rw [beq_eq_false_iff_ne]; omega
  have hm2 : ((m : Int) == 0) = false := by rw [beq_eq_false_iff_ne]; omega
  have hL1 : L + 1 = n + m := by omega
  have hL2 : L ≤ 92 := by omega
  have HL : Hid (L = n + m - 1) := hL
  clear hn hm hr hr2 hw hs hu hv hans hL hl hl1
  go_enter Try.func48, Try.ntmps48
  go_wp2
  go_loopw [22] (fun i wr => ∃ k : Nat, k ≤ n ∧ i = .int .i64 k ∧ Blk 3 wr w.heap.size (tab L (par h s k 0)) ∧ Below w.heap.size w wr)
    (fun i _ => n - (intOf i).toNat)
  case atStart =>
    refine ⟨0, by omega, rfl, ?_, bel_alloc _ _⟩
    have e : tab L (par h s 0 0) = List.replicate L 0 := by rw [← tab_zero]; exact tab_congr _ _ _ fun i _ => par_start h s i
    rw [e]; exact heap_alloc_new _ _
  case round =>
    obtain ⟨k, hk, rfl, hblk, hb⟩ := hrel
    by_cases hlk : k < n
    · obtain ⟨y, hky⟩ := get_lt h k (by rw [← Hn.out]; exact hlk)
      obtain ⟨bb, oo, hix, hbb, hce⟩ := (Hr.out.kept hb).at (P := Try.prog) (T := 24) n cap uslice sone hky hlk
      obtain ⟨y1, y2⟩ := Hi.out.at hky
      have Hky := hid (at0_of hky)
      have Hblk := hid hblk
      clear hky hblk
      go_wp2_with fail
      obtain ⟨wo, rfl⟩ : ∃ wo : World, wo = wr := ⟨_, rfl⟩
      go_loopw [29] (fun i wq => ∃ j : Nat, j ≤ m ∧ i = .int .i64 j ∧ Blk 3 wq w.heap.size (tab L (par h s k j)) ∧ Below w.heap.size w wq)
        (fun i _ => m - (intOf i).toNat)
      case atStart => exact ⟨0, by omega, rfl, Hblk.out, hb⟩
      case round =>
        obtain ⟨j, hj, rfl, hblk2, hb2⟩ := hrel
        by_cases hlj : j < m
        · obtain ⟨x, hjx⟩ := get_lt s j (by rw [← Hm.out]; exact hlj)
          obtain ⟨b3, o3, hix3, hbb3, hce3⟩ := (Hr2.out.kept hb2).at (P := Try.prog) (T := 24) m cap2 uslice sone hjx hlj
          obtain ⟨x1, x2⟩ := Hj.out.at hjx
          have hkj : k + j < L := by omega
          have hpb := par_boundQ h s k j (k + j) (by omega) (at0_in Hi.out (by omega) (by omega)) (at0_in Hj.out (by omega) (by omega))
          have hst := par_at h s k j
          rw [at0_of hjx, Hky.out] at hst
          have hcd : wr.cell? ⟨w.heap.size, k + j, none⟩ = some (.int .i64 (par h s k j (k + j))) := hblk2.cell (tab_get _ _ _ hkj)
          have hfd := hblk2.free (k + j)
          have hmm := mul_in y1 y2 x1 x2 (by omega)
          have hm3 : -100000000 ≤ y * x := by omega
          have hm4 : y * x ≤ 100000000 := by omega
          obtain ⟨p1, p2⟩ := hpb
          have hset : (tab L (par h s k j)).set (k + j) (par h s k j (k + j) + y * x) = tab L (par h s k (j + 1)) := tab_set _ _ _ _ hst fun i _ hne => par_other h s k j i hne
          have hkj2 : ((k : Int) + (j : Int)).toNat = k + j := by omega
          have hkj3 : (0 : Int) ≤ (k : Int) + j := by omega
          have hkj4 : (k : Int) + j < (L : Int) := by omega
          generalize par h s k j (k + j) = z at *
          have Hset := hid hset
          have Hblk2 := hid hblk2
          clear hset hblk2 hst hjx hmm
          go_wp2
          go_roundw
          case rel => exact ⟨j + 1, by omega, by go_num, by rw [← Hset.out]; exact Hblk2.out.set (k + j) _, hb2.setCell (by simp) _⟩
          case measure => simp [intOf]; omega
        · have hge : (m : Int) ≤ (j : Int) := by omega
          have hjm : j = s.length := by rw [← Hm.out]; omega
          have hfull : tab L (par h s k j) = tab L (par h s (k + 1) 0) := by rw [hjm]; exact tab_congr _ _ _ fun i _ => par_full h s k i
          rw [hfull] at hblk2
          have Hblk2 := hid hblk2
          clear hlj hjm hfull hblk2
          go_wp2
          go_roundw
          case rel => exact ⟨k + 1, by omega, by go_num, Hblk2.out, hb2⟩
          case measure => simp [intOf]; omega
    · have hge : (n : Int) ≤ (k : Int) := by omega
      have hkn : k = h.length := by rw [← Hn.out]; omega
      have hdone : tab L (par h s k 0) = tab L (conv h s) := by rw [hkn]; exact tab_congr _ _ _ fun i _ => par_done h s i
      rw [hdone] at hblk
      have Hblk := hid hblk
      clear hlk hkn hdone hblk
      go_wp2
      go_ret
      refine ⟨_, rfl, ?_, hb⟩
      have := Hblk.out.res (Nat.le_refl _)
      rw [tab_len] at this
      exact this
theorem weAnswerQ_any (u v : Value) (h s : List Int) (w : World) (hu : Sl w u h) (hv : Sl w v s) (hw : WgtQ h) (hl : s.length ≤ 64) (hs : InP (-100000) 100000 s) :
    Calls Try.prog 48 #[u, v] w (GivesL w (ans h s)) := by
  by_cases hs0 : s = []
  · subst hs0; exact weAnswer_none u v h w hu hv
  · exact weAnswerQ_some u v h s w hu hv hw (List.length_pos_iff.2 hs0) hl hs


set_option maxHeartbeats 1000000 in
theorem exact_cloQ (gh : Nat) (v hv : Value) (h r : List Int) (w : World) (hc : w.cell? ⟨gh, 0, none⟩ = some hv) (hh : Sl w hv h) (hr : Sl w v r) (hl : r.length ≤ h.length) (hl9 : h.length ≤ 29) (hi : InP (-1000) 1000 h) (hj : InP (-100000) 100000 r) :
    Calls Try.prog 75 #[v, .pointer (some ⟨gh, 0, none⟩)] w fun e w' => e = .returned (.int .i64 (filt h r)) ∧ Below w.heap.size w w' := by
  obtain ⟨a, n, cap, rfl, hn, hrd⟩ := hr.rd
  obtain ⟨a2, n2, cap2, rfl, hn2, hrd2⟩ := hh.rd
  have Hn := hid hn
  have Hn2 := hid hn2
  have Hrd := hid hrd
  have Hrd2 := hid hrd2
  have hl' : n ≤ 29 := by omega
  have hl2 : n ≤ n2 := by omega
  have hl3 : n2 ≤ 29 := by omega
  have Hi := hid hi
  have Hj := hid hj
  have Hc := hid hc
  have hg0 : gh < w.heap.size := block_lt_of_cell hc
  clear hn hn2 hrd hrd2 hr hh hl hl9 hi hj hc
  go_enter Try.func75, Try.ntmps75
  go_wp2_with fail
  go_loopw [4, 12] (fun s0 i wr => ∃ k : Nat, k ≤ n ∧ i = .int .i64 k ∧ s0 = .int .i64 (sumF k (fun k => at0 h k * at0 r (n - 1 - k))) ∧ Below w.heap.size w wr)
    (fun _ i _ => n - (intOf i).toNat)
  case atStart => exact ⟨0, by omega, rfl, rfl, Below.refl _ _⟩
  case round =>
    obtain ⟨k, hk, rfl, rfl, hb⟩ := hrel
    by_cases hlk : k < n
    · have hlj : n - 1 - k < n := by omega
      have hlk2 : k < n2 := by omega
      obtain ⟨x, hkx⟩ := get_lt r (n - 1 - k) (by rw [← Hn.out]; exact hlj)
      obtain ⟨y, hky⟩ := get_lt h k (by rw [← Hn2.out]; exact hlk2)
      obtain ⟨bb, oo, hix, hbb, hce⟩ := (Hrd.out.kept hb).at (P := Try.prog) (T := 24) n cap uslice sone hkx hlj
      obtain ⟨b2, o2, hix2, hbb2, hce2⟩ := (Hrd2.out.kept hb).at (P := Try.prog) (T := 24) n2 cap2 uslice sone hky hlk2
      have hch : wr.cell? ⟨gh, 0, none⟩ = some (.slice a2 n2 cap2) := by rw [hb.cell (by exact hg0)]; exact Hc.out
      obtain ⟨x1, x2⟩ := Hj.out.at hkx
      obtain ⟨y1, y2⟩ := Hi.out.at hky
      have hcast : ((n - 1 - k : Nat) : Int) = (n : Int) - 1 - k := by omega
      rw [hcast] at hix
      have hst := sumF_succ k (fun k => at0 h k * at0 r (n - 1 - k))
      rw [show at0 h k = y from at0_of hky, show at0 r (n - 1 - k) = x from at0_of hkx] at hst
      have hm := mul_in y1 y2 x1 x2 (by omega)
      have hsb := sumF_bound k (fun k => at0 h k * at0 r (n - 1 - k)) 100000000 fun i _ => by
        have a := at0_in Hi.out (by omega) (by omega) i
        have b := at0_in Hj.out (by omega) (by omega) (n - 1 - i)
        have := mul_in a.1 a.2 b.1 b.2 (by omega); omega
      have hm1 : -100000000 ≤ y * x := by omega
      have hm2 : y * x ≤ 100000000 := by omega
      generalize hz : sumF k (fun k => at0 h k * at0 r (n - 1 - k)) = z at *
      have hz1 : -2900000000 ≤ z := by omega
      have hz2 : z ≤ 2900000000 := by omega
      have Hst := hid hst
      clear hst hm hsb hz hkx hky hcast
      have e1 : IntKind.i64.wrap (y * x) = y * x := IntWalk.i64_in _ (by omega)
      have e2 : IntKind.i64.wrap (z + y * x) = z + y * x := IntWalk.i64_in _ (by omega)
      have e3 : IntKind.i64.wrap ((n : Int) - 1 - k) = (n : Int) - 1 - k := IntWalk.i64_in _ (by omega)
      have i1 : (0 : Int) ≤ (k : Int) := by omega
      have i2 : (k : Int) < (n : Int) := by omega
      go_wp2
      go_quiet (fail)
      clear e1 e2 e3
      go_wp2
      go_roundw
      case rel => exact ⟨k + 1, by omega, by go_num, by rw [Hst.out], below_drewN hb _⟩
      case measure => simp [intOf]; omega
    · have hge : (n : Int) ≤ (k : Int) := by omega
      have hkn : k = n := by omega
      have Hk := hid hkn
      clear hlk hkn
      go_wp2
      go_ret
      exact ⟨ret_i (by unfold filt; rw [Hk.out, ← Hn.out]), hb⟩


/-- the closure of a filter with these weights, seen from a world in which its variable lies -/
theorem exact_filQ {gh : Nat} {hv : Value} {h s : List Int} {w : World} (hc : w.cell? ⟨gh, 0, none⟩ = some hv) (hh : Sl w hv h) (hw : WgtQ h) (hj : InP (-100000) 100000 s) : FilAt Try.prog 75 #[.pointer (some ⟨gh, 0, none⟩)] s h.length (conv h s) w := by
  intro W n v hn hb hr
  have hg := block_lt_of_cell hc
  have := exact_cloQ gh v hv h (win s n h.length) W (by rw [hb.cell (by exact hg)]; exact hc) (hh.kept hb) hr (by rw [win_len _ _ _ hn]; omega) hw.1.2 hw.2 (fun x hx => hj x (by unfold win at hx; exact List.mem_of_mem_take (List.mem_of_mem_drop hx)))
  rw [filt_win h s n hn] at this
  exact this


set_option maxHeartbeats 1000000 in
theorem combWeights_any (st r : Nat) (w : World) (s1 : 1 ≤ st) (s2 : st ≤ 4) (r1 : 1 ≤ r) (r2 : r ≤ 8) :
    Calls Try.prog 38 #[.int .i64 (st : Int), .int .i64 (r : Int)] w (GivesL w (cbW r st)) := by
  go_enter Try.func38, Try.ntmps38
  go_wp2_with fail
  refine (repeat_one w.heap.size 0 1 1 r _ ((blk_one _ 1 _).cell rfl) r1 (by omega)).mono ?_
  rintro e w1 ⟨v1, rfl, hr1, hb⟩
  have B1 := bel_step (bel_alloc w _) hb
  have Hr1 := hid hr1
  have hz1 : w.heap.size ≤ w1.heap.size := B1.size
  clear hr1
  go_wp2_with fail
  go_loopw [6, 12] (fun u i wr => ∃ k : Nat, k ≤ st ∧ i = .int .i64 k ∧ Res 3 w1.heap.size wr u (cbW r k) ∧ Below w1.heap.size w1 wr)
    (fun _ i _ => st - (intOf i).toNat)
  case atStart => exact ⟨0, by omega, rfl, (blk_one w1 1 3).res (Nat.le_refl _), bel_alloc _ _⟩
  case round =>
    obtain ⟨k, hk, rfl, hu, hb⟩ := hrel
    by_cases hlk : k < st
    · have hbx := (Hr1.out.kept hb).sl
      have Hbx := hid hbx
      have Hu := hid hu
      have hk4 : k ≤ 4 := by omega
      clear hbx hu
      go_wp2_with fail
      refine (wholeAnswer_any _ _ (List.replicate r 1) (cbW r k) _ Hbx.out Hu.out.sl (box_w r1 r2) (cbW_s r1 r2 hk4).1 (cbW_s r1 r2 hk4).2).mono ?_
      rintro e w2 ⟨v2, rfl, hr2, hb2⟩
      have hb3 := hb.trans (hb2.mono hb.size)
      have hr3 := hr2.mono hb.size
      have Hr3 := hid hr3
      clear hr2 hr3
      go_wp2
      go_roundw
      case rel => exact ⟨k + 1, by omega, by go_num, Hr3.out, hb3⟩
      case measure => simp [intOf]; omega
    · have hge : (st : Int) ≤ (k : Int) := by omega
      have hkn : k = st := by omega
      rw [hkn] at hu
      have Hu := hid hu
      clear hlk hkn hu
      go_wp2
      go_ret
      exact ⟨_, rfl, Hu.out.mono hz1, B1.trans (hb.mono hz1)⟩


set_option maxHeartbeats 1000000 in
theorem cbBox_any (st r : Nat) (w : World) (s1 : 1 ≤ st) (s2 : st ≤ 4) (r1 : 1 ≤ r) (r2 : r ≤ 8) :
    Calls Try.prog 49 #[.int .i64 (st : Int), .int .i64 (r : Int)] w (GivesL w (cbW r st)) := by
  have hmk := run_make_ints (P := Try.prog) 24 3 uslice iint r (by omega)
  go_enter Try.func49, Try.ntmps49
  go_wp2_with fail
  go_loopw [5, 6] (fun u i wr => ∃ k : Nat, k ≤ st ∧ i = .int .i64 k ∧ Res 3 w.heap.size wr u (cbW r k) ∧ Below w.heap.size w wr)
    (fun _ i _ => st - (intOf i).toNat)
  case atStart => exact ⟨0, by omega, rfl, (blk_one w 1 3).res (Nat.le_refl _), bel_alloc _ _⟩
  case round =>
    obtain ⟨k, hk, rfl, hu, hb⟩ := hrel
    by_cases hlk : k < st
    · have Hu := hid hu
      have hk4 : k ≤ 4 := by omega
      have hsz : w.heap.size ≤ wr.heap.size := hb.size
      clear hu
      go_wp2_with fail
      obtain ⟨wo, hwo⟩ : ∃ wo : World, wo = wr := ⟨_, rfl⟩
      subst hwo
      go_loopw [19] (fun i wq => ∃ j : Nat, j ≤ r ∧ i = .int .i64 j ∧ Blk 3 wq wo.heap.size (filL 1 r j) ∧ Below wo.heap.size wo wq)
        (fun i _ => r - (intOf i).toNat)
      case atStart => exact ⟨0, by omega, rfl, by rw [filL_zero]; exact heap_alloc_new _ _, bel_alloc _ _⟩
      case round =>
        obtain ⟨j, hj, rfl, hblk, hb4⟩ := hrel
        by_cases hlj : j < r
        · have hcd : wr.cell? ⟨wo.heap.size, j, none⟩ = some (.int .i64 0) := hblk.cell (filL_at0 1 r j hlj)
          have hfd := hblk.free j
          have hset := filL_set 1 r j hlj
          have Hset := hid hset
          have Hblk := hid hblk
          clear hset hblk
          go_wp2
          go_roundw
          case rel => exact ⟨j + 1, by omega, by go_num, by rw [← Hset.out]; exact Hblk.out.set j 1, hb4.setCell (by simp) _⟩
          case measure => simp [intOf]; omega
        · have hge : (r : Int) ≤ (j : Int) := by omega
          have hjr : j = r := by omega
          rw [hjr, filL_full] at hblk
          have hbx := (hblk.res (Nat.le_refl _)).sl
          rw [List.length_replicate] at hbx
          have Hbx := hid hbx
          have hu2 := Hu.out.kept hb4
          have Hu2 := hid hu2
          clear hlj hjr hblk hbx hu2
          go_wp2_with fail
          refine (weAnswer_any _ _ (List.replicate r 1) (cbW r k) _ Hbx.out Hu2.out.sl (box_w r1 r2) (cbW_s r1 r2 hk4).1 (cbW_s r1 r2 hk4).2).mono ?_
          rintro e w2 ⟨v2, rfl, hr2, hb2⟩
          have hb3 := hb.trans ((hb4.trans (hb2.mono hb4.size)).mono hsz)
          have hr3 := hr2.mono (Nat.le_trans hsz hb4.size)
          have Hr3 := hid hr3
          clear hr2 hr3
          go_wp2
          go_roundw
          case rel => exact ⟨k + 1, by omega, by go_num, Hr3.out, hb3⟩
          case measure => simp [intOf]; omega
    · have hge : (st : Int) ≤ (k : Int) := by omega
      have hkn : k = st := by omega
      rw [hkn] at hu
      have Hu := hid hu
      clear hlk hkn hu
      go_wp2
      go_ret
      exact ⟨_, rfl, Hu.out, hb⟩


end Go.Proofs.Ytdedifgpbehpoaa
