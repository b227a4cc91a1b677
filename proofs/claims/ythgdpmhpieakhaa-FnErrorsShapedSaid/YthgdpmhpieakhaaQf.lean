
import Derived.Test.YthgdpmhpieakhaaQe
import Derived.Test.YthgdpmhpieakhaaRm
namespace Go.Proofs.Ythgdpmhpieakhaa
open Go.RowKit BitX Go.MemX Go.ShX Go.ChV
set_option linter.unusedVariables false


theorem shape_any (v : Value) (s : List Int) (k : Nat) (mode order : Int) (w : World) (hs : Sl w v s) (hl : s.length ≤ 64) (hi : InP (-100000) 100000 s) (hk : k ≤ 10) (hm : mode = 0 ∨ mode = 1 ∨ mode = 2) (ho : 0 ≤ order ∧ order ≤ 2) :
    Calls Try.prog 18 #[v, .int .i64 (k : Int), .int .i64 mode, .int .i64 order] w (Gives2 w (shL s k mode order) (seL s k mode order)) := by
  obtain rfl | rfl | rfl : order = 0 ∨ order = 1 ∨ order = 2 := by omega
  · exact shape_0 v s k mode w hs hl hi hk hm
  · exact shape_1 v s k mode w hs hl hi hk hm
  · exact shape_2 v s k mode w hs hl hi hk hm


set_option maxHeartbeats 2000000 in
theorem shapedSums_any (v : Value) (s : List Int) (k : Nat) (mode order : Int) (w : World) (hs : Sl w v s) (hl : s.length ≤ 64) (hi : InP (-100000) 100000 s) (hk : k ≤ 10) (hm : mode = 0 ∨ mode = 1 ∨ mode = 2) (ho : 0 ≤ order ∧ order ≤ 2) :
    Calls Try.prog 21 #[v, .int .i64 (k : Int), .int .i64 mode, .int .i64 order] w (GivesL w (sgL s k mode order)) := by
  have HS := hid hs
  have HI := hid hi
  have HP := hid (pow10 k hk).2
  go_enter Try.func21, Try.ntmps21
  go_wp2_with fail
  refine (shape_any v s k mode order _ HS.out hl HI.out hk hm ho).mono ?_
  rintro e w1 ⟨u1, u2, rfl, hr1, _, hb0⟩
  obtain ⟨aa, n, cap, rfl, hn, hrd⟩ := id (hs.kept hb0).rd
  obtain ⟨ab, n2, cap2, rfl, hn2, hrd2⟩ := id hr1.sl.rd
  rw [show (shL s k mode order).length = s.length from tab_len _ _, ← hn] at hn2
  subst hn2
  have Hn := hid hn
  have Hrd := hid hrd
  have Hrd2 := hid hrd2
  have HB := hid hb0
  have hl' : n2 ≤ 64 := by omega
  have hmk := run_make_ints (P := Try.prog) 24 3 uslice iint n2 (by omega)
  clear hs hi hl hm ho hrd hrd2 hr1 hn hb0 HS
  go_wp2_with fail
  go_loopw [12, 28] (fun sm i wr => ∃ c : Nat, c ≤ n2 ∧ sm = .int .i64 (gpS s k mode order c) ∧ i = .int .i64 c ∧ Blk 3 wr w1.heap.size (upTo (sgL s k mode order) c) ∧ Below w1.heap.size w1 wr)
    (fun _ i _ => n2 - (intOf i).toNat)
  case atStart => exact ⟨0, by omega, rfl, rfl, by rw [upTo_zero, sgL, tab_len, ← Hn.out]; exact heap_alloc_new _ _, bel_alloc _ _⟩
  case round =>
    obtain ⟨c, hc, rfl, rfl, hblk, hb⟩ := hrel
    have hsz : w1.heap.size ≤ wr.heap.size := hb.size
    by_cases hlk : c < n2
    · obtain ⟨x, hkx⟩ := get_lt s c (by rw [← Hn.out]; exact hlk)
      obtain ⟨bb, oo, hix, hbb, hce⟩ := (Hrd.out.kept hb).at (P := Try.prog) (T := 24) n2 cap uslice sone hkx hlk
      have hky : (shL s k mode order)[c]? = some (shI s k mode order c) := tab_get _ _ _ (by rw [← Hn.out]; exact hlk)
      obtain ⟨bb2, oo2, hix2, hbb2, hce2⟩ := (Hrd2.out.kept hb).at (P := Try.prog) (T := 24) n2 cap2 uslice sone hky hlk
      obtain ⟨x1, x2⟩ := HI.out.at hkx
      have hq12 := sh_in s k mode order HP.out c (at0_of hkx) x1 x2
      have hss := gpS_succ s k mode order c
      have hkt : (sgL s k mode order)[c]? = some (gpS s k mode order (c + 1)) := tab_get _ (fun i => gpS s k mode order (i + 1)) _ (by rw [← Hn.out]; exact hlk)
      obtain ⟨s1, s2⟩ := gpS_in s k mode order HP.out c (by omega)
      have hcd : wr.cell? ⟨w1.heap.size, c, none⟩ = some (.int .i64 0) := hblk.cell (upTo_get (sgL s k mode order) c (by rw [sgL, tab_len, ← Hn.out]; exact hlk))
      have hfd := hblk.free c
      obtain ⟨q, hq⟩ : ∃ q, q = shI s k mode order c * 2 ^ k := ⟨_, rfl⟩
      rw [at0_of hkx, ← hq] at hss
      rw [← hq] at hq12
      obtain ⟨q1, q2⟩ := hq12
      rw [hss] at hkt
      generalize shI s k mode order c = y at *
      generalize hz : gpS s k mode order c = z at *
      have hw1 : wrap64 (y * 2 ^ k) = q := by rw [← hq]; exact IntWalk.wrap64_in _ (by omega)
      have hw2 : wrap64 (y * 2 ^ min k 64) = q := by rw [Nat.min_eq_left (by omega)]; exact hw1
      have Hss := hid hss
      have Hkt := hid hkt
      have Hblk := hid hblk
      clear hkx hky hkt hss hblk hq hz
      go_wp2
      go_roundw
      case rel => exact ⟨c + 1, by omega, by rw [Hss.out], by go_num, by rw [← upTo_step (sgL s k mode order) c _ Hkt.out]; exact Hblk.out.set c _, hb.setCell (Nat.le_refl _) _⟩
      case measure => simp [intOf]; omega
    · have hge : (n2 : Int) ≤ (c : Int) := by omega
      have hkn : c = (sgL s k mode order).length := by rw [sgL, tab_len, ← Hn.out]; omega
      have hcn : n2 = (sgL s k mode order).length := by omega
      have Hk := hid hkn
      have Hc := hid hcn
      have Hblk := hid hblk
      clear hkn hlk hblk hcn
      go_wp2
      go_ret
      have hbk := Hblk.out
      rw [Hk.out, upTo_full] at hbk
      have h2 := hbk.res (Nat.le_refl _)
      rw [← Hc.out] at h2
      exact ⟨_, rfl, h2.mono HB.out.size, bel_step HB.out hb⟩


def ssR (s : List Int) (k mode order : Int) : List Int := onB (spB s k mode order) (shL s k.toNat mode order) []
theorem ssR_len (s : List Int) (k mode order : Int) (h : s.length ≤ 1048576) : (ssR s k mode order).length ≤ 2000000 := by
  unfold ssR onB; split
  · rw [shL, tab_len]; omega
  · simp


set_option maxHeartbeats 1000000 in
theorem spec_ShapeSignal_is (v : Value) (s : List Int) (k mode order : Int) (w : World) (hs : Sl w v s) :
    Calls Try.prog 7 #[v, .int .i64 k, .int .i64 mode, .int .i64 order] w (Gives w (ssR s k mode order) (spB s k mode order)) := by
  cases hq : spB s k mode order
  · have HS := hid hs
    have HR := hid (show ssR s k mode order = [] from by unfold ssR; rw [hq]; rfl)
    have HQ := hid hq
    clear hq hs
    go_enter Try.func7, Try.ntmps7
    go_wp2_with fail
    refine (dmShaped_q v s k mode order false _ HS.out HQ.out).mono ?_
    rintro e w' ⟨rfl, rfl⟩
    go_wp2_with fail
    go_ret2
    exact gives_of rfl HR.out ⟨_, rfl, .inl ⟨rfl, rfl⟩, Below.refl _ _⟩
  · obtain ⟨hsg, ⟨k1, k2⟩, hm, ho⟩ := spB_t hq
    obtain ⟨n, rfl⟩ : ∃ n : Nat, k = n := ⟨k.toNat, by omega⟩
    have HS := hid hs
    have HR := hid (show ssR s (n : Int) mode order = shL s n mode order from by unfold ssR; rw [hq]; rfl)
    have HQ := hid hq
    have HG := hid hsg
    have HM := hid (show mode = 0 ∨ mode = 1 ∨ mode = 2 from by omega)
    have HO := hid ho
    clear hq hs hsg hm ho
    go_enter Try.func7, Try.ntmps7
    go_wp2_with fail
    refine (dmShaped_q v s n mode order true _ HS.out HQ.out).mono ?_
    rintro e w' ⟨rfl, rfl⟩
    go_wp2_with fail
    refine (dmShape_any v s n mode order _ HS.out HG.out.1 HG.out.2 (by omega) HM.out HO.out).mono ?_
    rintro e w1 ⟨u1, u2, rfl, hr1, hr2, hb⟩
    go_wp2_with fail
    go_ret2
    exact gives_of rfl HR.out ⟨_, rfl, hr1, hb⟩


set_option maxHeartbeats 1000000 in
theorem impl_ShapeSignal_is (v : Value) (s : List Int) (k mode order : Int) (w : World) (hs : Sl w v s) :
    Calls Try.prog 6 #[v, .int .i64 k, .int .i64 mode, .int .i64 order] w (Gives w (ssR s k mode order) (spB s k mode order)) := by
  cases hq : spB s k mode order
  · have HS := hid hs
    have HR := hid (show ssR s k mode order = [] from by unfold ssR; rw [hq]; rfl)
    have HQ := hid hq
    clear hq hs
    go_enter Try.func6, Try.ntmps6
    go_wp2_with fail
    refine (canShape_q v s k mode order false _ HS.out HQ.out).mono ?_
    rintro e w' ⟨rfl, rfl⟩
    go_wp2_with fail
    go_ret2
    exact gives_of rfl HR.out ⟨_, rfl, .inl ⟨rfl, rfl⟩, Below.refl _ _⟩
  · obtain ⟨hsg, ⟨k1, k2⟩, hm, ho⟩ := spB_t hq
    obtain ⟨n, rfl⟩ : ∃ n : Nat, k = n := ⟨k.toNat, by omega⟩
    have HS := hid hs
    have HR := hid (show ssR s (n : Int) mode order = shL s n mode order from by unfold ssR; rw [hq]; rfl)
    have HQ := hid hq
    have HG := hid hsg
    have HM := hid (show mode = 0 ∨ mode = 1 ∨ mode = 2 from by omega)
    have HO := hid ho
    clear hq hs hsg hm ho
    go_enter Try.func6, Try.ntmps6
    go_wp2_with fail
    refine (canShape_q v s n mode order true _ HS.out HQ.out).mono ?_
    rintro e w' ⟨rfl, rfl⟩
    go_wp2_with fail
    refine (shape_any v s n mode order _ HS.out HG.out.1 HG.out.2 (by omega) HM.out HO.out).mono ?_
    rintro e w1 ⟨u1, u2, rfl, hr1, hr2, hb⟩
    go_wp2_with fail
    go_ret2
    exact gives_of rfl HR.out ⟨_, rfl, hr1, hb⟩


def seR (s : List Int) (k mode order : Int) : List Int := onB (spB s k mode order) (seL s k.toNat mode order) []
theorem seR_len (s : List Int) (k mode order : Int) (h : s.length ≤ 1048576) : (seR s k mode order).length ≤ 2000000 := by
  unfold seR onB; split
  · rw [seL, tab_len]; omega
  · simp


set_option maxHeartbeats 1000000 in
theorem spec_ShapeErrors_is (v : Value) (s : List Int) (k mode order : Int) (w : World) (hs : Sl w v s) :
    Calls Try.prog 9 #[v, .int .i64 k, .int .i64 mode, .int .i64 order] w (Gives w (seR s k mode order) (spB s k mode order)) := by
  cases hq : spB s k mode order
  · have HS := hid hs
    have HR := hid (show seR s k mode order = [] from by unfold seR; rw [hq]; rfl)
    have HQ := hid hq
    clear hq hs
    go_enter Try.func9, Try.ntmps9
    go_wp2_with fail
    refine (dmShaped_q v s k mode order false _ HS.out HQ.out).mono ?_
    rintro e w' ⟨rfl, rfl⟩
    go_wp2_with fail
    go_ret2
    exact gives_of rfl HR.out ⟨_, rfl, .inl ⟨rfl, rfl⟩, Below.refl _ _⟩
  · obtain ⟨hsg, ⟨k1, k2⟩, hm, ho⟩ := spB_t hq
    obtain ⟨n, rfl⟩ : ∃ n : Nat, k = n := ⟨k.toNat, by omega⟩
    have HS := hid hs
    have HR := hid (show seR s (n : Int) mode order = seL s n mode order from by unfold seR; rw [hq]; rfl)
    have HQ := hid hq
    have HG := hid hsg
    have HM := hid (show mode = 0 ∨ mode = 1 ∨ mode = 2 from by omega)
    have HO := hid ho
    clear hq hs hsg hm ho
    go_enter Try.func9, Try.ntmps9
    go_wp2_with fail
    refine (dmShaped_q v s n mode order true _ HS.out HQ.out).mono ?_
    rintro e w' ⟨rfl, rfl⟩
    go_wp2_with fail
    refine (dmShape_any v s n mode order _ HS.out HG.out.1 HG.out.2 (by omega) HM.out HO.out).mono ?_
    rintro e w1 ⟨u1, u2, rfl, hr1, hr2, hb⟩
    go_wp2_with fail
    go_ret2
    exact gives_of rfl HR.out ⟨_, rfl, hr2, hb⟩


set_option maxHeartbeats 1000000 in
theorem impl_ShapeErrors_is (v : Value) (s : List Int) (k mode order : Int) (w : World) (hs : Sl w v s) :
    Calls Try.prog 8 #[v, .int .i64 k, .int .i64 mode, .int .i64 order] w (Gives w (seR s k mode order) (spB s k mode order)) := by
  cases hq : spB s k mode order
  · have HS := hid hs
    have HR := hid (show seR s k mode order = [] from by unfold seR; rw [hq]; rfl)
    have HQ := hid hq
    clear hq hs
    go_enter Try.func8, Try.ntmps8
    go_wp2_with fail
    refine (canShape_q v s k mode order false _ HS.out HQ.out).mono ?_
    rintro e w' ⟨rfl, rfl⟩
    go_wp2_with fail
    go_ret2
    exact gives_of rfl HR.out ⟨_, rfl, .inl ⟨rfl, rfl⟩, Below.refl _ _⟩
  · obtain ⟨hsg, ⟨k1, k2⟩, hm, ho⟩ := spB_t hq
    obtain ⟨n, rfl⟩ : ∃ n : Nat, k = n := ⟨k.toNat, by omega⟩
    have HS := hid hs
    have HR := hid (show seR s (n : Int) mode order = seL s n mode order from by unfold seR; rw [hq]; rfl)
    have HQ := hid hq
    have HG := hid hsg
    have HM := hid (show mode = 0 ∨ mode = 1 ∨ mode = 2 from by omega)
    have HO := hid ho
    clear hq hs hsg hm ho
    go_enter Try.func8, Try.ntmps8
    go_wp2_with fail
    refine (canShape_q v s n mode order true _ HS.out HQ.out).mono ?_
    rintro e w' ⟨rfl, rfl⟩
    go_wp2_with fail
    refine (shape_any v s n mode order _ HS.out HG.out.1 HG.out.2 (by omega) HM.out HO.out).mono ?_
    rintro e w1 ⟨u1, u2, rfl, hr1, hr2, hb⟩
    go_wp2_with fail
    go_ret2
    exact gives_of rfl HR.out ⟨_, rfl, hr2, hb⟩


def sgR (s : List Int) (k mode order : Int) : List Int := onB (spB s k mode order) (sgL s k.toNat mode order) []
theorem sgR_len (s : List Int) (k mode order : Int) (h : s.length ≤ 1048576) : (sgR s k mode order).length ≤ 2000000 := by
  unfold sgR onB; split
  · rw [sgL, tab_len]; omega
  · simp


set_option maxHeartbeats 1000000 in
theorem spec_ShapedSums_is (v : Value) (s : List Int) (k mode order : Int) (w : World) (hs : Sl w v s) :
    Calls Try.prog 11 #[v, .int .i64 k, .int .i64 mode, .int .i64 order] w (Gives w (sgR s k mode order) (spB s k mode order)) := by
  cases hq : spB s k mode order
  · have HS := hid hs
    have HR := hid (show sgR s k mode order = [] from by unfold sgR; rw [hq]; rfl)
    have HQ := hid hq
    clear hq hs
    go_enter Try.func11, Try.ntmps11
    go_wp2_with fail
    refine (dmShaped_q v s k mode order false _ HS.out HQ.out).mono ?_
    rintro e w' ⟨rfl, rfl⟩
    go_wp2_with fail
    go_ret2
    exact gives_of rfl HR.out ⟨_, rfl, .inl ⟨rfl, rfl⟩, Below.refl _ _⟩
  · obtain ⟨hsg, ⟨k1, k2⟩, hm, ho⟩ := spB_t hq
    obtain ⟨n, rfl⟩ : ∃ n : Nat, k = n := ⟨k.toNat, by omega⟩
    have HS := hid hs
    have HR := hid (show sgR s (n : Int) mode order = sgL s n mode order from by unfold sgR; rw [hq]; rfl)
    have HQ := hid hq
    have HG := hid hsg
    have HM := hid (show mode = 0 ∨ mode = 1 ∨ mode = 2 from by omega)
    have HO := hid ho
    clear hq hs hsg hm ho
    go_enter Try.func11, Try.ntmps11
    go_wp2_with fail
    refine (dmShaped_q v s n mode order true _ HS.out HQ.out).mono ?_
    rintro e w' ⟨rfl, rfl⟩
    go_wp2_with fail
    refine (dmGaps_any v s n mode order _ HS.out HG.out.1 HG.out.2 (by omega) HM.out HO.out).mono ?_
    rintro e w1 ⟨u1, rfl, hr1, hb⟩
    go_wp2_with fail
    go_ret2
    exact gives_of rfl HR.out ⟨_, rfl, hr1, hb⟩


set_option maxHeartbeats 1000000 in
theorem impl_ShapedSums_is (v : Value) (s : List Int) (k mode order : Int) (w : World) (hs : Sl w v s) :
    Calls Try.prog 10 #[v, .int .i64 k, .int .i64 mode, .int .i64 order] w (Gives w (sgR s k mode order) (spB s k mode order)) := by
  cases hq : spB s k mode order
  · have HS := hid hs
    have HR := hid (show sgR s k mode order = [] from by unfold sgR; rw [hq]; rfl)
    have HQ := hid hq
    clear hq hs
    go_enter Try.func10, Try.ntmps10
    go_wp2_with fail
    refine (canShape_q v s k mode order false _ HS.out HQ.out).mono ?_
    rintro e w' ⟨rfl, rfl⟩
    go_wp2_with fail
    go_ret2
    exact gives_of rfl HR.out ⟨_, rfl, .inl ⟨rfl, rfl⟩, Below.refl _ _⟩
  · obtain ⟨hsg, ⟨k1, k2⟩, hm, ho⟩ := spB_t hq
    obtain ⟨n, rfl⟩ : ∃ n : Nat, k = n := ⟨k.toNat, by omega⟩
    have HS := hid hs
    have HR := hid (show sgR s (n : Int) mode order = sgL s n mode order from by unfold sgR; rw [hq]; rfl)
    have HQ := hid hq
    have HG := hid hsg
    have HM := hid (show mode = 0 ∨ mode = 1 ∨ mode = 2 from by omega)
    have HO := hid ho
    clear hq hs hsg hm ho
    go_enter Try.func10, Try.ntmps10
    go_wp2_with fail
    refine (canShape_q v s n mode order true _ HS.out HQ.out).mono ?_
    rintro e w' ⟨rfl, rfl⟩
    go_wp2_with fail
    refine (shapedSums_any v s n mode order _ HS.out HG.out.1 HG.out.2 (by omega) HM.out HO.out).mono ?_
    rintro e w1 ⟨u1, rfl, hr1, hb⟩
    go_wp2_with fail
    go_ret2
    exact gives_of rfl HR.out ⟨_, rfl, hr1, hb⟩


end Go.Proofs.Ythgdpmhpieakhaa
