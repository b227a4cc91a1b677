
import Derived.Test.YtdedifgpbehpoaaEd
namespace Go.Proofs.Ytdedifgpbehpoaa
open Go.RowKit BitX Go.MemX Go.Ch6
set_option linter.unusedVariables false

/-- what the four registers hold, at sample i, behind j stages -/
def hmI (b st : Nat) (f : Nat → Int) (i j t : Nat) : Int := if t < j then hdS b t f (i + 1) else if t < st then hdS b t f i else 0
theorem hmI_start (b st : Nat) (f : Nat → Int) : tab 4 (hmI b st f 0 0) = [0, 0, 0, 0] := by
  rw [show [0, 0, 0, 0] = tab 4 (fun _ => 0) from rfl]
  refine tab_congr _ _ _ fun t _ => ?_
  unfold hmI; rw [if_neg (by omega)]; split
  · exact hdS_zero _ _ _
  · rfl
theorem hmI_next (b st : Nat) (f : Nat → Int) (i : Nat) : tab 4 (hmI b st f i st) = tab 4 (hmI b st f (i + 1) 0) := by
  refine tab_congr _ _ _ fun t _ => ?_
  unfold hmI
  rw [if_neg (show ¬ t < 0 by omega)]
  by_cases h : t < st
  · simp only [if_pos h]
  · simp only [if_neg h]
theorem hmI_at (b st : Nat) (f : Nat → Int) (i j : Nat) (h : j < st) : hmI b st f i j j = hdS b j f i := by unfold hmI; rw [if_neg (by omega), if_pos h]
theorem hmI_set (b st : Nat) (f : Nat → Int) (i j : Nat) (x : Int) (hx : x = hdS b j f (i + 1)) : (tab 4 (hmI b st f i j)).set j x = tab 4 (hmI b st f i (j + 1)) := by
  refine tab_set _ _ _ _ ?_ fun t _ hne => ?_
  · unfold hmI; rw [if_pos (by omega), hx]
  · unfold hmI
    by_cases h : t < j
    · rw [if_pos h, if_pos (show t < j + 1 by omega)]
    · rw [if_neg h, if_neg (show ¬ t < j + 1 by omega)]
/-- the same for what came before -/
def dmI (b st : Nat) (f : Nat → Int) (i j t : Nat) : Int := if t < j then stD b t f i else if t < st then bef (stD b t f) i else 0
theorem dmI_start (b st : Nat) (f : Nat → Int) : tab 4 (dmI b st f 0 0) = [0, 0, 0, 0] := by
  rw [show [0, 0, 0, 0] = tab 4 (fun _ => 0) from rfl]
  refine tab_congr _ _ _ fun t _ => ?_
  unfold dmI; rw [if_neg (by omega)]; split
  · rfl
  · rfl
theorem dmI_next (b st : Nat) (f : Nat → Int) (i : Nat) : tab 4 (dmI b st f i st) = tab 4 (dmI b st f (i + 1) 0) := by
  refine tab_congr _ _ _ fun t _ => ?_
  unfold dmI
  rw [if_neg (show ¬ t < 0 by omega)]
  by_cases h : t < st
  · simp only [if_pos h]; rfl
  · simp only [if_neg h]
theorem dmI_at (b st : Nat) (f : Nat → Int) (i j : Nat) (h : j < st) : dmI b st f i j j = bef (stD b j f) i := by unfold dmI; rw [if_neg (by omega), if_pos h]
theorem dmI_set (b st : Nat) (f : Nat → Int) (i j : Nat) (x : Int) (hx : x = stD b j f i) : (tab 4 (dmI b st f i j)).set j x = tab 4 (dmI b st f i (j + 1)) := by
  refine tab_set _ _ _ _ ?_ fun t _ hne => ?_
  · unfold dmI; rw [if_pos (by omega), hx]
  · unfold dmI
    by_cases h : t < j
    · rw [if_pos h, if_pos (show t < j + 1 by omega)]
    · rw [if_neg h, if_neg (show ¬ t < j + 1 by omega)]
theorem blk_first (E : TypeId) (w : World) (o2 : Obj) {xs : List Int} (h : xs = [0, 0, 0, 0]) : Blk E ((w.alloc (.cells #[.int .i64 0, .int .i64 0, .int .i64 0, .int .i64 0] E)).alloc o2) w.heap.size xs := by
  subst h; exact heap_alloc2_old _ _ _
theorem blk_second (E : TypeId) (w : World) (o1 : Obj) {n : Nat} {xs : List Int} (h : xs = List.replicate n 0) : Blk E ((w.alloc o1).alloc (.cells (intsA (List.replicate n 0)) E)) (w.heap.size + 1) xs := by
  subst h; exact heap_alloc2_new _ _ _
theorem blk_other {E : TypeId} {w : World} {g g2 off : Nat} {v : Value} {xs : List Int} (h : Blk E w g xs) (hne : g2 ≠ g) : Blk E (w.setCell ⟨g2, off, none⟩ v) g xs := by
  unfold Blk at *
  rw [heap_setCell_other _ _ _ _ (by simp; omega)]; exact h
/-- what a call leaves that hands back a new list and a number -/
def GivesN (w : World) (xs : List Int) (c : Int) (e : Ending) (w' : World) : Prop :=
  ∃ v, e = .returned (.tuple #[v, .int .i64 c]) ∧ Res 3 w.heap.size w' v xs ∧ Below w.heap.size w w'


set_option maxHeartbeats 2000000 in
theorem wrappedSums_any (v : Value) (xs : List Int) (w : World) (hs : Sl w v xs) (hl : xs.length ≤ 64) (b st : Nat) (hi : InP (-549755813888) 549755813888 xs) (h1 : 2 ≤ b) (h2 : b ≤ 40) (h3 : 1 ≤ st) (h4 : st ≤ 4) :
    Calls Try.prog 43 #[v, .int .i64 (b : Int), .int .i64 (st : Int)] w (GivesN w (sumsL b st xs) (wraps b st xs.length (at0 xs))) := by
  have hs0 := hs
  obtain ⟨a, n, cap, rfl, hn, hrd⟩ := hs.rd
  have Hn := hid hn
  have Hrd := hid hrd
  have Hi := hid hi
  have hl' : n ≤ 64 := by omega
  have hmk := run_make_ints (P := Try.prog) 24 3 uslice iint n (by omega)
  clear hs hs0 hn hrd hi hl
  go_enter Try.func43, Try.ntmps43
  go_wp2_with fail
  go_loopw [10, 20] (fun cc i wr => ∃ k : Nat, k ≤ n ∧ cc = .int .i64 (wraps b st k (at0 xs)) ∧ i = .int .i64 k ∧ Blk 71 wr w.heap.size (tab 4 (hmI b st (at0 xs) k 0)) ∧ Blk 3 wr (w.heap.size + 1) (upTo (tab n (stS b st (at0 xs))) k) ∧ Below w.heap.size w wr)
    (fun _ i _ => n - (intOf i).toNat)
  case atStart => exact ⟨0, by omega, rfl, rfl, blk_first _ _ _ (hmI_start _ _ _), blk_second _ _ _ (by rw [upTo_zero, tab_len]), ((Below.refl _ _).alloc (Nat.le_refl _) _).alloc (by simp) _⟩
  case round =>
    obtain ⟨k, hk, rfl, rfl, hblk, hout, hb⟩ := hrel
    by_cases hlk : k < n
    · obtain ⟨x, hkx⟩ := get_lt xs k (by rw [← Hn.out]; exact hlk)
      obtain ⟨bb, oo, hix, hbb, hce⟩ := (Hrd.out.kept hb).at (P := Try.prog) (T := 24) n cap uslice sone hkx hlk
      have hx0 : stS b 0 (at0 xs) k = x := at0_of hkx
      have Hblk := hid hblk
      have Hout := hid hout
      have hwr0 : wraps b st k (at0 xs) + sumF 0 (fun t => chg b t (at0 xs) k) = wraps b st k (at0 xs) := by rw [sumF_zero]; omega
      have hwin := sumF_upto k (fun i => sumF st (fun t => chg b t (at0 xs) i)) 4 fun i _ => by
        have := sumF_upto st (fun t => chg b t (at0 xs) i) 1 fun t _ => chg_in _ _ _ _
        omega
      have hwst : wraps b st (k + 1) (at0 xs) = wraps b st k (at0 xs) + sumF st (fun t => chg b t (at0 xs) k) := rfl
      change 0 ≤ wraps b st k (at0 xs) ∧ wraps b st k (at0 xs) ≤ k * 4 at hwin
      obtain ⟨W, hW⟩ : ∃ W, W = wraps b st k (at0 xs) := ⟨_, rfl⟩
      rw [← hW] at hwr0 hwin hwst
      have hwin1 : W ≤ 256 := by omega
      have hwin0 : 0 ≤ W := hwin.1
      have Hwst := hid hwst
      have Hwr0 := hid hwr0
      have Hx0 := hid hx0
      rw [← hW]
      clear hblk hout hkx hx0 hwr0 hwin hwst hW
      go_wp2_with fail
      obtain ⟨wo, hwo⟩ : ∃ wo : World, wo = wr := ⟨_, rfl⟩
      subst hwo
      go_loopw [10, 12, 26] (fun cc y i wq => ∃ j : Nat, j ≤ st ∧ cc = .int .i64 (W + sumF j (fun t => chg b t (at0 xs) k)) ∧ y = .int .i64 (stS b j (at0 xs) k) ∧ i = .int .i64 j ∧ Blk 71 wq w.heap.size (tab 4 (hmI b st (at0 xs) k j)) ∧ Blk 3 wq (w.heap.size + 1) (upTo (tab n (stS b st (at0 xs))) k) ∧ Below w.heap.size w wq)
        (fun _ _ i _ => st - (intOf i).toNat)
      case atStart => exact ⟨0, by omega, by rw [Hwr0.out], by rw [Hx0.out], rfl, Hblk.out, Hout.out, hb⟩
      case round =>
        obtain ⟨j, hj, rfl, rfl, rfl, hblk, hout, hb⟩ := hrel
        by_cases hlj : j < st
        · have hcd : wr.cell? ⟨w.heap.size, j, none⟩ = some (.int .i64 (hdS b j (at0 xs) k)) := by rw [← hmI_at b st (at0 xs) k j hlj]; exact hblk.cell (tab_get _ _ _ (by omega))
          have hfd := hblk.free j
          have hS := hdS_succ b j (at0 xs) k
          have hT : stS b (j + 1) (at0 xs) k = wrI b (hdS b j (at0 xs) k + stS b j (at0 xs) k) := (stS_succ b j (at0 xs) k).trans hS
          have hset := hmI_set b st (at0 xs) k j _ hS.symm
          obtain ⟨a1, a2⟩ := hdS_in h2 j (at0 xs) k
          obtain ⟨y1, y2⟩ := stS_in h2 j (at0 xs) (inp_at0 Hi.out (by omega)) k
          have hch := sumF_succ j (fun t => chg b t (at0 xs) k)
          have hcin := sumF_upto j (fun t => chg b t (at0 xs) k) 1 fun t _ => chg_in _ _ _ _
          have hcv : chg b j (at0 xs) k = if hdS b j (at0 xs) (k + 1) = hdS b j (at0 xs) k + stS b j (at0 xs) k then 0 else 1 := rfl
          generalize stS b j (at0 xs) k = y at *
          generalize hdS b j (at0 xs) k = h at *
          obtain ⟨c, hc⟩ : ∃ c, c = sumF j (fun t => chg b t (at0 xs) k) := ⟨_, rfl⟩
          rw [← hc] at hch hcin
          rw [hcv, hS] at hch
          have hc1 : W + c ≤ 260 := by omega
          have hc2 : 0 ≤ W + c := by omega
          obtain ⟨d, hd⟩ : ∃ d, d = W + c := ⟨_, rfl⟩
          rw [← hd] at hc1 hc2
          have Hd := hid hd
          rw [← hc, ← hd]
          have Hblk := hid hblk
          have Hout := hid hout
          have HS := hid hS
          have j4 : j < 4 := by omega
          obtain ⟨z, hz⟩ : ∃ z, z = wrI b (h + y) := ⟨_, rfl⟩
          rw [← hz] at hch hT
          have HT := hid hT
          rw [← hz] at hset
          have Hset := hid hset
          have Hz := hid hz.symm
          by_cases heq : z = h + y
          · have hch2 : W + sumF (j + 1) (fun t => chg b t (at0 xs) k) = d := by rw [hch, if_pos heq, hd]; omega
            have Hch := hid hch2
            have hbne : (z != h + y) = false := bne_eq_false_iff_eq.2 heq
            clear hset hblk hout hS hch hch2 hcin hcv hc hd hz heq hT
            go_wp2_with fail
            refine (wrapped_any (h + y) b _ h1 h2 (by omega) (by omega)).mono ?_
            rintro e w' ⟨rfl, rfl⟩
            rw [Hz.out]
            go_wp2
            go_roundw
            case rel => exact ⟨j + 1, by omega, by rw [Hch.out], by rw [HT.out], by go_num, by rw [← Hset.out]; exact Hblk.out.set j z, blk_other Hout.out (by omega), hb.setCell (by simp) _⟩
            case measure => simp [intOf]; omega
          · have hch2 : W + sumF (j + 1) (fun t => chg b t (at0 xs) k) = d + 1 := by rw [hch, if_neg heq, hd]; omega
            have Hch := hid hch2
            have hbne : (z != h + y) = true := bne_iff_ne.2 heq
            clear hset hblk hout hS hch hch2 hcin hcv hc hd hz heq hT
            go_wp2_with fail
            refine (wrapped_any (h + y) b _ h1 h2 (by omega) (by omega)).mono ?_
            rintro e w' ⟨rfl, rfl⟩
            rw [Hz.out]
            go_wp2
            go_roundw
            case rel => exact ⟨j + 1, by omega, by rw [Hch.out], by rw [HT.out], by go_num, by rw [← Hset.out]; exact Hblk.out.set j z, blk_other Hout.out (by omega), hb.setCell (by simp) _⟩
            case measure => simp [intOf]; omega
        · have hge : (st : Int) ≤ (j : Int) := by omega
          have hjn : j = st := by omega
          rw [hjn] at hblk
          rw [hmI_next] at hblk
          have hkx2 : (tab n (stS b st (at0 xs)))[k]? = some (stS b st (at0 xs) k) := tab_get _ _ _ hlk
          have hst := upTo_step _ k _ hkx2
          have hcd : wr.cell? ⟨w.heap.size + 1, k, none⟩ = some (.int .i64 0) := hout.cell (upTo_get (tab n (stS b st (at0 xs))) k (by rw [tab_len]; exact hlk))
          have hfd := hout.free k
          have hw2 : W + sumF j (fun t => chg b t (at0 xs) k) = wraps b st (k + 1) (at0 xs) := by rw [hjn, Hwst.out]
          have hy : stS b j (at0 xs) k = stS b st (at0 xs) k := by rw [hjn]
          rw [hw2, hy]
          have Hblk := hid hblk
          have Hout := hid hout
          have Hst := hid hst
          generalize stS b st (at0 xs) k = y at *
          clear hlj hjn hblk hout hst hkx2 hw2 hy
          go_wp2
          go_roundw
          case rel => exact ⟨k + 1, by omega, rfl, by go_num, blk_other Hblk.out (by omega), by rw [← Hst.out]; exact Hout.out.set k y, hb.setCell (by simp) _⟩
          case measure => simp [intOf]; omega
    · have hge : (n : Int) ≤ (k : Int) := by omega
      have hkn : k = n := by omega
      have hf := upTo_full (tab n (stS b st (at0 xs)))
      rw [tab_len] at hf
      rw [hkn, hf] at hout
      have hw2 : wraps b st k (at0 xs) = wraps b st xs.length (at0 xs) := by rw [hkn, Hn.out]
      rw [hw2]
      have Hout := hid hout
      clear hlk hkn hblk hout hf hw2
      go_wp2
      go_ret2
      refine ⟨_, rfl, ?_, hb⟩
      have h2 := Hout.out.res (Nat.le_succ w.heap.size)
      rw [tab_len] at h2
      unfold sumsL
      rw [← Hn.out]; exact h2


set_option maxHeartbeats 2000000 in
theorem wrappedDifferences_any (v : Value) (xs : List Int) (w : World) (hs : Sl w v xs) (hl : xs.length ≤ 64) (b st : Nat) (hi : InP (-549755813888) 549755813888 xs) (h1 : 2 ≤ b) (h2 : b ≤ 40) (h3 : 1 ≤ st) (h4 : st ≤ 4) :
    Calls Try.prog 42 #[v, .int .i64 (b : Int), .int .i64 (st : Int)] w (GivesL w (difsL b st xs)) := by
  have hs0 := hs
  obtain ⟨a, n, cap, rfl, hn, hrd⟩ := hs.rd
  have Hn := hid hn
  have Hrd := hid hrd
  have Hi := hid hi
  have hl' : n ≤ 64 := by omega
  have hmk := run_make_ints (P := Try.prog) 24 3 uslice iint n (by omega)
  clear hs hs0 hn hrd hi hl
  go_enter Try.func42, Try.ntmps42
  go_wp2_with fail
  go_loopw [18] (fun i wr => ∃ k : Nat, k ≤ n ∧ i = .int .i64 k ∧ Blk 71 wr w.heap.size (tab 4 (dmI b st (at0 xs) k 0)) ∧ Blk 3 wr (w.heap.size + 1) (upTo (tab n (stD b st (at0 xs))) k) ∧ Below w.heap.size w wr)
    (fun i _ => n - (intOf i).toNat)
  case atStart => exact ⟨0, by omega, rfl, blk_first _ _ _ (dmI_start _ _ _), blk_second _ _ _ (by rw [upTo_zero, tab_len]), ((Below.refl _ _).alloc (Nat.le_refl _) _).alloc (by simp) _⟩
  case round =>
    obtain ⟨k, hk, rfl, hblk, hout, hb⟩ := hrel
    by_cases hlk : k < n
    · obtain ⟨x, hkx⟩ := get_lt xs k (by rw [← Hn.out]; exact hlk)
      obtain ⟨bb, oo, hix, hbb, hce⟩ := (Hrd.out.kept hb).at (P := Try.prog) (T := 24) n cap uslice sone hkx hlk
      have hx0 : stD b 0 (at0 xs) k = x := at0_of hkx
      have Hblk := hid hblk
      have Hout := hid hout
      have Hx0 := hid hx0
      clear hblk hout hkx hx0
      go_wp2_with fail
      obtain ⟨wo, hwo⟩ : ∃ wo : World, wo = wr := ⟨_, rfl⟩
      subst hwo
      go_loopw [10, 24] (fun y i wq => ∃ j : Nat, j ≤ st ∧ y = .int .i64 (stD b j (at0 xs) k) ∧ i = .int .i64 j ∧ Blk 71 wq w.heap.size (tab 4 (dmI b st (at0 xs) k j)) ∧ Blk 3 wq (w.heap.size + 1) (upTo (tab n (stD b st (at0 xs))) k) ∧ Below w.heap.size w wq)
        (fun _ i _ => st - (intOf i).toNat)
      case atStart => exact ⟨0, by omega, by rw [Hx0.out], rfl, Hblk.out, Hout.out, hb⟩
      case round =>
        obtain ⟨j, hj, rfl, rfl, hblk, hout, hb⟩ := hrel
        by_cases hlj : j < st
        · have hcd : wr.cell? ⟨w.heap.size, j, none⟩ = some (.int .i64 (bef (stD b j (at0 xs)) k)) := by rw [← dmI_at b st (at0 xs) k j hlj]; exact hblk.cell (tab_get _ _ _ (by omega))
          have hfd := hblk.free j
          have hset := dmI_set b st (at0 xs) k j _ rfl
          obtain ⟨y1, y2⟩ := stD_in h2 j (at0 xs) (inp_at0 Hi.out (by omega)) k
          obtain ⟨a1, a2⟩ := bef_in (by omega) (stD_in h2 j (at0 xs) (inp_at0 Hi.out (by omega))) k
          have hT : stD b (j + 1) (at0 xs) k = wrI b (stD b j (at0 xs) k - bef (stD b j (at0 xs)) k) := rfl
          generalize bef (stD b j (at0 xs)) k = h at *
          generalize stD b j (at0 xs) k = y at *
          have Hset := hid hset
          have Hblk := hid hblk
          have Hout := hid hout
          have HT := hid hT
          have j4 : j < 4 := by omega
          clear hset hblk hout hT
          go_wp2_with fail
          refine (wrapped_any (y - h) b _ h1 h2 (by omega) (by omega)).mono ?_
          rintro e w' ⟨rfl, rfl⟩
          go_wp2
          go_roundw
          case rel => exact ⟨j + 1, by omega, by rw [HT.out], by go_num, by rw [← Hset.out]; exact Hblk.out.set j y, blk_other Hout.out (by omega), hb.setCell (by simp) _⟩
          case measure => simp [intOf]; omega
        · have hge : (st : Int) ≤ (j : Int) := by omega
          have hjn : j = st := by omega
          rw [hjn] at hblk
          rw [dmI_next] at hblk
          have hkx2 : (tab n (stD b st (at0 xs)))[k]? = some (stD b st (at0 xs) k) := tab_get _ _ _ hlk
          have hst := upTo_step _ k _ hkx2
          have hcd : wr.cell? ⟨w.heap.size + 1, k, none⟩ = some (.int .i64 0) := hout.cell (upTo_get (tab n (stD b st (at0 xs))) k (by rw [tab_len]; exact hlk))
          have hfd := hout.free k
          have hy : stD b j (at0 xs) k = stD b st (at0 xs) k := by rw [hjn]
          rw [hy]
          have Hblk := hid hblk
          have Hout := hid hout
          have Hst := hid hst
          generalize stD b st (at0 xs) k = y at *
          clear hlj hjn hblk hout hst hkx2 hy
          go_wp2
          go_roundw
          case rel => exact ⟨k + 1, by omega, by go_num, blk_other Hblk.out (by omega), by rw [← Hst.out]; exact Hout.out.set k y, hb.setCell (by simp) _⟩
          case measure => simp [intOf]; omega
    · have hge : (n : Int) ≤ (k : Int) := by omega
      have hkn : k = n := by omega
      have hf := upTo_full (tab n (stD b st (at0 xs)))
      rw [tab_len] at hf
      rw [hkn, hf] at hout
      have Hout := hid hout
      clear hlk hkn hblk hout hf
      go_wp2
      go_ret
      refine ⟨_, rfl, ?_, hb⟩
      have h2 := Hout.out.res (Nat.le_succ w.heap.size)
      rw [tab_len] at h2
      unfold difsL
      rw [← Hn.out]; exact h2

end Go.Proofs.Ytdedifgpbehpoaa
