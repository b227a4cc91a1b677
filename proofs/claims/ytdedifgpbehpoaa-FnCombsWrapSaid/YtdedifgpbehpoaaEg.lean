
import Derived.Test.YtdedifgpbehpoaaEb
namespace Go.Proofs.Ytdedifgpbehpoaa
open Go.RowKit BitX Go.MemX Go.Ch6
set_option linter.unusedVariables false
def drF (r f : Nat) (xs : List Int) (k : Nat) : Int := at0 xs (f + k * r)
theorem drF_at {r f k p : Nat} {xs : List Int} {x : Int} (hp : p = f + k * r) (h : xs[p]? = some x) : drF r f xs k = x := by subst hp; exact at0_of h
theorem dropL_eq (r f : Nat) (xs : List Int) : dropL r f xs = tab (drN xs.length r f) (drF r f xs) := rfl
theorem step_mul {p f k r : Nat} (hp : p = f + k * r) : p + r = f + (k + 1) * r := by rw [hp, Nat.succ_mul]; omega


set_option maxHeartbeats 1000000 in
theorem cbDrop_any (v : Value) (xs : List Int) (r f : Nat) (w : World) (hs : Sl w v xs) (hl : xs.length ≤ 64) (hr1 : 1 ≤ r) (hr2 : r ≤ 8) (hf : f ≤ 8) :
    Calls Try.prog 60 #[v, .int .i64 (r : Int), .int .i64 (f : Int)] w (GivesL w (dropL r f xs)) := by
  obtain ⟨a, n, cap, rfl, hn, hrd⟩ := hs.rd
  have Hn := hid hn
  have Hrd := hid hrd
  have hl' : n ≤ 64 := by omega
  have Hlt := hid (fun k => @drN_lt n r f k hr1)
  clear hs hn hrd hl
  obtain ⟨i0, hi0, hz0, hz1, hz2⟩ := info_parts iint
  go_enter Try.func60, Try.ntmps60
  go_wp2_with fail
  go_loopw [7, 8] (fun v i wr => ∃ k p : Nat, k ≤ 64 ∧ Hid (p = f + k * r) ∧ Hid (k ≤ drN n r f) ∧ p ≤ 72 ∧ i = .int .i64 p ∧ wr.ownsRow w.heap.size 3 1 v k ((tab k (drF r f xs)).map (Value.int .i64)) ∧ Below w.heap.size w wr)
    (fun _ i _ => 73 - (intOf i).toNat)
  case atStart => exact ⟨0, f, by omega, hid (by omega), hid (by omega), by omega, rfl, World.ownsRow_nil _ _ _ _, Below.refl _ _⟩
  case round =>
    obtain ⟨k, p, hk, Hp, HK, hp72, rfl, hown, hb⟩ := hrel
    have hsz : w.heap.size ≤ wr.heap.size := hb.size
    by_cases hlk : p < n
    · obtain ⟨x, hkx⟩ := get_lt xs p (by rw [← Hn.out]; exact hlk)
      obtain ⟨bb, oo, hix, hbb, hce⟩ := (Hrd.out.kept hb).at (P := Try.prog) (T := 24) n cap uslice sone hkx hlk
      have hst := tab_step k (drF r f xs)
      rw [drF_at Hp.out hkx] at hst
      have hk2 : k < drN n r f := (Hlt.out k).2 (by rw [← Hp.out]; exact hlk)
      have hk3 : k + 1 ≤ 64 := by have := drN_le n r f hr1; omega
      have HK2 := hid (show k + 1 ≤ drN n r f from hk2)
      have Hp2 := hid (step_mul Hp.out)
      generalize hys : tab k (drF r f xs) = ys at hst hown
      have Hob := hid (ownsRow_base hown)
      have Hst := hid hst
      have Hown := hid hown
      clear hst hown hys hkx hk2
      go_wp2_with (at_builtin; refine wpList_append_own _ rfl _ _ 24 rfl w.heap.size 3 i0 (.int .i64 0) 1 8 uslice hi0 hz0 hz1 hz2 rfl (by decide) _ _ _ rfl (Hown.out.alloc _) ⟨wr.heap.size, 0, none⟩ 1 1 [.int .i64 (x)] rfl rfl ?c1 ?c2 ?c3 ?c4 ?c5 ?_)
      case c1 => exact cell_one_new _ _ _
      case c2 => intro u hu; simp at hu; subst hu; rfl
      case c3 => unfold maxLen; omega
      case c4 => omega
      case c5 => simp; omega
      intro v' w3 hown3 hgrow _
      have hb3 : Below w.heap.size w w3 := (hb.alloc hsz _).grown hgrow (by simp; omega) (fun j hj => Hob.out j hj)
      have Hown3 := hid hown3
      clear hown3 hgrow
      go_wp2
      go_roundw
      case rel => exact ⟨k + 1, p + r, by omega, Hp2, HK2, by omega, by go_num, by rw [Hst.out, List.map_append]; exact Hown3.out, hb3⟩
      case measure => simp [intOf]; omega
    · have hge : (n : Int) ≤ (p : Int) := by omega
      have hkn : k = drN n r f := by
        have h1 : ¬ k < drN n r f := fun h => by have := (Hlt.out k).1 h; rw [← Hp.out] at this; omega
        have h2 := HK.out
        omega
      have Hk := hid hkn
      have Hown := hid hown
      clear hkn hlk hown
      go_wp2
      go_ret
      have ho := Hown.out
      rw [Hk.out, Hn.out] at ho
      exact ⟨_, rfl, Res.owns (by rw [dropL_len, dropL_eq]; exact ho), hb⟩


set_option maxHeartbeats 1000000 in
theorem dropFrom_any (v : Value) (xs : List Int) (r f : Nat) (w : World) (hs : Sl w v xs) (hl : xs.length ≤ 64) (hr1 : 1 ≤ r) (hr2 : r ≤ 8) (hf : f ≤ 8) :
    Calls Try.prog 32 #[v, .int .i64 (r : Int), .int .i64 (f : Int)] w (GivesL w (dropL r f xs)) := by
  obtain ⟨a, n, cap, rfl, hn, hrd⟩ := hs.rd
  have Hn := hid hn
  have Hrd := hid hrd
  have hl' : n ≤ 64 := by omega
  have Hlt := hid (fun k => @drN_lt n r f k hr1)
  clear hs hn hrd hl
  obtain ⟨i0, hi0, hz0, hz1, hz2⟩ := info_parts iint
  go_enter Try.func32, Try.ntmps32
  go_wp2_with fail
  go_loopw [7, 8] (fun v i wr => ∃ k p : Nat, k ≤ 64 ∧ Hid (p = f + k * r) ∧ Hid (k ≤ drN n r f) ∧ p ≤ 72 ∧ i = .int .i64 p ∧ wr.ownsRow w.heap.size 3 1 v k ((tab k (drF r f xs)).map (Value.int .i64)) ∧ Below w.heap.size w wr)
    (fun _ i _ => 73 - (intOf i).toNat)
  case atStart => exact ⟨0, f, by omega, hid (by omega), hid (by omega), by omega, rfl, World.ownsRow_nil _ _ _ _, Below.refl _ _⟩
  case round =>
    obtain ⟨k, p, hk, Hp, HK, hp72, rfl, hown, hb⟩ := hrel
    have hsz : w.heap.size ≤ wr.heap.size := hb.size
    by_cases hlk : p < n
    · obtain ⟨x, hkx⟩ := get_lt xs p (by rw [← Hn.out]; exact hlk)
      obtain ⟨bb, oo, hix, hbb, hce⟩ := (Hrd.out.kept hb).at (P := Try.prog) (T := 24) n cap uslice sone hkx hlk
      have hst := tab_step k (drF r f xs)
      rw [drF_at Hp.out hkx] at hst
      have hk2 : k < drN n r f := (Hlt.out k).2 (by rw [← Hp.out]; exact hlk)
      have hk3 : k + 1 ≤ 64 := by have := drN_le n r f hr1; omega
      have HK2 := hid (show k + 1 ≤ drN n r f from hk2)
      have Hp2 := hid (step_mul Hp.out)
      generalize hys : tab k (drF r f xs) = ys at hst hown
      have Hob := hid (ownsRow_base hown)
      have Hst := hid hst
      have Hown := hid hown
      clear hst hown hys hkx hk2
      go_wp2_with (at_builtin; refine wpList_append_own _ rfl _ _ 24 rfl w.heap.size 3 i0 (.int .i64 0) 1 8 uslice hi0 hz0 hz1 hz2 rfl (by decide) _ _ _ rfl (Hown.out.alloc _) ⟨wr.heap.size, 0, none⟩ 1 1 [.int .i64 (x)] rfl rfl ?c1 ?c2 ?c3 ?c4 ?c5 ?_)
      case c1 => exact cell_one_new _ _ _
      case c2 => intro u hu; simp at hu; subst hu; rfl
      case c3 => unfold maxLen; omega
      case c4 => omega
      case c5 => simp; omega
      intro v' w3 hown3 hgrow _
      have hb3 : Below w.heap.size w w3 := (hb.alloc hsz _).grown hgrow (by simp; omega) (fun j hj => Hob.out j hj)
      have Hown3 := hid hown3
      clear hown3 hgrow
      go_wp2
      go_roundw
      case rel => exact ⟨k + 1, p + r, by omega, Hp2, HK2, by omega, by go_num, by rw [Hst.out, List.map_append]; exact Hown3.out, hb3⟩
      case measure => simp [intOf]; omega
    · have hge : (n : Int) ≤ (p : Int) := by omega
      have hkn : k = drN n r f := by
        have h1 : ¬ k < drN n r f := fun h => by have := (Hlt.out k).1 h; rw [← Hp.out] at this; omega
        have h2 := HK.out
        omega
      have Hk := hid hkn
      have Hown := hid hown
      clear hkn hlk hown
      go_wp2
      go_ret
      have ho := Hown.out
      rw [Hk.out, Hn.out] at ho
      exact ⟨_, rfl, Res.owns (by rw [dropL_len, dropL_eq]; exact ho), hb⟩


theorem mul64 {k n r : Nat} (hk : k ≤ n) (hn : n ≤ 64) (hr : r ≤ 8) : k * r ≤ n * r ∧ n * r ≤ 512 := ⟨Nat.mul_le_mul_right _ hk, Nat.mul_le_mul hn hr⟩
theorem mul_lt' {k n r : Nat} (hk : k < n) (hr : 1 ≤ r) : k * r + r ≤ n * r := by
  have := Nat.mul_le_mul_right r (Nat.succ_le_of_lt hk)
  rw [Nat.succ_mul] at this; exact this


set_option maxHeartbeats 1000000 in
theorem stuffWithZeros_any (v : Value) (xs : List Int) (r : Nat) (w : World) (hs : Sl w v xs) (hl : xs.length ≤ 64) (hr1 : 1 ≤ r) (hr2 : r ≤ 8) :
    Calls Try.prog 41 #[v, .int .i64 (r : Int)] w (GivesL w (stuffL r xs)) := by
  obtain ⟨a, n, cap, rfl, hn, hrd⟩ := hs.rd
  have Hn := hid hn
  have Hrd := hid hrd
  have hl' : n ≤ 64 := by omega
  obtain ⟨q, hq⟩ : ∃ q, q = n * r := ⟨_, rfl⟩
  have hq512 : q ≤ 512 := by rw [hq]; exact (mul64 (Nat.le_refl n) hl' hr2).2
  have hmk := run_make_ints (P := Try.prog) 24 3 uslice iint q (by omega)
  have hqi : (n : Int) * (r : Int) = (q : Int) := by rw [hq]; exact (Int.natCast_mul n r).symm
  have e1 : wrap64 ((n : Int) * (r : Int)) = (q : Int) := by rw [hqi]; exact IntWalk.wrap64_in _ (by omega)
  have e2 : IntKind.i64.wrap ((n : Int) * (r : Int)) = (q : Int) := by rw [hqi]; exact IntWalk.i64_in _ (by omega)
  have Hq := hid hq
  clear hs hn hrd hl hq hqi
  go_enter Try.func41, Try.ntmps41
  go_wp2_with fail
  clear e1 e2 hmk
  go_loopw [15] (fun i wr => ∃ k : Nat, k ≤ n ∧ i = .int .i64 k ∧ Blk 3 wr w.heap.size (tab q (stfU r k (at0 xs))) ∧ Below w.heap.size w wr)
    (fun i _ => n - (intOf i).toNat)
  case atStart => exact ⟨0, by omega, rfl, by rw [stfU_zero]; exact heap_alloc_new _ _, bel_alloc _ _⟩
  case round =>
    obtain ⟨k, hk, rfl, hblk, hb⟩ := hrel
    by_cases hlk : k < n
    · obtain ⟨x, hkx⟩ := get_lt xs k (by rw [← Hn.out]; exact hlk)
      obtain ⟨bb, oo, hix, hbb, hce⟩ := (Hrd.out.kept hb).at (P := Try.prog) (T := 24) n cap uslice sone hkx hlk
      obtain ⟨m, hm⟩ : ∃ m, m = k * r := ⟨_, rfl⟩
      have hmq : m < q := by rw [hm, Hq.out]; have := mul_lt' hlk hr1; omega
      have hmi : (k : Int) * (r : Int) = (m : Int) := by rw [hm]; exact (Int.natCast_mul k r).symm
      have e1 : wrap64 ((k : Int) * (r : Int)) = (m : Int) := by rw [hmi]; exact IntWalk.wrap64_in _ (by omega)
      have e2 : IntKind.i64.wrap ((k : Int) * (r : Int)) = (m : Int) := by rw [hmi]; exact IntWalk.i64_in _ (by omega)
      have hcd : wr.cell? ⟨w.heap.size, m, none⟩ = some (.int .i64 (stfU r k (at0 xs) m)) := hblk.cell (tab_get _ _ _ hmq)
      have hfd := hblk.free m
      have hset := stfU_set (at0 xs) hr1 hlk
      rw [← Hq.out, ← hm, at0_of hkx] at hset
      have Hset := hid hset
      have Hblk := hid hblk
      clear hset hblk hm hmi hkx
      go_wp2
      go_roundw
      case rel => exact ⟨k + 1, by omega, by go_num, by rw [← Hset.out]; exact Hblk.out.set m x, hb.setCell (by simp) _⟩
      case measure => simp [intOf]; omega
    · have hge : (n : Int) ≤ (k : Int) := by omega
      have hkn : k = n := by omega
      have hfull : tab q (stfU r k (at0 xs)) = stuffL r xs := by rw [hkn, Hq.out, stfU_full, Hn.out]; rfl
      rw [hfull] at hblk
      have Hblk := hid hblk
      clear hlk hkn hfull hblk
      go_wp2
      go_ret
      refine ⟨_, rfl, ?_, hb⟩
      have h2 := Hblk.out.res (Nat.le_refl _)
      rw [stuffL_len, ← Hn.out, ← Hq.out] at h2
      exact h2


set_option maxHeartbeats 1000000 in
theorem cbStuff_any (v : Value) (xs : List Int) (r : Nat) (w : World) (hs : Sl w v xs) (hl : xs.length ≤ 64) (hr1 : 1 ≤ r) (hr2 : r ≤ 8) :
    Calls Try.prog 45 #[v, .int .i64 (r : Int)] w (GivesL w (stuffL r xs)) := by
  obtain ⟨a, n, cap, rfl, hn, hrd⟩ := hs.rd
  have Hn := hid hn
  have Hrd := hid hrd
  have hl' : n ≤ 64 := by omega
  clear hs hn hrd hl
  obtain ⟨i0, hi0, hz0, hz1, hz2⟩ := info_parts iint
  go_enter Try.func45, Try.ntmps45
  go_wp2_with fail
  go_loopw [5, 11] (fun v i wr => ∃ k m : Nat, k ≤ n ∧ Hid (m = k * r) ∧ i = .int .i64 k ∧ wr.ownsRow w.heap.size 3 1 v m ((tab m (stf r (at0 xs))).map (Value.int .i64)) ∧ Below w.heap.size w wr)
    (fun _ i _ => n - (intOf i).toNat)
  case atStart => exact ⟨0, 0, by omega, hid (by omega), rfl, World.ownsRow_nil _ _ _ _, Below.refl _ _⟩
  case round =>
    obtain ⟨k, m, hk, Hm, rfl, hown, hb⟩ := hrel
    have hsz : w.heap.size ≤ wr.heap.size := hb.size
    by_cases hlk : k < n
    · obtain ⟨x, hkx⟩ := get_lt xs k (by rw [← Hn.out]; exact hlk)
      obtain ⟨bb, oo, hix, hbb, hce⟩ := (Hrd.out.kept hb).at (P := Try.prog) (T := 24) n cap uslice sone hkx hlk
      have hm512 : m + r ≤ 512 := by have h1 := mul_lt' hlk hr1; have h2 := (mul64 (Nat.le_of_lt hlk) hl' hr2).2; have h3 := Hm.out; omega
      have hst := tab_step m (stf r (at0 xs))
      rw [show stf r (at0 xs) m = x from by rw [Hm.out, stf_at _ hr1, at0_of hkx]] at hst
      generalize hys : tab m (stf r (at0 xs)) = ys at hst hown
      have Hob := hid (ownsRow_base hown)
      have Hst := hid hst
      have Hown := hid hown
      clear hst hown hys hkx
      go_wp2_with (at_builtin; refine wpList_append_own _ rfl _ _ 24 rfl w.heap.size 3 i0 (.int .i64 0) 1 8 uslice hi0 hz0 hz1 hz2 rfl (by decide) _ _ _ rfl (Hown.out.alloc _) ⟨wr.heap.size, 0, none⟩ 1 1 [.int .i64 (x)] rfl rfl ?c1 ?c2 ?c3 ?c4 ?c5 ?_)
      case c1 => exact cell_one_new _ _ _
      case c2 => intro u hu; simp at hu; subst hu; rfl
      case c3 => unfold maxLen; omega
      case c4 => omega
      case c5 => simp; omega
      intro v' w3 hown3 hgrow _
      have hb3 : Below w.heap.size w w3 := (hb.alloc hsz _).grown hgrow (by simp; omega) (fun j hj => Hob.out j hj)
      rw [show ys.map (Value.int .i64) ++ [Value.int .i64 x] = (tab (m + 1) (stf r (at0 xs))).map (Value.int .i64) from by rw [Hst.out, List.map_append]; rfl] at hown3
      have Hown3 := hid hown3
      clear hown3 hgrow Hst Hown Hob hb
      go_wp2_with fail
      go_loopw [5, 8] (fun v i wr => ∃ j : Nat, 1 ≤ j ∧ j ≤ r ∧ i = .int .i64 j ∧ wr.ownsRow w.heap.size 3 1 v (m + j) ((tab (m + j) (stf r (at0 xs))).map (Value.int .i64)) ∧ Below w.heap.size w wr)
        (fun _ i _ => r - (intOf i).toNat)
      case atStart => exact ⟨1, by omega, hr1, rfl, Hown3.out, hb3⟩
      case round =>
        obtain ⟨j, hj1, hj, rfl, hown, hb⟩ := hrel
        have hsz : w.heap.size ≤ wr.heap.size := hb.size
        by_cases hlj : j < r
        · have hst := tab_step (m + j) (stf r (at0 xs))
          rw [show stf r (at0 xs) (m + j) = 0 from by rw [Hm.out]; exact stf_in _ hj1 hlj] at hst
          generalize hys : tab (m + j) (stf r (at0 xs)) = ys at hst hown
          have Hob := hid (ownsRow_base hown)
          have Hst := hid hst
          have Hown := hid hown
          clear hst hown hys
          go_wp2_with (at_builtin; refine wpList_append_own _ rfl _ _ 24 rfl w.heap.size 3 i0 (.int .i64 0) 1 8 uslice hi0 hz0 hz1 hz2 rfl (by decide) _ _ _ rfl (Hown.out.alloc _) ⟨wr.heap.size, 0, none⟩ 1 1 [.int .i64 (0)] rfl rfl ?c1 ?c2 ?c3 ?c4 ?c5 ?_)
          case c1 => exact cell_one_new _ _ _
          case c2 => intro u hu; simp at hu; subst hu; rfl
          case c3 => unfold maxLen; omega
          case c4 => omega
          case c5 => simp; omega
          intro v' w3 hown3 hgrow _
          have hb3 : Below w.heap.size w w3 := (hb.alloc hsz _).grown hgrow (by simp; omega) (fun j hj => Hob.out j hj)
          have Hown3 := hid hown3
          clear hown3 hgrow
          go_wp2
          go_roundw
          case rel => exact ⟨j + 1, by omega, by omega, by go_num, by rw [show m + (j + 1) = m + j + 1 from rfl, Hst.out, List.map_append]; exact Hown3.out, hb3⟩
          case measure => simp [intOf]; omega
        · have hge : (r : Int) ≤ (j : Int) := by omega
          have hjr : j = r := by omega
          have Hm2 := hid (show m + j = (k + 1) * r from by rw [hjr, Hm.out, Nat.succ_mul])
          have Hown := hid hown
          clear hlj hjr hown
          go_wp2
          go_roundw
          case rel => exact ⟨k + 1, m + j, by omega, Hm2, by go_num, Hown.out, hb⟩
          case measure => simp [intOf]; omega
    · have hge : (n : Int) ≤ (k : Int) := by omega
      have hkn : m = xs.length * r := by rw [Hm.out, ← Hn.out]; congr 1; omega
      have Hk := hid hkn
      have Hown := hid hown
      clear hkn hlk hown
      go_wp2
      go_ret
      have ho := Hown.out
      rw [Hk.out] at ho
      exact ⟨_, rfl, Res.owns (by rw [stuffL_len]; exact ho), hb⟩

end Go.Proofs.Ytdedifgpbehpoaa
