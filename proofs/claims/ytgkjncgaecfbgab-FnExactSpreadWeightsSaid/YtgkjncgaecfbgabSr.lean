
import Derived.Test.YtgkjncgaecfbgabPw
namespace Go.Proofs.Ytgkjncgaecfbgab
open Go.RowKit BitX Go.MemX
set_option linter.unusedVariables false


/-- the weights with k - 1 noughts between each two -/
def sprF (h : List Int) (k i : Nat) : Int := if i % k = 0 then at0 h (i / k) else 0
def sprL (h : List Int) (k : Nat) : List Int := tab ((h.length - 1) * k + 1) (sprF h k)
/-- the noughts, and the weights up to the place i -/
def sprT (h : List Int) (k i : Nat) : Nat → Int := fun j => if j % k = 0 ∧ j / k < i then at0 h (j / k) else 0
theorem sprF_at (h : List Int) (k i : Nat) (hk : 0 < k) : sprF h k (i * k) = at0 h i := by
  unfold sprF; rw [if_pos (Nat.mul_mod_left i k), Nat.mul_div_cancel _ hk]
theorem sprF_no (h : List Int) (k i : Nat) (hi : i % k ≠ 0) : sprF h k i = 0 := by unfold sprF; rw [if_neg hi]
theorem sprT_zero (h : List Int) (k n : Nat) : tab n (sprT h k 0) = List.replicate n 0 := by
  rw [← tab_zero]; exact tab_congr _ _ _ fun i _ => by unfold sprT; rw [if_neg (fun a => Nat.not_lt_zero _ a.2)]
theorem sprT_set {h : List Int} {k i : Nat} {x : Int} (n : Nat) (hk : 0 < k) (hx : h[i]? = some x) : (tab n (sprT h k i)).set (i * k) x = tab n (sprT h k (i + 1)) := by
  refine tab_set _ _ _ _ ?_ fun j _ hne => ?_
  · unfold sprT
    rw [Nat.mul_mod_left, Nat.mul_div_cancel _ hk, if_pos ⟨rfl, Nat.lt_succ_self i⟩, at0_of hx]
  · unfold sprT
    by_cases hc : j % k = 0 ∧ j / k < i
    · rw [if_pos hc, if_pos ⟨hc.1, Nat.lt_succ_of_lt hc.2⟩]
    · rw [if_neg hc, if_neg]
      intro hc2
      have : j / k = i := by
        rcases Nat.lt_or_ge (j / k) i with h1 | h1
        · exact absurd ⟨hc2.1, h1⟩ hc
        · omega
      apply hne
      have h3 := Nat.div_add_mod j k
      rw [this, hc2.1, Nat.mul_comm] at h3
      omega
theorem sprT_full (h : List Int) (k n : Nat) : tab n (sprT h k h.length) = tab n (sprF h k) := tab_congr _ _ _ fun i _ => by
  unfold sprT sprF
  by_cases h1 : i % k = 0
  · rw [if_pos h1]
    by_cases h2 : i / k < h.length
    · rw [if_pos ⟨h1, h2⟩]
    · rw [if_neg (fun a => h2 a.2), at0_out (by omega)]
  · rw [if_neg h1, if_neg (fun a => h1 a.1)]
theorem sprT_get {h : List Int} {k i n : Nat} (hk : 0 < k) (hn : i * k < n) : (tab n (sprT h k i))[i * k]? = some 0 := by
  rw [tab_get _ _ _ hn]; unfold sprT
  rw [Nat.mul_div_cancel _ hk, if_neg (by omega)]
theorem spr_len {h : List Int} {k : Nat} : (sprL h k).length = (h.length - 1) * k + 1 := tab_len _ _


set_option maxHeartbeats 1600000 in
theorem impl_Spread_1 (v : Value) (h : List Int) (w : World) (hu : Sl w v h) (hw : WgtP h) :
    Calls Try.prog 27 #[v, .int .i64 1] w (Gives w (onB (wgtB (sprL h 1)) (sprL h 1) []) (wgtB (sprL h 1))) := by
  obtain ⟨a, n, cap, rfl, hn, hrd⟩ := hu.rd
  have HU := hid hu
  have HW := hid hw
  have Hn := hid hn
  have Hrd := hid hrd
  have hn1 : 1 ≤ n := by rw [hn]; exact hw.1.1
  have hn9 : n ≤ 9 := by rw [hn]; exact hw.1.2
  obtain ⟨L, hL⟩ : ∃ L : Nat, L = (n - 1) * 1 + 1 := ⟨_, rfl⟩
  have hL0 : L + 1 = n * 1 + 1 := by omega
  have hmk := run_make_ints (P := Try.prog) 22 3 uslice iint L (by omega)
  rw [show (L : Int) = (n : Int) from by omega] at hmk
  have hys : (sprL h 1) = tab L (sprT h 1 h.length) := by rw [sprT_full, hL, hn]; rfl
  have Hys := hid hys
  clear hu hw hn hrd hL hys
  go_enter Try.func27, Try.ntmps27
  go_wp2_with fail
  refine (impl_IsWeights_is _ h true _ HU.out (wgtB_of HW.out)).mono ?_
  rintro e w' ⟨rfl, rfl⟩
  go_wp2_with fail
  go_loopw [29] (fun i wr => ∃ k : Nat, k ≤ n ∧ i = .int .i64 k ∧ Blk 3 wr w.heap.size (tab L (sprT h 1 k)) ∧ Below w.heap.size w wr)
    (fun i _ => n - (intOf i).toNat)
  case atStart => exact ⟨0, by omega, rfl, by rw [sprT_zero]; exact heap_alloc_new _ _, bel_alloc _ _⟩
  case round =>
    obtain ⟨k, hk, rfl, hblk, hb⟩ := hrel
    by_cases hlk : k < n
    · obtain ⟨x, hkx⟩ := get_lt h k (by rw [← Hn.out]; exact hlk)
      obtain ⟨bb, oo, hix, hbb, hce⟩ := (Hrd.out.kept hb).at (P := Try.prog) (T := 22) n cap uslice sone hkx hlk
      have hkl : k * 1 < L := by omega
      have hcd : wr.cell? ⟨w.heap.size, k, none⟩ = some (.int .i64 0) := by have := hblk.cell (sprT_get (h := h) (k := 1) (by omega) hkl); rwa [Nat.mul_one] at this
      have hfd := hblk.free k
      have i2 : (0 : Int) ≤ (k : Int) := by omega
      have i3 : (k : Int) < (L : Int) := by omega
      have Hset := hid (sprT_set (k := 1) L (by omega) hkx)
      have Hblk := hid hblk
      clear hkx hblk
      go_wp2
      go_roundw
      case rel => exact ⟨k + 1, by omega, by go_num, by rw [← Hset.out, Nat.mul_one]; exact Hblk.out.set k _, hb.setCell (by simp) _⟩
      case measure => simp [intOf]; omega
    · have hge : (n : Int) ≤ (k : Int) := by omega
      have hkn : k = h.length := by rw [← Hn.out]; omega
      rw [hkn, ← Hys.out] at hblk
      have hlen : L = (sprL h 1).length := by rw [spr_len, ← Hn.out]; omega
      have hres : Res 3 w.heap.size wr (.slice (some ⟨w.heap.size, 0, none⟩) L L) (sprL h 1) := by have := hblk.res (Nat.le_refl _); rwa [← hlen] at this
      have Hres := hid hres
      clear hlk hkn hblk hlen hres
      go_wp2_with fail
      refine (onlyWeights_is _ (sprL h 1) (wgtB (sprL h 1)) _ Hres.out.sl rfl).mono ?_
      rintro e w' ⟨rfl, rfl⟩
      go_wp2_with fail
      go_ret2
      exact ⟨_, rfl, res_onB _ Hres.out, hb⟩


set_option maxHeartbeats 3200000 in
theorem spec_Spread_1 (v : Value) (h : List Int) (w : World) (hu : Sl w v h) (hw : WgtP h) :
    Calls Try.prog 26 #[v, .int .i64 1] w (Gives w (onB (wgtB (sprL h 1)) (sprL h 1) []) (wgtB (sprL h 1))) := by
  obtain ⟨a, n, cap, rfl, hn, hrd⟩ := hu.rd
  have HU := hid hu
  have HW := hid hw
  have Hn := hid hn
  have Hrd := hid hrd
  have hn1 : 1 ≤ n := by rw [hn]; exact hw.1.1
  have hn9 : n ≤ 9 := by rw [hn]; exact hw.1.2
  have hdk : decide ((1 : Int) ≤ 1 ∧ (1 : Int) ≤ 4) = true := rfl
  have HD := hid hdk
  obtain ⟨i0, hi0, hz0, hz1, hz2⟩ := info_parts iint
  clear hu hw hn hrd hdk
  go_enter Try.func26, Try.ntmps26
  go_wp2_with fail
  refine (weGood_is _ h true _ HU.out (wgtB_of HW.out)).mono ?_
  rintro e w' ⟨rfl, rfl⟩
  go_wp2_with fail
  refine (l1In_is _ _ _ true _ HD.out).mono ?_
  rintro e w' ⟨rfl, rfl⟩
  go_wp2_with fail
  go_loopw [6, 20] (fun v i wr => ∃ k m : Nat, k ≤ n ∧ i = .int .i64 k ∧ (m + 1 = k * 1 + 1 ∨ (k = 0 ∧ m = 0)) ∧ wr.ownsRow w.heap.size 3 1 v m ((tab m (sprF h 1)).map (Value.int .i64)) ∧ Below w.heap.size w wr)
    (fun _ i _ => n - (intOf i).toNat)
  case atStart => exact ⟨0, 0, by omega, rfl, .inr ⟨rfl, rfl⟩, World.ownsRow_nil _ _ _ _, Below.refl _ _⟩
  case round =>
    obtain ⟨k, m, hk, rfl, hm, hown, hb⟩ := hrel
    by_cases hlk : k < n
    · obtain ⟨x, hkx⟩ := get_lt h k (by rw [← Hn.out]; exact hlk)
      obtain ⟨bb, oo, hix, hbb, hce⟩ := (Hrd.out.kept hb).at (P := Try.prog) (T := 22) n cap uslice sone hkx hlk
      have Hx := hid (show sprF h 1 (k * 1) = x from by rw [sprF_at h 1 k (by omega), at0_of hkx])
      have Hown := hid hown
      clear hkx hown
      go_wp2_with fail
      obtain ⟨wo, rfl⟩ : ∃ wo : World, wo = wr := ⟨_, rfl⟩
      go_loopw [6, 9] (fun v i wq => ∃ t m2 : Nat, 1 ≤ t ∧ t ≤ 1 ∧ i = .int .i64 t ∧ ((0 < k ∧ m2 + 1 = k * 1 + t) ∨ (k = 0 ∧ m2 = 0 ∧ t = 1)) ∧ wq.ownsRow w.heap.size 3 1 v m2 ((tab m2 (sprF h 1)).map (Value.int .i64)) ∧ Below w.heap.size w wq)
        (fun _ i _ => 1 - (intOf i).toNat)
      case atStart => exact ⟨1, m, by omega, by omega, rfl, by omega, Hown.out, hb⟩
      case round =>
        obtain ⟨t, m2, ht1, ht2, rfl, hm2, hown2, hb2⟩ := hrel
        have hsz2 : w.heap.size ≤ wr.heap.size := hb2.size
        have Hob := hid (ownsRow_base hown2)
        clear Hown
        have Hown := hid hown2
        clear hown2
        by_cases hin : t < 1 ∧ 0 < k
        · exfalso; omega
        · have hm3 : m2 = k * 1 := by omega
          have hst : tab (m2 + 1) (sprF h 1) = tab m2 (sprF h 1) ++ [x] := by rw [tab_step, hm3, Hx.out]
          have Hst := hid hst
          have Hm3 := hid hm3
          have hm72 : m2 ≤ 72 := by omega
          generalize hys : tab m2 (sprF h 1) = ys at *
          clear hst hm hm2 hm3 hys
          by_cases htK : t < 1
          · exfalso; omega
          · have hge : (1 : Int) ≤ (t : Int) := by omega
            clear hin htK
            go_wp2_with (at_builtin; refine wpList_append_own _ rfl (.tmp 37) (.tmp 39) 22 rfl w.heap.size 3 i0 (.int .i64 0) 1 8 uslice hi0 hz0 hz1 hz2 rfl (by decide) _ _ _ rfl (Hown.out.alloc _) ⟨wr.heap.size, 0, none⟩ 1 1 [.int .i64 (x)] rfl rfl ?e1 ?e2 ?e3 ?e4 ?e5 ?_)
            try (case e1 => exact cell_one_new _ _ _)
            try (case e2 => first | rfl | (intro u hu; simp at hu; subst hu; rfl))
            try (case e3 => first | omega | (unfold maxLen; omega))
            try (case e4 => omega)
            try (case e5 => first | omega | (simp; omega))
            · intro v' w3 hown3 hgrow _
              have hb3 : Below w.heap.size w w3 := (hb2.alloc hsz2 _).grown hgrow (by simp; omega) (fun j hj => Hob.out j hj)
              have Hown3 := hid hown3
              clear hown3 hgrow
              go_wp2
              go_roundw
              case rel => exact ⟨k + 1, m2 + 1, by omega, by go_num, .inl (by have := Hm3.out; omega), by rw [Hst.out, List.map_append]; exact Hown3.out, hb3⟩
              case measure => simp [intOf]; omega
    · have hge : (n : Int) ≤ (k : Int) := by omega
      have hkn : k = n := by omega
      have hmL : m = (h.length - 1) * 1 + 1 := by rw [← Hn.out]; omega
      have hsp : tab m (sprF h 1) = sprL h 1 := by unfold sprL; rw [hmL]
      have hml2 : m = (sprL h 1).length := by rw [spr_len, hmL]
      rw [hsp, hml2] at hown
      have hres := Res.owns hown
      have Hres := hid hres
      clear hlk hkn hm hmL hown hres hsp hml2
      go_wp2_with fail
      refine (weIf_is _ (sprL h 1) (wgtB (sprL h 1)) _ Hres.out.sl rfl).mono ?_
      rintro e w' ⟨rfl, rfl⟩
      go_wp2_with fail
      go_ret2
      exact ⟨_, rfl, res_onB _ Hres.out, hb⟩


set_option maxHeartbeats 1600000 in
theorem impl_Spread_2 (v : Value) (h : List Int) (w : World) (hu : Sl w v h) (hw : WgtP h) :
    Calls Try.prog 27 #[v, .int .i64 2] w (Gives w (onB (wgtB (sprL h 2)) (sprL h 2) []) (wgtB (sprL h 2))) := by
  obtain ⟨a, n, cap, rfl, hn, hrd⟩ := hu.rd
  have HU := hid hu
  have HW := hid hw
  have Hn := hid hn
  have Hrd := hid hrd
  have hn1 : 1 ≤ n := by rw [hn]; exact hw.1.1
  have hn9 : n ≤ 9 := by rw [hn]; exact hw.1.2
  obtain ⟨L, hL⟩ : ∃ L : Nat, L = (n - 1) * 2 + 1 := ⟨_, rfl⟩
  have hL0 : L + 2 = n * 2 + 1 := by omega
  have hmk := run_make_ints (P := Try.prog) 22 3 uslice iint L (by omega)
  rw [show (L : Int) = ((n : Int) - 1) * 2 + 1 from by omega] at hmk
  have hys : (sprL h 2) = tab L (sprT h 2 h.length) := by rw [sprT_full, hL, hn]; rfl
  have Hys := hid hys
  clear hu hw hn hrd hL hys
  go_enter Try.func27, Try.ntmps27
  go_wp2_with fail
  refine (impl_IsWeights_is _ h true _ HU.out (wgtB_of HW.out)).mono ?_
  rintro e w' ⟨rfl, rfl⟩
  go_wp2_with fail
  go_loopw [29] (fun i wr => ∃ k : Nat, k ≤ n ∧ i = .int .i64 k ∧ Blk 3 wr w.heap.size (tab L (sprT h 2 k)) ∧ Below w.heap.size w wr)
    (fun i _ => n - (intOf i).toNat)
  case atStart => exact ⟨0, by omega, rfl, by rw [sprT_zero]; exact heap_alloc_new _ _, bel_alloc _ _⟩
  case round =>
    obtain ⟨k, hk, rfl, hblk, hb⟩ := hrel
    by_cases hlk : k < n
    · obtain ⟨x, hkx⟩ := get_lt h k (by rw [← Hn.out]; exact hlk)
      obtain ⟨bb, oo, hix, hbb, hce⟩ := (Hrd.out.kept hb).at (P := Try.prog) (T := 22) n cap uslice sone hkx hlk
      have hkl : k * 2 < L := by omega
      have hcd : wr.cell? ⟨w.heap.size, k * 2, none⟩ = some (.int .i64 0) := hblk.cell (sprT_get (by omega) hkl)
      have hfd := hblk.free (k * 2)
      have i1 : ((k : Int) * 2).toNat = k * 2 := by omega
      have i2 : (0 : Int) ≤ (k : Int) * 2 := by omega
      have i3 : (k : Int) * 2 < (L : Int) := by omega
      have Hset := hid (sprT_set (k := 2) L (by omega) hkx)
      have Hblk := hid hblk
      clear hkx hblk
      go_wp2
      go_roundw
      case rel => exact ⟨k + 1, by omega, by go_num, by rw [← Hset.out]; exact Hblk.out.set (k * 2) _, hb.setCell (by simp) _⟩
      case measure => simp [intOf]; omega
    · have hge : (n : Int) ≤ (k : Int) := by omega
      have hkn : k = h.length := by rw [← Hn.out]; omega
      rw [hkn, ← Hys.out] at hblk
      have hlen : L = (sprL h 2).length := by rw [spr_len, ← Hn.out]; omega
      have hres : Res 3 w.heap.size wr (.slice (some ⟨w.heap.size, 0, none⟩) L L) (sprL h 2) := by have := hblk.res (Nat.le_refl _); rwa [← hlen] at this
      have Hres := hid hres
      clear hlk hkn hblk hlen hres
      go_wp2_with fail
      refine (onlyWeights_is _ (sprL h 2) (wgtB (sprL h 2)) _ Hres.out.sl rfl).mono ?_
      rintro e w' ⟨rfl, rfl⟩
      go_wp2_with fail
      go_ret2
      exact ⟨_, rfl, res_onB _ Hres.out, hb⟩


set_option maxHeartbeats 3200000 in
theorem spec_Spread_2 (v : Value) (h : List Int) (w : World) (hu : Sl w v h) (hw : WgtP h) :
    Calls Try.prog 26 #[v, .int .i64 2] w (Gives w (onB (wgtB (sprL h 2)) (sprL h 2) []) (wgtB (sprL h 2))) := by
  obtain ⟨a, n, cap, rfl, hn, hrd⟩ := hu.rd
  have HU := hid hu
  have HW := hid hw
  have Hn := hid hn
  have Hrd := hid hrd
  have hn1 : 1 ≤ n := by rw [hn]; exact hw.1.1
  have hn9 : n ≤ 9 := by rw [hn]; exact hw.1.2
  have hdk : decide ((1 : Int) ≤ 2 ∧ (2 : Int) ≤ 4) = true := rfl
  have HD := hid hdk
  obtain ⟨i0, hi0, hz0, hz1, hz2⟩ := info_parts iint
  clear hu hw hn hrd hdk
  go_enter Try.func26, Try.ntmps26
  go_wp2_with fail
  refine (weGood_is _ h true _ HU.out (wgtB_of HW.out)).mono ?_
  rintro e w' ⟨rfl, rfl⟩
  go_wp2_with fail
  refine (l1In_is _ _ _ true _ HD.out).mono ?_
  rintro e w' ⟨rfl, rfl⟩
  go_wp2_with fail
  go_loopw [6, 20] (fun v i wr => ∃ k m : Nat, k ≤ n ∧ i = .int .i64 k ∧ (m + 2 = k * 2 + 1 ∨ (k = 0 ∧ m = 0)) ∧ wr.ownsRow w.heap.size 3 1 v m ((tab m (sprF h 2)).map (Value.int .i64)) ∧ Below w.heap.size w wr)
    (fun _ i _ => n - (intOf i).toNat)
  case atStart => exact ⟨0, 0, by omega, rfl, .inr ⟨rfl, rfl⟩, World.ownsRow_nil _ _ _ _, Below.refl _ _⟩
  case round =>
    obtain ⟨k, m, hk, rfl, hm, hown, hb⟩ := hrel
    by_cases hlk : k < n
    · obtain ⟨x, hkx⟩ := get_lt h k (by rw [← Hn.out]; exact hlk)
      obtain ⟨bb, oo, hix, hbb, hce⟩ := (Hrd.out.kept hb).at (P := Try.prog) (T := 22) n cap uslice sone hkx hlk
      have Hx := hid (show sprF h 2 (k * 2) = x from by rw [sprF_at h 2 k (by omega), at0_of hkx])
      have Hown := hid hown
      clear hkx hown
      go_wp2_with fail
      obtain ⟨wo, rfl⟩ : ∃ wo : World, wo = wr := ⟨_, rfl⟩
      go_loopw [6, 9] (fun v i wq => ∃ t m2 : Nat, 1 ≤ t ∧ t ≤ 2 ∧ i = .int .i64 t ∧ ((0 < k ∧ m2 + 2 = k * 2 + t) ∨ (k = 0 ∧ m2 = 0 ∧ t = 1)) ∧ wq.ownsRow w.heap.size 3 1 v m2 ((tab m2 (sprF h 2)).map (Value.int .i64)) ∧ Below w.heap.size w wq)
        (fun _ i _ => 2 - (intOf i).toNat)
      case atStart => exact ⟨1, m, by omega, by omega, rfl, by omega, Hown.out, hb⟩
      case round =>
        obtain ⟨t, m2, ht1, ht2, rfl, hm2, hown2, hb2⟩ := hrel
        have hsz2 : w.heap.size ≤ wr.heap.size := hb2.size
        have Hob := hid (ownsRow_base hown2)
        clear Hown
        have Hown := hid hown2
        clear hown2
        by_cases hin : t < 2 ∧ 0 < k
        · obtain ⟨hin1, hin2⟩ := hin
          have hm3 : m2 + 2 = k * 2 + t := by omega
          have hst : tab (m2 + 1) (sprF h 2) = tab m2 (sprF h 2) ++ [0] := by rw [tab_step, sprF_no h 2 m2 (by omega)]
          have Hst := hid hst
          have i1 : (0 : Int) < (k : Int) := by omega
          have i2 : (t : Int) < 2 := by omega
          clear hst hm hm2
          generalize hys : tab m2 (sprF h 2) = ys at *
          clear hys
          go_wp2_with (at_builtin; refine wpList_append_own _ rfl (.tmp 34) (.tmp 35) 22 rfl w.heap.size 3 i0 (.int .i64 0) 1 8 uslice hi0 hz0 hz1 hz2 rfl (by decide) _ _ _ rfl (Hown.out.alloc _) ⟨wr.heap.size, 0, none⟩ 1 1 [.int .i64 (0)] rfl rfl ?c1 ?c2 ?c3 ?c4 ?c5 ?_)
          try (case c1 => exact cell_one_new _ _ _)
          try (case c2 => first | rfl | (intro u hu; simp at hu; subst hu; rfl))
          try (case c3 => first | omega | (unfold maxLen; omega))
          try (case c4 => omega)
          try (case c5 => first | omega | (simp; omega))
          · intro v' w3 hown3 hgrow _
            have hb3 : Below w.heap.size w w3 := (hb2.alloc hsz2 _).grown hgrow (by simp; omega) (fun j hj => Hob.out j hj)
            have Hown3 := hid hown3
            clear hown3 hgrow
            go_wp2
            go_roundw
            case rel => exact ⟨t + 1, m2 + 1, by omega, by omega, by go_num, .inl ⟨by omega, by omega⟩, by rw [Hst.out, List.map_append]; exact Hown3.out, hb3⟩
            case measure => simp [intOf]; omega
        · have hm3 : m2 = k * 2 := by omega
          have hst : tab (m2 + 1) (sprF h 2) = tab m2 (sprF h 2) ++ [x] := by rw [tab_step, hm3, Hx.out]
          have Hst := hid hst
          have Hm3 := hid hm3
          have hm72 : m2 ≤ 72 := by omega
          generalize hys : tab m2 (sprF h 2) = ys at *
          clear hst hm hm2 hm3 hys
          by_cases htK : t < 2
          · have hk0 : k = 0 := by omega
            have hkn : ¬ (0 : Int) < (k : Int) := by omega
            have i2 : (t : Int) < 2 := by omega
            have hd : decide ((0 : Int) < (k : Int)) = false := decide_eq_false hkn
            have Hk0 := hid hk0
            clear hin hk0
            go_wp2_with (at_builtin; refine wpList_append_own _ rfl (.tmp 37) (.tmp 39) 22 rfl w.heap.size 3 i0 (.int .i64 0) 1 8 uslice hi0 hz0 hz1 hz2 rfl (by decide) _ _ _ rfl (Hown.out.alloc _) ⟨wr.heap.size, 0, none⟩ 1 1 [.int .i64 (x)] rfl rfl ?d1 ?d2 ?d3 ?d4 ?d5 ?_)
            try (case d1 => exact cell_one_new _ _ _)
            try (case d2 => first | rfl | (intro u hu; simp at hu; subst hu; rfl))
            try (case d3 => first | omega | (unfold maxLen; omega))
            try (case d4 => omega)
            try (case d5 => first | omega | (simp; omega))
            · intro v' w3 hown3 hgrow _
              have hb3 : Below w.heap.size w w3 := (hb2.alloc hsz2 _).grown hgrow (by simp; omega) (fun j hj => Hob.out j hj)
              have Hown3 := hid hown3
              clear hown3 hgrow
              go_wp2
              go_roundw
              case rel => exact ⟨k + 1, m2 + 1, by omega, by go_num, .inl (by have := Hm3.out; omega), by rw [Hst.out, List.map_append]; exact Hown3.out, hb3⟩
              case measure => simp [intOf]; omega
          · have hge : (2 : Int) ≤ (t : Int) := by omega
            clear hin htK
            go_wp2_with (at_builtin; refine wpList_append_own _ rfl (.tmp 37) (.tmp 39) 22 rfl w.heap.size 3 i0 (.int .i64 0) 1 8 uslice hi0 hz0 hz1 hz2 rfl (by decide) _ _ _ rfl (Hown.out.alloc _) ⟨wr.heap.size, 0, none⟩ 1 1 [.int .i64 (x)] rfl rfl ?e1 ?e2 ?e3 ?e4 ?e5 ?_)
            try (case e1 => exact cell_one_new _ _ _)
            try (case e2 => first | rfl | (intro u hu; simp at hu; subst hu; rfl))
            try (case e3 => first | omega | (unfold maxLen; omega))
            try (case e4 => omega)
            try (case e5 => first | omega | (simp; omega))
            · intro v' w3 hown3 hgrow _
              have hb3 : Below w.heap.size w w3 := (hb2.alloc hsz2 _).grown hgrow (by simp; omega) (fun j hj => Hob.out j hj)
              have Hown3 := hid hown3
              clear hown3 hgrow
              go_wp2
              go_roundw
              case rel => exact ⟨k + 1, m2 + 1, by omega, by go_num, .inl (by have := Hm3.out; omega), by rw [Hst.out, List.map_append]; exact Hown3.out, hb3⟩
              case measure => simp [intOf]; omega
    · have hge : (n : Int) ≤ (k : Int) := by omega
      have hkn : k = n := by omega
      have hmL : m = (h.length - 1) * 2 + 1 := by rw [← Hn.out]; omega
      have hsp : tab m (sprF h 2) = sprL h 2 := by unfold sprL; rw [hmL]
      have hml2 : m = (sprL h 2).length := by rw [spr_len, hmL]
      rw [hsp, hml2] at hown
      have hres := Res.owns hown
      have Hres := hid hres
      clear hlk hkn hm hmL hown hres hsp hml2
      go_wp2_with fail
      refine (weIf_is _ (sprL h 2) (wgtB (sprL h 2)) _ Hres.out.sl rfl).mono ?_
      rintro e w' ⟨rfl, rfl⟩
      go_wp2_with fail
      go_ret2
      exact ⟨_, rfl, res_onB _ Hres.out, hb⟩


set_option maxHeartbeats 1600000 in
theorem impl_Spread_3 (v : Value) (h : List Int) (w : World) (hu : Sl w v h) (hw : WgtP h) :
    Calls Try.prog 27 #[v, .int .i64 3] w (Gives w (onB (wgtB (sprL h 3)) (sprL h 3) []) (wgtB (sprL h 3))) := by
  obtain ⟨a, n, cap, rfl, hn, hrd⟩ := hu.rd
  have HU := hid hu
  have HW := hid hw
  have Hn := hid hn
  have Hrd := hid hrd
  have hn1 : 1 ≤ n := by rw [hn]; exact hw.1.1
  have hn9 : n ≤ 9 := by rw [hn]; exact hw.1.2
  obtain ⟨L, hL⟩ : ∃ L : Nat, L = (n - 1) * 3 + 1 := ⟨_, rfl⟩
  have hL0 : L + 3 = n * 3 + 1 := by omega
  have hmk := run_make_ints (P := Try.prog) 22 3 uslice iint L (by omega)
  rw [show (L : Int) = ((n : Int) - 1) * 3 + 1 from by omega] at hmk
  have hys : (sprL h 3) = tab L (sprT h 3 h.length) := by rw [sprT_full, hL, hn]; rfl
  have Hys := hid hys
  clear hu hw hn hrd hL hys
  go_enter Try.func27, Try.ntmps27
  go_wp2_with fail
  refine (impl_IsWeights_is _ h true _ HU.out (wgtB_of HW.out)).mono ?_
  rintro e w' ⟨rfl, rfl⟩
  go_wp2_with fail
  go_loopw [29] (fun i wr => ∃ k : Nat, k ≤ n ∧ i = .int .i64 k ∧ Blk 3 wr w.heap.size (tab L (sprT h 3 k)) ∧ Below w.heap.size w wr)
    (fun i _ => n - (intOf i).toNat)
  case atStart => exact ⟨0, by omega, rfl, by rw [sprT_zero]; exact heap_alloc_new _ _, bel_alloc _ _⟩
  case round =>
    obtain ⟨k, hk, rfl, hblk, hb⟩ := hrel
    by_cases hlk : k < n
    · obtain ⟨x, hkx⟩ := get_lt h k (by rw [← Hn.out]; exact hlk)
      obtain ⟨bb, oo, hix, hbb, hce⟩ := (Hrd.out.kept hb).at (P := Try.prog) (T := 22) n cap uslice sone hkx hlk
      have hkl : k * 3 < L := by omega
      have hcd : wr.cell? ⟨w.heap.size, k * 3, none⟩ = some (.int .i64 0) := hblk.cell (sprT_get (by omega) hkl)
      have hfd := hblk.free (k * 3)
      have i1 : ((k : Int) * 3).toNat = k * 3 := by omega
      have i2 : (0 : Int) ≤ (k : Int) * 3 := by omega
      have i3 : (k : Int) * 3 < (L : Int) := by omega
      have Hset := hid (sprT_set (k := 3) L (by omega) hkx)
      have Hblk := hid hblk
      clear hkx hblk
      go_wp2
      go_roundw
      case rel => exact ⟨k + 1, by omega, by go_num, by rw [← Hset.out]; exact Hblk.out.set (k * 3) _, hb.setCell (by simp) _⟩
      case measure => simp [intOf]; omega
    · have hge : (n : Int) ≤ (k : Int) := by omega
      have hkn : k = h.length := by rw [← Hn.out]; omega
      rw [hkn, ← Hys.out] at hblk
      have hlen : L = (sprL h 3).length := by rw [spr_len, ← Hn.out]; omega
      have hres : Res 3 w.heap.size wr (.slice (some ⟨w.heap.size, 0, none⟩) L L) (sprL h 3) := by have := hblk.res (Nat.le_refl _); rwa [← hlen] at this
      have Hres := hid hres
      clear hlk hkn hblk hlen hres
      go_wp2_with fail
      refine (onlyWeights_is _ (sprL h 3) (wgtB (sprL h 3)) _ Hres.out.sl rfl).mono ?_
      rintro e w' ⟨rfl, rfl⟩
      go_wp2_with fail
      go_ret2
      exact ⟨_, rfl, res_onB _ Hres.out, hb⟩


set_option maxHeartbeats 3200000 in
theorem spec_Spread_3 (v : Value) (h : List Int) (w : World) (hu : Sl w v h) (hw : WgtP h) :
    Calls Try.prog 26 #[v, .int .i64 3] w (Gives w (onB (wgtB (sprL h 3)) (sprL h 3) []) (wgtB (sprL h 3))) := by
  obtain ⟨a, n, cap, rfl, hn, hrd⟩ := hu.rd
  have HU := hid hu
  have HW := hid hw
  have Hn := hid hn
  have Hrd := hid hrd
  have hn1 : 1 ≤ n := by rw [hn]; exact hw.1.1
  have hn9 : n ≤ 9 := by rw [hn]; exact hw.1.2
  have hdk : decide ((1 : Int) ≤ 3 ∧ (3 : Int) ≤ 4) = true := rfl
  have HD := hid hdk
  obtain ⟨i0, hi0, hz0, hz1, hz2⟩ := info_parts iint
  clear hu hw hn hrd hdk
  go_enter Try.func26, Try.ntmps26
  go_wp2_with fail
  refine (weGood_is _ h true _ HU.out (wgtB_of HW.out)).mono ?_
  rintro e w' ⟨rfl, rfl⟩
  go_wp2_with fail
  refine (l1In_is _ _ _ true _ HD.out).mono ?_
  rintro e w' ⟨rfl, rfl⟩
  go_wp2_with fail
  go_loopw [6, 20] (fun v i wr => ∃ k m : Nat, k ≤ n ∧ i = .int .i64 k ∧ (m + 3 = k * 3 + 1 ∨ (k = 0 ∧ m = 0)) ∧ wr.ownsRow w.heap.size 3 1 v m ((tab m (sprF h 3)).map (Value.int .i64)) ∧ Below w.heap.size w wr)
    (fun _ i _ => n - (intOf i).toNat)
  case atStart => exact ⟨0, 0, by omega, rfl, .inr ⟨rfl, rfl⟩, World.ownsRow_nil _ _ _ _, Below.refl _ _⟩
  case round =>
    obtain ⟨k, m, hk, rfl, hm, hown, hb⟩ := hrel
    by_cases hlk : k < n
    · obtain ⟨x, hkx⟩ := get_lt h k (by rw [← Hn.out]; exact hlk)
      obtain ⟨bb, oo, hix, hbb, hce⟩ := (Hrd.out.kept hb).at (P := Try.prog) (T := 22) n cap uslice sone hkx hlk
      have Hx := hid (show sprF h 3 (k * 3) = x from by rw [sprF_at h 3 k (by omega), at0_of hkx])
      have Hown := hid hown
      clear hkx hown
      go_wp2_with fail
      obtain ⟨wo, rfl⟩ : ∃ wo : World, wo = wr := ⟨_, rfl⟩
      go_loopw [6, 9] (fun v i wq => ∃ t m2 : Nat, 1 ≤ t ∧ t ≤ 3 ∧ i = .int .i64 t ∧ ((0 < k ∧ m2 + 3 = k * 3 + t) ∨ (k = 0 ∧ m2 = 0 ∧ t = 1)) ∧ wq.ownsRow w.heap.size 3 1 v m2 ((tab m2 (sprF h 3)).map (Value.int .i64)) ∧ Below w.heap.size w wq)
        (fun _ i _ => 3 - (intOf i).toNat)
      case atStart => exact ⟨1, m, by omega, by omega, rfl, by omega, Hown.out, hb⟩
      case round =>
        obtain ⟨t, m2, ht1, ht2, rfl, hm2, hown2, hb2⟩ := hrel
        have hsz2 : w.heap.size ≤ wr.heap.size := hb2.size
        have Hob := hid (ownsRow_base hown2)
        clear Hown
        have Hown := hid hown2
        clear hown2
        by_cases hin : t < 3 ∧ 0 < k
        · obtain ⟨hin1, hin2⟩ := hin
          have hm3 : m2 + 3 = k * 3 + t := by omega
          have hst : tab (m2 + 1) (sprF h 3) = tab m2 (sprF h 3) ++ [0] := by rw [tab_step, sprF_no h 3 m2 (by omega)]
          have Hst := hid hst
          have i1 : (0 : Int) < (k : Int) := by omega
          have i2 : (t : Int) < 3 := by omega
          clear hst hm hm2
          generalize hys : tab m2 (sprF h 3) = ys at *
          clear hys
          go_wp2_with (at_builtin; refine wpList_append_own _ rfl (.tmp 34) (.tmp 35) 22 rfl w.heap.size 3 i0 (.int .i64 0) 1 8 uslice hi0 hz0 hz1 hz2 rfl (by decide) _ _ _ rfl (Hown.out.alloc _) ⟨wr.heap.size, 0, none⟩ 1 1 [.int .i64 (0)] rfl rfl ?c1 ?c2 ?c3 ?c4 ?c5 ?_)
          try (case c1 => exact cell_one_new _ _ _)
          try (case c2 => first | rfl | (intro u hu; simp at hu; subst hu; rfl))
          try (case c3 => first | omega | (unfold maxLen; omega))
          try (case c4 => omega)
          try (case c5 => first | omega | (simp; omega))
          · intro v' w3 hown3 hgrow _
            have hb3 : Below w.heap.size w w3 := (hb2.alloc hsz2 _).grown hgrow (by simp; omega) (fun j hj => Hob.out j hj)
            have Hown3 := hid hown3
            clear hown3 hgrow
            go_wp2
            go_roundw
            case rel => exact ⟨t + 1, m2 + 1, by omega, by omega, by go_num, .inl ⟨by omega, by omega⟩, by rw [Hst.out, List.map_append]; exact Hown3.out, hb3⟩
            case measure => simp [intOf]; omega
        · have hm3 : m2 = k * 3 := by omega
          have hst : tab (m2 + 1) (sprF h 3) = tab m2 (sprF h 3) ++ [x] := by rw [tab_step, hm3, Hx.out]
          have Hst := hid hst
          have Hm3 := hid hm3
          have hm72 : m2 ≤ 72 := by omega
          generalize hys : tab m2 (sprF h 3) = ys at *
          clear hst hm hm2 hm3 hys
          by_cases htK : t < 3
          · have hk0 : k = 0 := by omega
            have hkn : ¬ (0 : Int) < (k : Int) := by omega
            have i2 : (t : Int) < 3 := by omega
            have hd : decide ((0 : Int) < (k : Int)) = false := decide_eq_false hkn
            have Hk0 := hid hk0
            clear hin hk0
            go_wp2_with (at_builtin; refine wpList_append_own _ rfl (.tmp 37) (.tmp 39) 22 rfl w.heap.size 3 i0 (.int .i64 0) 1 8 uslice hi0 hz0 hz1 hz2 rfl (by decide) _ _ _ rfl (Hown.out.alloc _) ⟨wr.heap.size, 0, none⟩ 1 1 [.int .i64 (x)] rfl rfl ?d1 ?d2 ?d3 ?d4 ?d5 ?_)
            try (case d1 => exact cell_one_new _ _ _)
            try (case d2 => first | rfl | (intro u hu; simp at hu; subst hu; rfl))
            try (case d3 => first | omega | (unfold maxLen; omega))
            try (case d4 => omega)
            try (case d5 => first | omega | (simp; omega))
            · intro v' w3 hown3 hgrow _
              have hb3 : Below w.heap.size w w3 := (hb2.alloc hsz2 _).grown hgrow (by simp; omega) (fun j hj => Hob.out j hj)
              have Hown3 := hid hown3
              clear hown3 hgrow
              go_wp2
              go_roundw
              case rel => exact ⟨k + 1, m2 + 1, by omega, by go_num, .inl (by have := Hm3.out; omega), by rw [Hst.out, List.map_append]; exact Hown3.out, hb3⟩
              case measure => simp [intOf]; omega
          · have hge : (3 : Int) ≤ (t : Int) := by omega
            clear hin htK
            go_wp2_with (at_builtin; refine wpList_append_own _ rfl (.tmp 37) (.tmp 39) 22 rfl w.heap.size 3 i0 (.int .i64 0) 1 8 uslice hi0 hz0 hz1 hz2 rfl (by decide) _ _ _ rfl (Hown.out.alloc _) ⟨wr.heap.size, 0, none⟩ 1 1 [.int .i64 (x)] rfl rfl ?e1 ?e2 ?e3 ?e4 ?e5 ?_)
            try (case e1 => exact cell_one_new _ _ _)
            try (case e2 => first | rfl | (intro u hu; simp at hu; subst hu; rfl))
            try (case e3 => first | omega | (unfold maxLen; omega))
            try (case e4 => omega)
            try (case e5 => first | omega | (simp; omega))
            · intro v' w3 hown3 hgrow _
              have hb3 : Below w.heap.size w w3 := (hb2.alloc hsz2 _).grown hgrow (by simp; omega) (fun j hj => Hob.out j hj)
              have Hown3 := hid hown3
              clear hown3 hgrow
              go_wp2
              go_roundw
              case rel => exact ⟨k + 1, m2 + 1, by omega, by go_num, .inl (by have := Hm3.out; omega), by rw [Hst.out, List.map_append]; exact Hown3.out, hb3⟩
              case measure => simp [intOf]; omega
    · have hge : (n : Int) ≤ (k : Int) := by omega
      have hkn : k = n := by omega
      have hmL : m = (h.length - 1) * 3 + 1 := by rw [← Hn.out]; omega
      have hsp : tab m (sprF h 3) = sprL h 3 := by unfold sprL; rw [hmL]
      have hml2 : m = (sprL h 3).length := by rw [spr_len, hmL]
      rw [hsp, hml2] at hown
      have hres := Res.owns hown
      have Hres := hid hres
      clear hlk hkn hm hmL hown hres hsp hml2
      go_wp2_with fail
      refine (weIf_is _ (sprL h 3) (wgtB (sprL h 3)) _ Hres.out.sl rfl).mono ?_
      rintro e w' ⟨rfl, rfl⟩
      go_wp2_with fail
      go_ret2
      exact ⟨_, rfl, res_onB _ Hres.out, hb⟩


set_option maxHeartbeats 1600000 in
theorem impl_Spread_4 (v : Value) (h : List Int) (w : World) (hu : Sl w v h) (hw : WgtP h) :
    Calls Try.prog 27 #[v, .int .i64 4] w (Gives w (onB (wgtB (sprL h 4)) (sprL h 4) []) (wgtB (sprL h 4))) := by
  obtain ⟨a, n, cap, rfl, hn, hrd⟩ := hu.rd
  have HU := hid hu
  have HW := hid hw
  have Hn := hid hn
  have Hrd := hid hrd
  have hn1 : 1 ≤ n := by rw [hn]; exact hw.1.1
  have hn9 : n ≤ 9 := by rw [hn]; exact hw.1.2
  obtain ⟨L, hL⟩ : ∃ L : Nat, L = (n - 1) * 4 + 1 := ⟨_, rfl⟩
  have hL0 : L + 4 = n * 4 + 1 := by omega
  have hmk := run_make_ints (P := Try.prog) 22 3 uslice iint L (by omega)
  rw [show (L : Int) = ((n : Int) - 1) * 4 + 1 from by omega] at hmk
  have hys : (sprL h 4) = tab L (sprT h 4 h.length) := by rw [sprT_full, hL, hn]; rfl
  have Hys := hid hys
  clear hu hw hn hrd hL hys
  go_enter Try.func27, Try.ntmps27
  go_wp2_with fail
  refine (impl_IsWeights_is _ h true _ HU.out (wgtB_of HW.out)).mono ?_
  rintro e w' ⟨rfl, rfl⟩
  go_wp2_with fail
  go_loopw [29] (fun i wr => ∃ k : Nat, k ≤ n ∧ i = .int .i64 k ∧ Blk 3 wr w.heap.size (tab L (sprT h 4 k)) ∧ Below w.heap.size w wr)
    (fun i _ => n - (intOf i).toNat)
  case atStart => exact ⟨0, by omega, rfl, by rw [sprT_zero]; exact heap_alloc_new _ _, bel_alloc _ _⟩
  case round =>
    obtain ⟨k, hk, rfl, hblk, hb⟩ := hrel
    by_cases hlk : k < n
    · obtain ⟨x, hkx⟩ := get_lt h k (by rw [← Hn.out]; exact hlk)
      obtain ⟨bb, oo, hix, hbb, hce⟩ := (Hrd.out.kept hb).at (P := Try.prog) (T := 22) n cap uslice sone hkx hlk
      have hkl : k * 4 < L := by omega
      have hcd : wr.cell? ⟨w.heap.size, k * 4, none⟩ = some (.int .i64 0) := hblk.cell (sprT_get (by omega) hkl)
      have hfd := hblk.free (k * 4)
      have i1 : ((k : Int) * 4).toNat = k * 4 := by omega
      have i2 : (0 : Int) ≤ (k : Int) * 4 := by omega
      have i3 : (k : Int) * 4 < (L : Int) := by omega
      have Hset := hid (sprT_set (k := 4) L (by omega) hkx)
      have Hblk := hid hblk
      clear hkx hblk
      go_wp2
      go_roundw
      case rel => exact ⟨k + 1, by omega, by go_num, by rw [← Hset.out]; exact Hblk.out.set (k * 4) _, hb.setCell (by simp) _⟩
      case measure => simp [intOf]; omega
    · have hge : (n : Int) ≤ (k : Int) := by omega
      have hkn : k = h.length := by rw [← Hn.out]; omega
      rw [hkn, ← Hys.out] at hblk
      have hlen : L = (sprL h 4).length := by rw [spr_len, ← Hn.out]; omega
      have hres : Res 3 w.heap.size wr (.slice (some ⟨w.heap.size, 0, none⟩) L L) (sprL h 4) := by have := hblk.res (Nat.le_refl _); rwa [← hlen] at this
      have Hres := hid hres
      clear hlk hkn hblk hlen hres
      go_wp2_with fail
      refine (onlyWeights_is _ (sprL h 4) (wgtB (sprL h 4)) _ Hres.out.sl rfl).mono ?_
      rintro e w' ⟨rfl, rfl⟩
      go_wp2_with fail
      go_ret2
      exact ⟨_, rfl, res_onB _ Hres.out, hb⟩


set_option maxHeartbeats 3200000 in
theorem spec_Spread_4 (v : Value) (h : List Int) (w : World) (hu : Sl w v h) (hw : WgtP h) :
    Calls Try.prog 26 #[v, .int .i64 4] w (Gives w (onB (wgtB (sprL h 4)) (sprL h 4) []) (wgtB (sprL h 4))) := by
  obtain ⟨a, n, cap, rfl, hn, hrd⟩ := hu.rd
  have HU := hid hu
  have HW := hid hw
  have Hn := hid hn
  have Hrd := hid hrd
  have hn1 : 1 ≤ n := by rw [hn]; exact hw.1.1
  have hn9 : n ≤ 9 := by rw [hn]; exact hw.1.2
  have hdk : decide ((1 : Int) ≤ 4 ∧ (4 : Int) ≤ 4) = true := rfl
  have HD := hid hdk
  obtain ⟨i0, hi0, hz0, hz1, hz2⟩ := info_parts iint
  clear hu hw hn hrd hdk
  go_enter Try.func26, Try.ntmps26
  go_wp2_with fail
  refine (weGood_is _ h true _ HU.out (wgtB_of HW.out)).mono ?_
  rintro e w' ⟨rfl, rfl⟩
  go_wp2_with fail
  refine (l1In_is _ _ _ true _ HD.out).mono ?_
  rintro e w' ⟨rfl, rfl⟩
  go_wp2_with fail
  go_loopw [6, 20] (fun v i wr => ∃ k m : Nat, k ≤ n ∧ i = .int .i64 k ∧ (m + 4 = k * 4 + 1 ∨ (k = 0 ∧ m = 0)) ∧ wr.ownsRow w.heap.size 3 1 v m ((tab m (sprF h 4)).map (Value.int .i64)) ∧ Below w.heap.size w wr)
    (fun _ i _ => n - (intOf i).toNat)
  case atStart => exact ⟨0, 0, by omega, rfl, .inr ⟨rfl, rfl⟩, World.ownsRow_nil _ _ _ _, Below.refl _ _⟩
  case round =>
    obtain ⟨k, m, hk, rfl, hm, hown, hb⟩ := hrel
    by_cases hlk : k < n
    · obtain ⟨x, hkx⟩ := get_lt h k (by rw [← Hn.out]; exact hlk)
      obtain ⟨bb, oo, hix, hbb, hce⟩ := (Hrd.out.kept hb).at (P := Try.prog) (T := 22) n cap uslice sone hkx hlk
      have Hx := hid (show sprF h 4 (k * 4) = x from by rw [sprF_at h 4 k (by omega), at0_of hkx])
      have Hown := hid hown
      clear hkx hown
      go_wp2_with fail
      obtain ⟨wo, rfl⟩ : ∃ wo : World, wo = wr := ⟨_, rfl⟩
      go_loopw [6, 9] (fun v i wq => ∃ t m2 : Nat, 1 ≤ t ∧ t ≤ 4 ∧ i = .int .i64 t ∧ ((0 < k ∧ m2 + 4 = k * 4 + t) ∨ (k = 0 ∧ m2 = 0 ∧ t = 1)) ∧ wq.ownsRow w.heap.size 3 1 v m2 ((tab m2 (sprF h 4)).map (Value.int .i64)) ∧ Below w.heap.size w wq)
        (fun _ i _ => 4 - (intOf i).toNat)
      case atStart => exact ⟨1, m, by omega, by omega, rfl, by omega, Hown.out, hb⟩
      case round =>
        obtain ⟨t, m2, ht1, ht2, rfl, hm2, hown2, hb2⟩ := hrel
        have hsz2 : w.heap.size ≤ wr.heap.size := hb2.size
        have Hob := hid (ownsRow_base hown2)
        clear Hown
        have Hown := hid hown2
        clear hown2
        by_cases hin : t < 4 ∧ 0 < k
        · obtain ⟨hin1, hin2⟩ := hin
          have hm3 : m2 + 4 = k * 4 + t := by omega
          have hst : tab (m2 + 1) (sprF h 4) = tab m2 (sprF h 4) ++ [0] := by rw [tab_step, sprF_no h 4 m2 (by omega)]
          have Hst := hid hst
          have i1 : (0 : Int) < (k : Int) := by omega
          have i2 : (t : Int) < 4 := by omega
          clear hst hm hm2
          generalize hys : tab m2 (sprF h 4) = ys at *
          clear hys
          go_wp2_with (at_builtin; refine wpList_append_own _ rfl (.tmp 34) (.tmp 35) 22 rfl w.heap.size 3 i0 (.int .i64 0) 1 8 uslice hi0 hz0 hz1 hz2 rfl (by decide) _ _ _ rfl (Hown.out.alloc _) ⟨wr.heap.size, 0, none⟩ 1 1 [.int .i64 (0)] rfl rfl ?c1 ?c2 ?c3 ?c4 ?c5 ?_)
          try (case c1 => exact cell_one_new _ _ _)
          try (case c2 => first | rfl | (intro u hu; simp at hu; subst hu; rfl))
          try (case c3 => first | omega | (unfold maxLen; omega))
          try (case c4 => omega)
          try (case c5 => first | omega | (simp; omega))
          · intro v' w3 hown3 hgrow _
            have hb3 : Below w.heap.size w w3 := (hb2.alloc hsz2 _).grown hgrow (by simp; omega) (fun j hj => Hob.out j hj)
            have Hown3 := hid hown3
            clear hown3 hgrow
            go_wp2
            go_roundw
            case rel => exact ⟨t + 1, m2 + 1, by omega, by omega, by go_num, .inl ⟨by omega, by omega⟩, by rw [Hst.out, List.map_append]; exact Hown3.out, hb3⟩
            case measure => simp [intOf]; omega
        · have hm3 : m2 = k * 4 := by omega
          have hst : tab (m2 + 1) (sprF h 4) = tab m2 (sprF h 4) ++ [x] := by rw [tab_step, hm3, Hx.out]
          have Hst := hid hst
          have Hm3 := hid hm3
          have hm72 : m2 ≤ 72 := by omega
          generalize hys : tab m2 (sprF h 4) = ys at *
          clear hst hm hm2 hm3 hys
          by_cases htK : t < 4
          · have hk0 : k = 0 := by omega
            have hkn : ¬ (0 : Int) < (k : Int) := by omega
            have i2 : (t : Int) < 4 := by omega
            have hd : decide ((0 : Int) < (k : Int)) = false := decide_eq_false hkn
            have Hk0 := hid hk0
            clear hin hk0
            go_wp2_with (at_builtin; refine wpList_append_own _ rfl (.tmp 37) (.tmp 39) 22 rfl w.heap.size 3 i0 (.int .i64 0) 1 8 uslice hi0 hz0 hz1 hz2 rfl (by decide) _ _ _ rfl (Hown.out.alloc _) ⟨wr.heap.size, 0, none⟩ 1 1 [.int .i64 (x)] rfl rfl ?d1 ?d2 ?d3 ?d4 ?d5 ?_)
            try (case d1 => exact cell_one_new _ _ _)
            try (case d2 => first | rfl | (intro u hu; simp at hu; subst hu; rfl))
            try (case d3 => first | omega | (unfold maxLen; omega))
            try (case d4 => omega)
            try (case d5 => first | omega | (simp; omega))
            · intro v' w3 hown3 hgrow _
              have hb3 : Below w.heap.size w w3 := (hb2.alloc hsz2 _).grown hgrow (by simp; omega) (fun j hj => Hob.out j hj)
              have Hown3 := hid hown3
              clear hown3 hgrow
              go_wp2
              go_roundw
              case rel => exact ⟨k + 1, m2 + 1, by omega, by go_num, .inl (by have := Hm3.out; omega), by rw [Hst.out, List.map_append]; exact Hown3.out, hb3⟩
              case measure => simp [intOf]; omega
          · have hge : (4 : Int) ≤ (t : Int) := by omega
            clear hin htK
            go_wp2_with (at_builtin; refine wpList_append_own _ rfl (.tmp 37) (.tmp 39) 22 rfl w.heap.size 3 i0 (.int .i64 0) 1 8 uslice hi0 hz0 hz1 hz2 rfl (by decide) _ _ _ rfl (Hown.out.alloc _) ⟨wr.heap.size, 0, none⟩ 1 1 [.int .i64 (x)] rfl rfl ?e1 ?e2 ?e3 ?e4 ?e5 ?_)
            try (case e1 => exact cell_one_new _ _ _)
            try (case e2 => first | rfl | (intro u hu; simp at hu; subst hu; rfl))
            try (case e3 => first | omega | (unfold maxLen; omega))
            try (case e4 => omega)
            try (case e5 => first | omega | (simp; omega))
            · intro v' w3 hown3 hgrow _
              have hb3 : Below w.heap.size w w3 := (hb2.alloc hsz2 _).grown hgrow (by simp; omega) (fun j hj => Hob.out j hj)
              have Hown3 := hid hown3
              clear hown3 hgrow
              go_wp2
              go_roundw
              case rel => exact ⟨k + 1, m2 + 1, by omega, by go_num, .inl (by have := Hm3.out; omega), by rw [Hst.out, List.map_append]; exact Hown3.out, hb3⟩
              case measure => simp [intOf]; omega
    · have hge : (n : Int) ≤ (k : Int) := by omega
      have hkn : k = n := by omega
      have hmL : m = (h.length - 1) * 4 + 1 := by rw [← Hn.out]; omega
      have hsp : tab m (sprF h 4) = sprL h 4 := by unfold sprL; rw [hmL]
      have hml2 : m = (sprL h 4).length := by rw [spr_len, hmL]
      rw [hsp, hml2] at hown
      have hres := Res.owns hown
      have Hres := hid hres
      clear hlk hkn hm hmL hown hres hsp hml2
      go_wp2_with fail
      refine (weIf_is _ (sprL h 4) (wgtB (sprL h 4)) _ Hres.out.sl rfl).mono ?_
      rintro e w' ⟨rfl, rfl⟩
      go_wp2_with fail
      go_ret2
      exact ⟨_, rfl, res_onB _ Hres.out, hb⟩


set_option maxHeartbeats 400000 in
theorem spec_SpreadWeights_any (v : Value) (h : List Int) (w : World) (hu : Sl w v h) (k : Int) :
    Calls Try.prog 26 #[v, .int .i64 k] w (Gives w (onB (wgtB h && (decide (1 ≤ k ∧ k ≤ 4) && wgtB (sprL h k.toNat))) (sprL h k.toNat) []) (wgtB h && (decide (1 ≤ k ∧ k ≤ 4) && wgtB (sprL h k.toNat)))) := by
  have HU := hid hu
  clear hu
  cases h0 : wgtB h
  · have HB0 := hid h0
    clear h0
    go_enter Try.func26, Try.ntmps26
    go_wp2_with fail
    refine (weGood_is _ h _ _ HU.out HB0.out).mono ?_
    rintro e w' ⟨rfl, rfl⟩
    go_wp2_with fail
    go_ret2
    exact ⟨_, rfl, .inl ⟨rfl, rfl⟩, Below.refl _ _⟩
  · have HB0 := hid h0
    clear h0
    by_cases hk : 1 ≤ k ∧ k ≤ 4
    · rw [decide_eq_true hk]
      have hk4 : k = 1 ∨ k = 2 ∨ k = 3 ∨ k = 4 := by omega
      clear hk
      rcases hk4 with rfl | rfl | rfl | rfl
      · exact spec_Spread_1 v h w HU.out (wgtB_t HB0.out)
      · exact spec_Spread_2 v h w HU.out (wgtB_t HB0.out)
      · exact spec_Spread_3 v h w HU.out (wgtB_t HB0.out)
      · exact spec_Spread_4 v h w HU.out (wgtB_t HB0.out)
    · have hd2 : decide (1 ≤ k ∧ k ≤ 4) = false := decide_eq_false hk
      rw [hd2]
      have HD := hid hd2
      clear hk hd2
      go_enter Try.func26, Try.ntmps26
      go_wp2_with fail
      refine (weGood_is _ h _ _ HU.out HB0.out).mono ?_
      rintro e w' ⟨rfl, rfl⟩
      go_wp2_with fail
      refine (l1In_is _ _ _ false _ HD.out).mono ?_
      rintro e w' ⟨rfl, rfl⟩
      go_wp2_with fail
      go_ret2
      exact ⟨_, rfl, .inl ⟨rfl, rfl⟩, Below.refl _ _⟩


set_option maxHeartbeats 400000 in
theorem impl_SpreadWeights_any (v : Value) (h : List Int) (w : World) (hu : Sl w v h) (k : Int) :
    Calls Try.prog 27 #[v, .int .i64 k] w (Gives w (onB (wgtB h && (decide (1 ≤ k ∧ k ≤ 4) && wgtB (sprL h k.toNat))) (sprL h k.toNat) []) (wgtB h && (decide (1 ≤ k ∧ k ≤ 4) && wgtB (sprL h k.toNat)))) := by
  have HU := hid hu
  clear hu
  cases h0 : wgtB h
  · have HB0 := hid h0
    clear h0
    go_enter Try.func27, Try.ntmps27
    go_wp2_with fail
    refine (impl_IsWeights_is _ h _ _ HU.out HB0.out).mono ?_
    rintro e w' ⟨rfl, rfl⟩
    go_wp2_with fail
    go_ret2
    exact ⟨_, rfl, .inl ⟨rfl, rfl⟩, Below.refl _ _⟩
  · have HB0 := hid h0
    clear h0
    by_cases hk : 1 ≤ k ∧ k ≤ 4
    · rw [decide_eq_true hk]
      have hk4 : k = 1 ∨ k = 2 ∨ k = 3 ∨ k = 4 := by omega
      clear hk
      rcases hk4 with rfl | rfl | rfl | rfl
      · exact impl_Spread_1 v h w HU.out (wgtB_t HB0.out)
      · exact impl_Spread_2 v h w HU.out (wgtB_t HB0.out)
      · exact impl_Spread_3 v h w HU.out (wgtB_t HB0.out)
      · exact impl_Spread_4 v h w HU.out (wgtB_t HB0.out)
    · rw [decide_eq_false hk]
      by_cases h0 : k < 1
      · clear hk
        go_enter Try.func27, Try.ntmps27
        go_wp2_with fail
        refine (impl_IsWeights_is _ h _ _ HU.out HB0.out).mono ?_
        rintro e w' ⟨rfl, rfl⟩
        go_wp2_with fail
        go_ret2
        exact ⟨_, rfl, .inl ⟨rfl, rfl⟩, Below.refl _ _⟩
      · have h1 : 1 ≤ k := by omega
        have h2 : 4 < k := by omega
        clear hk h0
        go_enter Try.func27, Try.ntmps27
        go_wp2_with fail
        refine (impl_IsWeights_is _ h _ _ HU.out HB0.out).mono ?_
        rintro e w' ⟨rfl, rfl⟩
        go_wp2_with fail
        go_ret2
        exact ⟨_, rfl, .inl ⟨rfl, rfl⟩, Below.refl _ _⟩


def sprA (h : List Int) (k : Int) : Bool := wgtB h && (decide (1 ≤ k ∧ k ≤ 4) && wgtB (sprL h k.toNat))
theorem sprA_len {h : List Int} {k : Int} (hb : sprA h k = true) : (sprL h k.toNat).length ≤ 2000000 := Nat.le_trans (wgtB_t (and_t (and_t hb).2).2).1.2 (by omega)


set_option maxHeartbeats 1600000 in
theorem gen_FnExactSpreadWeights (h : List Int) (k : Int) (u_h : Option Addr) (l_h c_h : Nat) (ys : List Int) (ok : Bool) (w : World) (hs_h : Sl w (.slice u_h l_h c_h) h) (ll_h : l_h ≤ 1048576) (hl_h : h.length ≤ 1048576) (hy : ys.length ≤ 2000000) (hspec : ∀ (w : World) (v_h : Value), Sl w v_h h → Calls Try.prog 26 #[v_h, .int .i64 k] w (Gives w ys ok)) (himpl : ∀ (w : World) (v_h : Value), Sl w v_h h → Calls Try.prog 27 #[v_h, .int .i64 k] w (Gives w ys ok)) :
    Calls Try.prog 9 #[.slice u_h l_h c_h, .int .i64 k] w fun e w' => e = .returned (.bool true) ∧ Below w.heap.size w w' := by
  have HSh := hid hs_h
  clear hs_h
  have HSP := hid hspec
  have HIM := hid himpl
  clear hspec himpl
  all_goals cases ok
  all_goals
    go_enter Try.func9, Try.ntmps9
    go_wp2_with fail
    refine (toIntS_any _ h _ HSh.out (by omega)).mono ?_
    rintro e w1 ⟨g_Ah0, hg_Ah0, rfl, K_Ah0, hb⟩
    have B1 := hb
    have hz1 : w.heap.size ≤ w1.heap.size := by first | exact hb.size | (have := hb.size; simp at this; omega)
    have Ah0 := K_Ah0.res hg_Ah0
    go_wp2_with fail
    refine (HSP.out _ _ Ah0.sl).mono ?_
    rintro e w2 ⟨v_R0, rfl, R0, hb⟩
    have B2 := bel_step B1 hb
    have hz2 : w1.heap.size ≤ w2.heap.size := hb.size
    have Ah0_2 := Ah0.kept hb
    have hlt0 : ∀ g, v_R0.ownBlock = some g → g < w2.heap.size := fun g hg => R0.lt hg
    have Hlt0 := hid hlt0
    clear hlt0
    go_wp2_with fail
    refine (toIntS_any _ h _ (HSh.out.kept B2) (by omega)).mono ?_
    rintro e w3 ⟨g_Xh, hg_Xh, rfl, K_Xh, hb⟩
    have B3 := bel_step B2 hb
    have hz3 : w2.heap.size ≤ w3.heap.size := hb.size
    have R0_3 := R0.kept hb
    have Xh := K_Xh.res hg_Xh
    have hlt_Xh := K_Xh.lt
    have hne_Xh : ∀ g, v_R0.ownBlock = some g → g ≠ g_Xh := fun g hg => by have a1 := Hlt0.out g hg; omega
    have Hne_Xh := hid hne_Xh
    clear hne_Xh
    have hxl_Xh : g_Xh < w3.heap.size := Xh.lt rfl
    go_wp2_with fail
    refine (HIM.out _ _ Xh.sl).mono ?_
    rintro e w4 ⟨v_R1, rfl, R1, hb⟩
    have B4 := bel_step B3 hb
    have hz4 : w3.heap.size ≤ w4.heap.size := hb.size
    have R0_4 := R0_3.kept hb
    have Xh_4 := Xh.kept hb
    have hne1_Xh : ∀ g, v_R1.ownBlock = some g → g ≠ g_Xh := fun g hg => by have a1 := R1.ge hg; omega
    have Hne1_Xh := hid hne1_Xh
    clear hne1_Xh
    have hne01 : ∀ g, v_R0.ownBlock = some g → v_R1.ownBlock ≠ some g := fun g hg e => by have a1 := R1.ge e; have a2 := Hlt0.out g hg; omega
    have Hne01 := hid hne01
    clear hne01
    have hge1 : ∀ g, v_R1.ownBlock = some g → w3.heap.size ≤ g := fun g hg => R1.ge hg
    have Hge1 := hid hge1
    clear hge1
    go_wp2_with fail
    refine (eqIntS_same _ _ ys _ R1.sl R0_4.sl hy).mono ?_
    rintro e w5 ⟨rfl, hb⟩
    have B5 := bel_step B4 hb
    have hz5 : w4.heap.size ≤ w5.heap.size := hb.size
    have R0_5 := R0_4.kept hb
    have Xh_5 := Xh_4.kept hb
    have R1_5 := R1.kept hb
    go_wp2_with fail
    refine (toIntS_any _ h _ (HSh.out.kept B5) (by omega)).mono ?_
    rintro e w6 ⟨g_TXh, hg_TXh, rfl, K_TXh, hb⟩
    have B6 := bel_step B5 hb
    have hz6 : w5.heap.size ≤ w6.heap.size := hb.size
    have R0_6 := R0_5.kept hb
    have Xh_6 := Xh_5.kept hb
    have R1_6 := R1_5.kept hb
    have TXh := K_TXh.res hg_TXh
    go_wp2_with fail
    refine (eqIntS_same _ _ h _ Xh_6.sl TXh.sl (by omega)).mono ?_
    rintro e w7 ⟨rfl, hb⟩
    have B7 := bel_step B6 hb
    have hz7 : w6.heap.size ≤ w7.heap.size := hb.size
    have R0_7 := R0_6.kept hb
    have Xh_7 := Xh_6.kept hb
    have R1_7 := R1_6.kept hb
    have TXh_7 := TXh.kept hb
    go_wp2_with fail
    refine (markIntS_one _ h _ _ Xh_7 (by omega)).mono ?_
    rintro e w8 ⟨rfl, ho, _⟩
    have B8 := B7.trans (ho.below fun g hg => by cases hg; exact Nat.le_trans B2.size hg_Xh)
    have hz8 : w7.heap.size ≤ w8.heap.size := Nat.le_of_eq ho.size.symm
    have R0_8 := R0_7.only ho fun g hg e => by cases e; exact Hne_Xh.out _ hg rfl
    have R1_8 := R1_7.only ho fun g hg e => by cases e; exact Hne1_Xh.out _ hg rfl
    go_wp2_with fail
    refine (eqIntS_same _ _ ys _ R1_8.sl R0_8.sl hy).mono ?_
    rintro e w9 ⟨rfl, hb⟩
    have B9 := bel_step B8 hb
    have hz9 : w8.heap.size ≤ w9.heap.size := hb.size
    have R0_9 := R0_8.kept hb
    have R1_9 := R1_8.kept hb
    go_wp2_with fail
    refine (markIntS_one _ ys _ _ R1_9 hy).mono ?_
    rintro e w10 ⟨rfl, ho, M⟩
    have B10 := B9.trans (ho.below fun g hg => Nat.le_trans B3.size (Hge1.out g hg))
    have hz10 : w9.heap.size ≤ w10.heap.size := Nat.le_of_eq ho.size.symm
    have R0_10 := R0_9.only ho Hne01.out
    go_wp2_with fail
    refine (heldIntS_one _ ys.length _ _ M hy).mono ?_
    rintro e w' ⟨rfl, rfl⟩
    go_wp2_with fail
    refine (toIntS_any _ h _ (HSh.out.kept B10) (by omega)).mono ?_
    rintro e w11 ⟨g_Ah10, hg_Ah10, rfl, K_Ah10, hb⟩
    have B11 := bel_step B10 hb
    have hz11 : w10.heap.size ≤ w11.heap.size := hb.size
    have R0_11 := R0_10.kept hb
    have M_11 := M.kept hb
    have Ah10 := K_Ah10.res hg_Ah10
    go_wp2_with fail
    refine (HIM.out _ _ Ah10.sl).mono ?_
    rintro e w12 ⟨v_R2, rfl, R2, hb⟩
    have B12 := bel_step B11 hb
    have hz12 : w11.heap.size ≤ w12.heap.size := hb.size
    have R0_12 := R0_11.kept hb
    have M_12 := M_11.kept hb
    have Ah10_12 := Ah10.kept hb
    go_wp2_with fail
    refine (eqIntS_same _ _ ys _ R2.sl R0_12.sl hy).mono ?_
    rintro e w13 ⟨rfl, hb⟩
    have B13 := bel_step B12 hb
    have hz13 : w12.heap.size ≤ w13.heap.size := hb.size
    have R0_13 := R0_12.kept hb
    have M_13 := M_12.kept hb
    have R2_13 := R2.kept hb
    go_wp2_with fail
    refine (heldIntS_one _ ys.length _ _ M_13 hy).mono ?_
    rintro e w' ⟨rfl, rfl⟩
    go_wp2_with fail
    go_ret
    exact ⟨rfl, B13⟩


set_option maxHeartbeats 1600000 in
theorem walk_FnExactSpreadWeights (w : World) (u_h : Option Addr) (l_h c_h : Nat) (z_h : List Int) (hr_h : IsRow .i64 w u_h l_h c_h z_h) (k : Int) (w_k : (Lit.int .i64 k).wf = true) :
    Calls Try.prog 9 #[.slice u_h l_h c_h, .int .i64 k] w fun e w' => e = .returned (.bool true) ∧ Below w.heap.size w w' := by
  obtain ⟨hs_h, hlen_h, hin_h⟩ := hr_h.sl
  generalize z_h.take l_h = h at hs_h hlen_h hin_h
  clear hr_h
  obtain ⟨k_1, k_2⟩ := bounds_i64 w_k
  by_cases hbig_h : 1048576 < l_h
  · clear hs_h hlen_h hin_h
    go_enter Try.func9, Try.ntmps9
    go_wp2
    go_ret
    exact ⟨rfl, Below.refl _ _⟩
  · have hq_h : l_h ≤ 1048576 := by omega
    exact gen_FnExactSpreadWeights h k _ _ _ (onB (sprA h k) (sprL h k.toNat) []) (sprA h k) w hs_h (by omega) (by omega) (onB_len sprA_len) (fun w v_h h_h => spec_SpreadWeights_any v_h h w h_h k) (fun w v_h h_h => impl_SpreadWeights_any v_h h w h_h k)

end Go.Proofs.Ytgkjncgaecfbgab
