
import Derived.Test.YtbhlailnefappaaQm
import Derived.Test.YtbhlailnefappaaQv
import Derived.Test.YtbhlailnefappaaBl
namespace Go.Proofs.Ytbhlailnefappaa
open Go.RowKit BitX Go.MemX Go.ChV
set_option linter.unusedVariables false
theorem rep_in {m x : Int} {L : Nat} (x1 : -m ≤ x) (x2 : x ≤ m) : InP (-m) m (List.replicate L x) := fun y hy => by rw [List.eq_of_mem_replicate hy]; exact ⟨x1, x2⟩


set_option maxHeartbeats 2000000 in
theorem dmConstant_any (m x : Int) (L : Nat) (w : World) (hL : L ≤ 200) (m1 : 1 ≤ m) (m2 : m ≤ 1000) (x1 : -m ≤ x) (x2 : x ≤ m) :
    Calls Try.prog 64 #[.int .i64 m, .int .i64 x, .int .i64 (L : Int)] w (GivesL w (moBL m (List.replicate L x))) := by
  have hmk := run_make_ints (P := Try.prog) 24 3 uslice iint L (by omega)
  obtain ⟨R, hR⟩ : ∃ R, R = List.replicate L x := ⟨_, rfl⟩
  have hRl : R.length = L := by rw [hR]; simp
  have hRat : ∀ c, c < L → R[c]? = some x := fun c hc => by rw [hR]; simp [hc]
  have hRin : InP (-m) m R := by rw [hR]; exact rep_in x1 x2
  rw [← hR]
  have HRat := hid hRat
  have HRl := hid hRl
  have HRin := hid hRin
  clear hRat hRl hRin hR
  go_enter Try.func64, Try.ntmps64
  go_wp2_with fail
  go_loopw [15] (fun i wr => ∃ c : Nat, c ≤ L ∧ i = .int .i64 c ∧ Blk 3 wr w.heap.size (upTo R c) ∧ Below w.heap.size w wr)
    (fun i _ => L - (intOf i).toNat)
  case atStart => exact ⟨0, by omega, rfl, by rw [upTo_zero, HRl.out]; exact heap_alloc_new _ _, bel_alloc _ _⟩
  case round =>
    obtain ⟨c, hc, rfl, hblk, hb⟩ := hrel
    have hsz : w.heap.size ≤ wr.heap.size := hb.size
    by_cases hlk : c < L
    · have hcd := hblk.cell (upTo_get R c (by rw [HRl.out]; exact hlk))
      have hfd := hblk.free c
      have Hblk := hid hblk
      clear hblk
      go_wp2
      go_roundw
      case rel => exact ⟨c + 1, by omega, by go_num, by rw [← upTo_step R c x (HRat.out c hlk)]; exact Hblk.out.set c _, hb.setCell (Nat.le_refl _) _⟩
      case measure => simp [intOf]; omega
    · have hge : (L : Int) ≤ (c : Int) := by omega
      have hkn : c = R.length := by rw [HRl.out]; omega
      rw [hkn, upTo_full] at hblk
      have hsl := hblk.sl
      rw [HRl.out] at hsl
      have Hsl := hid hsl
      have HB := hid hb
      clear hkn hlk hblk hsl hb
      go_wp2_with fail
      refine (dmOne_any m _ R _ Hsl.out (by rw [HRl.out]; omega) HRin.out m1 m2).mono ?_
      rintro e w2 ⟨u1, u2, rfl, hr1, hr2, hb2⟩
      go_wp2_with fail
      go_ret
      exact ⟨_, rfl, hr1.mono HB.out.size, bel_step HB.out hb2⟩


def coB (m : Int) (bs : List Int) : Bool := scB m && bitB bs
def coF (m : Int) (bs : List Int) (x : Int) : Bool := decide (moBL m (List.replicate bs.length x) = bs)
def coL (m : Int) (bs : List Int) : List Int := onB (coB m bs) (whV (-m) (coF m bs) (2 * m + 1).toNat) []
theorem coL_len (m : Int) (bs : List Int) : (coL m bs).length ≤ 2000000 := by
  unfold coL onB; split
  · rename_i h
    unfold coB at h
    rw [Bool.and_eq_true] at h
    have h1 := scB_t h.1
    have := whV_len (-m) (coF m bs) (2 * m + 1).toNat
    omega
  · simp


set_option maxHeartbeats 4000000 in
theorem spec_ConstantsOf_is (m : Int) (v : Value) (bs : List Int) (w : World) (hs : Sl w v bs) :
    Calls Try.prog 34 #[.int .i64 m, v] w (Gives w (coL m bs) (coB m bs)) := by
  have HS := hid hs
  cases g0 : scB m
  · have hz : coB m bs = false := by unfold coB; rw [g0]; rfl
    have HR := hid (show coL m bs = [] from by unfold coL; rw [hz]; rfl)
    have HZ := hid hz
    have G0 := hid g0
    clear g0 hz hs
    go_enter Try.func34, Try.ntmps34
    go_wp2_with fail
    refine (dmScale_q m false _ G0.out).mono ?_
    rintro e w' ⟨rfl, rfl⟩
    go_wp2_with fail
    go_ret2
    exact gives_of HZ.out HR.out ⟨_, rfl, .inl ⟨rfl, rfl⟩, Below.refl _ _⟩
  · cases g1 : bitB bs
    · have hz : coB m bs = false := by unfold coB; rw [g0, g1]; rfl
      have HR := hid (show coL m bs = [] from by unfold coL; rw [hz]; rfl)
      have HZ := hid hz
      have G0 := hid g0
      have G1 := hid g1
      clear g0 g1 hz hs
      go_enter Try.func34, Try.ntmps34
      go_wp2_with fail
      refine (dmScale_q m true _ G0.out).mono ?_
      rintro e w' ⟨rfl, rfl⟩
      go_wp2_with fail
      refine (dmBits_q _ bs false _ HS.out G1.out).mono ?_
      rintro e w' ⟨rfl, rfl⟩
      go_wp2_with fail
      go_ret2
      exact gives_of HZ.out HR.out ⟨_, rfl, .inl ⟨rfl, rfl⟩, Below.refl _ _⟩
    · have hz : coB m bs = true := by unfold coB; rw [g0, g1]; rfl
      obtain ⟨m1, m2⟩ := scB_t g0
      have hbp := bitB_t g1
      obtain ⟨aa, n, cap, rfl, hn, hrd⟩ := id hs.rd
      have hl' : n ≤ 200 := by rw [hn]; exact hbp.1
      have Hn := hid hn
      have Hrd := hid hrd
      have HBP := hid hbp
      have HR := hid (show coL m bs = whV (-m) (coF m bs) (2 * m + 1).toNat from by unfold coL; rw [hz]; rfl)
      have HZ := hid hz
      have G0 := hid g0
      have G1 := hid g1
      obtain ⟨i0, hi0, hz0, hz1, hz2⟩ := info_parts iint
      obtain ⟨N, hN⟩ : ∃ N, N = (2 * m + 1).toNat := ⟨_, rfl⟩
      have hNm : (N : Int) = 2 * m + 1 := by omega
      rw [← hN] at HR
      clear g0 g1 hz hs hn hrd hbp hN
      go_enter Try.func34, Try.ntmps34
      go_wp2_with fail
      refine (dmScale_q m true _ G0.out).mono ?_
      rintro e w' ⟨rfl, rfl⟩
      go_wp2_with fail
      refine (dmBits_q _ bs true _ HS.out G1.out).mono ?_
      rintro e w' ⟨rfl, rfl⟩
      go_wp2_with fail
      go_loopw [6, 7] (fun v xx wr => ∃ c : Nat, c ≤ N ∧ xx = .int .i64 (-m + (c : Int)) ∧ wr.ownsRow w.heap.size 3 1 v (whV (-m) (coF m bs) c).length ((whV (-m) (coF m bs) c).map (Value.int .i64)) ∧ Below w.heap.size w wr)
        (fun _ xx _ => (m + 1 - intOf xx).toNat)
      case atStart => exact ⟨0, by omega, by simp, World.ownsRow_nil _ _ _ _, Below.refl _ _⟩
      case round =>
        obtain ⟨c, hc, rfl, hown, hb⟩ := hrel
        have hsz : w.heap.size ≤ wr.heap.size := hb.size
        have hun := whV_len (-m) (coF m bs) c
        have Hob := hid (ownsRow_base hown)
        obtain ⟨y, hy⟩ : ∃ y, y = -m + (c : Int) := ⟨_, rfl⟩
        rw [← hy]
        by_cases hlk : c < N
        · have hym : y ≤ m := by omega
          have hy0 : -m ≤ y := by omega
          have hyn : y + 1 = -m + ((c + 1 : Nat) : Int) := by omega
          have hdc := fun (W : World) => dmConstant_any m y n W hl' m1 m2 hy0 hym
          have Hdc := hid hdc
          have Hyn := hid hyn
          cases hF : coF m bs y
          · have hst := whV_f (lo := -m) (F := coF m bs) (c := c) (by rw [← hy]; exact hF)
            have Hst := hid hst
            have HF := hid (show decide (moBL m (List.replicate n y) = bs) = false from by rw [Hn.out]; exact hF)
            have Hown := hid hown
            clear hst hown hyn hF hy hdc
            go_wp2_with fail
            refine (Hdc.out _).mono ?_
            rintro e w3 ⟨u3, rfl, hr3, hb3⟩
            have hB3 := hb.trans (hb3.mono hsz)
            have Hr3 := hid hr3
            clear hr3
            go_wp2_with fail
            refine (weSame_is _ _ _ bs false _ Hr3.out.sl (HS.out.kept hB3) (by rw [moBL, tab_len, List.length_replicate]; omega) HF.out).mono ?_
            rintro e w4 ⟨rfl, hb4⟩
            have hB4 := hB3.trans (hb4.mono hB3.size)
            go_wp2
            go_roundw
            case rel => exact ⟨c + 1, by omega, by rw [Hyn.out], by rw [Hst.out]; exact ownsRow_below (ownsRow_below Hown.out hb3) hb4, hB4⟩
            case measure => simp [intOf]; omega
          · have hst := whV_t (lo := -m) (F := coF m bs) (c := c) (by rw [← hy]; exact hF)
            rw [← hy] at hst
            have Hst := hid hst
            have HF := hid (show decide (moBL m (List.replicate n y) = bs) = true from by rw [Hn.out]; exact hF)
            have Hown := hid hown
            clear hst hown hyn hF hy hdc
            generalize whV (-m) (coF m bs) c = ys at *
            generalize hln : ys.length = ln at *
            have Hln := hid hln
            clear hln
            go_wp2_with fail
            refine (Hdc.out _).mono ?_
            rintro e w3 ⟨u3, rfl, hr3, hb3⟩
            have hB3 := hb.trans (hb3.mono hsz)
            have hsz3 : w.heap.size ≤ w3.heap.size := hB3.size
            have Hr3 := hid hr3
            clear hr3
            go_wp2_with fail
            refine (weSame_is _ _ _ bs true _ Hr3.out.sl (HS.out.kept hB3) (by rw [moBL, tab_len, List.length_replicate]; omega) HF.out).mono ?_
            rintro e w4 ⟨rfl, hb4⟩
            have hB4 := hB3.trans (hb4.mono hB3.size)
            have hsz4 : w.heap.size ≤ w4.heap.size := hB4.size
            go_wp2_with (at_builtin; refine wpList_append_own _ rfl _ _ 24 rfl w.heap.size 3 i0 (.int .i64 0) 1 8 uslice hi0 hz0 hz1 hz2 rfl (by decide) _ _ _ rfl ((ownsRow_below (ownsRow_below Hown.out hb3) hb4).alloc _) ⟨w4.heap.size, 0, none⟩ 1 1 [.int .i64 (y)] rfl rfl ?c1 ?c2 ?c3 ?c4 ?c5 ?_)
            case c1 => exact cell_one_new _ _ _
            case c2 => intro u hu; simp at hu; subst hu; rfl
            case c3 => unfold maxLen; omega
            case c4 => omega
            case c5 => simp; omega
            intro v' w5 hown5 hgrow _
            have hb5 : Below w.heap.size w w5 := (hB4.alloc hsz4 _).grown hgrow (by simp; omega) (fun j hj => Hob.out j hj)
            have Hown5 := hid hown5
            clear hown5 hgrow
            go_wp2
            go_roundw
            case rel => exact ⟨c + 1, by omega, by rw [Hyn.out], by rw [Hst.out, List.length_append, List.map_append, Hln.out]; exact Hown5.out, hb5⟩
            case measure => simp [intOf]; omega
        · have hyH : m < y := by omega
          have hkn : c = N := by omega
          have Hk := hid hkn
          have Hown := hid hown
          clear hkn hlk hown hy hun
          go_wp2
          go_ret2
          have ho := Hown.out
          rw [Hk.out] at ho
          exact gives_of HZ.out HR.out ⟨_, rfl, Res.owns ho, hb⟩


theorem lin_in {m : Int} {c : Nat} {l : Int} (m2 : m ≤ 1000) (hc : c < 200) (l1 : -m ≤ l) (l2 : l ≤ m) : ∃ P : Int, P = ((c : Int) + 1) * l ∧ -200000 ≤ P ∧ P ≤ 200000 ∧ wrap64 (((c : Int) + 1) * l) = P ∧ IntKind.i64.wrap (((c : Int) + 1) * l) = P := by
  have h := mul_in (a := (c : Int) + 1) (b := l) (A := 200) (B := 1000) (by omega) (by omega) (by omega) (by omega) (by omega)
  exact ⟨_, rfl, by omega, by omega, IntWalk.wrap64_in _ (by omega), IntWalk.i64_in _ (by omega)⟩
theorem msu_in {m su : Int} (m1 : 1 ≤ m) (m2 : m ≤ 1000) (s1 : -200 ≤ su) (s2 : su ≤ 200) : ∃ Q : Int, Q = m * su ∧ -200000 ≤ Q ∧ Q ≤ 200000 ∧ wrap64 (m * su) = Q ∧ IntKind.i64.wrap (m * su) = Q := by
  have h := mul_in (a := m) (b := su) (A := 1000) (B := 200) (by omega) (by omega) (by omega) (by omega) (by omega)
  exact ⟨_, rfl, by omega, by omega, IntWalk.wrap64_in _ (by omega), IntWalk.i64_in _ (by omega)⟩
theorem con_list {m : Int} {bs : List Int} {lo hi : Int} {N : Nat} (hm : 1 ≤ m) (hb : BitP bs) (hN : (N : Int) = 2 * m + 1) (hl : LowP m bs bs.length lo) (hh : HighP m bs bs.length hi) : whV (-m) (coF m bs) N = frI lo hi := by
  have h1 := hl.1
  have h2 := hh.1
  rw [whV_fr (a := lo) (b := hi) (by omega) N fun j hj => by
    unfold coF
    rw [decide_eq_true_eq]
    exact con_iff hm hb hl hh (by omega) (by omega)]
  congr 1
  omega


set_option maxHeartbeats 4000000 in
theorem impl_ConstantsOf_is (m : Int) (v : Value) (bs : List Int) (w : World) (hs : Sl w v bs) :
    Calls Try.prog 33 #[.int .i64 m, v] w (Gives w (coL m bs) (coB m bs)) := by
  have HS := hid hs
  cases g0 : scB m
  · have hz : coB m bs = false := by unfold coB; rw [g0]; rfl
    have HR := hid (show coL m bs = [] from by unfold coL; rw [hz]; rfl)
    have HZ := hid hz
    have G0 := hid g0
    clear g0 hz hs
    go_enter Try.func33, Try.ntmps33
    go_wp2_with fail
    refine (isScale_q m false _ G0.out).mono ?_
    rintro e w' ⟨rfl, rfl⟩
    go_wp2_with fail
    go_ret2
    exact gives_of HZ.out HR.out ⟨_, rfl, .inl ⟨rfl, rfl⟩, Below.refl _ _⟩
  · cases g1 : bitB bs
    · have hz : coB m bs = false := by unfold coB; rw [g0, g1]; rfl
      have HR := hid (show coL m bs = [] from by unfold coL; rw [hz]; rfl)
      have HZ := hid hz
      have G0 := hid g0
      have G1 := hid g1
      clear g0 g1 hz hs
      go_enter Try.func33, Try.ntmps33
      go_wp2_with fail
      refine (isScale_q m true _ G0.out).mono ?_
      rintro e w' ⟨rfl, rfl⟩
      go_wp2_with fail
      refine (areBits_q _ bs false _ HS.out G1.out).mono ?_
      rintro e w' ⟨rfl, rfl⟩
      go_wp2_with fail
      go_ret2
      exact gives_of HZ.out HR.out ⟨_, rfl, .inl ⟨rfl, rfl⟩, Below.refl _ _⟩
    · have hz : coB m bs = true := by unfold coB; rw [g0, g1]; rfl
      obtain ⟨m1, m2⟩ := scB_t g0
      have hbp := bitB_t g1
      obtain ⟨aa, n, cap, rfl, hn, hrd⟩ := id hs.rd
      have hl' : n ≤ 200 := by rw [hn]; exact hbp.1
      have Hn := hid hn
      have Hrd := hid hrd
      have HBP := hid hbp
      have HR := hid (show coL m bs = whV (-m) (coF m bs) (2 * m + 1).toNat from by unfold coL; rw [hz]; rfl)
      have HZ := hid hz
      have G0 := hid g0
      have G1 := hid g1
      obtain ⟨i0, hi0, hz0, hz1, hz2⟩ := info_parts iint
      obtain ⟨N, hN⟩ : ∃ N, N = (2 * m + 1).toNat := ⟨_, rfl⟩
      have hNm : (N : Int) = 2 * m + 1 := by omega
      rw [← hN] at HR
      clear g0 g1 hz hs hn hrd hbp hN
      go_enter Try.func33, Try.ntmps33
      go_wp2_with fail
      refine (isScale_q m true _ G0.out).mono ?_
      rintro e w' ⟨rfl, rfl⟩
      go_wp2_with fail
      refine (areBits_q _ bs true _ HS.out G1.out).mono ?_
      rintro e w' ⟨rfl, rfl⟩
      go_wp2_with fail
      go_loop [6, 7, 8, 26] (fun ll hh ss i => ∃ (c : Nat) (lo hi : Int), c ≤ n ∧ ll = .int .i64 lo ∧ hh = .int .i64 hi ∧ ss = .int .i64 (suB bs c) ∧ i = .int .i64 c ∧ Hid (LowP m bs c lo) ∧ Hid (HighP m bs c hi))
        (fun _ _ _ i => n - (intOf i).toNat)
      case atStart => exact ⟨0, -m, m, by omega, rfl, rfl, rfl, rfl, hid (LowP.zero m1 bs), hid (HighP.zero m1 bs)⟩
      case round =>
        obtain ⟨c, lo, hi, hc, rfl, rfl, rfl, rfl, HL, HH⟩ := hrel
        by_cases hlk : c < n
        · obtain ⟨x, hkx⟩ := get_lt bs c (by rw [← Hn.out]; exact hlk)
          obtain ⟨bb, oo, hix, hbb, hce⟩ := Hrd.out.at (P := Try.prog) (T := 24) n cap uslice sone hkx hlk
          have hss := suB_succ bs c
          have hs1 := suB_in HBP.out c (by rw [← Hn.out]; omega)
          have hs2 := suB_in HBP.out (c + 1) (by rw [← Hn.out]; omega)
          rw [at0_of hkx] at hss
          have hx := bit_get HBP.out hkx
          obtain ⟨su, hsu⟩ : ∃ su, su = suB bs (c + 1) := ⟨_, rfl⟩
          rw [← hsu] at hss hs2
          obtain ⟨x1, x2⟩ : -1 ≤ x ∧ x ≤ 1 := by omega
          obtain ⟨q0, q1⟩ : -200 ≤ suB bs c ∧ suB bs c ≤ 200 := by omega
          obtain ⟨q2, q3⟩ : -200 ≤ su ∧ su ≤ 200 := by omega
          obtain ⟨Q, hQ, b1, b2, f1, f2⟩ := msu_in m1 m2 q2 q3
          have hQ2 : Q = m * suB bs (c + 1) := by rw [hQ, hsu]
          have HQ := hid hQ2
          have Hsu := hid hsu
          generalize hz : suB bs c = z at *
          have hss2 : z + x = su := hss.symm
          have hc200 : c < 200 := by omega
          have hcb : c < bs.length := by rw [← Hn.out]; exact hlk
          have Hcb := hid hcb
          clear hkx hx hss hs1 hs2 hQ hQ2 hsu hz hcb
          go_wp2_with fail
          go_loop [6] (fun l' => ∃ l : Int, l' = .int .i64 l ∧ Hid (LowA m bs c l) ∧ -m ≤ l ∧ l ≤ m)
            (fun l' => (m - intOf l').toNat)
          case atStart => exact ⟨lo, rfl, hid HL.out.at, HL.out.1.1, HL.out.1.2⟩
          case round =>
            clear HL
            obtain ⟨l, rfl, HA, l1, l2⟩ := hrel
            obtain ⟨P, hP, p1, p2, g1, g2⟩ := lin_in m2 hc200 l1 l2
            have HP := hid hP
            clear hP
            by_cases ht : P - Q < -m
            · have HA2 := hid (HA.out.up m1 HBP.out Hcb.out (by rw [← HP.out, ← HQ.out]; exact ht))
              have l3 := HA2.out.1.2
              go_wp2
              go_round
              case rel => exact ⟨l + 1, by go_num, HA2, by omega, l3⟩
              case measure => simp [intOf]; omega
            · have ht2 : -m ≤ P - Q := by omega
              have HL2 := hid (HA.out.done (by rw [← HP.out, ← HQ.out]; exact ht2))
              clear HA HP ht
              go_wp2_with fail
              go_loop [7] (fun h' => ∃ h : Int, h' = .int .i64 h ∧ Hid (HighA m bs c h) ∧ -m ≤ h ∧ h ≤ m)
                (fun h' => (intOf h' + m).toNat)
              case atStart => exact ⟨hi, rfl, hid HH.out.at, HH.out.1.1, HH.out.1.2⟩
              case round =>
                clear HH
                obtain ⟨h, rfl, HB, h1, h2⟩ := hrel
                obtain ⟨R, hR, r1, r2, k1, k2⟩ := lin_in m2 hc200 h1 h2
                have HRR := hid hR
                clear hR
                by_cases hu : m - 1 < R - Q
                · have HB2 := hid (HB.out.down m1 HBP.out Hcb.out (by rw [← HRR.out, ← HQ.out]; exact hu))
                  have h3 := HB2.out.1.1
                  go_wp2
                  go_round
                  case rel => exact ⟨h - 1, by go_num, HB2, h3, by omega⟩
                  case measure => simp [intOf]; omega
                · have hu2 : R - Q ≤ m - 1 := by omega
                  have HH2 := hid (HB.out.done (by rw [← HRR.out, ← HQ.out]; exact hu2))
                  clear HB HRR hu
                  go_wp2
                  go_round
                  case rel => exact ⟨c + 1, l, h, by omega, rfl, rfl, by rw [Hsu.out], by go_num, HL2, HH2⟩
                  case measure => simp [intOf]; omega
        · have hge : (n : Int) ≤ (c : Int) := by omega
          have hkn : c = bs.length := by rw [← Hn.out]; omega
          have HL2 := hid (hkn ▸ HL.out)
          have HH2 := hid (hkn ▸ HH.out)
          have lo12 := HL.out.1
          have hi12 := HH.out.1
          obtain ⟨lo1, lo2⟩ := lo12
          obtain ⟨hi1, hi2⟩ := hi12
          have HC := hid (con_list m1 HBP.out hNm HL2.out HH2.out)
          clear hkn hlk HL HH
          go_wp2_with fail
          go_loopw [11, 12] (fun v xx wr => ∃ k : Nat, (k = 0 ∨ lo + (k : Int) ≤ hi + 1) ∧ xx = .int .i64 (lo + (k : Int)) ∧ wr.ownsRow w.heap.size 3 1 v k ((tab k (fun i => lo + (i : Int))).map (Value.int .i64)) ∧ Below w.heap.size w wr)
            (fun _ xx _ => (hi + 1 - intOf xx).toNat)
          case atStart => exact ⟨0, .inl rfl, by simp, World.ownsRow_nil _ _ _ _, Below.refl _ _⟩
          case round =>
            obtain ⟨k, hk, rfl, hown, hb⟩ := hrel
            have hsz : w.heap.size ≤ wr.heap.size := hb.size
            obtain ⟨y, hy⟩ : ∃ y, y = lo + (k : Int) := ⟨_, rfl⟩
            have hk2 : k ≤ 3000 := by omega
            rw [← hy]
            by_cases hlk : y ≤ hi
            · have hst : tab (k + 1) (fun i => lo + (i : Int)) = tab k (fun i => lo + (i : Int)) ++ [y] := by rw [tab_step, hy]
              have hyn : y + 1 = lo + ((k + 1 : Nat) : Int) := by omega
              generalize tab k (fun i => lo + (i : Int)) = ys at hst hown
              have Hob := hid (ownsRow_base hown)
              have Hst := hid hst
              have Hown := hid hown
              have Hyn := hid hyn
              have hkk : lo + (k : Int) + 1 ≤ hi + 1 := by omega
              have hy1 : -m ≤ y := by omega
              clear hst hown hyn hy
              go_wp2_with (at_builtin; refine wpList_append_own _ rfl _ _ 24 rfl w.heap.size 3 i0 (.int .i64 0) 1 8 uslice hi0 hz0 hz1 hz2 rfl (by decide) _ _ _ rfl (Hown.out.alloc _) ⟨wr.heap.size, 0, none⟩ 1 1 [.int .i64 (y)] rfl rfl ?c1 ?c2 ?c3 ?c4 ?c5 ?_)
              case c1 => exact cell_one_new _ _ _
              case c2 => intro u hu; simp at hu; subst hu; rfl
              case c3 => unfold maxLen; omega
              case c4 => omega
              case c5 => simp; omega
              intro v' w5 hown5 hgrow _
              have hb5 : Below w.heap.size w w5 := (hb.alloc hsz _).grown hgrow (by simp; omega) (fun j hj => Hob.out j hj)
              have Hown5 := hid hown5
              clear hown5 hgrow
              go_wp2
              go_roundw
              case rel => exact ⟨k + 1, .inr (by omega), by rw [Hyn.out], by rw [Hst.out, List.map_append]; exact Hown5.out, hb5⟩
              case measure => simp [intOf]; omega
            · have hyH : hi < y := by omega
              have hkn : k = (hi + 1 - lo).toNat := by omega
              have Hk := hid hkn
              have Hown := hid hown
              clear hkn hlk hown hy hk
              go_wp2
              go_ret2
              have ho := Hown.out
              rw [Hk.out] at ho
              exact gives_of HZ.out (HR.out.trans HC.out) ⟨_, rfl, Res.owns (by unfold frI; rw [tab_len]; exact ho), hb⟩


end Go.Proofs.Ytbhlailnefappaa
