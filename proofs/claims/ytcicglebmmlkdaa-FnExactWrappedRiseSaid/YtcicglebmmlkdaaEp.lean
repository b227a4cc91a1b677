
import Derived.Test.YtcicglebmmlkdaaEf
import Derived.Test.YtcicglebmmlkdaaEg
namespace Go.Proofs.Ytcicglebmmlkdaa
open Go.RowKit BitX Go.MemX Go.Ch6
set_option linter.unusedVariables false
theorem ret_ibx {a c : Int} {b : Bool} (h : a = c) : Ending.returned (.tuple #[.int .i64 a, .bool b]) = .returned (.tuple #[.int .i64 c, .bool b]) := by rw [h]
def ctI (q : Nat) (s : List Int) (k : Nat) : Int := sumF k (fun j => sumF s.length (fun i => chg q j (at0 s) i))
theorem ct_succ (q : Nat) (s : List Int) (k : Nat) : ctI q s (k + 1) = ctI q s k + sumF s.length (fun i => chg q k (at0 s) i) := rfl
theorem ct_in (q : Nat) (s : List Int) (k : Nat) (hk : k ≤ 4) (hl : s.length ≤ 64) : 0 ≤ ctI q s k ∧ ctI q s k ≤ 256 := by
  have := sumF_upto k (fun j => sumF s.length (fun i => chg q j (at0 s) i)) 64 fun j _ => by
    have := sumF_upto s.length (fun i => chg q j (at0 s) i) 1 fun i _ => chg_in _ _ _ _
    omega
  unfold ctI; omega
theorem ct_wraps (q : Nat) (s : List Int) (t : Nat) : ctI q s t = wraps q t s.length (at0 s) := (wraps_swap q t s.length (at0 s)).symm


set_option maxHeartbeats 2000000 in
theorem spec_CountWraps_in (v : Value) (s : List Int) (q t : Nat) (w : World) (hs : Sl w v s) (hg : SigP s) (HB0 : Hid ((sigB s && askB (t : Int) 1) = true)) (HB1 : Hid (lonB (q : Int) = true)) (q5 : 2 ≤ q) (q6 : q ≤ 40) (q7 : 1 ≤ t) (q8 : t ≤ 4) :
    Calls Try.prog 17 #[v, .int .i64 (q : Int), .int .i64 (t : Int)] w fun e w' => e = .returned (.tuple #[.int .i64 (ctI q s t), .bool true]) ∧ Below w.heap.size w w' := by
  have HS0 := hid hs
  have hl := hg.1
  have HI := hid (sig_39 hg)
  have Hl := hid hl
  obtain ⟨n, hn⟩ : ∃ n, n = s.length := ⟨_, rfl⟩
  have Hn := hid hn
  have hn64 : n ≤ 64 := by omega
  clear hs hg hl hn
  obtain ⟨i0, hi0, hz0, hz1, hz2⟩ := info_parts iint
  go_enter Try.func17, Try.ntmps17
  go_wp2_with fail
  refine (cbGood_is _ s _ 1 true _ HS0.out HB0.out).mono ?_
  rintro e w' ⟨rfl, rfl⟩
  go_wp2_with fail
  refine (cbBits_is _ true _ HB1.out).mono ?_
  rintro e w' ⟨rfl, rfl⟩
  go_wp2_with fail
  go_loopw [0, 8, 9] (fun u c i wr => ∃ k : Nat, k ≤ t ∧ Sl wr u (sumsL q k s) ∧ c = .int .i64 (ctI q s k) ∧ i = .int .i64 k ∧ Below w.heap.size w wr)
    (fun _ _ i _ => t - (intOf i).toNat)
  case atStart => exact ⟨0, by omega, by rw [sumsL_zero]; exact HS0.out, rfl, rfl, Below.refl _ _⟩
  case round =>
    obtain ⟨k, hk, hu, rfl, rfl, hb0⟩ := hrel
    have hsz0 : w.heap.size ≤ wr.heap.size := hb0.size
    by_cases hlk : k < t
    · obtain ⟨aa, m, cap, rfl, hm, hrd⟩ := hu.rd
      rw [sumsL_len, ← Hn.out] at hm
      subst hm
      have hct := ct_in q s k (by omega) Hl.out
      have hcs := ct_succ q s k
      rw [← Hn.out] at hcs
      obtain ⟨C, hC⟩ : ∃ C, C = ctI q s k := ⟨_, rfl⟩
      rw [← hC] at hct hcs
      have Hcs := hid hcs
      rw [← hC]
      obtain ⟨c1, c2⟩ := hct
      have Hrd := hid hrd
      have hz00 : C + sumF 0 (fun i => chg q k (at0 s) i) = C := by rw [sumF_zero]; omega
      have Hz00 := hid hz00
      have hhd0 := hdS_zero q k (at0 s)
      have Hhd0 := hid hhd0
      clear hu hrd hC hcs hz00 hhd0
      go_wp2_with fail
      obtain ⟨wo, hwo⟩ : ∃ wo : World, wo = wr := ⟨_, rfl⟩
      subst hwo
      go_loopw [8, 10, 11, 31] (fun c su v i wq => ∃ j : Nat, j ≤ m ∧ c = .int .i64 (C + sumF j (fun i => chg q k (at0 s) i)) ∧ su = .int .i64 (hdS q k (at0 s) j) ∧ i = .int .i64 j ∧ wq.ownsRow wo.heap.size 3 1 v j ((tab j (stS q (k + 1) (at0 s))).map (Value.int .i64)) ∧ Below wo.heap.size wo wq)
        (fun _ _ _ i _ => m - (intOf i).toNat)
      case atStart => exact ⟨0, by omega, by rw [Hz00.out], by rw [Hhd0.out], rfl, World.ownsRow_nil _ _ _ _, Below.refl _ _⟩
      case round =>
        obtain ⟨j, hj, rfl, rfl, rfl, hown, hb⟩ := hrel
        have hsz : wo.heap.size ≤ wr.heap.size := hb.size
        by_cases hlj : j < m
        · have hkx : (sumsL q k s)[j]? = some (stS q k (at0 s) j) := tab_get _ _ _ (by rw [← Hn.out]; exact hlj)
          obtain ⟨bb, oo, hix, hbb, hce⟩ := (Hrd.out.kept hb).at (P := Try.prog) (T := 22) m cap uslice sone hkx hlj
          have hst := tab_step j (stS q (k + 1) (at0 s))
          rw [stS_succ] at hst
          have hS := hdS_succ q k (at0 s) j
          obtain ⟨a1, a2⟩ := hdS_in q6 k (at0 s) j
          obtain ⟨x1, x2⟩ := stS_in q6 k (at0 s) (inp_at0 HI.out (by omega)) j
          have hch := sumF_succ j (fun i => chg q k (at0 s) i)
          have hcin := sumF_upto j (fun i => chg q k (at0 s) i) 1 fun t _ => chg_in _ _ _ _
          have hcv : chg q k (at0 s) j = if hdS q k (at0 s) (j + 1) = hdS q k (at0 s) j + stS q k (at0 s) j then 0 else 1 := rfl
          generalize stS q k (at0 s) j = x at *
          generalize hdS q k (at0 s) j = a at *
          obtain ⟨c, hc⟩ : ∃ c, c = sumF j (fun i => chg q k (at0 s) i) := ⟨_, rfl⟩
          rw [← hc] at hch hcin
          rw [hcv, hS] at hch
          rw [hS] at hst
          obtain ⟨d, hd⟩ : ∃ d, d = C + c := ⟨_, rfl⟩
          have hd1 : d ≤ 400 := by omega
          have hd0 : 0 ≤ d := by omega
          rw [← hc, ← hd]
          obtain ⟨z, hz⟩ : ∃ z, z = wrI q (a + x) := ⟨_, rfl⟩
          rw [← hz] at hch hst hS
          have Hz := hid hz.symm
          have HS := hid hS
          obtain ⟨z1, z2⟩ : -549755813888 ≤ z ∧ z ≤ 549755813888 := by rw [hz]; exact wrI_big q6 _
          generalize hys : tab j (stS q (k + 1) (at0 s)) = ys at hst hown
          have Hob := hid (ownsRow_base hown)
          have Hst := hid hst
          have Hown := hid hown
          clear hst hown hys hkx hS hcv hcin hz
          by_cases heq : z = a + x
          · have hch2 : C + sumF (j + 1) (fun i => chg q k (at0 s) i) = d := by rw [hch, if_pos heq, hd]; omega
            have hbne : (z != a + x) = false := bne_eq_false_iff_eq.2 heq
            clear hc hd
            have Hch := hid hch2
            clear hch hch2 heq
            go_wp2_with fail
            refine (cbWrap_any (a + x) q _ q5 q6 (by omega) (by omega)).mono ?_
            rintro e w' ⟨rfl, rfl⟩
            rw [Hz.out]
            go_wp2_with (at_builtin; refine wpList_append_own _ rfl _ _ 22 rfl wo.heap.size 3 i0 (.int .i64 0) 1 8 uslice hi0 hz0 hz1 hz2 rfl (by decide) _ _ _ rfl (Hown.out.alloc _) ⟨wr.heap.size, 0, none⟩ 1 1 [.int .i64 (z)] rfl rfl ?c1 ?c2 ?c3 ?c4 ?c5 ?_)
            case c1 => exact cell_one_new _ _ _
            case c2 => intro u hu; simp at hu; subst hu; rfl
            case c3 => unfold maxLen; omega
            case c4 => omega
            case c5 => simp; omega
            intro v' w3 hown3 hgrow _
            have hb3 : Below wo.heap.size wo w3 := (hb.alloc hsz _).grown hgrow (by simp; omega) (fun j hj => Hob.out j hj)
            have Hown3 := hid hown3
            clear hown3 hgrow
            go_wp2
            go_roundw
            case rel => exact ⟨j + 1, by omega, by rw [Hch.out], by rw [HS.out], by go_num, by rw [Hst.out, List.map_append]; exact Hown3.out, hb3⟩
            case measure => simp [intOf]; omega
          · have hch2 : C + sumF (j + 1) (fun i => chg q k (at0 s) i) = d + 1 := by rw [hch, if_neg heq, hd]; omega
            have hbne : (z != a + x) = true := bne_iff_ne.2 heq
            clear hc hd
            have Hch := hid hch2
            clear hch hch2 heq
            go_wp2_with fail
            refine (cbWrap_any (a + x) q _ q5 q6 (by omega) (by omega)).mono ?_
            rintro e w' ⟨rfl, rfl⟩
            rw [Hz.out]
            go_wp2_with (at_builtin; refine wpList_append_own _ rfl _ _ 22 rfl wo.heap.size 3 i0 (.int .i64 0) 1 8 uslice hi0 hz0 hz1 hz2 rfl (by decide) _ _ _ rfl (Hown.out.alloc _) ⟨wr.heap.size, 0, none⟩ 1 1 [.int .i64 (z)] rfl rfl ?c1 ?c2 ?c3 ?c4 ?c5 ?_)
            case c1 => exact cell_one_new _ _ _
            case c2 => intro u hu; simp at hu; subst hu; rfl
            case c3 => unfold maxLen; omega
            case c4 => omega
            case c5 => simp; omega
            intro v' w3 hown3 hgrow _
            have hb3 : Below wo.heap.size wo w3 := (hb.alloc hsz _).grown hgrow (by simp; omega) (fun j hj => Hob.out j hj)
            have Hown3 := hid hown3
            clear hown3 hgrow
            go_wp2
            go_roundw
            case rel => exact ⟨j + 1, by omega, by rw [Hch.out], by rw [HS.out], by go_num, by rw [Hst.out, List.map_append]; exact Hown3.out, hb3⟩
            case measure => simp [intOf]; omega
        · have hge : (m : Int) ≤ (j : Int) := by omega
          have hjm : j = m := by omega
          have hres : Res 3 wo.heap.size wr u11 (sumsL q (k + 1) s) := by
            have ho := hown
            rw [hjm] at ho
            unfold sumsL
            rw [← Hn.out]
            exact Res.owns (by rw [tab_len]; exact ho)
          have hcm : C + sumF j (fun i => chg q k (at0 s) i) = ctI q s (k + 1) := by rw [hjm, Hcs.out]
          rw [hcm]
          have hct2 := ct_in q s (k + 1) (by omega) Hl.out
          have Hres := hid hres
          have hb3 := hb0.trans (hb.mono hsz0)
          clear hlj hjm hown hres hcm
          go_wp2
          go_roundw
          case rel => exact ⟨k + 1, by omega, Hres.out.sl, rfl, by go_num, hb3⟩
          case measure => simp [intOf]; omega
    · have hge : (t : Int) ≤ (k : Int) := by omega
      have hkt : k = t := by omega
      have Hk := hid hkt
      clear hlk hkt hu
      go_wp2
      go_ret2
      exact ⟨ret_ibx (by rw [Hk.out]), hb0⟩


set_option maxHeartbeats 1000000 in
theorem spec_CountWraps_any (v : Value) (s : List Int) (b st : Int) (w : World) (hs : Sl w v s) :
    Calls Try.prog 17 #[v, .int .i64 b, .int .i64 st] w fun e w' => e = .returned (.tuple #[.int .i64 (onI (wsB s b st) (wraps b.toNat st.toNat s.length (at0 s))), .bool (wsB s b st)]) ∧ Below w.heap.size w w' := by
  have HS := hid hs
  clear hs
  cases h0 : (sigB s && askB st 1)
  · have HB0 := hid h0
    clear h0
    go_enter Try.func17, Try.ntmps17
    go_wp2_with fail
    refine (cbGood_is _ s _ 1 false _ HS.out HB0.out).mono ?_
    rintro e w' ⟨rfl, rfl⟩
    go_wp2_with fail
    go_ret2
    exact ⟨onI_no (wsB_n1 HB0.out), Below.refl _ _⟩
  · have HB0 := hid h0
    clear h0
    cases h1 : lonB b
    · have HB1 := hid h1
      clear h1
      go_enter Try.func17, Try.ntmps17
      go_wp2_with fail
      refine (cbGood_is _ s _ 1 true _ HS.out HB0.out).mono ?_
      rintro e w' ⟨rfl, rfl⟩
      go_wp2_with fail
      refine (cbBits_is _ false _ HB1.out).mono ?_
      rintro e w' ⟨rfl, rfl⟩
      go_wp2_with fail
      go_ret2
      exact ⟨onI_no (wsB_n2 HB1.out), Below.refl _ _⟩
    · have HB1 := hid h1
      clear h1
      have HT := hid (wsB_g HB0.out HB1.out)
      obtain ⟨⟨q1, q2⟩, ⟨q3, q4⟩⟩ := (wsB_t HT.out).2
      obtain ⟨q, rfl⟩ : ∃ q : Nat, b = q := ⟨b.toNat, by omega⟩
      obtain ⟨t, rfl⟩ : ∃ t : Nat, st = t := ⟨st.toNat, by omega⟩
      have HL := hid (wsB_t HT.out).1.1
      have H39 := hid (sig_39 (wsB_t HT.out).1)
      clear q1 q2 q3 q4
      have q1 := (wsB_t HT.out).2.1.1
      have q2 := (wsB_t HT.out).2.1.2
      have q3 := (wsB_t HT.out).2.2.1
      have q4 := (wsB_t HT.out).2.2.2
      have q5 : 2 ≤ q := by omega
      have q6 : q ≤ 40 := by omega
      have q7 : 1 ≤ t := by omega
      have q8 : t ≤ 4 := by omega
      exact (spec_CountWraps_in v s q t w HS.out (wsB_t HT.out).1 HB0 HB1 q5 q6 q7 q8).mono fun e w' h => ⟨by rw [h.1]; exact onI_yes HT.out (ct_wraps q s t), h.2⟩


def wcL (s : List Int) (b st r : Nat) : List Int := difsL b st (dropL r (r - 1) (sumsL b st s))
theorem wcL_len (s : List Int) (b st r : Nat) : (wcL s b st r).length = drN s.length r (r - 1) := by unfold wcL; rw [difsL_len, dropL_len, sumsL_len]
def wcB (s : List Int) (b st r : Int) : Bool := (sigB s && askB st r) && lonB b
theorem drop_in {B : Int} {xs : List Int} {r f : Nat} (h : InP (-B) B xs) (h0 : 0 ≤ B) : InP (-B) B (dropL r f xs) := tab_inp fun i _ => inp_at0 h h0 _


set_option maxHeartbeats 1000000 in
theorem cbWrapped_any (v : Value) (s : List Int) (b st r : Nat) (w : World) (hs : Sl w v s) (hg : SigP s) (b1 : 2 ≤ b) (b2 : b ≤ 40) (s1 : 1 ≤ st) (s2 : st ≤ 4) (r1 : 1 ≤ r) (r2 : r ≤ 8) :
    Calls Try.prog 36 #[v, .int .i64 (b : Int), .int .i64 (st : Int), .int .i64 (r : Int)] w (GivesL w (wcL s b st r)) := by
  have HS := hid hs
  have HL := hid hg.1
  have HI := hid (sig_39 hg)
  have hrz : (r : Int) - 1 = ((r - 1 : Nat) : Int) := by omega
  have e1 : IntKind.i64.wrap ((r : Int) - 1) = ((r - 1 : Nat) : Int) := by rw [hrz]; exact IntWalk.i64_in _ (by omega)
  have e2 : wrap64 ((r : Int) - 1) = ((r - 1 : Nat) : Int) := by rw [hrz]; exact IntWalk.wrap64_in _ (by omega)
  clear hs hg
  go_enter Try.func36, Try.ntmps36
  go_wp2_with fail
  refine (cbSums_any _ s _ HS.out HL.out b st HI.out b1 b2 s1 s2).mono ?_
  rintro e w1 ⟨u1, rfl, R1, B1⟩
  have Hs1 := hid R1.sl
  clear R1
  go_wp2_with fail
  refine (cbDrop_any _ (sumsL b st s) r (r - 1) _ Hs1.out (by rw [sumsL_len]; exact HL.out) r1 r2 (by omega)).mono ?_
  rintro e w2 ⟨u2, rfl, R2, hb2⟩
  have Hs2 := hid R2.sl
  have B2 := bel_step B1 hb2
  clear R2
  go_wp2_with fail
  refine (cbCombs_any _ (dropL r (r - 1) (sumsL b st s)) _ Hs2.out (Nat.le_trans (dropL_le _ _ _ r1) (by rw [sumsL_len]; exact HL.out)) b st (drop_in (sums_in b2 HI.out) (by omega)) b1 b2 s1 s2).mono ?_
  rintro e w3 ⟨u3, rfl, R3, hb3⟩
  have B3 := bel_step B2 hb3
  go_wp2_with fail
  go_ret
  exact ⟨_, rfl, R3.mono B2.size, B3⟩


set_option maxHeartbeats 1000000 in
theorem wrappedComb_any (v : Value) (s : List Int) (b st r : Nat) (w : World) (hs : Sl w v s) (hg : SigP s) (b1 : 2 ≤ b) (b2 : b ≤ 40) (s1 : 1 ≤ st) (s2 : st ≤ 4) (r1 : 1 ≤ r) (r2 : r ≤ 8) :
    Calls Try.prog 38 #[v, .int .i64 (b : Int), .int .i64 (st : Int), .int .i64 (r : Int)] w (GivesL w (wcL s b st r)) := by
  have HS := hid hs
  have HL := hid hg.1
  have HI := hid (sig_39 hg)
  have hrz : (r : Int) - 1 = ((r - 1 : Nat) : Int) := by omega
  have e1 : IntKind.i64.wrap ((r : Int) - 1) = ((r - 1 : Nat) : Int) := by rw [hrz]; exact IntWalk.i64_in _ (by omega)
  have e2 : wrap64 ((r : Int) - 1) = ((r - 1 : Nat) : Int) := by rw [hrz]; exact IntWalk.wrap64_in _ (by omega)
  clear hs hg
  go_enter Try.func38, Try.ntmps38
  go_wp2_with fail
  refine (wrappedSums_any _ s _ HS.out HL.out b st HI.out b1 b2 s1 s2).mono ?_
  rintro e w1 ⟨u1, rfl, R1, B1⟩
  have Hs1 := hid R1.sl
  clear R1
  go_wp2_with fail
  refine (dropFrom_any _ (sumsL b st s) r (r - 1) _ Hs1.out (by rw [sumsL_len]; exact HL.out) r1 r2 (by omega)).mono ?_
  rintro e w2 ⟨u2, rfl, R2, hb2⟩
  have Hs2 := hid R2.sl
  have B2 := bel_step B1 hb2
  clear R2
  go_wp2_with fail
  refine (wrappedDifferences_any _ (dropL r (r - 1) (sumsL b st s)) _ Hs2.out (Nat.le_trans (dropL_le _ _ _ r1) (by rw [sumsL_len]; exact HL.out)) b st (drop_in (sums_in b2 HI.out) (by omega)) b1 b2 s1 s2).mono ?_
  rintro e w3 ⟨u3, rfl, R3, hb3⟩
  have B3 := bel_step B2 hb3
  go_wp2_with fail
  go_ret
  exact ⟨_, rfl, R3.mono B2.size, B3⟩


theorem wcB_n1 {s : List Int} {b st r : Int} (h : (sigB s && askB st r) = false) : wcB s b st r = false := by unfold wcB; rw [h]; rfl
theorem wcB_n2 {s : List Int} {b st r : Int} (h : lonB b = false) : wcB s b st r = false := by unfold wcB; rw [h]; cases (sigB s && askB st r) <;> rfl
theorem wcB_g {s : List Int} {b st r : Int} (h : (sigB s && askB st r) = true) (h2 : lonB b = true) : wcB s b st r = true := by unfold wcB; rw [h, h2]; rfl
theorem wsa_n1 {s : List Int} {st r : Int} (h : sigB s = false) : (sigB s && askB st r) = false := by rw [h]; rfl
theorem wsa_n2 {s : List Int} {st r : Int} (h : askB st r = false) : (sigB s && askB st r) = false := by rw [h]; cases sigB s <;> rfl
theorem wsa_g {s : List Int} {st r : Int} (h : sigB s = true) (h2 : askB st r = true) : (sigB s && askB st r) = true := by rw [h, h2]; rfl
theorem wsa_t {s : List Int} {st r : Int} (h : (sigB s && askB st r) = true) : SigP s ∧ (1 ≤ st ∧ st ≤ 4) ∧ (1 ≤ r ∧ r ≤ 8) := by
  simp only [Bool.and_eq_true] at h
  exact ⟨sigB_t h.1, askB_t h.2⟩
theorem wc_len {s : List Int} {b st r : Int} (hl : s.length ≤ 1048576) : (onL (wcB s b st r) (wcL s b.toNat st.toNat r.toNat)).length ≤ 2000000 := onL_len fun h => by
  unfold wcB at h
  simp only [Bool.and_eq_true] at h
  have := askB_t h.1.2
  rw [wcL_len]
  have := drN_le s.length r.toNat (r.toNat - 1) (by omega)
  omega


set_option maxHeartbeats 1000000 in
theorem spec_WrappedComb_any (v : Value) (s : List Int) (b st r : Int) (w : World) (hs : Sl w v s) :
    Calls Try.prog 19 #[v, .int .i64 b, .int .i64 st, .int .i64 r] w (Gives w (onL (wcB s b st r) (wcL s b.toNat st.toNat r.toNat)) (wcB s b st r)) := by
  have HS := hid hs
  clear hs
  cases h0 : (sigB s && askB st r)
  · have HB0 := hid h0
    clear h0
    go_enter Try.func19, Try.ntmps19
    go_wp2_with fail
    refine (cbGood_is _ s _ _ false _ HS.out HB0.out).mono ?_
    rintro e w' ⟨rfl, rfl⟩
    go_wp2_with fail
    go_ret2
    exact gives_no (wcB_n1 HB0.out) (Below.refl _ _)
  · have HB0 := hid h0
    clear h0
    cases h1 : lonB b
    · have HB1 := hid h1
      clear h1
      go_enter Try.func19, Try.ntmps19
      go_wp2_with fail
      refine (cbGood_is _ s _ _ true _ HS.out HB0.out).mono ?_
      rintro e w' ⟨rfl, rfl⟩
      go_wp2_with fail
      refine (cbBits_is _ false _ HB1.out).mono ?_
      rintro e w' ⟨rfl, rfl⟩
      go_wp2_with fail
      go_ret2
      exact gives_no (wcB_n2 HB1.out) (Below.refl _ _)
    · have HB1 := hid h1
      clear h1
      have HA := hid HB0.out
      have HLO := hid HB1.out
      have HT := hid (wcB_g HB0.out HB1.out)
      obtain ⟨HG0, ⟨a1, a2⟩, ⟨a3, a4⟩⟩ := wsa_t HA.out
      obtain ⟨a5, a6⟩ := lonB_t HLO.out
      obtain ⟨t, rfl⟩ : ∃ t : Nat, st = t := ⟨st.toNat, by omega⟩
      obtain ⟨q, rfl⟩ : ∃ q : Nat, r = q := ⟨r.toNat, by omega⟩
      obtain ⟨c, rfl⟩ : ∃ c : Nat, b = c := ⟨b.toNat, by omega⟩
      have s1 : 1 ≤ t := by omega
      have s2 : t ≤ 4 := by omega
      have r1 : 1 ≤ q := by omega
      have r2 : q ≤ 8 := by omega
      have b1 : 2 ≤ c := by omega
      have b2 : c ≤ 40 := by omega
      have HG := hid HG0
      clear a1 a2 a3 a4 a5 a6 HG0
      go_enter Try.func19, Try.ntmps19
      go_wp2_with fail
      refine (cbGood_is _ s _ _ true _ HS.out HB0.out).mono ?_
      rintro e w' ⟨rfl, rfl⟩
      go_wp2_with fail
      refine (cbBits_is _ true _ HB1.out).mono ?_
      rintro e w' ⟨rfl, rfl⟩
      go_wp2_with fail
      refine (cbWrapped_any _ s c t q _ HS.out HG.out b1 b2 s1 s2 r1 r2).mono ?_
      rintro e w1 ⟨v_R, rfl, R, hb⟩
      have B1 := hb
      go_wp2_with fail
      go_ret2
      exact gives_yes HT.out R B1


set_option maxHeartbeats 1000000 in
theorem impl_WrappedComb_any (v : Value) (s : List Int) (b st r : Int) (w : World) (hs : Sl w v s) :
    Calls Try.prog 20 #[v, .int .i64 b, .int .i64 st, .int .i64 r] w (Gives w (onL (wcB s b st r) (wcL s b.toNat st.toNat r.toNat)) (wcB s b st r)) := by
  have HS := hid hs
  clear hs
  cases h0 : sigB s
  · have HB0 := hid h0
    clear h0
    go_enter Try.func20, Try.ntmps20
    go_wp2_with fail
    refine (impl_IsSignal_is _ s false _ HS.out HB0.out).mono ?_
    rintro e w' ⟨rfl, rfl⟩
    go_wp2_with fail
    go_ret2
    exact gives_no (wcB_n1 (wsa_n1 HB0.out)) (Below.refl _ _)
  · have HB0 := hid h0
    clear h0
    cases h1 : lonB b
    · have HB1 := hid h1
      clear h1
      go_enter Try.func20, Try.ntmps20
      go_wp2_with fail
      refine (impl_IsSignal_is _ s true _ HS.out HB0.out).mono ?_
      rintro e w' ⟨rfl, rfl⟩
      go_wp2_with fail
      refine (isLong_is _ false _ HB1.out).mono ?_
      rintro e w' ⟨rfl, rfl⟩
      go_wp2_with fail
      go_ret2
      exact gives_no (wcB_n2 HB1.out) (Below.refl _ _)
    · have HB1 := hid h1
      clear h1
      cases h2 : askB st r
      · have HB2 := hid h2
        clear h2
        go_enter Try.func20, Try.ntmps20
        go_wp2_with fail
        refine (impl_IsSignal_is _ s true _ HS.out HB0.out).mono ?_
        rintro e w' ⟨rfl, rfl⟩
        go_wp2_with fail
        refine (isLong_is _ true _ HB1.out).mono ?_
        rintro e w' ⟨rfl, rfl⟩
        go_wp2_with fail
        refine (isComb_is _ _ false _ HB2.out).mono ?_
        rintro e w' ⟨rfl, rfl⟩
        go_wp2_with fail
        go_ret2
        exact gives_no (wcB_n1 (wsa_n2 HB2.out)) (Below.refl _ _)
      · have HB2 := hid h2
        clear h2
        have HA := hid (wsa_g HB0.out HB2.out)
        have HLO := hid HB1.out
        have HT := hid (wcB_g HA.out HB1.out)
        obtain ⟨HG0, ⟨a1, a2⟩, ⟨a3, a4⟩⟩ := wsa_t HA.out
        obtain ⟨a5, a6⟩ := lonB_t HLO.out
        obtain ⟨t, rfl⟩ : ∃ t : Nat, st = t := ⟨st.toNat, by omega⟩
        obtain ⟨q, rfl⟩ : ∃ q : Nat, r = q := ⟨r.toNat, by omega⟩
        obtain ⟨c, rfl⟩ : ∃ c : Nat, b = c := ⟨b.toNat, by omega⟩
        have s1 : 1 ≤ t := by omega
        have s2 : t ≤ 4 := by omega
        have r1 : 1 ≤ q := by omega
        have r2 : q ≤ 8 := by omega
        have b1 : 2 ≤ c := by omega
        have b2 : c ≤ 40 := by omega
        have HG := hid HG0
        clear a1 a2 a3 a4 a5 a6 HG0
        go_enter Try.func20, Try.ntmps20
        go_wp2_with fail
        refine (impl_IsSignal_is _ s true _ HS.out HB0.out).mono ?_
        rintro e w' ⟨rfl, rfl⟩
        go_wp2_with fail
        refine (isLong_is _ true _ HB1.out).mono ?_
        rintro e w' ⟨rfl, rfl⟩
        go_wp2_with fail
        refine (isComb_is _ _ true _ HB2.out).mono ?_
        rintro e w' ⟨rfl, rfl⟩
        go_wp2_with fail
        refine (wrappedComb_any _ s c t q _ HS.out HG.out b1 b2 s1 s2 r1 r2).mono ?_
        rintro e w1 ⟨v_R, rfl, R, hb⟩
        have B1 := hb
        go_wp2_with fail
        go_ret2
        exact gives_yes HT.out R B1


set_option maxHeartbeats 1600000 in
theorem gen_FnExactCountWraps (s : List Int) (b : Int) (st : Int) (u_s : Option Addr) (l_s c_s : Nat) (r0 : Int) (r1 : Bool) (w : World) (hs_s : Sl w (.slice u_s l_s c_s) s) (ll_s : l_s ≤ 1048576) (hl_s : s.length ≤ 1048576) (hspec : ∀ (w : World) (v_s : Value), Sl w v_s s → Calls Try.prog 17 #[v_s, .int .i64 b, .int .i64 st] w fun e w' => e = .returned (.tuple #[.int .i64 r0, .bool r1]) ∧ Below w.heap.size w w') (himpl : ∀ (w : World) (v_s : Value), Sl w v_s s → Calls Try.prog 18 #[v_s, .int .i64 b, .int .i64 st] w fun e w' => e = .returned (.tuple #[.int .i64 r0, .bool r1]) ∧ Below w.heap.size w w') :
    Calls Try.prog 5 #[.slice u_s l_s c_s, .int .i64 b, .int .i64 st] w fun e w' => e = .returned (.bool true) ∧ Below w.heap.size w w' := by
  have HSs := hid hs_s
  clear hs_s
  have HSP := hid hspec
  have HIM := hid himpl
  clear hspec himpl
  all_goals cases r1
  all_goals
    go_enter Try.func5, Try.ntmps5
    go_wp2_with fail
    refine (toIntS_any _ s _ HSs.out (by omega)).mono ?_
    rintro e w1 ⟨g_As0, hg_As0, rfl, K_As0, hb⟩
    have B1 := hb
    have hz1 : w.heap.size ≤ w1.heap.size := by first | exact hb.size | (have := hb.size; simp at this; omega)
    have As0 := K_As0.res hg_As0
    go_wp2_with fail
    refine (HSP.out _ _ As0.sl).mono ?_
    rintro e w2 ⟨rfl, hb⟩
    have B2 := bel_step B1 hb
    have hz2 : w1.heap.size ≤ w2.heap.size := hb.size
    have As0_2 := As0.kept hb
    go_wp2_with fail
    refine (toIntS_any _ s _ (HSs.out.kept B2) (by omega)).mono ?_
    rintro e w3 ⟨g_Xs, hg_Xs, rfl, K_Xs, hb⟩
    have B3 := bel_step B2 hb
    have hz3 : w2.heap.size ≤ w3.heap.size := hb.size
    have Xs := K_Xs.res hg_Xs
    have hlt_Xs := K_Xs.lt
    have hxl_Xs : g_Xs < w3.heap.size := Xs.lt rfl
    go_wp2_with fail
    refine (HIM.out _ _ Xs.sl).mono ?_
    rintro e w4 ⟨rfl, hb⟩
    have B4 := bel_step B3 hb
    have hz4 : w3.heap.size ≤ w4.heap.size := hb.size
    have Xs_4 := Xs.kept hb
    go_wp2_with fail
    refine (toIntS_any _ s _ (HSs.out.kept B4) (by omega)).mono ?_
    rintro e w5 ⟨g_TXs, hg_TXs, rfl, K_TXs, hb⟩
    have B5 := bel_step B4 hb
    have hz5 : w4.heap.size ≤ w5.heap.size := hb.size
    have Xs_5 := Xs_4.kept hb
    have TXs := K_TXs.res hg_TXs
    go_wp2_with fail
    refine (eqIntS_same _ _ s _ Xs_5.sl TXs.sl (by omega)).mono ?_
    rintro e w6 ⟨rfl, hb⟩
    have B6 := bel_step B5 hb
    have hz6 : w5.heap.size ≤ w6.heap.size := hb.size
    have Xs_6 := Xs_5.kept hb
    have TXs_6 := TXs.kept hb
    go_wp2_with fail
    go_ret
    exact ⟨rfl, B6⟩


set_option maxHeartbeats 1600000 in
theorem walk_FnExactCountWraps (w : World) (u_s : Option Addr) (l_s c_s : Nat) (z_s : List Int) (hr_s : IsRow .i64 w u_s l_s c_s z_s) (b : Int) (w_b : (Lit.int .i64 b).wf = true) (st : Int) (w_st : (Lit.int .i64 st).wf = true) :
    Calls Try.prog 5 #[.slice u_s l_s c_s, .int .i64 b, .int .i64 st] w fun e w' => e = .returned (.bool true) ∧ Below w.heap.size w w' := by
  obtain ⟨hs_s, hlen_s, hin_s⟩ := hr_s.sl
  generalize z_s.take l_s = s at hs_s hlen_s hin_s
  clear hr_s
  obtain ⟨b_1, b_2⟩ := bounds_i64 w_b
  obtain ⟨st_1, st_2⟩ := bounds_i64 w_st
  by_cases hbig_s : 1048576 < l_s
  · clear hs_s hlen_s hin_s
    go_enter Try.func5, Try.ntmps5
    go_wp2
    go_ret
    exact ⟨rfl, Below.refl _ _⟩
  · have hq_s : l_s ≤ 1048576 := by omega
    exact gen_FnExactCountWraps s b st _ _ _ _ _ w hs_s (by omega) (by omega)  (fun w v_s h_s => spec_CountWraps_any v_s s b st w h_s) (fun w v_s h_s => impl_CountWraps_any v_s s b st w h_s)


set_option maxHeartbeats 1600000 in
theorem gen_FnExactWrappedComb (s : List Int) (b : Int) (st : Int) (r : Int) (u_s : Option Addr) (l_s c_s : Nat) (ys : List Int) (ok : Bool) (w : World) (hs_s : Sl w (.slice u_s l_s c_s) s) (ll_s : l_s ≤ 1048576) (hl_s : s.length ≤ 1048576) (hy : ys.length ≤ 2000000) (hspec : ∀ (w : World) (v_s : Value), Sl w v_s s → Calls Try.prog 19 #[v_s, .int .i64 b, .int .i64 st, .int .i64 r] w (Gives w ys ok)) (himpl : ∀ (w : World) (v_s : Value), Sl w v_s s → Calls Try.prog 20 #[v_s, .int .i64 b, .int .i64 st, .int .i64 r] w (Gives w ys ok)) :
    Calls Try.prog 6 #[.slice u_s l_s c_s, .int .i64 b, .int .i64 st, .int .i64 r] w fun e w' => e = .returned (.bool true) ∧ Below w.heap.size w w' := by
  have HSs := hid hs_s
  clear hs_s
  have HSP := hid hspec
  have HIM := hid himpl
  clear hspec himpl
  all_goals cases ok
  all_goals
    go_enter Try.func6, Try.ntmps6
    go_wp2_with fail
    refine (toIntS_any _ s _ HSs.out (by omega)).mono ?_
    rintro e w1 ⟨g_As0, hg_As0, rfl, K_As0, hb⟩
    have B1 := hb
    have hz1 : w.heap.size ≤ w1.heap.size := by first | exact hb.size | (have := hb.size; simp at this; omega)
    have As0 := K_As0.res hg_As0
    go_wp2_with fail
    refine (HSP.out _ _ As0.sl).mono ?_
    rintro e w2 ⟨v_R0, rfl, R0, hb⟩
    have B2 := bel_step B1 hb
    have hz2 : w1.heap.size ≤ w2.heap.size := hb.size
    have As0_2 := As0.kept hb
    have hlt0 : ∀ g, v_R0.ownBlock = some g → g < w2.heap.size := fun g hg => R0.lt hg
    have Hlt0 := hid hlt0
    clear hlt0
    go_wp2_with fail
    refine (toIntS_any _ s _ (HSs.out.kept B2) (by omega)).mono ?_
    rintro e w3 ⟨g_Xs, hg_Xs, rfl, K_Xs, hb⟩
    have B3 := bel_step B2 hb
    have hz3 : w2.heap.size ≤ w3.heap.size := hb.size
    have R0_3 := R0.kept hb
    have Xs := K_Xs.res hg_Xs
    have hlt_Xs := K_Xs.lt
    have hne_Xs : ∀ g, v_R0.ownBlock = some g → g ≠ g_Xs := fun g hg => by have a1 := Hlt0.out g hg; omega
    have Hne_Xs := hid hne_Xs
    clear hne_Xs
    have hxl_Xs : g_Xs < w3.heap.size := Xs.lt rfl
    go_wp2_with fail
    refine (HIM.out _ _ Xs.sl).mono ?_
    rintro e w4 ⟨v_R1, rfl, R1, hb⟩
    have B4 := bel_step B3 hb
    have hz4 : w3.heap.size ≤ w4.heap.size := hb.size
    have R0_4 := R0_3.kept hb
    have Xs_4 := Xs.kept hb
    have hne1_Xs : ∀ g, v_R1.ownBlock = some g → g ≠ g_Xs := fun g hg => by have a1 := R1.ge hg; omega
    have Hne1_Xs := hid hne1_Xs
    clear hne1_Xs
    have hne01 : ∀ g, v_R0.ownBlock = some g → v_R1.ownBlock ≠ some g := fun g hg e => by have a1 := R1.ge e; have a2 := Hlt0.out g hg; omega
    have Hne01 := hid hne01
    clear hne01
    have hge1 : ∀ g, v_R1.ownBlock = some g → w3.heap.size ≤ g := fun g hg => R1.ge hg
    have Hge1 := hid hge1
    clear hge1
    go_wp2_with fail
    refine (eqIntS_same _ _ ys _ R1.sl R0_4.sl hy).mono ?_
    rintro e w5 ⟨rfl, hb⟩
    have B5 := bel_step B4 hb
    have hz5 : w4.heap.size ≤ w5.heap.size := hb.size
    have R0_5 := R0_4.kept hb
    have Xs_5 := Xs_4.kept hb
    have R1_5 := R1.kept hb
    go_wp2_with fail
    refine (toIntS_any _ s _ (HSs.out.kept B5) (by omega)).mono ?_
    rintro e w6 ⟨g_TXs, hg_TXs, rfl, K_TXs, hb⟩
    have B6 := bel_step B5 hb
    have hz6 : w5.heap.size ≤ w6.heap.size := hb.size
    have R0_6 := R0_5.kept hb
    have Xs_6 := Xs_5.kept hb
    have R1_6 := R1_5.kept hb
    have TXs := K_TXs.res hg_TXs
    go_wp2_with fail
    refine (eqIntS_same _ _ s _ Xs_6.sl TXs.sl (by omega)).mono ?_
    rintro e w7 ⟨rfl, hb⟩
    have B7 := bel_step B6 hb
    have hz7 : w6.heap.size ≤ w7.heap.size := hb.size
    have R0_7 := R0_6.kept hb
    have Xs_7 := Xs_6.kept hb
    have R1_7 := R1_6.kept hb
    have TXs_7 := TXs.kept hb
    go_wp2_with fail
    refine (markIntS_one _ s _ _ Xs_7 (by omega)).mono ?_
    rintro e w8 ⟨rfl, ho, _⟩
    have B8 := B7.trans (ho.below fun g hg => by cases hg; exact Nat.le_trans B2.size hg_Xs)
    have hz8 : w7.heap.size ≤ w8.heap.size := Nat.le_of_eq ho.size.symm
    have R0_8 := R0_7.only ho fun g hg e => by cases e; exact Hne_Xs.out _ hg rfl
    have R1_8 := R1_7.only ho fun g hg e => by cases e; exact Hne1_Xs.out _ hg rfl
    go_wp2_with fail
    refine (eqIntS_same _ _ ys _ R1_8.sl R0_8.sl hy).mono ?_
    rintro e w9 ⟨rfl, hb⟩
    have B9 := bel_step B8 hb
    have hz9 : w8.heap.size ≤ w9.heap.size := hb.size
    have R0_9 := R0_8.kept hb
    have R1_9 := R1_8.kept hb
    go_wp2_with fail
    refine (markIntS_one _ ys _ _ R1_9 hy).mono ?_
    rintro e w10 ⟨rfl, ho, M⟩
    have B10 := B9.trans (ho.below fun g hg => Nat.le_trans B3.size (Hge1.out g hg))
    have hz10 : w9.heap.size ≤ w10.heap.size := Nat.le_of_eq ho.size.symm
    have R0_10 := R0_9.only ho Hne01.out
    go_wp2_with fail
    refine (heldIntS_one _ ys.length _ _ M hy).mono ?_
    rintro e w' ⟨rfl, rfl⟩
    go_wp2_with fail
    refine (toIntS_any _ s _ (HSs.out.kept B10) (by omega)).mono ?_
    rintro e w11 ⟨g_As10, hg_As10, rfl, K_As10, hb⟩
    have B11 := bel_step B10 hb
    have hz11 : w10.heap.size ≤ w11.heap.size := hb.size
    have R0_11 := R0_10.kept hb
    have M_11 := M.kept hb
    have As10 := K_As10.res hg_As10
    go_wp2_with fail
    refine (HIM.out _ _ As10.sl).mono ?_
    rintro e w12 ⟨v_R2, rfl, R2, hb⟩
    have B12 := bel_step B11 hb
    have hz12 : w11.heap.size ≤ w12.heap.size := hb.size
    have R0_12 := R0_11.kept hb
    have M_12 := M_11.kept hb
    have As10_12 := As10.kept hb
    go_wp2_with fail
    refine (eqIntS_same _ _ ys _ R2.sl R0_12.sl hy).mono ?_
    rintro e w13 ⟨rfl, hb⟩
    have B13 := bel_step B12 hb
    have hz13 : w12.heap.size ≤ w13.heap.size := hb.size
    have R0_13 := R0_12.kept hb
    have M_13 := M_12.kept hb
    have R2_13 := R2.kept hb
    go_wp2_with fail
    refine (heldIntS_one _ ys.length _ _ M_13 hy).mono ?_
    rintro e w' ⟨rfl, rfl⟩
    go_wp2_with fail
    go_ret
    exact ⟨rfl, B13⟩


set_option maxHeartbeats 1600000 in
theorem walk_FnExactWrappedComb (w : World) (u_s : Option Addr) (l_s c_s : Nat) (z_s : List Int) (hr_s : IsRow .i64 w u_s l_s c_s z_s) (b : Int) (w_b : (Lit.int .i64 b).wf = true) (st : Int) (w_st : (Lit.int .i64 st).wf = true) (r : Int) (w_r : (Lit.int .i64 r).wf = true) :
    Calls Try.prog 6 #[.slice u_s l_s c_s, .int .i64 b, .int .i64 st, .int .i64 r] w fun e w' => e = .returned (.bool true) ∧ Below w.heap.size w w' := by
  obtain ⟨hs_s, hlen_s, hin_s⟩ := hr_s.sl
  generalize z_s.take l_s = s at hs_s hlen_s hin_s
  clear hr_s
  obtain ⟨b_1, b_2⟩ := bounds_i64 w_b
  obtain ⟨st_1, st_2⟩ := bounds_i64 w_st
  obtain ⟨r_1, r_2⟩ := bounds_i64 w_r
  by_cases hbig_s : 1048576 < l_s
  · clear hs_s hlen_s hin_s
    go_enter Try.func6, Try.ntmps6
    go_wp2
    go_ret
    exact ⟨rfl, Below.refl _ _⟩
  · have hq_s : l_s ≤ 1048576 := by omega
    exact gen_FnExactWrappedComb s b st r _ _ _ _ _ w hs_s (by omega) (by omega) (wc_len (by omega)) (fun w v_s h_s => spec_WrappedComb_any v_s s b st r w h_s) (fun w v_s h_s => impl_WrappedComb_any v_s s b st r w h_s)

end Go.Proofs.Ytcicglebmmlkdaa
