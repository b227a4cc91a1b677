
import Derived.Test.YtichkianildkgaaGreatEf
import Derived.Test.YtichkianildkgaaGreatEg
namespace Go.Proofs.YtichkianildkgaaGreat
open Go.RowKit BitX Go.MemX Go.Ch6
set_option linter.unusedVariables false
theorem ret_ibx {a c : Int} {b : Bool} (h : a = c) : Ending.returned (.tuple #[.int .i64 a, .bool b]) = .returned (.tuple #[.int .i64 c, .bool b]) := by rw [h]
def ctI (q : Nat) (s : List Int) (k : Nat) : Int := sumF k (fun j => sumF s.length (fun i => chg q j (at0 s) i))
theorem ct_succ (q : Nat) (s : List Int) (k : Nat) : ctI q s (k + 1) = ctI q s k + sumF s.length (fun i => chg q k (at0 s) i) := rfl
theorem ct_in (q : Nat) (s : List Int) (k : Nat) (hk : k ≤ 4) (hl : s.length ≤ 64) : 0 ≤ ctI q s k ∧ ctI q s k ≤ 256 := by
  have := sumF_upto k (fun j => sumF s.length (fun i => chg q j (at0 s) i)) 64 fun j _ => by
    have := sumF_upto s.length (fun i => chg q j (at0 s) i) 1 fun i _ => chg_in _ _ _ _
    omega
  unfold ctI; omega
theorem ct_wraps (q : Nat) (s : List Int) (t : Nat) : ctI q s t = wraps q t s.length (at0 s) := (wraps_swap q t s.length (at0 s)).symm


set_option maxHeartbeats 2000000 in
theorem spec_CountWraps_in (v : Value) (s : List Int) (q t : Nat) (w : World) (hs : Sl w v s) (hg : SigP s) (HB0 : Hid ((sigB s && askB (t : Int) 1) = true)) (HB1 : Hid (lonB (q : Int) = true)) (q5 : 2 ≤ q) (q6 : q ≤ 40) (q7 : 1 ≤ t) (q8 : t ≤ 4) :
    Calls Tryz.prog 11 #[v, .int .i64 (q : Int), .int .i64 (t : Int)] w fun e w' => e = .returned (.tuple #[.int .i64 (ctI q s t), .bool true]) ∧ Below w.heap.size w w' := by
  have HS0 := hid hs
  have hl := hg.1
  have HI := hid (sig_39 hg)
  have Hl := hid hl
  obtain ⟨n, hn⟩ : ∃ n, n = s.length := ⟨_, rfl⟩
  have Hn := hid hn
  have hn64 : n ≤ 64 := by omega
  clear hs hg hl hn
  obtain ⟨i0, hi0, hz0, hz1, hz2⟩ := info_parts iint
  go_enter Tryz.func11, Tryz.ntmps11
  go_wp2_with fail
  refine (cbGood_is _ s _ 1 true _ HS0.out HB0.out).mono ?_
  rintro e w' ⟨rfl, rfl⟩
  go_wp2_with fail
  refine (cbBits_is _ true _ HB1.out).mono ?_
  rintro e w' ⟨rfl, rfl⟩
  go_wp2_with fail
  go_loopw [0, 8, 9] (fun u c i wr => ∃ k : Nat, k ≤ t ∧ Sl wr u (sumsL q k s) ∧ c = .int .i64 (ctI q s k) ∧ i = .int .i64 k ∧ Below w.heap.size w wr)
    (fun _ _ i _ => t - (intOf i).toNat)
  case atStart => exact ⟨0, by omega, by rw [sumsL_zero]; exact HS0.out, rfl, rfl, Below.refl _ _⟩
  case round =>
    obtain ⟨k, hk, hu, rfl, rfl, hb0⟩ := hrel
    have hsz0 : w.heap.size ≤ wr.heap.size := hb0.size
    by_cases hlk : k < t
    · obtain ⟨aa, m, cap, rfl, hm, hrd⟩ := hu.rd
      rw [sumsL_len, ← Hn.out] at hm
      subst hm
      have hct := ct_in q s k (by omega) Hl.out
      have hcs := ct_succ q s k
      rw [← Hn.out] at hcs
      obtain ⟨C, hC⟩ : ∃ C, C = ctI q s k := ⟨_, rfl⟩
      rw [← hC] at hct hcs
      have Hcs := hid hcs
      rw [← hC]
      obtain ⟨c1, c2⟩ := hct
      have Hrd := hid hrd
      have hz00 : C + sumF 0 (fun i => chg q k (at0 s) i) = C := by rw [sumF_zero]; omega
      have Hz00 := hid hz00
      have hhd0 := hdS_zero q k (at0 s)
      have Hhd0 := hid hhd0
      clear hu hrd hC hcs hz00 hhd0
      go_wp2_with fail
      obtain ⟨wo, hwo⟩ : ∃ wo : World, wo = wr := ⟨_, rfl⟩
      subst hwo
      go_loopw [8, 10, 11, 31] (fun c su v i wq => ∃ j : Nat, j ≤ m ∧ c = .int .i64 (C + sumF j (fun i => chg q k (at0 s) i)) ∧ su = .int .i64 (hdS q k (at0 s) j) ∧ i = .int .i64 j ∧ wq.ownsRow wo.heap.size 3 1 v j ((tab j (stS q (k + 1) (at0 s))).map (Value.int .i64)) ∧ Below wo.heap.size wo wq)
        (fun _ _ _ i _ => m - (intOf i).toNat)
      case atStart => exact ⟨0, by omega, by rw [Hz00.out], by rw [Hhd0.out], rfl, World.ownsRow_nil _ _ _ _, Below.refl _ _⟩
      case round =>
        obtain ⟨j, hj, rfl, rfl, rfl, hown, hb⟩ := hrel
        have hsz : wo.heap.size ≤ wr.heap.size := hb.size
        by_cases hlj : j < m
        · have hkx : (sumsL q k s)[j]? = some (stS q k (at0 s) j) := tab_get _ _ _ (by rw [← Hn.out]; exact hlj)
          obtain ⟨bb, oo, hix, hbb, hce⟩ := (Hrd.out.kept hb).at (P := Tryz.prog) (T := 24) m cap uslice sone hkx hlj
          have hst := tab_step j (stS q (k + 1) (at0 s))
          rw [stS_succ] at hst
          have hS := hdS_succ q k (at0 s) j
          obtain ⟨a1, a2⟩ := hdS_in q6 k (at0 s) j
          obtain ⟨x1, x2⟩ := stS_in q6 k (at0 s) (inp_at0 HI.out (by omega)) j
          have hch := sumF_succ j (fun i => chg q k (at0 s) i)
          have hcin := sumF_upto j (fun i => chg q k (at0 s) i) 1 fun t _ => chg_in _ _ _ _
          have hcv : chg q k (at0 s) j = if hdS q k (at0 s) (j + 1) = hdS q k (at0 s) j + stS q k (at0 s) j then 0 else 1 := rfl
          generalize stS q k (at0 s) j = x at *
          generalize hdS q k (at0 s) j = a at *
          obtain ⟨c, hc⟩ : ∃ c, c = sumF j (fun i => chg q k (at0 s) i) := ⟨_, rfl⟩
          rw [← hc] at hch hcin
          rw [hcv, hS] at hch
          rw [hS] at hst
          obtain ⟨d, hd⟩ : ∃ d, d = C + c := ⟨_, rfl⟩
          have hd1 : d ≤ 400 := by omega
          have hd0 : 0 ≤ d := by omega
          rw [← hc, ← hd]
          obtain ⟨z, hz⟩ : ∃ z, z = wrI q (a + x) := ⟨_, rfl⟩
          rw [← hz] at hch hst hS
          have Hz := hid hz.symm
          have HS := hid hS
          obtain ⟨z1, z2⟩ : -549755813888 ≤ z ∧ z ≤ 549755813888 := by rw [hz]; exact wrI_big q6 _
          generalize hys : tab j (stS q (k + 1) (at0 s)) = ys at hst hown
          have Hob := hid (ownsRow_base hown)
          have Hst := hid hst
          have Hown := hid hown
          clear hst hown hys hkx hS hcv hcin hz
          by_cases heq : z = a + x
          · have hch2 : C + sumF (j + 1) (fun i => chg q k (at0 s) i) = d := by rw [hch, if_pos heq, hd]; omega
            have hbne : (z != a + x) = false := bne_eq_false_iff_eq.2 heq
            clear hc hd
            have Hch := hid hch2
            clear hch hch2 heq
            go_wp2_with fail
            refine (cbWrap_any (a + x) q _ q5 q6 (by omega) (by omega)).mono ?_
            rintro e w' ⟨rfl, rfl⟩
            rw [Hz.out]
            go_wp2_with (at_builtin; refine wpList_append_own _ rfl _ _ 24 rfl wo.heap.size 3 i0 (.int .i64 0) 1 8 uslice hi0 hz0 hz1 hz2 rfl (by decide) _ _ _ rfl (Hown.out.alloc _) ⟨wr.heap.size, 0, none⟩ 1 1 [.int .i64 (z)] rfl rfl ?c1 ?c2 ?c3 ?c4 ?c5 ?_)
            case c1 => exact cell_one_new _ _ _
            case c2 => intro u hu; simp at hu; subst hu; rfl
            case c3 => unfold maxLen; omega
            case c4 => omega
            case c5 => simp; omega
            intro v' w3 hown3 hgrow _
            have hb3 : Below wo.heap.size wo w3 := (hb.alloc hsz _).grown hgrow (by simp; omega) (fun j hj => Hob.out j hj)
            have Hown3 := hid hown3
            clear hown3 hgrow
            go_wp2
            go_roundw
            case rel => exact ⟨j + 1, by omega, by rw [Hch.out], by rw [HS.out], by go_num, by rw [Hst.out, List.map_append]; exact Hown3.out, hb3⟩
            case measure => simp [intOf]; omega
          · have hch2 : C + sumF (j + 1) (fun i => chg q k (at0 s) i) = d + 1 := by rw [hch, if_neg heq, hd]; omega
            have hbne : (z != a + x) = true := bne_iff_ne.2 heq
            clear hc hd
            have Hch := hid hch2
            clear hch hch2 heq
            go_wp2_with fail
            refine (cbWrap_any (a + x) q _ q5 q6 (by omega) (by omega)).mono ?_
            rintro e w' ⟨rfl, rfl⟩
            rw [Hz.out]
            go_wp2_with (at_builtin; refine wpList_append_own _ rfl _ _ 24 rfl wo.heap.size 3 i0 (.int .i64 0) 1 8 uslice hi0 hz0 hz1 hz2 rfl (by decide) _ _ _ rfl (Hown.out.alloc _) ⟨wr.heap.size, 0, none⟩ 1 1 [.int .i64 (z)] rfl rfl ?c1 ?c2 ?c3 ?c4 ?c5 ?_)
            case c1 => exact cell_one_new _ _ _
            case c2 => intro u hu; simp at hu; subst hu; rfl
            case c3 => unfold maxLen; omega
            case c4 => omega
            case c5 => simp; omega
            intro v' w3 hown3 hgrow _
            have hb3 : Below wo.heap.size wo w3 := (hb.alloc hsz _).grown hgrow (by simp; omega) (fun j hj => Hob.out j hj)
            have Hown3 := hid hown3
            clear hown3 hgrow
            go_wp2
            go_roundw
            case rel => exact ⟨j + 1, by omega, by rw [Hch.out], by rw [HS.out], by go_num, by rw [Hst.out, List.map_append]; exact Hown3.out, hb3⟩
            case measure => simp [intOf]; omega
        · have hge : (m : Int) ≤ (j : Int) := by omega
          have hjm : j = m := by omega
          have hres : Res 3 wo.heap.size wr u11 (sumsL q (k + 1) s) := by
            have ho := hown
            rw [hjm] at ho
            unfold sumsL
            rw [← Hn.out]
            exact Res.owns (by rw [tab_len]; exact ho)
          have hcm : C + sumF j (fun i => chg q k (at0 s) i) = ctI q s (k + 1) := by rw [hjm, Hcs.out]
          rw [hcm]
          have hct2 := ct_in q s (k + 1) (by omega) Hl.out
          have Hres := hid hres
          have hb3 := hb0.trans (hb.mono hsz0)
          clear hlj hjm hown hres hcm
          go_wp2
          go_roundw
          case rel => exact ⟨k + 1, by omega, Hres.out.sl, rfl, by go_num, hb3⟩
          case measure => simp [intOf]; omega
    · have hge : (t : Int) ≤ (k : Int) := by omega
      have hkt : k = t := by omega
      have Hk := hid hkt
      clear hlk hkt hu
      go_wp2
      go_ret2
      exact ⟨ret_ibx (by rw [Hk.out]), hb0⟩


set_option maxHeartbeats 1000000 in
theorem spec_CountWraps_any (v : Value) (s : List Int) (b st : Int) (w : World) (hs : Sl w v s) :
    Calls Tryz.prog 11 #[v, .int .i64 b, .int .i64 st] w fun e w' => e = .returned (.tuple #[.int .i64 (onI (wsB s b st) (wraps b.toNat st.toNat s.length (at0 s))), .bool (wsB s b st)]) ∧ Below w.heap.size w w' := by
  have HS := hid hs
  clear hs
  cases h0 : (sigB s && askB st 1)
  · have HB0 := hid h0
    clear h0
    go_enter Tryz.func11, Tryz.ntmps11
    go_wp2_with fail
    refine (cbGood_is _ s _ 1 false _ HS.out HB0.out).mono ?_
    rintro e w' ⟨rfl, rfl⟩
    go_wp2_with fail
    go_ret2
    exact ⟨onI_no (wsB_n1 HB0.out), Below.refl _ _⟩
  · have HB0 := hid h0
    clear h0
    cases h1 : lonB b
    · have HB1 := hid h1
      clear h1
      go_enter Tryz.func11, Tryz.ntmps11
      go_wp2_with fail
      refine (cbGood_is _ s _ 1 true _ HS.out HB0.out).mono ?_
      rintro e w' ⟨rfl, rfl⟩
      go_wp2_with fail
      refine (cbBits_is _ false _ HB1.out).mono ?_
      rintro e w' ⟨rfl, rfl⟩
      go_wp2_with fail
      go_ret2
      exact ⟨onI_no (wsB_n2 HB1.out), Below.refl _ _⟩
    · have HB1 := hid h1
      clear h1
      have HT := hid (wsB_g HB0.out HB1.out)
      obtain ⟨⟨q1, q2⟩, ⟨q3, q4⟩⟩ := (wsB_t HT.out).2
      obtain ⟨q, rfl⟩ : ∃ q : Nat, b = q := ⟨b.toNat, by omega⟩
      obtain ⟨t, rfl⟩ : ∃ t : Nat, st = t := ⟨st.toNat, by omega⟩
      have HL := hid (wsB_t HT.out).1.1
      have H39 := hid (sig_39 (wsB_t HT.out).1)
      clear q1 q2 q3 q4
      have q1 := (wsB_t HT.out).2.1.1
      have q2 := (wsB_t HT.out).2.1.2
      have q3 := (wsB_t HT.out).2.2.1
      have q4 := (wsB_t HT.out).2.2.2
      have q5 : 2 ≤ q := by omega
      have q6 : q ≤ 40 := by omega
      have q7 : 1 ≤ t := by omega
      have q8 : t ≤ 4 := by omega
      exact (spec_CountWraps_in v s q t w HS.out (wsB_t HT.out).1 HB0 HB1 q5 q6 q7 q8).mono fun e w' h => ⟨by rw [h.1]; exact onI_yes HT.out (ct_wraps q s t), h.2⟩


def wcL (s : List Int) (b st r : Nat) : List Int := difsL b st (dropL r (r - 1) (sumsL b st s))
theorem wcL_len (s : List Int) (b st r : Nat) : (wcL s b st r).length = drN s.length r (r - 1) := by unfold wcL; rw [difsL_len, dropL_len, sumsL_len]
def wcB (s : List Int) (b st r : Int) : Bool := (sigB s && askB st r) && lonB b
theorem drop_in {B : Int} {xs : List Int} {r f : Nat} (h : InP (-B) B xs) (h0 : 0 ≤ B) : InP (-B) B (dropL r f xs) := tab_inp fun i _ => inp_at0 h h0 _


theorem wcB_n1 {s : List Int} {b st r : Int} (h : (sigB s && askB st r) = false) : wcB s b st r = false := by unfold wcB; rw [h]; rfl
theorem wcB_n2 {s : List Int} {b st r : Int} (h : lonB b = false) : wcB s b st r = false := by unfold wcB; rw [h]; cases (sigB s && askB st r) <;> rfl
theorem wcB_g {s : List Int} {b st r : Int} (h : (sigB s && askB st r) = true) (h2 : lonB b = true) : wcB s b st r = true := by unfold wcB; rw [h, h2]; rfl
theorem wsa_n1 {s : List Int} {st r : Int} (h : sigB s = false) : (sigB s && askB st r) = false := by rw [h]; rfl
theorem wsa_n2 {s : List Int} {st r : Int} (h : askB st r = false) : (sigB s && askB st r) = false := by rw [h]; cases sigB s <;> rfl
theorem wsa_g {s : List Int} {st r : Int} (h : sigB s = true) (h2 : askB st r = true) : (sigB s && askB st r) = true := by rw [h, h2]; rfl
theorem wsa_t {s : List Int} {st r : Int} (h : (sigB s && askB st r) = true) : SigP s ∧ (1 ≤ st ∧ st ≤ 4) ∧ (1 ≤ r ∧ r ≤ 8) := by
  simp only [Bool.and_eq_true] at h
  exact ⟨sigB_t h.1, askB_t h.2⟩
theorem wc_len {s : List Int} {b st r : Int} (hl : s.length ≤ 1048576) : (onL (wcB s b st r) (wcL s b.toNat st.toNat r.toNat)).length ≤ 2000000 := onL_len fun h => by
  unfold wcB at h
  simp only [Bool.and_eq_true] at h
  have := askB_t h.1.2
  rw [wcL_len]
  have := drN_le s.length r.toNat (r.toNat - 1) (by omega)
  omega


end Go.Proofs.YtichkianildkgaaGreat
