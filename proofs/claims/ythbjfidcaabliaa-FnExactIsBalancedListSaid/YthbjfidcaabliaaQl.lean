
import Derived.Test.YthbjfidcaabliaaQk
import Derived.Deep.RegionLaw
namespace Go.Proofs.Ythbjfidcaabliaa
open Go.RowKit BitX Go.MemX Go.ChV
set_option linter.unusedVariables false

theorem _root_.Go.MemX.Sl.pre {w : World} {b off n cap : Nat} {xs : List Int} (h : Sl w (.slice (some ⟨b, off, none⟩) n cap) xs) {k : Nat} (h0 : 0 < k) (hk : k ≤ xs.length) : Sl w (.slice (some ⟨b, off, none⟩) k cap) (xs.take k) := by
  rcases h with ⟨rfl, _⟩ | ⟨b2, off2, n2, cap2, hv, hn, hp, hc, hlt, hx⟩
  · simp at hk; omega
  · cases hv
    refine .inr ⟨b, off, k, cap, rfl, by simp; omega, h0, by omega, hlt, fun i x hi => ?_⟩
    have hil : i < k := by
      by_cases hh : i < k
      · exact hh
      · rw [List.getElem?_take_eq_none (by omega)] at hi; cases hi
    rw [List.getElem?_take_of_lt hil] at hi
    exact hx i x hi


theorem sumL_take {xs : List Int} (k : Nat) (hk : k ≤ xs.length) : sumL (xs.take k) = sumF k (at0 xs) := by
  induction k with
  | zero => rfl
  | succ k ih =>
    obtain ⟨x, hx⟩ := get_lt xs k (by omega)
    rw [sumL_step xs k x hx, ih (by omega), sumF_succ, at0_of hx]
theorem wn_zero (bs : List Int) (k : Nat) : wnI bs k 0 = suB bs k := by unfold wnI; rw [suB_zero, Nat.zero_add]; omega
theorem wn_succ (bs : List Int) (k i : Nat) : wnI bs k (i + 1) = wnI bs k i + at0 bs (k + i) - at0 bs i := by
  unfold wnI
  rw [show i + 1 + k = (i + k) + 1 from by omega, suB_succ, suB_succ, show i + k = k + i from by omega]; omega
theorem wn_in {bs : List Int} (h : BitP bs) {k i : Nat} (hi : i + k ≤ bs.length) : -(k : Int) ≤ wnI bs k i ∧ wnI bs k i ≤ k := by
  have h1 := wn_on h hi
  have h2 := onS_mono h i k hi
  omega
/-- what is cut off ahead -/
theorem cut_any {w : World} {b off n cap q : Nat} {xs : List Int} (hn : n = xs.length) (hc : n ≤ cap) (hq : q ≤ n) (hlt : b < w.heap.size) (hcell : ∀ i x, xs[i]? = some x → w.cell? ⟨b, off + i, none⟩ = some (.int .i64 x)) :
    ∃ a2, (∀ W : World, (Instr.slice 25 (.slice (some ⟨b, off, none⟩) n cap) (some (.int .i64 (q : Int))) none none).run Try.prog W = .ok (.slice a2 (n - q) (cap - q)) W) ∧ Rd w a2 (xs.drop q) := by
  have hl : ∀ W : World, (Instr.slice 25 (.slice (some ⟨b, off, none⟩) n cap) (some (.int .i64 (q : Int))) none none).run Try.prog W = .ok (sliced (some ⟨b, off, none⟩) q n cap 1) W := fun W => by
    rw [run_slice_l W 25 (some ⟨b, off, none⟩) n cap uslice .i64 (q : Int) (by omega) (by omega), sone]; rfl
  by_cases hcq : cap = q
  · refine ⟨some ⟨b, off, none⟩, fun W => by rw [hl W]; unfold sliced; rw [if_pos hcq], fun i x hx => ?_⟩
    rw [List.getElem?_drop] at hx
    have := (List.getElem?_eq_some_iff.1 hx).1
    omega
  · refine ⟨some ⟨b, off + q, none⟩, fun W => by rw [hl W]; unfold sliced; rw [if_neg hcq]; simp [Addr.add], fun i x hx => ?_⟩
    rw [List.getElem?_drop] at hx
    exact ⟨b, off + q, rfl, hlt, by rw [Nat.add_assoc]; exact hcell _ _ hx⟩


set_option maxHeartbeats 2000000 in
theorem movingSums_any (v : Value) (bs : List Int) (q : Nat) (w : World) (hs : Sl w v bs) (hb : BitP bs) (hq1 : 1 ≤ q) (hq2 : q ≤ bs.length) :
    Calls Try.prog 38 #[v, .int .i64 (q : Int)] w (GivesL w (wnL bs q)) := by
  have hs0 := hs
  rcases hs with ⟨rfl, _⟩ | ⟨b, off, n, cap, rfl, hn, h0, hc, hlt, hcell⟩
  · simp at hq2; omega
  · obtain ⟨a2, hcut, hrd2⟩ := cut_any (q := q) hn hc (by omega) hlt hcell
    have hsp : Sl w (.slice (some ⟨b, off, none⟩) q cap) (bs.take q) := Sl.pre hs0 (by omega) hq2
    obtain ⟨aa, n', cap', he, hn', hrd⟩ := hs0.rd
    cases he
    have hl' : n ≤ 200 := by rw [hn]; exact hb.1
    have hsum : sumL (bs.take q) = wnI bs q 0 := by rw [wn_zero, sumL_take q hq2]; rfl
    have hpart : ∀ j, j ≤ (bs.take q).length → (sumL ((bs.take q).take j)).natAbs < 16777216 := fun j hj => by
      rw [List.length_take] at hj
      rw [List.take_take, sumL_take _ (by omega)]
      have h1 : -((min j q : Nat) : Int) ≤ suB bs (min j q) ∧ suB bs (min j q) ≤ ((min j q : Nat) : Int) := suB_in hb (min j q) (by omega)
      have h2 : min j q ≤ 200 := by omega
      change (suB bs (min j q)).natAbs < 16777216
      generalize min j q = t at *
      omega
    have hsm : ∀ x ∈ bs.take q, x.natAbs < 16777216 := fun x hx => by
      have := hb.2 x (List.mem_of_mem_take hx); omega
    have Hsp := hid hsp
    have Hsum := hid hsum
    have Hpart := hid hpart
    have Hsm := hid hsm
    have Hln := hid (show (bs.take q).length ≤ 1000000 from by rw [List.length_take]; omega)
    have Hn := hid hn
    have Hrd := hid hrd
    have Hrd2 := hid hrd2
    have HB := hid hb
    have hqn : q ≤ n := by omega
    have hqc : q ≤ cap := by omega
    have hcn : 0 < cap := by omega
    obtain ⟨i0, hi0, hz0, hz1, hz2⟩ := info_parts iint
    obtain ⟨r, hr⟩ : ∃ r, r = n - q := ⟨_, rfl⟩
    rw [← hr] at hcut
    have hrn1 : r + q ≤ n := by omega
    have hrn2 : n ≤ r + q := by omega
    clear hr
    clear hs0 hsp hsum hpart hsm hn hrd hrd2 hb hcell hq2 hn' hc hlt
    go_enter Try.func38, Try.ntmps38
    go_wp2_with fail
    refine (Su.sumOf_any _ (bs.take q) _ Hsp.out Hln.out Hpart.out Hsm.out).mono ?_
    rintro e w' ⟨rfl, rfl⟩
    rw [Hsum.out]
    go_wp2_with fail
    go_loopw [5, 17] (fun v i wr => ∃ c : Nat, c ≤ r ∧ i = .int .i64 c ∧ wr.ownsRow w.heap.size 3 1 v (c + 1) ((tab (c + 1) (wnI bs q)).map (Value.int .i64)) ∧ Below w.heap.size w wr)
      (fun _ i _ => r - (intOf i).toNat)
    case atStart => exact ⟨0, by omega, rfl, ownsRow_one (Nat.le_refl _), bel_alloc _ _⟩
    case round =>
      obtain ⟨c, hc, rfl, hown, hb⟩ := hrel
      have hsz : w.heap.size ≤ wr.heap.size := hb.size
      by_cases hlk : c < r
      · obtain ⟨x, hkx⟩ := get_lt bs c (by rw [← Hn.out]; omega)
        obtain ⟨z, hkz⟩ := get_lt (bs.drop q) c (by rw [List.length_drop, ← Hn.out]; omega)
        have hkz2 : bs[q + c]? = some z := by rw [← List.getElem?_drop]; exact hkz
        obtain ⟨b1, o1, hix1, hbb1, hce1⟩ := (Hrd.out.kept hb).at (P := Try.prog) (T := 25) n cap uslice sone hkx (by omega)
        obtain ⟨b2, o2, hix2, hbb2, hce2⟩ := (Hrd2.out.kept hb).at (P := Try.prog) (T := 25) r (cap - q) uslice sone hkz hlk
        obtain ⟨av, cv, rfl, hrv⟩ := own_read hown
        have hky : (tab (c + 1) (wnI bs q))[c]? = some (wnI bs q c) := tab_get _ _ _ (by omega)
        obtain ⟨b3, o3, hix3, hbb3, hce3⟩ := hrv.at (P := Try.prog) (T := 25) (c + 1) cv uslice sone hky (by omega)
        obtain ⟨s1, s2⟩ := wn_in HB.out (k := q) (i := c) (by rw [← Hn.out]; omega)
        have hst : tab (c + 1 + 1) (wnI bs q) = tab (c + 1) (wnI bs q) ++ [wnI bs q (c + 1)] := tab_step (c + 1) (wnI bs q)
        rw [wn_succ, at0_of hkx, at0_of hkz2] at hst
        have hx := bit_get HB.out hkx
        have hz := bit_get HB.out hkz2
        obtain ⟨x1, x2⟩ : -1 ≤ x ∧ x ≤ 1 := by omega
        obtain ⟨zz1, zz2⟩ : -1 ≤ z ∧ z ≤ 1 := by omega
        generalize wnI bs q c = y at *
        generalize tab (c + 1) (wnI bs q) = ys at hst hown hrv hky
        have Hob := hid (ownsRow_base hown)
        have Hown := hid hown
        have Hst := hid hst
        have hlt : (c : Int) < (r : Int) := by omega
        have e2 : IntKind.i64.wrap (y + z) = y + z := IntWalk.i64_in _ (by omega)
        have e3 : IntKind.i64.wrap (y + z - x) = y + z - x := IntWalk.i64_in _ (by omega)
        clear hkx hky hkz hkz2 hown hrv hst hx hz
        go_wp2_with fail
        go_region_law (first | (refine step_append_own rfl _ _ 25 rfl w.heap.size 3 i0 (.int .i64 0) 1 8 uslice hi0 hz0 hz1 hz2 rfl (by decide) _ _ _ rfl ((ownsRow_drew Hown.out).alloc _) ⟨wr.heap.size, 0, none⟩ 1 1 [.int .i64 (y + z - x)] rfl rfl (cell_one_new _ _ _) (by intro u hu; simp at hu; subst hu; rfl) (by unfold maxLen; omega) (by omega) (by simp; omega) ?_; intro v' w3 hown3 hgrow _; have hb3 : Below w.heap.size w w3 := ((hb.drew).alloc hsz _).grown hgrow (by simp; omega) (fun j hj => Hob.out j hj); have Hown3 := hid hown3; clear hown3 hgrow))
        all_goals go_wp2
        all_goals go_roundw
        all_goals first
          | exact ⟨c + 1, by omega, by go_num, by rw [Hst.out, List.map_append]; exact Hown3.out, hb3⟩
          | (simp [intOf]; omega)
      · have hge : (r : Int) ≤ (c : Int) := by omega
        have hkn : c + 1 = bs.length + 1 - q := by rw [← Hn.out]; omega
        have Hk := hid hkn
        have Hown := hid hown
        clear hkn hlk hown
        go_wp2
        go_ret
        have ho := Hown.out
        rw [Hk.out] at ho
        exact ⟨_, rfl, Res.owns (by rw [wnL, tab_len]; exact ho), hb⟩


set_option maxHeartbeats 1000000 in
theorem impl_MovingSums_is (v : Value) (bs : List Int) (k : Int) (w : World) (hs : Sl w v bs) :
    Calls Try.prog 22 #[v, .int .i64 k] w (Gives w (mvL bs k) (mvB bs k)) := by
  cases hq : bitB bs
  · have hz : mvB bs k = false := by unfold mvB; rw [hq]; rfl
    have HR := hid (show mvL bs k = [] from by unfold mvL; rw [hz]; rfl)
    have HZ := hid hz
    have HQ := hid hq
    have HS := hid hs
    clear hq hs hz
    go_enter Try.func22, Try.ntmps22
    go_wp2_with fail
    refine (areBits_q _ bs false _ HS.out HQ.out).mono ?_
    rintro e w' ⟨rfl, rfl⟩
    go_wp2_with fail
    go_ret2
    exact gives_of HZ.out HR.out ⟨_, rfl, .inl ⟨rfl, rfl⟩, Below.refl _ _⟩
  · have hb := bitB_t hq
    have HBP := hid hb
    obtain ⟨aa, n, cap, rfl, hn, hrd⟩ := id hs.rd
    have Hn := hid hn
    have HS := hid hs
    have HQ := hid hq
    have hl' : n ≤ 200 := by rw [hn]; exact hb.1
    cases hk : decide (1 ≤ k ∧ k ≤ (n : Int))
    · have hz : mvB bs k = false := by unfold mvB; rw [hq, ← hn, hk]; rfl
      have HR := hid (show mvL bs k = [] from by unfold mvL; rw [hz]; rfl)
      have HZ := hid hz
      have hk2 := of_decide_eq_false hk
      clear hq hs hz hn hrd hb hk
      by_cases hlo : k < 1
      · clear hk2
        go_enter Try.func22, Try.ntmps22
        go_wp2_with fail
        refine (areBits_q _ bs true _ HS.out HQ.out).mono ?_
        rintro e w' ⟨rfl, rfl⟩
        go_wp2_with fail
        go_ret2
        exact gives_of HZ.out HR.out ⟨_, rfl, .inl ⟨rfl, rfl⟩, Below.refl _ _⟩
      · have hhi : (n : Int) < k := by omega
        have hlo2 : 1 ≤ k := by omega
        clear hk2 hlo
        go_enter Try.func22, Try.ntmps22
        go_wp2_with fail
        refine (areBits_q _ bs true _ HS.out HQ.out).mono ?_
        rintro e w' ⟨rfl, rfl⟩
        go_wp2_with fail
        go_ret2
        exact gives_of HZ.out HR.out ⟨_, rfl, .inl ⟨rfl, rfl⟩, Below.refl _ _⟩
    · obtain ⟨k1, k2⟩ := of_decide_eq_true hk
      obtain ⟨q, rfl⟩ : ∃ q : Nat, k = q := ⟨k.toNat, by omega⟩
      have hz : mvB bs (q : Int) = true := by unfold mvB; rw [hq, ← hn, hk]; rfl
      have HR := hid (show mvL bs (q : Int) = wnL bs q from by unfold mvL; rw [hz]; rfl)
      have HZ := hid hz
      have hq2 : q ≤ bs.length := by omega
      have HQ2 := hid hq2
      clear hq hs hz hk hn hrd hb hq2
      go_enter Try.func22, Try.ntmps22
      go_wp2_with fail
      refine (areBits_q _ bs true _ HS.out HQ.out).mono ?_
      rintro e w' ⟨rfl, rfl⟩
      go_wp2_with fail
      refine (movingSums_any _ bs q _ HS.out HBP.out (by omega) HQ2.out).mono ?_
      rintro e w2 ⟨u1, rfl, hr1, hb1⟩
      go_wp2_with fail
      go_ret2
      exact gives_of HZ.out HR.out ⟨_, rfl, hr1, hb1⟩


set_option maxHeartbeats 1600000 in
theorem gen_FnExactMovingSums (s : List Int) (k : Int) (u_s : Option Addr) (l_s c_s : Nat) (ys : List Int) (ok : Bool) (w : World) (hs_s : Sl w (.slice u_s l_s c_s) s) (ll_s : l_s ≤ 1048576) (hl_s : s.length ≤ 1048576) (hy : ys.length ≤ 2000000) (hspec : ∀ (w : World) (v_s : Value), Sl w v_s s → Calls Try.prog 21 #[v_s, .int .i64 k] w (Gives w ys ok)) (himpl : ∀ (w : World) (v_s : Value), Sl w v_s s → Calls Try.prog 22 #[v_s, .int .i64 k] w (Gives w ys ok)) :
    Calls Try.prog 7 #[.slice u_s l_s c_s, .int .i64 k] w fun e w' => e = .returned (.bool true) ∧ Below w.heap.size w w' := by
  have HSs := hid hs_s
  clear hs_s
  have HSP := hid hspec
  have HIM := hid himpl
  clear hspec himpl
  all_goals cases ok
  all_goals
    go_enter Try.func7, Try.ntmps7
    go_wp2_with fail
    refine (toIntS_any _ s _ HSs.out (by omega)).mono ?_
    rintro e w1 ⟨g_As0, hg_As0, rfl, K_As0, hb⟩
    have B1 := hb
    have hz1 : w.heap.size ≤ w1.heap.size := by first | exact hb.size | (have := hb.size; simp at this; omega)
    have As0 := K_As0.res hg_As0
    go_wp2_with fail
    refine (HSP.out _ _ As0.sl).mono ?_
    rintro e w2 ⟨v_R0, rfl, R0, hb⟩
    have B2 := bel_step B1 hb
    have hz2 : w1.heap.size ≤ w2.heap.size := hb.size
    have As0_2 := As0.kept hb
    have hlt0 : ∀ g, v_R0.ownBlock = some g → g < w2.heap.size := fun g hg => R0.lt hg
    have Hlt0 := hid hlt0
    clear hlt0
    go_wp2_with fail
    refine (toIntS_any _ s _ (HSs.out.kept B2) (by omega)).mono ?_
    rintro e w3 ⟨g_Xs, hg_Xs, rfl, K_Xs, hb⟩
    have B3 := bel_step B2 hb
    have hz3 : w2.heap.size ≤ w3.heap.size := hb.size
    have R0_3 := R0.kept hb
    have Xs := K_Xs.res hg_Xs
    have hlt_Xs := K_Xs.lt
    have hne_Xs : ∀ g, v_R0.ownBlock = some g → g ≠ g_Xs := fun g hg => by have a1 := Hlt0.out g hg; omega
    have Hne_Xs := hid hne_Xs
    clear hne_Xs
    have hxl_Xs : g_Xs < w3.heap.size := Xs.lt rfl
    go_wp2_with fail
    refine (HIM.out _ _ Xs.sl).mono ?_
    rintro e w4 ⟨v_R1, rfl, R1, hb⟩
    have B4 := bel_step B3 hb
    have hz4 : w3.heap.size ≤ w4.heap.size := hb.size
    have R0_4 := R0_3.kept hb
    have Xs_4 := Xs.kept hb
    have hne1_Xs : ∀ g, v_R1.ownBlock = some g → g ≠ g_Xs := fun g hg => by have a1 := R1.ge hg; omega
    have Hne1_Xs := hid hne1_Xs
    clear hne1_Xs
    have hne01 : ∀ g, v_R0.ownBlock = some g → v_R1.ownBlock ≠ some g := fun g hg e => by have a1 := R1.ge e; have a2 := Hlt0.out g hg; omega
    have Hne01 := hid hne01
    clear hne01
    have hge1 : ∀ g, v_R1.ownBlock = some g → w3.heap.size ≤ g := fun g hg => R1.ge hg
    have Hge1 := hid hge1
    clear hge1
    go_wp2_with fail
    refine (eqIntS_same _ _ ys _ R1.sl R0_4.sl hy).mono ?_
    rintro e w5 ⟨rfl, hb⟩
    have B5 := bel_step B4 hb
    have hz5 : w4.heap.size ≤ w5.heap.size := hb.size
    have R0_5 := R0_4.kept hb
    have Xs_5 := Xs_4.kept hb
    have R1_5 := R1.kept hb
    go_wp2_with fail
    refine (toIntS_any _ s _ (HSs.out.kept B5) (by omega)).mono ?_
    rintro e w6 ⟨g_TXs, hg_TXs, rfl, K_TXs, hb⟩
    have B6 := bel_step B5 hb
    have hz6 : w5.heap.size ≤ w6.heap.size := hb.size
    have R0_6 := R0_5.kept hb
    have Xs_6 := Xs_5.kept hb
    have R1_6 := R1_5.kept hb
    have TXs := K_TXs.res hg_TXs
    go_wp2_with fail
    refine (eqIntS_same _ _ s _ Xs_6.sl TXs.sl (by omega)).mono ?_
    rintro e w7 ⟨rfl, hb⟩
    have B7 := bel_step B6 hb
    have hz7 : w6.heap.size ≤ w7.heap.size := hb.size
    have R0_7 := R0_6.kept hb
    have Xs_7 := Xs_6.kept hb
    have R1_7 := R1_6.kept hb
    have TXs_7 := TXs.kept hb
    go_wp2_with fail
    refine (markIntS_one _ s _ _ Xs_7 (by omega)).mono ?_
    rintro e w8 ⟨rfl, ho, _⟩
    have B8 := B7.trans (ho.below fun g hg => by cases hg; exact Nat.le_trans B2.size hg_Xs)
    have hz8 : w7.heap.size ≤ w8.heap.size := Nat.le_of_eq ho.size.symm
    have R0_8 := R0_7.only ho fun g hg e => by cases e; exact Hne_Xs.out _ hg rfl
    have R1_8 := R1_7.only ho fun g hg e => by cases e; exact Hne1_Xs.out _ hg rfl
    go_wp2_with fail
    refine (eqIntS_same _ _ ys _ R1_8.sl R0_8.sl hy).mono ?_
    rintro e w9 ⟨rfl, hb⟩
    have B9 := bel_step B8 hb
    have hz9 : w8.heap.size ≤ w9.heap.size := hb.size
    have R0_9 := R0_8.kept hb
    have R1_9 := R1_8.kept hb
    go_wp2_with fail
    refine (markIntS_one _ ys _ _ R1_9 hy).mono ?_
    rintro e w10 ⟨rfl, ho, M⟩
    have B10 := B9.trans (ho.below fun g hg => Nat.le_trans B3.size (Hge1.out g hg))
    have hz10 : w9.heap.size ≤ w10.heap.size := Nat.le_of_eq ho.size.symm
    have R0_10 := R0_9.only ho Hne01.out
    go_wp2_with fail
    refine (heldIntS_one _ ys.length _ _ M hy).mono ?_
    rintro e w' ⟨rfl, rfl⟩
    go_wp2_with fail
    refine (toIntS_any _ s _ (HSs.out.kept B10) (by omega)).mono ?_
    rintro e w11 ⟨g_As10, hg_As10, rfl, K_As10, hb⟩
    have B11 := bel_step B10 hb
    have hz11 : w10.heap.size ≤ w11.heap.size := hb.size
    have R0_11 := R0_10.kept hb
    have M_11 := M.kept hb
    have As10 := K_As10.res hg_As10
    go_wp2_with fail
    refine (HIM.out _ _ As10.sl).mono ?_
    rintro e w12 ⟨v_R2, rfl, R2, hb⟩
    have B12 := bel_step B11 hb
    have hz12 : w11.heap.size ≤ w12.heap.size := hb.size
    have R0_12 := R0_11.kept hb
    have M_12 := M_11.kept hb
    have As10_12 := As10.kept hb
    go_wp2_with fail
    refine (eqIntS_same _ _ ys _ R2.sl R0_12.sl hy).mono ?_
    rintro e w13 ⟨rfl, hb⟩
    have B13 := bel_step B12 hb
    have hz13 : w12.heap.size ≤ w13.heap.size := hb.size
    have R0_13 := R0_12.kept hb
    have M_13 := M_12.kept hb
    have R2_13 := R2.kept hb
    go_wp2_with fail
    refine (heldIntS_one _ ys.length _ _ M_13 hy).mono ?_
    rintro e w' ⟨rfl, rfl⟩
    go_wp2_with fail
    go_ret
    exact ⟨rfl, B13⟩


set_option maxHeartbeats 1600000 in
theorem walk_FnExactMovingSums (w : World) (u_s : Option Addr) (l_s c_s : Nat) (z_s : List Int) (hr_s : IsRow .i64 w u_s l_s c_s z_s) (k : Int) (w_k : (Lit.int .i64 k).wf = true) :
    Calls Try.prog 7 #[.slice u_s l_s c_s, .int .i64 k] w fun e w' => e = .returned (.bool true) ∧ Below w.heap.size w w' := by
  obtain ⟨hs_s, hlen_s, hin_s⟩ := hr_s.sl
  generalize z_s.take l_s = s at hs_s hlen_s hin_s
  clear hr_s
  obtain ⟨k_1, k_2⟩ := bounds_i64 w_k
  by_cases hbig_s : 1048576 < l_s
  · clear hs_s hlen_s hin_s
    go_enter Try.func7, Try.ntmps7
    go_wp2
    go_ret
    exact ⟨rfl, Below.refl _ _⟩
  · have hq_s : l_s ≤ 1048576 := by omega
    exact gen_FnExactMovingSums s k _ _ _ (mvL s k) (mvB s k) w hs_s (by omega) (by omega) (mvL_len _ _ (by omega)) (fun w v_s h_s => spec_MovingSums_is v_s s k w h_s) (fun w v_s h_s => impl_MovingSums_is v_s s k w h_s)

end Go.Proofs.Ythbjfidcaabliaa
