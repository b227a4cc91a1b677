
import Derived.Test.YtbhlailnefappaaQk
import Derived.Deep.RegionLaw
namespace Go.Proofs.Ytbhlailnefappaa
open Go.RowKit BitX Go.MemX Go.ChV
set_option linter.unusedVariables false

theorem _root_.Go.MemX.Sl.pre {w : World} {b off n cap : Nat} {xs : List Int} (h : Sl w (.slice (some ⟨b, off, none⟩) n cap) xs) {k : Nat} (h0 : 0 < k) (hk : k ≤ xs.length) : Sl w (.slice (some ⟨b, off, none⟩) k cap) (xs.take k) := by
  rcases h with ⟨rfl, _⟩ | ⟨b2, off2, n2, cap2, hv, hn, hp, hc, hlt, hx⟩
  · simp at hk; omega
  · cases hv
    refine .inr ⟨b, off, k, cap, rfl, by simp; omega, h0, by omega, hlt, fun i x hi => ?_⟩
    have hil : i < k := by
      by_cases hh : i < k
      · exact hh
      · rw [List.getElem?_take_eq_none (by omega)] at hi; cases hi
    rw [List.getElem?_take_of_lt hil] at hi
    exact hx i x hi


theorem sumL_take {xs : List Int} (k : Nat) (hk : k ≤ xs.length) : sumL (xs.take k) = sumF k (at0 xs) := by
  induction k with
  | zero => rfl
  | succ k ih =>
    obtain ⟨x, hx⟩ := get_lt xs k (by omega)
    rw [sumL_step xs k x hx, ih (by omega), sumF_succ, at0_of hx]
theorem wn_zero (bs : List Int) (k : Nat) : wnI bs k 0 = suB bs k := by unfold wnI; rw [suB_zero, Nat.zero_add]; omega
theorem wn_succ (bs : List Int) (k i : Nat) : wnI bs k (i + 1) = wnI bs k i + at0 bs (k + i) - at0 bs i := by
  unfold wnI
  rw [show i + 1 + k = (i + k) + 1 from by omega, suB_succ, suB_succ, show i + k = k + i from by omega]; omega
theorem wn_in {bs : List Int} (h : BitP bs) {k i : Nat} (hi : i + k ≤ bs.length) : -(k : Int) ≤ wnI bs k i ∧ wnI bs k i ≤ k := by
  have h1 := wn_on h hi
  have h2 := onS_mono h i k hi
  omega
/-- what is cut off ahead -/
theorem cut_any {w : World} {b off n cap q : Nat} {xs : List Int} (hn : n = xs.length) (hc : n ≤ cap) (hq : q ≤ n) (hlt : b < w.heap.size) (hcell : ∀ i x, xs[i]? = some x → w.cell? ⟨b, off + i, none⟩ = some (.int .i64 x)) :
    ∃ a2, (∀ W : World, (Instr.slice 24 (.slice (some ⟨b, off, none⟩) n cap) (some (.int .i64 (q : Int))) none none).run Try.prog W = .ok (.slice a2 (n - q) (cap - q)) W) ∧ Rd w a2 (xs.drop q) := by
  have hl : ∀ W : World, (Instr.slice 24 (.slice (some ⟨b, off, none⟩) n cap) (some (.int .i64 (q : Int))) none none).run Try.prog W = .ok (sliced (some ⟨b, off, none⟩) q n cap 1) W := fun W => by
    rw [run_slice_l W 24 (some ⟨b, off, none⟩) n cap uslice .i64 (q : Int) (by omega) (by omega), sone]; rfl
  by_cases hcq : cap = q
  · refine ⟨some ⟨b, off, none⟩, fun W => by rw [hl W]; unfold sliced; rw [if_pos hcq], fun i x hx => ?_⟩
    rw [List.getElem?_drop] at hx
    have := (List.getElem?_eq_some_iff.1 hx).1
    omega
  · refine ⟨some ⟨b, off + q, none⟩, fun W => by rw [hl W]; unfold sliced; rw [if_neg hcq]; simp [Addr.add], fun i x hx => ?_⟩
    rw [List.getElem?_drop] at hx
    exact ⟨b, off + q, rfl, hlt, by rw [Nat.add_assoc]; exact hcell _ _ hx⟩


set_option maxHeartbeats 2000000 in
theorem movingSums_any (v : Value) (bs : List Int) (q : Nat) (w : World) (hs : Sl w v bs) (hb : BitP bs) (hq1 : 1 ≤ q) (hq2 : q ≤ bs.length) :
    Calls Try.prog 65 #[v, .int .i64 (q : Int)] w (GivesL w (wnL bs q)) := by
  have hs0 := hs
  rcases hs with ⟨rfl, _⟩ | ⟨b, off, n, cap, rfl, hn, h0, hc, hlt, hcell⟩
  · simp at hq2; omega
  · obtain ⟨a2, hcut, hrd2⟩ := cut_any (q := q) hn hc (by omega) hlt hcell
    have hsp : Sl w (.slice (some ⟨b, off, none⟩) q cap) (bs.take q) := Sl.pre hs0 (by omega) hq2
    obtain ⟨aa, n', cap', he, hn', hrd⟩ := hs0.rd
    cases he
    have hl' : n ≤ 200 := by rw [hn]; exact hb.1
    have hsum : sumL (bs.take q) = wnI bs q 0 := by rw [wn_zero, sumL_take q hq2]; rfl
    have hpart : ∀ j, j ≤ (bs.take q).length → (sumL ((bs.take q).take j)).natAbs < 16777216 := fun j hj => by
      rw [List.length_take] at hj
      rw [List.take_take, sumL_take _ (by omega)]
      have h1 : -((min j q : Nat) : Int) ≤ suB bs (min j q) ∧ suB bs (min j q) ≤ ((min j q : Nat) : Int) := suB_in hb (min j q) (by omega)
      have h2 : min j q ≤ 200 := by omega
      change (suB bs (min j q)).natAbs < 16777216
      generalize min j q = t at *
      omega
    have hsm : ∀ x ∈ bs.take q, x.natAbs < 16777216 := fun x hx => by
      have := hb.2 x (List.mem_of_mem_take hx); omega
    have Hsp := hid hsp
    have Hsum := hid hsum
    have Hpart := hid hpart
    have Hsm := hid hsm
    have Hln := hid (show (bs.take q).length ≤ 1000000 from by rw [List.length_take]; omega)
    have Hn := hid hn
    have Hrd := hid hrd
    have Hrd2 := hid hrd2
    have HB := hid hb
    have hqn : q ≤ n := by omega
    have hqc : q ≤ cap := by omega
    have hcn : 0 < cap := by omega
    obtain ⟨i0, hi0, hz0, hz1, hz2⟩ := info_parts iint
    obtain ⟨r, hr⟩ : ∃ r, r = n - q := ⟨_, rfl⟩
    rw [← hr] at hcut
    have hrn1 : r + q ≤ n := by omega
    have hrn2 : n ≤ r + q := by omega
    clear hr
    clear hs0 hsp hsum hpart hsm hn hrd hrd2 hb hcell hq2 hn' hc hlt
    go_enter Try.func65, Try.ntmps65
    go_wp2_with fail
    refine (Su.sumOf_any _ (bs.take q) _ Hsp.out Hln.out Hpart.out Hsm.out).mono ?_
    rintro e w' ⟨rfl, rfl⟩
    rw [Hsum.out]
    go_wp2_with fail
    go_loopw [5, 17] (fun v i wr => ∃ c : Nat, c ≤ r ∧ i = .int .i64 c ∧ wr.ownsRow w.heap.size 3 1 v (c + 1) ((tab (c + 1) (wnI bs q)).map (Value.int .i64)) ∧ Below w.heap.size w wr)
      (fun _ i _ => r - (intOf i).toNat)
    case atStart => exact ⟨0, by omega, rfl, ownsRow_one (Nat.le_refl _), bel_alloc _ _⟩
    case round =>
      obtain ⟨c, hc, rfl, hown, hb⟩ := hrel
      have hsz : w.heap.size ≤ wr.heap.size := hb.size
      by_cases hlk : c < r
      · obtain ⟨x, hkx⟩ := get_lt bs c (by rw [← Hn.out]; omega)
        obtain ⟨z, hkz⟩ := get_lt (bs.drop q) c (by rw [List.length_drop, ← Hn.out]; omega)
        have hkz2 : bs[q + c]? = some z := by rw [← List.getElem?_drop]; exact hkz
        obtain ⟨b1, o1, hix1, hbb1, hce1⟩ := (Hrd.out.kept hb).at (P := Try.prog) (T := 24) n cap uslice sone hkx (by omega)
        obtain ⟨b2, o2, hix2, hbb2, hce2⟩ := (Hrd2.out.kept hb).at (P := Try.prog) (T := 24) r (cap - q) uslice sone hkz hlk
        obtain ⟨av, cv, rfl, hrv⟩ := own_read hown
        have hky : (tab (c + 1) (wnI bs q))[c]? = some (wnI bs q c) := tab_get _ _ _ (by omega)
        obtain ⟨b3, o3, hix3, hbb3, hce3⟩ := hrv.at (P := Try.prog) (T := 24) (c + 1) cv uslice sone hky (by omega)
        obtain ⟨s1, s2⟩ := wn_in HB.out (k := q) (i := c) (by rw [← Hn.out]; omega)
        have hst : tab (c + 1 + 1) (wnI bs q) = tab (c + 1) (wnI bs q) ++ [wnI bs q (c + 1)] := tab_step (c + 1) (wnI bs q)
        rw [wn_succ, at0_of hkx, at0_of hkz2] at hst
        have hx := bit_get HB.out hkx
        have hz := bit_get HB.out hkz2
        obtain ⟨x1, x2⟩ : -1 ≤ x ∧ x ≤ 1 := by omega
        obtain ⟨zz1, zz2⟩ : -1 ≤ z ∧ z ≤ 1 := by omega
        generalize wnI bs q c = y at *
        generalize tab (c + 1) (wnI bs q) = ys at hst hown hrv hky
        have Hob := hid (ownsRow_base hown)
        have Hown := hid hown
        have Hst := hid hst
        have hlt : (c : Int) < (r : Int) := by omega
        have e2 : IntKind.i64.wrap (y + z) = y + z := IntWalk.i64_in _ (by omega)
        have e3 : IntKind.i64.wrap (y + z - x) = y + z - x := IntWalk.i64_in _ (by omega)
        clear hkx hky hkz hkz2 hown hrv hst hx hz
        go_wp2_with fail
        go_region_law (first | (refine step_append_own rfl _ _ 24 rfl w.heap.size 3 i0 (.int .i64 0) 1 8 uslice hi0 hz0 hz1 hz2 rfl (by decide) _ _ _ rfl ((ownsRow_drew Hown.out).alloc _) ⟨wr.heap.size, 0, none⟩ 1 1 [.int .i64 (y + z - x)] rfl rfl (cell_one_new _ _ _) (by intro u hu; simp at hu; subst hu; rfl) (by unfold maxLen; omega) (by omega) (by simp; omega) ?_; intro v' w3 hown3 hgrow _; have hb3 : Below w.heap.size w w3 := ((hb.drew).alloc hsz _).grown hgrow (by simp; omega) (fun j hj => Hob.out j hj); have Hown3 := hid hown3; clear hown3 hgrow))
        all_goals go_wp2
        all_goals go_roundw
        all_goals first
          | exact ⟨c + 1, by omega, by go_num, by rw [Hst.out, List.map_append]; exact Hown3.out, hb3⟩
          | (simp [intOf]; omega)
      · have hge : (r : Int) ≤ (c : Int) := by omega
        have hkn : c + 1 = bs.length + 1 - q := by rw [← Hn.out]; omega
        have Hk := hid hkn
        have Hown := hid hown
        clear hkn hlk hown
        go_wp2
        go_ret
        have ho := Hown.out
        rw [Hk.out] at ho
        exact ⟨_, rfl, Res.owns (by rw [wnL, tab_len]; exact ho), hb⟩


set_option maxHeartbeats 1000000 in
theorem impl_MovingSums_is (v : Value) (bs : List Int) (k : Int) (w : World) (hs : Sl w v bs) :
    Calls Try.prog 42 #[v, .int .i64 k] w (Gives w (mvL bs k) (mvB bs k)) := by
  cases hq : bitB bs
  · have hz : mvB bs k = false := by unfold mvB; rw [hq]; rfl
    have HR := hid (show mvL bs k = [] from by unfold mvL; rw [hz]; rfl)
    have HZ := hid hz
    have HQ := hid hq
    have HS := hid hs
    clear hq hs hz
    go_enter Try.func42, Try.ntmps42
    go_wp2_with fail
    refine (areBits_q _ bs false _ HS.out HQ.out).mono ?_
    rintro e w' ⟨rfl, rfl⟩
    go_wp2_with fail
    go_ret2
    exact gives_of HZ.out HR.out ⟨_, rfl, .inl ⟨rfl, rfl⟩, Below.refl _ _⟩
  · have hb := bitB_t hq
    have HBP := hid hb
    obtain ⟨aa, n, cap, rfl, hn, hrd⟩ := id hs.rd
    have Hn := hid hn
    have HS := hid hs
    have HQ := hid hq
    have hl' : n ≤ 200 := by rw [hn]; exact hb.1
    cases hk : decide (1 ≤ k ∧ k ≤ (n : Int))
    · have hz : mvB bs k = false := by unfold mvB; rw [hq, ← hn, hk]; rfl
      have HR := hid (show mvL bs k = [] from by unfold mvL; rw [hz]; rfl)
      have HZ := hid hz
      have hk2 := of_decide_eq_false hk
      clear hq hs hz hn hrd hb hk
      by_cases hlo : k < 1
      · clear hk2
        go_enter Try.func42, Try.ntmps42
        go_wp2_with fail
        refine (areBits_q _ bs true _ HS.out HQ.out).mono ?_
        rintro e w' ⟨rfl, rfl⟩
        go_wp2_with fail
        go_ret2
        exact gives_of HZ.out HR.out ⟨_, rfl, .inl ⟨rfl, rfl⟩, Below.refl _ _⟩
      · have hhi : (n : Int) < k := by omega
        have hlo2 : 1 ≤ k := by omega
        clear hk2 hlo
        go_enter Try.func42, Try.ntmps42
        go_wp2_with fail
        refine (areBits_q _ bs true _ HS.out HQ.out).mono ?_
        rintro e w' ⟨rfl, rfl⟩
        go_wp2_with fail
        go_ret2
        exact gives_of HZ.out HR.out ⟨_, rfl, .inl ⟨rfl, rfl⟩, Below.refl _ _⟩
    · obtain ⟨k1, k2⟩ := of_decide_eq_true hk
      obtain ⟨q, rfl⟩ : ∃ q : Nat, k = q := ⟨k.toNat, by omega⟩
      have hz : mvB bs (q : Int) = true := by unfold mvB; rw [hq, ← hn, hk]; rfl
      have HR := hid (show mvL bs (q : Int) = wnL bs q from by unfold mvL; rw [hz]; rfl)
      have HZ := hid hz
      have hq2 : q ≤ bs.length := by omega
      have HQ2 := hid hq2
      clear hq hs hz hk hn hrd hb hq2
      go_enter Try.func42, Try.ntmps42
      go_wp2_with fail
      refine (areBits_q _ bs true _ HS.out HQ.out).mono ?_
      rintro e w' ⟨rfl, rfl⟩
      go_wp2_with fail
      refine (movingSums_any _ bs q _ HS.out HBP.out (by omega) HQ2.out).mono ?_
      rintro e w2 ⟨u1, rfl, hr1, hb1⟩
      go_wp2_with fail
      go_ret2
      exact gives_of HZ.out HR.out ⟨_, rfl, hr1, hb1⟩


end Go.Proofs.Ytbhlailnefappaa
