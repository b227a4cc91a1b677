
import Derived.Test.YthkfjoonkkmgiaaXg
namespace Go.Proofs.Ythkfjoonkkmgiaa
open Go.RowKit BitX Go.MemX Go.Ch6 Go.Ch9 Go.ChV
set_option linter.unusedVariables false
def gpI9 (s : List Int) (f : Int) (k : Nat) : Int := at0 s k - skV adI (cdB s) f (k + 1)
def gpL9 (s : List Int) (f : Int) : List Int := tab s.length (gpI9 s f)
theorem gpI9_in {s : List Int} {f : Int} (hs : SigP s) (f1 : 1 ≤ f) (f2 : f ≤ 4096) (k : Nat) (hk : k < s.length) : -1000000 ≤ gpI9 s f k ∧ gpI9 s f k ≤ 1000000 := by
  have h64 := hs.1
  have hx : -100000 ≤ at0 s k ∧ at0 s k ≤ 100000 := by
    obtain ⟨x, hx⟩ := get_lt s k hk
    rw [at0_of hx]; exact hs.2 x (List.mem_of_getElem? hx)
  have hv := skV_in' (nx := adI) (B := cdB s) (n := s.length) ad_keeps f1 f2 (fun k y h => cdB_in s _ k y h) (k + 1) (by omega) (by omega)
  unfold gpI9
  omega
theorem gpL9_in {s : List Int} {f : Int} (hs : SigP s) (f1 : 1 ≤ f) (f2 : f ≤ 4096) : InP (-10000000000) 10000000000 (gpL9 s f) := by
  intro x hx
  obtain ⟨k, hk⟩ := List.getElem?_of_mem hx
  have hkl : k < s.length := by have := (List.getElem?_eq_some_iff.1 hk).1; rwa [gpL9, tab_len] at this
  rw [gpL9, tab_get _ _ _ hkl] at hk
  cases hk
  have := gpI9_in hs f1 f2 k hkl
  omega
theorem gpL9_len (s : List Int) (f : Int) : (gpL9 s f).length = s.length := tab_len _ _
theorem mod_zero (n : Nat) (a b : Nat → Int) : tab n (fun j => if j < 0 then a j else b j) = tab n b := tab_congr _ _ _ fun i _ => by rw [if_neg (by omega)]
theorem mod_full (n : Nat) (a b : Nat → Int) : tab n (fun j => if j < n then a j else b j) = tab n a := tab_congr _ _ _ fun i hi => by rw [if_pos hi]
theorem mod_step {v : Int} (n k : Nat) (a b : Nat → Int) (hv : a k = v) : (tab n (fun j => if j < k then a j else b j)).set k v = tab n (fun j => if j < k + 1 then a j else b j) :=
  tab_set n _ _ k (by rw [if_pos (by omega)]; exact hv) fun i _ hne => by
    by_cases h : i < k
    · rw [if_pos h, if_pos (by omega)]
    · rw [if_neg h, if_neg (by omega)]


set_option maxHeartbeats 2000000 in
theorem tnGaps_any (v : Value) (s : List Int) (f : Int) (w : World) (hs : Sl w v s) (hg : SigP s) (f1 : 1 ≤ f) (f2 : f ≤ 4096) :
    Calls Try.prog 36 #[v, .int .i64 f] w (GivesL w (gpL9 s f)) := by
  have HS := hid hs
  have HG := hid hg
  obtain ⟨aa, n, cap, rfl, hn, hrd⟩ := id hs.rd
  have Hn := hid hn
  have Hrd := hid hrd
  have hl' : n ≤ 64 := by rw [hn]; exact hg.1
  obtain ⟨i0, hi0, hz0, hz1, hz2⟩ := info_parts iint
  clear hs hg hn hrd
  go_enter Try.func36, Try.ntmps36
  go_wp2_with fail
  refine (tnCode_any _ s f _ HS.out HG.out.1 f1 f2).mono ?_
  rintro e w1 ⟨x, y, rfl, R1, R2, hbw⟩
  obtain ⟨ya, yn, yc, rfl, hyn, hyr⟩ := R2.sl.rd
  rw [tab_len, ← Hn.out] at hyn
  subst hyn
  have Hyr := hid hyr
  have Hbw := hid hbw
  clear R1 R2 hyr hbw
  go_wp2_with fail
  go_loopw [7, 18] (fun vv i wr => ∃ c : Nat, c ≤ yn ∧ i = .int .i64 c ∧ wr.ownsRow w1.heap.size 3 1 vv c ((tab c (gpI9 s f)).map (Value.int .i64)) ∧ Below w1.heap.size w1 wr)
    (fun _ i _ => yn - (intOf i).toNat)
  case atStart => exact ⟨0, by omega, rfl, World.ownsRow_nil _ _ _ _, Below.refl _ _⟩
  case round =>
    obtain ⟨c, hc, rfl, hown, hb⟩ := hrel
    have hsz : w1.heap.size ≤ wr.heap.size := hb.size
    by_cases hlk : c < yn
    · obtain ⟨x1, hkx⟩ := get_lt s c (by rw [← Hn.out]; exact hlk)
      obtain ⟨bb, oo, hix, hbb, hce⟩ := (Hrd.out.kept (bel_step Hbw.out hb)).at (P := Try.prog) (T := 24) yn cap uslice sone hkx hlk
      have hky : (tab s.length fun k => skV adI (cdB s) f (k + 1))[c]? = some (skV adI (cdB s) f (c + 1)) := tab_get _ _ _ (by rw [← Hn.out]; exact hlk)
      obtain ⟨b2, o2, hix2, hbb2, hce2⟩ := (Hyr.out.kept hb).at (P := Try.prog) (T := 24) yn yc uslice sone hky hlk
      have hgi := gpI9_in HG.out f1 f2 c (by rw [← Hn.out]; exact hlk)
      have hst : tab (c + 1) (gpI9 s f) = tab c (gpI9 s f) ++ [gpI9 s f c] := tab_step c (gpI9 s f)
      have hgd : gpI9 s f c = x1 - skV adI (cdB s) f (c + 1) := by unfold gpI9; rw [at0_of hkx]
      rw [hgd] at hst hgi
      generalize skV adI (cdB s) f (c + 1) = y at *
      have Hst := hid hst
      have Hob := hid (ownsRow_base hown)
      have Hown := hid hown
      clear hkx hky hst hgd hown
      go_wp2_with (at_builtin; refine wpList_append_own _ rfl _ _ 24 rfl w1.heap.size 3 i0 (.int .i64 0) 1 8 uslice hi0 hz0 hz1 hz2 rfl (by decide) _ _ _ rfl (Hown.out.alloc _) ⟨wr.heap.size, 0, none⟩ 1 1 [.int .i64 (x1 - y)] rfl rfl (cell_one_new _ _ _) (by intro u hu; simp at hu; subst hu; rfl) (by unfold maxLen; omega) (by omega) (by simp; omega) ?_)
      intro v' w3 hown3 hgrow _
      have hb3 : Below w1.heap.size w1 w3 := (hb.alloc hsz _).grown hgrow (by simp; omega) (fun j hj => Hob.out j hj)
      have Hown3 := hid hown3
      clear hown3 hgrow
      go_wp2
      go_roundw
      case rel => exact ⟨c + 1, by omega, by go_num, by rw [Hst.out, List.map_append]; exact Hown3.out, hb3⟩
      case measure => simp [intOf]; omega
    · have hge : (yn : Int) ≤ (c : Int) := by omega
      have hkn : c = s.length := by rw [← Hn.out]; omega
      have Hk := hid hkn
      have Hown := hid hown
      clear hkn hlk hown
      go_wp2
      go_ret
      have ho := Hown.out
      rw [Hk.out] at ho
      exact ⟨_, rfl, (Res.owns (by rw [gpL9, tab_len]; exact ho)).mono Hbw.out.size, bel_step Hbw.out hb⟩


set_option maxHeartbeats 2000000 in
theorem stepGaps_any (v : Value) (s : List Int) (f : Int) (w : World) (hs : Sl w v s) (hg : SigP s) (f1 : 1 ≤ f) (f2 : f ≤ 4096) :
    Calls Try.prog 34 #[v, .int .i64 f] w (GivesL w (gpL9 s f)) := by
  have HS := hid hs
  have HG := hid hg
  obtain ⟨aa, n, cap, rfl, hn, hrd⟩ := id hs.rd
  have Hn := hid hn
  have Hrd := hid hrd
  have hl' : n ≤ 64 := by rw [hn]; exact hg.1
  clear hs hg hn hrd
  go_enter Try.func34, Try.ntmps34
  go_wp2_with fail
  refine (coded_any 29 enterAD adI ad_keeps adNext _ s f _ HS.out (Nat.le_trans HG.out.1 (by omega)) f1 f2 (fun k y hk => cdB_in s s.length k y hk)).mono ?_
  rintro e w1 ⟨x, y, z, rfl, R1, R2, R3, hbw⟩
  obtain ⟨xa, xn, xc, rfl⟩ := R1.form9
  obtain ⟨ya, yn, yc, rfl⟩ := R2.form9
  have Hbw := hid hbw
  clear R1 R2 hbw
  rcases R3 with ⟨h0, rfl⟩ | ⟨g, gc, rfl, hB, hrow⟩
  · have hs0 : s.length = 0 := by have := congrArg List.length h0; rwa [tab_len] at this
    have HE := hid (show gpL9 s f = [] from by unfold gpL9; rw [hs0]; rfl)
    have hfl := fld2 xa ya none xn xc yn yc 0 0
    clear h0 hs0
    go_wp2_with fail
    refine wp_loop_rounds 1 ?_
    rw [rounds_succ]
    go_wp2
    go_ret
    exact ⟨_, rfl, .inl ⟨HE.out, rfl⟩, Hbw.out⟩
  · rw [show (tab s.length fun k => skV adI (cdB s) f (k + 1)).length = n from by rw [tab_len]; exact Hn.out.symm]
    rw [← Hn.out] at hrow
    have hfl := fld2 xa ya (some ⟨g, 0, none⟩) xn xc yn yc n gc
    have Hrow := hid hrow
    have HB := hid hB
    clear hrow hB
    go_wp2_with fail
    go_loopw [14] (fun i wr => ∃ c : Nat, c ≤ n ∧ i = .int .i64 c ∧ RowB 3 wr g gc (tab n (fun j => if j < c then gpI9 s f j else skV adI (cdB s) f (j + 1))) ∧ Below w.heap.size w wr)
      (fun i _ => n - (intOf i).toNat)
    case atStart => exact ⟨0, by omega, rfl, by rw [mod_zero]; exact Hrow.out, Hbw.out⟩
    case round =>
      obtain ⟨c, hc, rfl, hrw, hb⟩ := hrel
      by_cases hlk : c < n
      · obtain ⟨x1, hkx⟩ := get_lt s c (by rw [← Hn.out]; exact hlk)
        obtain ⟨bb, oo, hix, hbb, hce⟩ := (Hrd.out.kept hb).at (P := Try.prog) (T := 24) n cap uslice sone hkx hlk
        have hcg : wr.cell? ⟨g, c, none⟩ = some (.int .i64 (skV adI (cdB s) f (c + 1))) := hrw.cell (by rw [tab_get _ _ _ hlk, if_neg (by omega)])
        have hfg := hrw.free c
        have hgi := gpI9_in HG.out f1 f2 c (by rw [← Hn.out]; exact hlk)
        have hgd : gpI9 s f c = x1 - skV adI (cdB s) f (c + 1) := by unfold gpI9; rw [at0_of hkx]
        rw [hgd] at hgi
        generalize skV adI (cdB s) f (c + 1) = y at *
        have Hgd := hid hgd
        have Hrw := hid hrw
        clear hkx hgd hrw
        go_wp2
        go_roundw
        case rel => exact ⟨c + 1, by omega, by go_num, by rw [← mod_step n c (gpI9 s f) _ Hgd.out]; exact Hrw.out.set c _, hb.setCell (by show w.heap.size ≤ g; have := HB.out; have := Hbw.out.size; omega) _⟩
        case measure => simp [intOf]; omega
      · have hge : (n : Int) ≤ (c : Int) := by omega
        have hkn : c = n := by omega
        have Hk := hid hkn
        have Hrw := hid hrw
        clear hkn hlk hrw
        go_wp2
        go_ret
        have ho := Hrw.out
        rw [Hk.out, mod_full] at ho
        refine ⟨_, rfl, .inr ⟨g, gc, by rw [gpL9_len, ← Hn.out]; rfl, by have := HB.out; have := Hbw.out.size; omega, ?_⟩, hb⟩
        rw [gpL9, ← Hn.out]; exact ho


set_option maxHeartbeats 1000000 in
theorem impl_StepGaps_any (v : Value) (s : List Int) (f : Int) (w : World) (hs : Sl w v s) :
    Calls Try.prog 8 #[v, .int .i64 f] w (Gives w (onL (dL (cG s f) (gpL9 s f)) (gpL9 s f)) (dL (cG s f) (gpL9 s f))) := by
  have HS := hid hs
  clear hs
  cases h0 : sigB s
  · have HB0 := hid h0
    clear h0
    go_enter Try.func8, Try.ntmps8
    go_wp2_with fail
    refine (impl_IsSignal_is v s false _ HS.out HB0.out).mono ?_
    rintro e w' ⟨rfl, rfl⟩
    go_wp2_with fail
    go_ret2
    exact gives_no (dL_n (cG_n1 HB0.out)) (Below.refl _ _)
  · have HB0 := hid h0
    clear h0
    cases h1 : stB f
    · have HB1 := hid h1
      clear h1
      go_enter Try.func8, Try.ntmps8
      go_wp2_with fail
      refine (impl_IsSignal_is v s true _ HS.out HB0.out).mono ?_
      rintro e w' ⟨rfl, rfl⟩
      go_wp2_with fail
      refine (isStep_is _ false _ HB1.out).mono ?_
      rintro e w' ⟨rfl, rfl⟩
      go_wp2_with fail
      go_ret2
      exact gives_no (dL_n (cG_n2 HB1.out)) (Below.refl _ _)
    · have HB1 := hid h1
      clear h1
      obtain ⟨f1, f2⟩ := stB_t HB1.out
      have HG := hid (sigB_t HB0.out)
      go_enter Try.func8, Try.ntmps8
      go_wp2_with fail
      refine (impl_IsSignal_is v s true _ HS.out HB0.out).mono ?_
      rintro e w' ⟨rfl, rfl⟩
      go_wp2_with fail
      refine (isStep_is _ true _ HB1.out).mono ?_
      rintro e w' ⟨rfl, rfl⟩
      go_wp2_with fail
      refine (stepGaps_any v s f _ HS.out HG.out f1 f2).mono ?_
      rintro e w1 ⟨x, rfl, R, hb⟩
      have HR := hid R
      clear R
      obtain ⟨b, hbq⟩ : ∃ b, sigB (gpL9 s f) = b := ⟨_, rfl⟩
      have HBQ := hid hbq
      clear hbq
      go_wp2_with fail
      refine (onlySignal_is _ _ b _ HR.out.sl HBQ.out).mono ?_
      rintro e w' ⟨rfl, rfl⟩
      go_wp2
      go_ret2
      exact gives_if (dL_t (cG_t HB0.out HB1.out) HBQ.out) HR.out hb


set_option maxHeartbeats 1000000 in
theorem spec_StepGaps_any (v : Value) (s : List Int) (f : Int) (w : World) (hs : Sl w v s) :
    Calls Try.prog 9 #[v, .int .i64 f] w (Gives w (onL (dL (cG s f) (gpL9 s f)) (gpL9 s f)) (dL (cG s f) (gpL9 s f))) := by
  have HS := hid hs
  clear hs
  cases h0 : sigB s
  · have HB0 := hid h0
    clear h0
    go_enter Try.func9, Try.ntmps9
    go_wp2_with fail
    refine (wdSignal_is v s false _ HS.out HB0.out).mono ?_
    rintro e w' ⟨rfl, rfl⟩
    go_wp2_with fail
    go_ret2
    exact gives_no (dL_n (cG_n1 HB0.out)) (Below.refl _ _)
  · have HB0 := hid h0
    clear h0
    cases h1 : stB f
    · have HB1 := hid h1
      clear h1
      go_enter Try.func9, Try.ntmps9
      go_wp2_with fail
      refine (wdSignal_is v s true _ HS.out HB0.out).mono ?_
      rintro e w' ⟨rfl, rfl⟩
      go_wp2_with fail
      refine (tnStep_is _ false _ HB1.out).mono ?_
      rintro e w' ⟨rfl, rfl⟩
      go_wp2_with fail
      go_ret2
      exact gives_no (dL_n (cG_n2 HB1.out)) (Below.refl _ _)
    · have HB1 := hid h1
      clear h1
      obtain ⟨f1, f2⟩ := stB_t HB1.out
      have HG := hid (sigB_t HB0.out)
      go_enter Try.func9, Try.ntmps9
      go_wp2_with fail
      refine (wdSignal_is v s true _ HS.out HB0.out).mono ?_
      rintro e w' ⟨rfl, rfl⟩
      go_wp2_with fail
      refine (tnStep_is _ true _ HB1.out).mono ?_
      rintro e w' ⟨rfl, rfl⟩
      go_wp2_with fail
      refine (tnGaps_any v s f _ HS.out HG.out f1 f2).mono ?_
      rintro e w1 ⟨x, rfl, R, hb⟩
      have HR := hid R
      clear R
      obtain ⟨b, hbq⟩ : ∃ b, sigB (gpL9 s f) = b := ⟨_, rfl⟩
      have HBQ := hid hbq
      clear hbq
      go_wp2_with fail
      refine (wdIf_is _ _ b _ HR.out.sl HBQ.out).mono ?_
      rintro e w' ⟨rfl, rfl⟩
      go_wp2
      go_ret2
      exact gives_if (dL_t (cG_t HB0.out HB1.out) HBQ.out) HR.out hb


set_option maxHeartbeats 1000000 in
theorem spec_GreatestGap_any (v : Value) (s : List Int) (f : Int) (w : World) (hs : Sl w v s) :
    Calls Try.prog 11 #[v, .int .i64 f] w fun e w' => e = .returned (.tuple #[.int .i64 (onI (cG s f) (pkM (gpL9 s f))), .bool (cG s f)]) ∧ Below w.heap.size w w' := by
  have HS := hid hs
  clear hs
  cases h0 : sigB s
  · have HB0 := hid h0
    clear h0
    go_enter Try.func11, Try.ntmps11
    go_wp2_with fail
    refine (wdSignal_is v s false _ HS.out HB0.out).mono ?_
    rintro e w' ⟨rfl, rfl⟩
    go_wp2_with fail
    go_ret2
    exact ⟨onI9_no (cG_n1 HB0.out), Below.refl _ _⟩
  · have HB0 := hid h0
    clear h0
    cases h1 : stB f
    · have HB1 := hid h1
      clear h1
      go_enter Try.func11, Try.ntmps11
      go_wp2_with fail
      refine (wdSignal_is v s true _ HS.out HB0.out).mono ?_
      rintro e w' ⟨rfl, rfl⟩
      go_wp2_with fail
      refine (tnStep_is _ false _ HB1.out).mono ?_
      rintro e w' ⟨rfl, rfl⟩
      go_wp2_with fail
      go_ret2
      exact ⟨onI9_no (cG_n2 HB1.out), Below.refl _ _⟩
    · have HB1 := hid h1
      clear h1
      obtain ⟨f1, f2⟩ := stB_t HB1.out
      have HG := hid (sigB_t HB0.out)
      go_enter Try.func11, Try.ntmps11
      go_wp2_with fail
      refine (wdSignal_is v s true _ HS.out HB0.out).mono ?_
      rintro e w' ⟨rfl, rfl⟩
      go_wp2_with fail
      refine (tnStep_is _ true _ HB1.out).mono ?_
      rintro e w' ⟨rfl, rfl⟩
      go_wp2_with fail
      refine (tnGaps_any v s f _ HS.out HG.out f1 f2).mono ?_
      rintro e w1 ⟨x, rfl, R, hb⟩
      have HR := hid R
      have HI := hid (gpL9_in HG.out f1 f2)
      have hl2 : (gpL9 s f).length ≤ 2000 := by rw [gpL9_len]; exact Nat.le_trans HG.out.1 (by omega)
      clear R
      go_wp2_with fail
      refine (wdPeakM_any _ _ _ HR.out.sl hl2 HI.out).mono ?_
      rintro e w' ⟨rfl, rfl⟩
      go_wp2
      go_ret2
      exact ⟨onI9_yes (cG_t HB0.out HB1.out) rfl, hb⟩


set_option maxHeartbeats 2000000 in
theorem impl_GreatestGap_any (v : Value) (s : List Int) (f : Int) (w : World) (hs : Sl w v s) :
    Calls Try.prog 10 #[v, .int .i64 f] w fun e w' => e = .returned (.tuple #[.int .i64 (onI (cG s f) (pkM (gpL9 s f))), .bool (cG s f)]) ∧ Below w.heap.size w w' := by
  have HS := hid hs
  clear hs
  cases h0 : sigB s
  · have HB0 := hid h0
    clear h0
    go_enter Try.func10, Try.ntmps10
    go_wp2_with fail
    refine (impl_IsSignal_is v s false _ HS.out HB0.out).mono ?_
    rintro e w' ⟨rfl, rfl⟩
    go_wp2_with fail
    go_ret2
    exact ⟨onI9_no (cG_n1 HB0.out), Below.refl _ _⟩
  · have HB0 := hid h0
    clear h0
    cases h1 : stB f
    · have HB1 := hid h1
      clear h1
      go_enter Try.func10, Try.ntmps10
      go_wp2_with fail
      refine (impl_IsSignal_is v s true _ HS.out HB0.out).mono ?_
      rintro e w' ⟨rfl, rfl⟩
      go_wp2_with fail
      refine (isStep_is _ false _ HB1.out).mono ?_
      rintro e w' ⟨rfl, rfl⟩
      go_wp2_with fail
      go_ret2
      exact ⟨onI9_no (cG_n2 HB1.out), Below.refl _ _⟩
    · have HB1 := hid h1
      clear h1
      obtain ⟨f1, f2⟩ := stB_t HB1.out
      have HG := hid (sigB_t HB0.out)
      go_enter Try.func10, Try.ntmps10
      go_wp2_with fail
      refine (impl_IsSignal_is v s true _ HS.out HB0.out).mono ?_
      rintro e w' ⟨rfl, rfl⟩
      go_wp2_with fail
      refine (isStep_is _ true _ HB1.out).mono ?_
      rintro e w' ⟨rfl, rfl⟩
      go_wp2_with fail
      refine (stepGaps_any v s f _ HS.out HG.out f1 f2).mono ?_
      rintro e w1 ⟨x, rfl, R, hb⟩
      obtain ⟨ga, gn, gc, rfl, hgn, hgr⟩ := R.sl.rd
      have Hgn := hid hgn
      have Hgr := hid hgr
      have HI := hid (gpL9_in HG.out f1 f2)
      have hl' : gn ≤ 64 := by rw [hgn, gpL9_len]; exact HG.out.1
      have HB := hid hb
      clear R hgn hgr hb
      go_wp2_with fail
      go_loop [6, 21] (fun m i => ∃ c : Nat, c ≤ gn ∧ i = .int .i64 c ∧ m = .int .i64 (pkM ((gpL9 s f).take c)))
        (fun _ i => gn - (intOf i).toNat)
      case atStart => exact ⟨0, by omega, rfl, rfl⟩
      case round =>
        obtain ⟨c, hc, rfl, rfl⟩ := hrel
        by_cases hlk : c < gn
        · obtain ⟨x, hkx⟩ := get_lt (gpL9 s f) c (by rw [← Hgn.out]; exact hlk)
          obtain ⟨bb, oo, hix, hbb, hce⟩ := Hgr.out.at (P := Try.prog) (T := 24) gn gc uslice sone hkx hlk
          obtain ⟨x1, x2⟩ := HI.out.at hkx
          have hst := pkM_step hkx
          have hp0 := pkM_nonneg ((gpL9 s f).take c)
          have hp1 := pkM_le (xs := (gpL9 s f).take c) (B := 10000000000) (fun x hx => HI.out x (List.mem_of_mem_take hx)) (by omega)
          have hab : 0 ≤ absI x ∧ absI x ≤ 10000000000 := by unfold absI; omega
          generalize pkM ((gpL9 s f).take c) = z at *
          have Hst := hid hst
          clear hkx hst
          go_wp2_with fail
          refine (sizeOf_any x _ (by omega) (by omega)).mono ?_
          rintro e w' ⟨rfl, rfl⟩
          generalize absI x = ax at *
          obtain ⟨a1, a2⟩ := hab
          by_cases hzx : z < ax
          · have Hm := hid (show mostI z ax = ax from by unfold mostI; split <;> omega)
            go_wp2
            all_goals go_round
            case rel => exact ⟨c + 1, by omega, by go_num, by rw [Hst.out, Hm.out]; first | done | exact congrArg _ (by first | omega | (split <;> omega))⟩
            case measure => simp [intOf]; omega
          · have hxz : ax ≤ z := by omega
            have Hm := hid (show mostI z ax = z from by unfold mostI; split <;> omega)
            clear hzx
            go_wp2
            all_goals go_round
            case rel => exact ⟨c + 1, by omega, by go_num, by rw [Hst.out, Hm.out]; first | done | exact congrArg _ (by first | omega | (split <;> omega))⟩
            case measure => simp [intOf]; omega
        · have hge : (gn : Int) ≤ (c : Int) := by omega
          have hkn : c = (gpL9 s f).length := by rw [← Hgn.out]; omega
          have Hk := hid hkn
          clear hkn hlk
          go_wp2
          go_ret2
          exact ⟨onI9_yes (cG_t HB0.out HB1.out) (by rw [Hk.out, List.take_length]), HB.out⟩

theorem gp_len {s : List Int} {f : Int} {b : Bool} (hl : s.length ≤ 1048576) : (onL b (gpL9 s f)).length ≤ 2000000 := onL_len fun _ => by rw [gpL9_len]; omega


end Go.Proofs.Ythkfjoonkkmgiaa
