
import Derived.Test.YtkpfcaipbhfgkaaIv
import Derived.Test.YtkpfcaipbhfgkaaIm
namespace Go.Proofs.Ytkpfcaipbhfgkaa
open Go.RowKit BitX Go.MemX
set_option linter.unusedVariables false


/-- one, and noughts behind it -/
def impF (i : Nat) : Int := if i = 0 then 1 else 0
def impL (N : Nat) : List Int := tab N impF
theorem impL_len (N : Nat) : (impL N).length = N := tab_len _ _
theorem impL_at {N i : Nat} (h : i < N) : at0 (impL N) i = impF i := at0_tab _ _ _ h
theorem impL_in (N : Nat) : InP (-100000) 100000 (impL N) := fun x hx => by
  obtain ⟨i, hi⟩ := List.getElem?_of_mem hx
  have hl := (List.getElem?_eq_some_iff.1 hi).1
  rw [impL_len] at hl
  unfold impL at hi
  rw [tab_get _ _ _ hl] at hi
  have e := Option.some.inj hi
  rw [← e]; unfold impF; split <;> omega
/-- the products but the first one -/
def ps (h q : List Int) (i t : Nat) : Int := sumF t fun m => at0 h (m + 1) * at0 q (i - (m + 1))
theorem ps_succ (h q : List Int) (i t : Nat) : ps h q i (t + 1) = ps h q i t + at0 h (t + 1) * at0 q (i - (t + 1)) := rfl
theorem ps_conv {h q : List Int} {i t : Nat} (hq : q.length = i) (h1 : t ≤ i) (h2 : t = i ∨ h.length ≤ t + 1) : ps h q i t = conv h q i := by
  unfold conv ps
  rw [sumF_shift, Nat.sub_zero, at0_out (xs := q) (by omega)]
  simp only [Int.mul_zero, Int.zero_add]
  rcases h2 with rfl | h2
  · rfl
  · exact (sumF_more _ _ _ h1 fun m hm _ => by rw [at0_out (by omega)]; simp).symm
theorem ps_bound {h q : List Int} (i t : Nat) (ht : t ≤ 9) (hh : InP (-1000) 1000 h) (hq : InP (-100000) 100000 q) : -900000000 ≤ ps h q i t ∧ ps h q i t ≤ 900000000 := by
  have b := sumF_bound t (fun m => at0 h (m + 1) * at0 q (i - (m + 1))) 100000000 fun m _ => by
    have a := at0_in hh (by omega) (by omega) (m + 1)
    have b := at0_in hq (by omega) (by omega) (i - (m + 1))
    have := mul_in a.1 a.2 b.1 b.2 (by omega); omega
  unfold ps
  generalize sumF t (fun m => at0 h (m + 1) * at0 q (i - (m + 1))) = u at *
  omega
theorem impS_impL (N : Nat) : impS N 1 = impL N := by
  cases N with
  | zero => rfl
  | succ N =>
    have h : (List.replicate (N + 1) (0 : Int)).set 0 1 = impL (N + 1) := by
      rw [← tab_zero]
      exact tab_set _ _ _ _ rfl fun i _ hne => by unfold impF; rw [if_neg hne]
    exact h
theorem answered_imp (u v : Value) (h : List Int) (N : Nat) (w : World) (hu : Sl w u h) (hv : Sl w v (impL N)) (hw : WgtP h) (hd0 : at0 h 0 ≠ 0) (hl : N ≤ 64) :
    Calls Try.prog 41 #[u, v, .int .i64 100000] w (Gives w (awL h (impL N) 100000 N) (awOk h (impL N) 100000 N)) := by
  have := answered_in u v h (impL N) 100000 w hu hv hw hd0 (by rw [impL_len]; exact hl) (impL_in N) (by omega) (by omega)
  rw [impL_len] at this
  exact this
theorem tdiv_one {r d : Int} (h : d = 1 ∨ d = -1) : r.tdiv d = r * d ∧ r * d * d = r := by
  rcases h with rfl | rfl
  · simp
  · simp [Int.tdiv_neg]


set_option maxHeartbeats 1600000 in
theorem impl_Inverse_in (v : Value) (h : List Int) (w : World) (hu : Sl w v h) (N : Nat) (hN : N ≤ 64) (hw : WgtP h) (h1 : at0 h 0 = 1 ∨ at0 h 0 = -1) :
    Calls Try.prog 23 #[v, .int .i64 (N : Int)] w (Gives w (awL h (impL N) 100000 N) (awOk h (impL N) 100000 N)) := by
  obtain ⟨a, n, cap, rfl, hn, hrd⟩ := hu.rd
  have HU := hid hu
  have HW := hid hw
  have hn1 : 0 < n := by rw [hn]; exact hw.1.1
  obtain ⟨bb, oo, hix, hbb, hce⟩ := hrd.at (P := Try.prog) (T := 31) n cap uslice sone (get0 hw) hn1
  simp only [Int.natCast_zero] at hix
  have hd0 : at0 h 0 ≠ 0 := by omega
  have Hd0 := hid hd0
  obtain ⟨d, hd⟩ : ∃ d, at0 h 0 = d := ⟨_, rfl⟩
  rw [hd] at hce h1
  have hab : absI d = 1 := by unfold absI; omega
  have d1 : -1 ≤ d := by omega
  have d2 : d ≤ 1 := by omega
  have hN0 : (0 : Int) ≤ (N : Int) := by omega
  have hN1 : (N : Int) ≤ 64 := by omega
  clear hu hw hn hrd hd0 hd h1
  go_enter Try.func23, Try.ntmps23
  go_wp2_with fail
  refine (impl_IsWeights_is _ h true _ HU.out (wgtB_of HW.out)).mono ?_
  rintro e w' ⟨rfl, rfl⟩
  go_wp2_with fail
  refine (sizeOf_any _ _ (by omega) (by omega)).mono ?_
  rintro e w' ⟨rfl, rfl⟩
  go_wp2_with fail
  refine (impulse_any 1 N _ hN).mono ?_
  rintro e w1 ⟨v1, rfl, R1, B1⟩
  rw [impS_impL] at R1
  have HR1 := hid R1
  clear R1
  go_wp2_with fail
  refine (answered_imp _ _ h N _ (HU.out.kept B1) HR1.out.sl HW.out Hd0.out hN).mono ?_
  rintro e w2 ⟨v2, rfl, R, hb⟩
  go_wp2
  go_ret2
  exact ⟨v2, rfl, R.mono B1.size, B1.trans (hb.mono B1.size)⟩


theorem awS_unit_yes {h a q : List Int} {L d r x : Int} {n : Nat} (hq : awS h a L n = some q) (hd : at0 h 0 = d) (hdd : d = 1 ∨ d = -1) (hr : at0 a n - conv h q n = r) (hx : r * d = x) (h2 : absI x ≤ L) : awS h a L (n + 1) = some (q ++ [x]) := by
  have e := tdiv_one (r := r) hdd
  have := awS_yes hq (by rw [hd, hr, e.1, e.2]) (by rw [hd, hr, e.1, hx]; exact h2)
  rw [hd, hr, e.1, hx] at this
  exact this
theorem awS_unit_no {h a q : List Int} {L d r x : Int} {n : Nat} (hq : awS h a L n = some q) (hd : at0 h 0 = d) (hdd : d = 1 ∨ d = -1) (hr : at0 a n - conv h q n = r) (hx : r * d = x) (h2 : L < absI x) : ∀ N, n + 1 ≤ N → awS h a L N = none := by
  have e := tdiv_one (r := r) hdd
  refine awS_no hq fun hh => ?_
  have h3 := hh.2
  rw [hd, hr, e.1, hx] at h3
  omega
theorem impF_zero {n : Nat} (h : n = 0) : impF n = 1 := by unfold impF; rw [if_pos h]
theorem impF_pos {n : Nat} (h : n ≠ 0) : impF n = 0 := by unfold impF; rw [if_neg h]


set_option maxHeartbeats 6400000 in
theorem spec_Inverse_p (v : Value) (h : List Int) (w : World) (hu : Sl w v h) (N : Nat) (hN : N ≤ 64) (hw : WgtP h) (h1 : at0 h 0 = 1) :
    Calls Try.prog 22 #[v, .int .i64 (N : Int)] w (Gives w (awL h (impL N) 100000 N) (awOk h (impL N) 100000 N)) := by
  obtain ⟨a, n, cap, rfl, hn, hrd⟩ := hu.rd
  have HU := hid hu
  have HW := hid hw
  have hn1 : 0 < n := by rw [hn]; exact hw.1.1
  have hn9 : n ≤ 9 := by rw [hn]; exact hw.1.2
  have Hn := hid hn
  have Hrd := hid hrd
  have Hi := hid hw.2
  have hdN : decide ((0 : Int) ≤ (N : Int) ∧ (N : Int) ≤ 64) = true := decide_eq_true (by omega)
  have HN := hid hdN
  have Hd := hid h1
  obtain ⟨bb, oo, hix, hbb, hce⟩ := hrd.at (P := Try.prog) (T := 31) n cap uslice sone (get0 hw) hn1
  simp only [Int.natCast_zero] at hix
  rw [h1] at hce
  obtain ⟨i0, hi0, hz0, hz1, hz2⟩ := info_parts iint
  clear hu hw hn hrd h1 hdN
  go_enter Try.func22, Try.ntmps22
  go_wp2_with fail
  refine (weGood_is _ h true _ HU.out (wgtB_of HW.out)).mono ?_
  rintro e w' ⟨rfl, rfl⟩
  go_wp2_with fail
  refine (l1In_is _ _ _ true _ HN.out).mono ?_
  rintro e w' ⟨rfl, rfl⟩
  go_wp2_with fail
  go_loopw [6, 7] (fun v i wr => ∃ (k : Nat) (q : List Int), k ≤ N ∧ i = .int .i64 k ∧ Hid (awS h (impL N) 100000 k = some q) ∧ wr.ownsRow w.heap.size 3 1 v k (q.map (Value.int .i64)) ∧ Below w.heap.size w wr)
    (fun _ i _ => N - (intOf i).toNat)
  case atStart => exact ⟨0, [], by omega, rfl, rfl, World.ownsRow_nil _ _ _ _, Below.refl _ _⟩
  case round =>
    obtain ⟨k, q, hk, rfl, HQ, hown, hb⟩ := hrel
    have hql := (awS_in HQ.out).1
    have hqi := (awS_in HQ.out).2
    have hown2 := hown
    rw [← hql] at hown2
    have hres := Res.owns hown2
    obtain ⟨a3, n3, cap3, rfl, hn3, hrd3⟩ := hres.sl.rd
    have hn3k : n3 = k := by omega
    subst hn3k
    have Hres := hid hres
    have Hrd3 := hid hrd3
    have Hown := hid hown
    have Hqi := hid hqi
    have Hql := hid hql
    have hsz : w.heap.size ≤ wr.heap.size := hb.size
    clear hql hqi hown hown2 hn3 hrd3 hres
    by_cases hlk : n3 < N
    · by_cases hz : n3 = 0
      · have Ha0 := hid (impF_zero hz)
        have hz1' : (n3 : Int) = 0 := by omega
        have hz2' : ((n3 : Int) == 0) = true := by rw [beq_iff_eq]; exact hz1'
        have Hz := hid hz
        clear hz hz1'
        go_wp2_with fail
        obtain ⟨wo, rfl⟩ : ∃ wo : World, wo = wr := ⟨_, rfl⟩
        go_loopw [8, 9] (fun s i wq => ∃ t : Nat, t + 1 ≤ n ∧ t ≤ n3 ∧ i = .int .i64 ((t : Int) + 1) ∧ s = .int .i64 (1 - ps h q n3 t) ∧ Below wo.heap.size wo wq)
          (fun _ i _ => (n - intOf i).toNat)
        case atStart => exact ⟨0, by omega, by omega, by go_num, by simp [ps, sumF], Below.refl _ _⟩
        case round =>
          obtain ⟨t, ht1, ht2, rfl, rfl, hb2⟩ := hrel
          have hbw : Below w.heap.size w wr := bel_step hb hb2
          obtain ⟨p1, p2⟩ := ps_bound (h := h) (q := q) n3 t (by omega) Hi.out Hqi.out
          by_cases hin : t + 1 < n ∧ t + 1 ≤ n3
          · obtain ⟨in1, in2⟩ := hin
            obtain ⟨y, hky⟩ := get_lt h (t + 1) (by rw [← Hn.out]; exact in1)
            obtain ⟨x, hkx⟩ := get_lt q (n3 - (t + 1)) (by rw [Hql.out]; omega)
            obtain ⟨b4, o4, hix4, hbb4, hce4⟩ := (Hrd.out.kept hbw).at (P := Try.prog) (T := 31) n cap uslice sone hky in1
            obtain ⟨b5, o5, hix5, hbb5, hce5⟩ := (Hrd3.out.kept hb2).at (P := Try.prog) (T := 31) n3 cap3 uslice sone hkx (by omega)
            obtain ⟨x1, x2⟩ := Hqi.out.at hkx
            obtain ⟨y1, y2⟩ := Hi.out.at hky
            have k4 : ((t + 1 : Nat) : Int) = (t : Int) + 1 := by omega
            have k5 : ((n3 - (t + 1) : Nat) : Int) = (n3 : Int) - ((t : Int) + 1) := by omega
            rw [k4] at hix4
            rw [k5] at hix5
            have hst := ps_succ h q n3 t
            rw [show at0 h (t + 1) = y from at0_of hky, show at0 q (n3 - (t + 1)) = x from at0_of hkx] at hst
            have hm := mul_in y1 y2 x1 x2 (by omega)
            have hm1 : -100000000 ≤ y * x := by omega
            have hm2 : y * x ≤ 100000000 := by omega
            generalize hz : ps h q n3 t = z at *
            have Hst := hid hst
            have hne : (0 : Int) ≤ (t : Int) := by omega
            have c1 : (t : Int) + 1 < (n : Int) := by omega
            have c2 : (t : Int) + 1 ≤ (n3 : Int) := by omega
            clear hst hm hz hkx hky k4 k5
            have e1 : IntKind.i64.wrap (y * x) = y * x := IntWalk.i64_in _ (by omega)
            have e2 : IntKind.i64.wrap (1 - z - y * x) = 1 - z - y * x := IntWalk.i64_in _ (by omega)
            have e3 : IntKind.i64.wrap ((n3 : Int) - ((t : Int) + 1)) = (n3 : Int) - ((t : Int) + 1) := IntWalk.i64_in _ (by omega)
            go_wp2
            go_quiet (fail)
            clear e1 e2 e3
            go_wp2
            go_roundw
            case rel => exact ⟨t + 1, by omega, by omega, by go_num, by rw [Hst.out]; go_num, below_drewN hb2 _⟩
            case measure => simp [intOf]; omega
          · have hpc := ps_conv (h := h) (t := t) Hql.out ht2 (by have := Hn.out; omega)
            have Hpc := hid hpc
            have hout : (t : Int) + 1 < (n : Int) → ¬ ((t : Int) + 1 ≤ (n3 : Int)) := by omega
            have hce3 : wr.cell? ⟨bb, oo, none⟩ = some (.int .i64 (1)) := (hbw.cell (p := ⟨bb, oo, none⟩) hbb).trans hce
            obtain ⟨r, hr⟩ : ∃ r, 1 - ps h q n3 t = r := ⟨_, rfl⟩
            have hrr : at0 (impL N) n3 - conv h q n3 = r := by rw [← hpc, ← hr, impL_at hlk, Ha0.out]
            have r1 : -900000001 ≤ r := by omega
            have r2 : r ≤ 900000001 := by omega
            have hown4 := ownsRow_below Hown.out hb2
            have Hown4 := hid hown4
            have Hob := hid (ownsRow_base hown4)
            have hsz2 : w.heap.size ≤ wr.heap.size := hbw.size
            rw [hr]
            have Hr := hid hrr
            clear hpc hr hrr hown4
            by_cases hin1 : (t : Int) + 1 < (n : Int)
            · have hin2 : (n3 : Int) < (t : Int) + 1 := by omega
              clear hin hout
              by_cases hok : absI (r) ≤ 100000
              · have Hnx := hid (awS_unit_yes HQ.out Hd.out (by omega) Hr.out (show r * (1) = r from by omega) hok)
                have Hin := hid (show decide (-100000 ≤ r ∧ r ≤ 100000) = true from decide_eq_true (by unfold absI at hok; omega))
                have f1 : -100000 ≤ r := by unfold absI at hok; omega
                have f2 : r ≤ 100000 := by unfold absI at hok; omega
                clear hok
                go_wp2_with fail
                refine (l1In_is _ _ _ true _ Hin.out).mono ?_
                rintro e w' ⟨rfl, rfl⟩
                go_wp2_with (at_builtin; refine wpList_append_own _ rfl _ _ 31 rfl w.heap.size 3 i0 (.int .i64 0) 1 8 uslice hi0 hz0 hz1 hz2 rfl (by decide) _ _ _ rfl (Hown4.out.alloc _) ⟨wr.heap.size, 0, none⟩ 1 1 [.int .i64 (r)] rfl rfl ?xa1 ?xa2 ?xa3 ?xa4 ?xa5 ?_)
                try (case xa1 => exact cell_one_new _ _ _)
                try (case xa2 => first | rfl | (intro u hu; simp at hu; subst hu; rfl))
                try (case xa3 => first | omega | (unfold maxLen; omega))
                try (case xa4 => omega)
                try (case xa5 => first | omega | (simp; omega))
                · intro v' w3 hown3 hgrow _
                  have hb3 : Below w.heap.size w w3 := (hbw.alloc hsz2 _).grown hgrow (by simp; omega) (fun j hj => Hob.out j hj)
                  have Hown3 := hid hown3
                  clear hown3 hgrow
                  go_wp2
                  go_roundw
                  case rel => exact ⟨n3 + 1, q ++ [r], by omega, by go_num, Hnx, by rw [List.map_append]; exact Hown3.out, hb3⟩
                  case measure => simp [intOf]; omega
              · have Hnx := hid (awOk_f (awS_unit_no HQ.out Hd.out (by omega) Hr.out (show r * (1) = r from by omega) (by omega) N (by omega)))
                have Hin := hid (show decide (-100000 ≤ r ∧ r ≤ 100000) = false from decide_eq_false (by unfold absI at hok; omega))
                clear hok
                go_wp2_with fail
                refine (l1In_is _ _ _ false _ Hin.out).mono ?_
                rintro e w' ⟨rfl, rfl⟩
                go_wp2
                go_ret2
                exact gives_of Hnx.out.1 Hnx.out.2 ⟨_, rfl, .inl ⟨rfl, rfl⟩, hbw⟩
            · have hge1 : (n : Int) ≤ (t : Int) + 1 := by omega
              clear hin hout hin1
              by_cases hok : absI (r) ≤ 100000
              · have Hnx := hid (awS_unit_yes HQ.out Hd.out (by omega) Hr.out (show r * (1) = r from by omega) hok)
                have Hin := hid (show decide (-100000 ≤ r ∧ r ≤ 100000) = true from decide_eq_true (by unfold absI at hok; omega))
                have f1 : -100000 ≤ r := by unfold absI at hok; omega
                have f2 : r ≤ 100000 := by unfold absI at hok; omega
                clear hok
                go_wp2_with fail
                refine (l1In_is _ _ _ true _ Hin.out).mono ?_
                rintro e w' ⟨rfl, rfl⟩
                go_wp2_with (at_builtin; refine wpList_append_own _ rfl _ _ 31 rfl w.heap.size 3 i0 (.int .i64 0) 1 8 uslice hi0 hz0 hz1 hz2 rfl (by decide) _ _ _ rfl (Hown4.out.alloc _) ⟨wr.heap.size, 0, none⟩ 1 1 [.int .i64 (r)] rfl rfl ?xb1 ?xb2 ?xb3 ?xb4 ?xb5 ?_)
                try (case xb1 => exact cell_one_new _ _ _)
                try (case xb2 => first | rfl | (intro u hu; simp at hu; subst hu; rfl))
                try (case xb3 => first | omega | (unfold maxLen; omega))
                try (case xb4 => omega)
                try (case xb5 => first | omega | (simp; omega))
                · intro v' w3 hown3 hgrow _
                  have hb3 : Below w.heap.size w w3 := (hbw.alloc hsz2 _).grown hgrow (by simp; omega) (fun j hj => Hob.out j hj)
                  have Hown3 := hid hown3
                  clear hown3 hgrow
                  go_wp2
                  go_roundw
                  case rel => exact ⟨n3 + 1, q ++ [r], by omega, by go_num, Hnx, by rw [List.map_append]; exact Hown3.out, hb3⟩
                  case measure => simp [intOf]; omega
              · have Hnx := hid (awOk_f (awS_unit_no HQ.out Hd.out (by omega) Hr.out (show r * (1) = r from by omega) (by omega) N (by omega)))
                have Hin := hid (show decide (-100000 ≤ r ∧ r ≤ 100000) = false from decide_eq_false (by unfold absI at hok; omega))
                clear hok
                go_wp2_with fail
                refine (l1In_is _ _ _ false _ Hin.out).mono ?_
                rintro e w' ⟨rfl, rfl⟩
                go_wp2
                go_ret2
                exact gives_of Hnx.out.1 Hnx.out.2 ⟨_, rfl, .inl ⟨rfl, rfl⟩, hbw⟩
      · have Ha0 := hid (impF_pos hz)
        have hz2' : ((n3 : Int) == 0) = false := by rw [beq_eq_false_iff_ne]; omega
        have hz3' : ¬ (n3 : Int) = 0 := by omega
        clear hz
        go_wp2_with fail
        obtain ⟨wo, rfl⟩ : ∃ wo : World, wo = wr := ⟨_, rfl⟩
        go_loopw [8, 9] (fun s i wq => ∃ t : Nat, t + 1 ≤ n ∧ t ≤ n3 ∧ i = .int .i64 ((t : Int) + 1) ∧ s = .int .i64 (0 - ps h q n3 t) ∧ Below wo.heap.size wo wq)
          (fun _ i _ => (n - intOf i).toNat)
        case atStart => exact ⟨0, by omega, by omega, by go_num, by simp [ps, sumF], Below.refl _ _⟩
        case round =>
          obtain ⟨t, ht1, ht2, rfl, rfl, hb2⟩ := hrel
          have hbw : Below w.heap.size w wr := bel_step hb hb2
          obtain ⟨p1, p2⟩ := ps_bound (h := h) (q := q) n3 t (by omega) Hi.out Hqi.out
          by_cases hin : t + 1 < n ∧ t + 1 ≤ n3
          · obtain ⟨in1, in2⟩ := hin
            obtain ⟨y, hky⟩ := get_lt h (t + 1) (by rw [← Hn.out]; exact in1)
            obtain ⟨x, hkx⟩ := get_lt q (n3 - (t + 1)) (by rw [Hql.out]; omega)
            obtain ⟨b4, o4, hix4, hbb4, hce4⟩ := (Hrd.out.kept hbw).at (P := Try.prog) (T := 31) n cap uslice sone hky in1
            obtain ⟨b5, o5, hix5, hbb5, hce5⟩ := (Hrd3.out.kept hb2).at (P := Try.prog) (T := 31) n3 cap3 uslice sone hkx (by omega)
            obtain ⟨x1, x2⟩ := Hqi.out.at hkx
            obtain ⟨y1, y2⟩ := Hi.out.at hky
            have k4 : ((t + 1 : Nat) : Int) = (t : Int) + 1 := by omega
            have k5 : ((n3 - (t + 1) : Nat) : Int) = (n3 : Int) - ((t : Int) + 1) := by omega
            rw [k4] at hix4
            rw [k5] at hix5
            have hst := ps_succ h q n3 t
            rw [show at0 h (t + 1) = y from at0_of hky, show at0 q (n3 - (t + 1)) = x from at0_of hkx] at hst
            have hm := mul_in y1 y2 x1 x2 (by omega)
            have hm1 : -100000000 ≤ y * x := by omega
            have hm2 : y * x ≤ 100000000 := by omega
            generalize hz : ps h q n3 t = z at *
            have Hst := hid hst
            have hne : (0 : Int) ≤ (t : Int) := by omega
            have c1 : (t : Int) + 1 < (n : Int) := by omega
            have c2 : (t : Int) + 1 ≤ (n3 : Int) := by omega
            clear hst hm hz hkx hky k4 k5
            have e1 : IntKind.i64.wrap (y * x) = y * x := IntWalk.i64_in _ (by omega)
            have e2 : IntKind.i64.wrap (0 - z - y * x) = 0 - z - y * x := IntWalk.i64_in _ (by omega)
            have e3 : IntKind.i64.wrap ((n3 : Int) - ((t : Int) + 1)) = (n3 : Int) - ((t : Int) + 1) := IntWalk.i64_in _ (by omega)
            go_wp2
            go_quiet (fail)
            clear e1 e2 e3
            go_wp2
            go_roundw
            case rel => exact ⟨t + 1, by omega, by omega, by go_num, by rw [Hst.out]; go_num, below_drewN hb2 _⟩
            case measure => simp [intOf]; omega
          · have hpc := ps_conv (h := h) (t := t) Hql.out ht2 (by have := Hn.out; omega)
            have Hpc := hid hpc
            have hout : (t : Int) + 1 < (n : Int) → ¬ ((t : Int) + 1 ≤ (n3 : Int)) := by omega
            have hce3 : wr.cell? ⟨bb, oo, none⟩ = some (.int .i64 (1)) := (hbw.cell (p := ⟨bb, oo, none⟩) hbb).trans hce
            obtain ⟨r, hr⟩ : ∃ r, 0 - ps h q n3 t = r := ⟨_, rfl⟩
            have hrr : at0 (impL N) n3 - conv h q n3 = r := by rw [← hpc, ← hr, impL_at hlk, Ha0.out]
            have r1 : -900000001 ≤ r := by omega
            have r2 : r ≤ 900000001 := by omega
            have hown4 := ownsRow_below Hown.out hb2
            have Hown4 := hid hown4
            have Hob := hid (ownsRow_base hown4)
            have hsz2 : w.heap.size ≤ wr.heap.size := hbw.size
            rw [hr]
            have Hr := hid hrr
            clear hpc hr hrr hown4
            by_cases hin1 : (t : Int) + 1 < (n : Int)
            · have hin2 : (n3 : Int) < (t : Int) + 1 := by omega
              clear hin hout
              by_cases hok : absI (r) ≤ 100000
              · have Hnx := hid (awS_unit_yes HQ.out Hd.out (by omega) Hr.out (show r * (1) = r from by omega) hok)
                have Hin := hid (show decide (-100000 ≤ r ∧ r ≤ 100000) = true from decide_eq_true (by unfold absI at hok; omega))
                have f1 : -100000 ≤ r := by unfold absI at hok; omega
                have f2 : r ≤ 100000 := by unfold absI at hok; omega
                clear hok
                go_wp2_with fail
                refine (l1In_is _ _ _ true _ Hin.out).mono ?_
                rintro e w' ⟨rfl, rfl⟩
                go_wp2_with (at_builtin; refine wpList_append_own _ rfl _ _ 31 rfl w.heap.size 3 i0 (.int .i64 0) 1 8 uslice hi0 hz0 hz1 hz2 rfl (by decide) _ _ _ rfl (Hown4.out.alloc _) ⟨wr.heap.size, 0, none⟩ 1 1 [.int .i64 (r)] rfl rfl ?ya1 ?ya2 ?ya3 ?ya4 ?ya5 ?_)
                try (case ya1 => exact cell_one_new _ _ _)
                try (case ya2 => first | rfl | (intro u hu; simp at hu; subst hu; rfl))
                try (case ya3 => first | omega | (unfold maxLen; omega))
                try (case ya4 => omega)
                try (case ya5 => first | omega | (simp; omega))
                · intro v' w3 hown3 hgrow _
                  have hb3 : Below w.heap.size w w3 := (hbw.alloc hsz2 _).grown hgrow (by simp; omega) (fun j hj => Hob.out j hj)
                  have Hown3 := hid hown3
                  clear hown3 hgrow
                  go_wp2
                  go_roundw
                  case rel => exact ⟨n3 + 1, q ++ [r], by omega, by go_num, Hnx, by rw [List.map_append]; exact Hown3.out, hb3⟩
                  case measure => simp [intOf]; omega
              · have Hnx := hid (awOk_f (awS_unit_no HQ.out Hd.out (by omega) Hr.out (show r * (1) = r from by omega) (by omega) N (by omega)))
                have Hin := hid (show decide (-100000 ≤ r ∧ r ≤ 100000) = false from decide_eq_false (by unfold absI at hok; omega))
                clear hok
                go_wp2_with fail
                refine (l1In_is _ _ _ false _ Hin.out).mono ?_
                rintro e w' ⟨rfl, rfl⟩
                go_wp2
                go_ret2
                exact gives_of Hnx.out.1 Hnx.out.2 ⟨_, rfl, .inl ⟨rfl, rfl⟩, hbw⟩
            · have hge1 : (n : Int) ≤ (t : Int) + 1 := by omega
              clear hin hout hin1
              by_cases hok : absI (r) ≤ 100000
              · have Hnx := hid (awS_unit_yes HQ.out Hd.out (by omega) Hr.out (show r * (1) = r from by omega) hok)
                have Hin := hid (show decide (-100000 ≤ r ∧ r ≤ 100000) = true from decide_eq_true (by unfold absI at hok; omega))
                have f1 : -100000 ≤ r := by unfold absI at hok; omega
                have f2 : r ≤ 100000 := by unfold absI at hok; omega
                clear hok
                go_wp2_with fail
                refine (l1In_is _ _ _ true _ Hin.out).mono ?_
                rintro e w' ⟨rfl, rfl⟩
                go_wp2_with (at_builtin; refine wpList_append_own _ rfl _ _ 31 rfl w.heap.size 3 i0 (.int .i64 0) 1 8 uslice hi0 hz0 hz1 hz2 rfl (by decide) _ _ _ rfl (Hown4.out.alloc _) ⟨wr.heap.size, 0, none⟩ 1 1 [.int .i64 (r)] rfl rfl ?yb1 ?yb2 ?yb3 ?yb4 ?yb5 ?_)
                try (case yb1 => exact cell_one_new _ _ _)
                try (case yb2 => first | rfl | (intro u hu; simp at hu; subst hu; rfl))
                try (case yb3 => first | omega | (unfold maxLen; omega))
                try (case yb4 => omega)
                try (case yb5 => first | omega | (simp; omega))
                · intro v' w3 hown3 hgrow _
                  have hb3 : Below w.heap.size w w3 := (hbw.alloc hsz2 _).grown hgrow (by simp; omega) (fun j hj => Hob.out j hj)
                  have Hown3 := hid hown3
                  clear hown3 hgrow
                  go_wp2
                  go_roundw
                  case rel => exact ⟨n3 + 1, q ++ [r], by omega, by go_num, Hnx, by rw [List.map_append]; exact Hown3.out, hb3⟩
                  case measure => simp [intOf]; omega
              · have Hnx := hid (awOk_f (awS_unit_no HQ.out Hd.out (by omega) Hr.out (show r * (1) = r from by omega) (by omega) N (by omega)))
                have Hin := hid (show decide (-100000 ≤ r ∧ r ≤ 100000) = false from decide_eq_false (by unfold absI at hok; omega))
                clear hok
                go_wp2_with fail
                refine (l1In_is _ _ _ false _ Hin.out).mono ?_
                rintro e w' ⟨rfl, rfl⟩
                go_wp2
                go_ret2
                exact gives_of Hnx.out.1 Hnx.out.2 ⟨_, rfl, .inl ⟨rfl, rfl⟩, hbw⟩
    · have hge : (N : Int) ≤ (n3 : Int) := by omega
      have hkm : n3 = N := by omega
      have Hfin := hid (awOk_t (show awS h (impL N) 100000 N = some q from hkm ▸ HQ.out))
      clear hlk hkm
      go_wp2
      go_ret2
      exact gives_of Hfin.out.1 Hfin.out.2 ⟨_, rfl, Hres.out, hb⟩


set_option maxHeartbeats 6400000 in
theorem spec_Inverse_m (v : Value) (h : List Int) (w : World) (hu : Sl w v h) (N : Nat) (hN : N ≤ 64) (hw : WgtP h) (h1 : at0 h 0 = -1) :
    Calls Try.prog 22 #[v, .int .i64 (N : Int)] w (Gives w (awL h (impL N) 100000 N) (awOk h (impL N) 100000 N)) := by
  obtain ⟨a, n, cap, rfl, hn, hrd⟩ := hu.rd
  have HU := hid hu
  have HW := hid hw
  have hn1 : 0 < n := by rw [hn]; exact hw.1.1
  have hn9 : n ≤ 9 := by rw [hn]; exact hw.1.2
  have Hn := hid hn
  have Hrd := hid hrd
  have Hi := hid hw.2
  have hdN : decide ((0 : Int) ≤ (N : Int) ∧ (N : Int) ≤ 64) = true := decide_eq_true (by omega)
  have HN := hid hdN
  have Hd := hid h1
  obtain ⟨bb, oo, hix, hbb, hce⟩ := hrd.at (P := Try.prog) (T := 31) n cap uslice sone (get0 hw) hn1
  simp only [Int.natCast_zero] at hix
  rw [h1] at hce
  obtain ⟨i0, hi0, hz0, hz1, hz2⟩ := info_parts iint
  clear hu hw hn hrd h1 hdN
  go_enter Try.func22, Try.ntmps22
  go_wp2_with fail
  refine (weGood_is _ h true _ HU.out (wgtB_of HW.out)).mono ?_
  rintro e w' ⟨rfl, rfl⟩
  go_wp2_with fail
  refine (l1In_is _ _ _ true _ HN.out).mono ?_
  rintro e w' ⟨rfl, rfl⟩
  go_wp2_with fail
  go_loopw [6, 7] (fun v i wr => ∃ (k : Nat) (q : List Int), k ≤ N ∧ i = .int .i64 k ∧ Hid (awS h (impL N) 100000 k = some q) ∧ wr.ownsRow w.heap.size 3 1 v k (q.map (Value.int .i64)) ∧ Below w.heap.size w wr)
    (fun _ i _ => N - (intOf i).toNat)
  case atStart => exact ⟨0, [], by omega, rfl, rfl, World.ownsRow_nil _ _ _ _, Below.refl _ _⟩
  case round =>
    obtain ⟨k, q, hk, rfl, HQ, hown, hb⟩ := hrel
    have hql := (awS_in HQ.out).1
    have hqi := (awS_in HQ.out).2
    have hown2 := hown
    rw [← hql] at hown2
    have hres := Res.owns hown2
    obtain ⟨a3, n3, cap3, rfl, hn3, hrd3⟩ := hres.sl.rd
    have hn3k : n3 = k := by omega
    subst hn3k
    have Hres := hid hres
    have Hrd3 := hid hrd3
    have Hown := hid hown
    have Hqi := hid hqi
    have Hql := hid hql
    have hsz : w.heap.size ≤ wr.heap.size := hb.size
    clear hql hqi hown hown2 hn3 hrd3 hres
    by_cases hlk : n3 < N
    · by_cases hz : n3 = 0
      · have Ha0 := hid (impF_zero hz)
        have hz1' : (n3 : Int) = 0 := by omega
        have hz2' : ((n3 : Int) == 0) = true := by rw [beq_iff_eq]; exact hz1'
        have Hz := hid hz
        clear hz hz1'
        go_wp2_with fail
        obtain ⟨wo, rfl⟩ : ∃ wo : World, wo = wr := ⟨_, rfl⟩
        go_loopw [8, 9] (fun s i wq => ∃ t : Nat, t + 1 ≤ n ∧ t ≤ n3 ∧ i = .int .i64 ((t : Int) + 1) ∧ s = .int .i64 (1 - ps h q n3 t) ∧ Below wo.heap.size wo wq)
          (fun _ i _ => (n - intOf i).toNat)
        case atStart => exact ⟨0, by omega, by omega, by go_num, by simp [ps, sumF], Below.refl _ _⟩
        case round =>
          obtain ⟨t, ht1, ht2, rfl, rfl, hb2⟩ := hrel
          have hbw : Below w.heap.size w wr := bel_step hb hb2
          obtain ⟨p1, p2⟩ := ps_bound (h := h) (q := q) n3 t (by omega) Hi.out Hqi.out
          by_cases hin : t + 1 < n ∧ t + 1 ≤ n3
          · obtain ⟨in1, in2⟩ := hin
            obtain ⟨y, hky⟩ := get_lt h (t + 1) (by rw [← Hn.out]; exact in1)
            obtain ⟨x, hkx⟩ := get_lt q (n3 - (t + 1)) (by rw [Hql.out]; omega)
            obtain ⟨b4, o4, hix4, hbb4, hce4⟩ := (Hrd.out.kept hbw).at (P := Try.prog) (T := 31) n cap uslice sone hky in1
            obtain ⟨b5, o5, hix5, hbb5, hce5⟩ := (Hrd3.out.kept hb2).at (P := Try.prog) (T := 31) n3 cap3 uslice sone hkx (by omega)
            obtain ⟨x1, x2⟩ := Hqi.out.at hkx
            obtain ⟨y1, y2⟩ := Hi.out.at hky
            have k4 : ((t + 1 : Nat) : Int) = (t : Int) + 1 := by omega
            have k5 : ((n3 - (t + 1) : Nat) : Int) = (n3 : Int) - ((t : Int) + 1) := by omega
            rw [k4] at hix4
            rw [k5] at hix5
            have hst := ps_succ h q n3 t
            rw [show at0 h (t + 1) = y from at0_of hky, show at0 q (n3 - (t + 1)) = x from at0_of hkx] at hst
            have hm := mul_in y1 y2 x1 x2 (by omega)
            have hm1 : -100000000 ≤ y * x := by omega
            have hm2 : y * x ≤ 100000000 := by omega
            generalize hz : ps h q n3 t = z at *
            have Hst := hid hst
            have hne : (0 : Int) ≤ (t : Int) := by omega
            have c1 : (t : Int) + 1 < (n : Int) := by omega
            have c2 : (t : Int) + 1 ≤ (n3 : Int) := by omega
            clear hst hm hz hkx hky k4 k5
            have e1 : IntKind.i64.wrap (y * x) = y * x := IntWalk.i64_in _ (by omega)
            have e2 : IntKind.i64.wrap (1 - z - y * x) = 1 - z - y * x := IntWalk.i64_in _ (by omega)
            have e3 : IntKind.i64.wrap ((n3 : Int) - ((t : Int) + 1)) = (n3 : Int) - ((t : Int) + 1) := IntWalk.i64_in _ (by omega)
            go_wp2
            go_quiet (fail)
            clear e1 e2 e3
            go_wp2
            go_roundw
            case rel => exact ⟨t + 1, by omega, by omega, by go_num, by rw [Hst.out]; go_num, below_drewN hb2 _⟩
            case measure => simp [intOf]; omega
          · have hpc := ps_conv (h := h) (t := t) Hql.out ht2 (by have := Hn.out; omega)
            have Hpc := hid hpc
            have hout : (t : Int) + 1 < (n : Int) → ¬ ((t : Int) + 1 ≤ (n3 : Int)) := by omega
            have hce3 : wr.cell? ⟨bb, oo, none⟩ = some (.int .i64 (-1)) := (hbw.cell (p := ⟨bb, oo, none⟩) hbb).trans hce
            obtain ⟨r, hr⟩ : ∃ r, 1 - ps h q n3 t = r := ⟨_, rfl⟩
            have hrr : at0 (impL N) n3 - conv h q n3 = r := by rw [← hpc, ← hr, impL_at hlk, Ha0.out]
            have r1 : -900000001 ≤ r := by omega
            have r2 : r ≤ 900000001 := by omega
            have hown4 := ownsRow_below Hown.out hb2
            have Hown4 := hid hown4
            have Hob := hid (ownsRow_base hown4)
            have hsz2 : w.heap.size ≤ wr.heap.size := hbw.size
            rw [hr]
            have Hr := hid hrr
            clear hpc hr hrr hown4
            by_cases hin1 : (t : Int) + 1 < (n : Int)
            · have hin2 : (n3 : Int) < (t : Int) + 1 := by omega
              clear hin hout
              by_cases hok : absI (-r) ≤ 100000
              · have Hnx := hid (awS_unit_yes HQ.out Hd.out (by omega) Hr.out (show r * (-1) = -r from by omega) hok)
                have Hin := hid (show decide (-100000 ≤ -r ∧ -r ≤ 100000) = true from decide_eq_true (by unfold absI at hok; omega))
                have f1 : -100000 ≤ -r := by unfold absI at hok; omega
                have f2 : -r ≤ 100000 := by unfold absI at hok; omega
                clear hok
                go_wp2_with fail
                refine (l1In_is _ _ _ true _ Hin.out).mono ?_
                rintro e w' ⟨rfl, rfl⟩
                go_wp2_with (at_builtin; refine wpList_append_own _ rfl _ _ 31 rfl w.heap.size 3 i0 (.int .i64 0) 1 8 uslice hi0 hz0 hz1 hz2 rfl (by decide) _ _ _ rfl (Hown4.out.alloc _) ⟨wr.heap.size, 0, none⟩ 1 1 [.int .i64 (-r)] rfl rfl ?xa1 ?xa2 ?xa3 ?xa4 ?xa5 ?_)
                try (case xa1 => exact cell_one_new _ _ _)
                try (case xa2 => first | rfl | (intro u hu; simp at hu; subst hu; rfl))
                try (case xa3 => first | omega | (unfold maxLen; omega))
                try (case xa4 => omega)
                try (case xa5 => first | omega | (simp; omega))
                · intro v' w3 hown3 hgrow _
                  have hb3 : Below w.heap.size w w3 := (hbw.alloc hsz2 _).grown hgrow (by simp; omega) (fun j hj => Hob.out j hj)
                  have Hown3 := hid hown3
                  clear hown3 hgrow
                  go_wp2
                  go_roundw
                  case rel => exact ⟨n3 + 1, q ++ [-r], by omega, by go_num, Hnx, by rw [List.map_append]; exact Hown3.out, hb3⟩
                  case measure => simp [intOf]; omega
              · have Hnx := hid (awOk_f (awS_unit_no HQ.out Hd.out (by omega) Hr.out (show r * (-1) = -r from by omega) (by omega) N (by omega)))
                have Hin := hid (show decide (-100000 ≤ -r ∧ -r ≤ 100000) = false from decide_eq_false (by unfold absI at hok; omega))
                clear hok
                go_wp2_with fail
                refine (l1In_is _ _ _ false _ Hin.out).mono ?_
                rintro e w' ⟨rfl, rfl⟩
                go_wp2
                go_ret2
                exact gives_of Hnx.out.1 Hnx.out.2 ⟨_, rfl, .inl ⟨rfl, rfl⟩, hbw⟩
            · have hge1 : (n : Int) ≤ (t : Int) + 1 := by omega
              clear hin hout hin1
              by_cases hok : absI (-r) ≤ 100000
              · have Hnx := hid (awS_unit_yes HQ.out Hd.out (by omega) Hr.out (show r * (-1) = -r from by omega) hok)
                have Hin := hid (show decide (-100000 ≤ -r ∧ -r ≤ 100000) = true from decide_eq_true (by unfold absI at hok; omega))
                have f1 : -100000 ≤ -r := by unfold absI at hok; omega
                have f2 : -r ≤ 100000 := by unfold absI at hok; omega
                clear hok
                go_wp2_with fail
                refine (l1In_is _ _ _ true _ Hin.out).mono ?_
                rintro e w' ⟨rfl, rfl⟩
                go_wp2_with (at_builtin; refine wpList_append_own _ rfl _ _ 31 rfl w.heap.size 3 i0 (.int .i64 0) 1 8 uslice hi0 hz0 hz1 hz2 rfl (by decide) _ _ _ rfl (Hown4.out.alloc _) ⟨wr.heap.size, 0, none⟩ 1 1 [.int .i64 (-r)] rfl rfl ?xb1 ?xb2 ?xb3 ?xb4 ?xb5 ?_)
                try (case xb1 => exact cell_one_new _ _ _)
                try (case xb2 => first | rfl | (intro u hu; simp at hu; subst hu; rfl))
                try (case xb3 => first | omega | (unfold maxLen; omega))
                try (case xb4 => omega)
                try (case xb5 => first | omega | (simp; omega))
                · intro v' w3 hown3 hgrow _
                  have hb3 : Below w.heap.size w w3 := (hbw.alloc hsz2 _).grown hgrow (by simp; omega) (fun j hj => Hob.out j hj)
                  have Hown3 := hid hown3
                  clear hown3 hgrow
                  go_wp2
                  go_roundw
                  case rel => exact ⟨n3 + 1, q ++ [-r], by omega, by go_num, Hnx, by rw [List.map_append]; exact Hown3.out, hb3⟩
                  case measure => simp [intOf]; omega
              · have Hnx := hid (awOk_f (awS_unit_no HQ.out Hd.out (by omega) Hr.out (show r * (-1) = -r from by omega) (by omega) N (by omega)))
                have Hin := hid (show decide (-100000 ≤ -r ∧ -r ≤ 100000) = false from decide_eq_false (by unfold absI at hok; omega))
                clear hok
                go_wp2_with fail
                refine (l1In_is _ _ _ false _ Hin.out).mono ?_
                rintro e w' ⟨rfl, rfl⟩
                go_wp2
                go_ret2
                exact gives_of Hnx.out.1 Hnx.out.2 ⟨_, rfl, .inl ⟨rfl, rfl⟩, hbw⟩
      · have Ha0 := hid (impF_pos hz)
        have hz2' : ((n3 : Int) == 0) = false := by rw [beq_eq_false_iff_ne]; omega
        have hz3' : ¬ (n3 : Int) = 0 := by omega
        clear hz
        go_wp2_with fail
        obtain ⟨wo, rfl⟩ : ∃ wo : World, wo = wr := ⟨_, rfl⟩
        go_loopw [8, 9] (fun s i wq => ∃ t : Nat, t + 1 ≤ n ∧ t ≤ n3 ∧ i = .int .i64 ((t : Int) + 1) ∧ s = .int .i64 (0 - ps h q n3 t) ∧ Below wo.heap.size wo wq)
          (fun _ i _ => (n - intOf i).toNat)
        case atStart => exact ⟨0, by omega, by omega, by go_num, by simp [ps, sumF], Below.refl _ _⟩
        case round =>
          obtain ⟨t, ht1, ht2, rfl, rfl, hb2⟩ := hrel
          have hbw : Below w.heap.size w wr := bel_step hb hb2
          obtain ⟨p1, p2⟩ := ps_bound (h := h) (q := q) n3 t (by omega) Hi.out Hqi.out
          by_cases hin : t + 1 < n ∧ t + 1 ≤ n3
          · obtain ⟨in1, in2⟩ := hin
            obtain ⟨y, hky⟩ := get_lt h (t + 1) (by rw [← Hn.out]; exact in1)
            obtain ⟨x, hkx⟩ := get_lt q (n3 - (t + 1)) (by rw [Hql.out]; omega)
            obtain ⟨b4, o4, hix4, hbb4, hce4⟩ := (Hrd.out.kept hbw).at (P := Try.prog) (T := 31) n cap uslice sone hky in1
            obtain ⟨b5, o5, hix5, hbb5, hce5⟩ := (Hrd3.out.kept hb2).at (P := Try.prog) (T := 31) n3 cap3 uslice sone hkx (by omega)
            obtain ⟨x1, x2⟩ := Hqi.out.at hkx
            obtain ⟨y1, y2⟩ := Hi.out.at hky
            have k4 : ((t + 1 : Nat) : Int) = (t : Int) + 1 := by omega
            have k5 : ((n3 - (t + 1) : Nat) : Int) = (n3 : Int) - ((t : Int) + 1) := by omega
            rw [k4] at hix4
            rw [k5] at hix5
            have hst := ps_succ h q n3 t
            rw [show at0 h (t + 1) = y from at0_of hky, show at0 q (n3 - (t + 1)) = x from at0_of hkx] at hst
            have hm := mul_in y1 y2 x1 x2 (by omega)
            have hm1 : -100000000 ≤ y * x := by omega
            have hm2 : y * x ≤ 100000000 := by omega
            generalize hz : ps h q n3 t = z at *
            have Hst := hid hst
            have hne : (0 : Int) ≤ (t : Int) := by omega
            have c1 : (t : Int) + 1 < (n : Int) := by omega
            have c2 : (t : Int) + 1 ≤ (n3 : Int) := by omega
            clear hst hm hz hkx hky k4 k5
            have e1 : IntKind.i64.wrap (y * x) = y * x := IntWalk.i64_in _ (by omega)
            have e2 : IntKind.i64.wrap (0 - z - y * x) = 0 - z - y * x := IntWalk.i64_in _ (by omega)
            have e3 : IntKind.i64.wrap ((n3 : Int) - ((t : Int) + 1)) = (n3 : Int) - ((t : Int) + 1) := IntWalk.i64_in _ (by omega)
            go_wp2
            go_quiet (fail)
            clear e1 e2 e3
            go_wp2
            go_roundw
            case rel => exact ⟨t + 1, by omega, by omega, by go_num, by rw [Hst.out]; go_num, below_drewN hb2 _⟩
            case measure => simp [intOf]; omega
          · have hpc := ps_conv (h := h) (t := t) Hql.out ht2 (by have := Hn.out; omega)
            have Hpc := hid hpc
            have hout : (t : Int) + 1 < (n : Int) → ¬ ((t : Int) + 1 ≤ (n3 : Int)) := by omega
            have hce3 : wr.cell? ⟨bb, oo, none⟩ = some (.int .i64 (-1)) := (hbw.cell (p := ⟨bb, oo, none⟩) hbb).trans hce
            obtain ⟨r, hr⟩ : ∃ r, 0 - ps h q n3 t = r := ⟨_, rfl⟩
            have hrr : at0 (impL N) n3 - conv h q n3 = r := by rw [← hpc, ← hr, impL_at hlk, Ha0.out]
            have r1 : -900000001 ≤ r := by omega
            have r2 : r ≤ 900000001 := by omega
            have hown4 := ownsRow_below Hown.out hb2
            have Hown4 := hid hown4
            have Hob := hid (ownsRow_base hown4)
            have hsz2 : w.heap.size ≤ wr.heap.size := hbw.size
            rw [hr]
            have Hr := hid hrr
            clear hpc hr hrr hown4
            by_cases hin1 : (t : Int) + 1 < (n : Int)
            · have hin2 : (n3 : Int) < (t : Int) + 1 := by omega
              clear hin hout
              by_cases hok : absI (-r) ≤ 100000
              · have Hnx := hid (awS_unit_yes HQ.out Hd.out (by omega) Hr.out (show r * (-1) = -r from by omega) hok)
                have Hin := hid (show decide (-100000 ≤ -r ∧ -r ≤ 100000) = true from decide_eq_true (by unfold absI at hok; omega))
                have f1 : -100000 ≤ -r := by unfold absI at hok; omega
                have f2 : -r ≤ 100000 := by unfold absI at hok; omega
                clear hok
                go_wp2_with fail
                refine (l1In_is _ _ _ true _ Hin.out).mono ?_
                rintro e w' ⟨rfl, rfl⟩
                go_wp2_with (at_builtin; refine wpList_append_own _ rfl _ _ 31 rfl w.heap.size 3 i0 (.int .i64 0) 1 8 uslice hi0 hz0 hz1 hz2 rfl (by decide) _ _ _ rfl (Hown4.out.alloc _) ⟨wr.heap.size, 0, none⟩ 1 1 [.int .i64 (-r)] rfl rfl ?ya1 ?ya2 ?ya3 ?ya4 ?ya5 ?_)
                try (case ya1 => exact cell_one_new _ _ _)
                try (case ya2 => first | rfl | (intro u hu; simp at hu; subst hu; rfl))
                try (case ya3 => first | omega | (unfold maxLen; omega))
                try (case ya4 => omega)
                try (case ya5 => first | omega | (simp; omega))
                · intro v' w3 hown3 hgrow _
                  have hb3 : Below w.heap.size w w3 := (hbw.alloc hsz2 _).grown hgrow (by simp; omega) (fun j hj => Hob.out j hj)
                  have Hown3 := hid hown3
                  clear hown3 hgrow
                  go_wp2
                  go_roundw
                  case rel => exact ⟨n3 + 1, q ++ [-r], by omega, by go_num, Hnx, by rw [List.map_append]; exact Hown3.out, hb3⟩
                  case measure => simp [intOf]; omega
              · have Hnx := hid (awOk_f (awS_unit_no HQ.out Hd.out (by omega) Hr.out (show r * (-1) = -r from by omega) (by omega) N (by omega)))
                have Hin := hid (show decide (-100000 ≤ -r ∧ -r ≤ 100000) = false from decide_eq_false (by unfold absI at hok; omega))
                clear hok
                go_wp2_with fail
                refine (l1In_is _ _ _ false _ Hin.out).mono ?_
                rintro e w' ⟨rfl, rfl⟩
                go_wp2
                go_ret2
                exact gives_of Hnx.out.1 Hnx.out.2 ⟨_, rfl, .inl ⟨rfl, rfl⟩, hbw⟩
            · have hge1 : (n : Int) ≤ (t : Int) + 1 := by omega
              clear hin hout hin1
              by_cases hok : absI (-r) ≤ 100000
              · have Hnx := hid (awS_unit_yes HQ.out Hd.out (by omega) Hr.out (show r * (-1) = -r from by omega) hok)
                have Hin := hid (show decide (-100000 ≤ -r ∧ -r ≤ 100000) = true from decide_eq_true (by unfold absI at hok; omega))
                have f1 : -100000 ≤ -r := by unfold absI at hok; omega
                have f2 : -r ≤ 100000 := by unfold absI at hok; omega
                clear hok
                go_wp2_with fail
                refine (l1In_is _ _ _ true _ Hin.out).mono ?_
                rintro e w' ⟨rfl, rfl⟩
                go_wp2_with (at_builtin; refine wpList_append_own _ rfl _ _ 31 rfl w.heap.size 3 i0 (.int .i64 0) 1 8 uslice hi0 hz0 hz1 hz2 rfl (by decide) _ _ _ rfl (Hown4.out.alloc _) ⟨wr.heap.size, 0, none⟩ 1 1 [.int .i64 (-r)] rfl rfl ?yb1 ?yb2 ?yb3 ?yb4 ?yb5 ?_)
                try (case yb1 => exact cell_one_new _ _ _)
                try (case yb2 => first | rfl | (intro u hu; simp at hu; subst hu; rfl))
                try (case yb3 => first | omega | (unfold maxLen; omega))
                try (case yb4 => omega)
                try (case yb5 => first | omega | (simp; omega))
                · intro v' w3 hown3 hgrow _
                  have hb3 : Below w.heap.size w w3 := (hbw.alloc hsz2 _).grown hgrow (by simp; omega) (fun j hj => Hob.out j hj)
                  have Hown3 := hid hown3
                  clear hown3 hgrow
                  go_wp2
                  go_roundw
                  case rel => exact ⟨n3 + 1, q ++ [-r], by omega, by go_num, Hnx, by rw [List.map_append]; exact Hown3.out, hb3⟩
                  case measure => simp [intOf]; omega
              · have Hnx := hid (awOk_f (awS_unit_no HQ.out Hd.out (by omega) Hr.out (show r * (-1) = -r from by omega) (by omega) N (by omega)))
                have Hin := hid (show decide (-100000 ≤ -r ∧ -r ≤ 100000) = false from decide_eq_false (by unfold absI at hok; omega))
                clear hok
                go_wp2_with fail
                refine (l1In_is _ _ _ false _ Hin.out).mono ?_
                rintro e w' ⟨rfl, rfl⟩
                go_wp2
                go_ret2
                exact gives_of Hnx.out.1 Hnx.out.2 ⟨_, rfl, .inl ⟨rfl, rfl⟩, hbw⟩
    · have hge : (N : Int) ≤ (n3 : Int) := by omega
      have hkm : n3 = N := by omega
      have Hfin := hid (awOk_t (show awS h (impL N) 100000 N = some q from hkm ▸ HQ.out))
      clear hlk hkm
      go_wp2
      go_ret2
      exact gives_of Hfin.out.1 Hfin.out.2 ⟨_, rfl, Hres.out, hb⟩


theorem onB_awL (h a : List Int) (L : Int) (N : Nat) : onB (awOk h a L N) (awL h a L N) [] = awL h a L N := by
  unfold awOk awL
  cases awS h a L N <;> rfl


set_option maxHeartbeats 1600000 in
theorem spec_InverseAnswer_any (v : Value) (h : List Int) (w : World) (hu : Sl w v h) (k : Int) :
    Calls Try.prog 22 #[v, .int .i64 k] w (Gives w (onB (wgtB h && (decide (0 ≤ k ∧ k ≤ 64) && (decide (at0 h 0 = 1 ∨ at0 h 0 = -1) && awOk h (impL k.toNat) 100000 k.toNat))) (awL h (impL k.toNat) 100000 k.toNat) []) (wgtB h && (decide (0 ≤ k ∧ k ≤ 64) && (decide (at0 h 0 = 1 ∨ at0 h 0 = -1) && awOk h (impL k.toNat) 100000 k.toNat)))) := by
  have HU := hid hu
  clear hu
  cases h0 : wgtB h
  · have HB0 := hid h0
    clear h0
    go_enter Try.func22, Try.ntmps22
    go_wp2_with fail
    refine (weGood_is _ h _ _ HU.out HB0.out).mono ?_
    rintro e w' ⟨rfl, rfl⟩
    go_wp2_with fail
    go_ret2
    exact ⟨_, rfl, .inl ⟨rfl, rfl⟩, Below.refl _ _⟩
  · have HB0 := hid h0
    clear h0
    by_cases hk : 0 ≤ k ∧ k ≤ 64
    · obtain ⟨K, rfl⟩ := Int.eq_ofNat_of_zero_le hk.1
      rw [decide_eq_true hk]
      by_cases hd : at0 h 0 = 1 ∨ at0 h 0 = -1
      · rcases hd with hd | hd
        · have h3 := spec_Inverse_p v h w HU.out K (by omega) (wgtB_t HB0.out) hd
          rw [decide_eq_true (show at0 h 0 = 1 ∨ at0 h 0 = -1 from .inl hd)]
          rw [← onB_awL] at h3
          exact h3
        · have h3 := spec_Inverse_m v h w HU.out K (by omega) (wgtB_t HB0.out) hd
          rw [decide_eq_true (show at0 h 0 = 1 ∨ at0 h 0 = -1 from .inr hd)]
          rw [← onB_awL] at h3
          exact h3
      · obtain ⟨a, n, cap, rfl, hn, hrd⟩ := HU.out.rd
        have hw := wgtB_t HB0.out
        have hn1 : 0 < n := by rw [hn]; exact hw.1.1
        obtain ⟨d1, d2⟩ := wgt_zero hw
        obtain ⟨bb, oo, hix, hbb, hce⟩ := hrd.at (P := Try.prog) (T := 31) n cap uslice sone (get0 hw) hn1
        simp only [Int.natCast_zero] at hix
        rw [decide_eq_false hd]
        obtain ⟨d, hdd⟩ : ∃ d, at0 h 0 = d := ⟨_, rfl⟩
        rw [hdd] at hd d1 d2 hce
        have k1 : (0 : Int) ≤ (K : Int) := by omega
        have k2 : (K : Int) ≤ 64 := by omega
        have ne1 : (d == 1) = false := by rw [beq_eq_false_iff_ne]; omega
        have ne2 : (d != 1) = true := by rw [bne_iff_ne]; omega
        have ne3 : (d == -1) = false := by rw [beq_eq_false_iff_ne]; omega
        have ne4 : (d != -1) = true := by rw [bne_iff_ne]; omega
        have ne5 : ¬ d = 1 := by omega
        have ne6 : ¬ d = -1 := by omega
        have HD := hid (show decide ((0 : Int) ≤ (K : Int) ∧ (K : Int) ≤ 64) = true from decide_eq_true (by omega))
        clear hn hrd hw hdd hd
        go_enter Try.func22, Try.ntmps22
        go_wp2_with fail
        refine (weGood_is _ h _ _ HU.out HB0.out).mono ?_
        rintro e w' ⟨rfl, rfl⟩
        go_wp2_with fail
        refine (l1In_is _ _ _ true _ HD.out).mono ?_
        rintro e w' ⟨rfl, rfl⟩
        go_wp2_with fail
        go_ret2
        exact ⟨_, rfl, .inl ⟨rfl, rfl⟩, Below.refl _ _⟩
    · have hd2 : decide (0 ≤ k ∧ k ≤ 64) = false := decide_eq_false hk
      rw [hd2]
      have HD := hid hd2
      clear hk hd2
      go_enter Try.func22, Try.ntmps22
      go_wp2_with fail
      refine (weGood_is _ h _ _ HU.out HB0.out).mono ?_
      rintro e w' ⟨rfl, rfl⟩
      go_wp2_with fail
      refine (l1In_is _ _ _ false _ HD.out).mono ?_
      rintro e w' ⟨rfl, rfl⟩
      go_wp2_with fail
      go_ret2
      exact ⟨_, rfl, .inl ⟨rfl, rfl⟩, Below.refl _ _⟩


set_option maxHeartbeats 1600000 in
theorem impl_InverseAnswer_any (v : Value) (h : List Int) (w : World) (hu : Sl w v h) (k : Int) :
    Calls Try.prog 23 #[v, .int .i64 k] w (Gives w (onB (wgtB h && (decide (0 ≤ k ∧ k ≤ 64) && (decide (at0 h 0 = 1 ∨ at0 h 0 = -1) && awOk h (impL k.toNat) 100000 k.toNat))) (awL h (impL k.toNat) 100000 k.toNat) []) (wgtB h && (decide (0 ≤ k ∧ k ≤ 64) && (decide (at0 h 0 = 1 ∨ at0 h 0 = -1) && awOk h (impL k.toNat) 100000 k.toNat)))) := by
  have HU := hid hu
  clear hu
  cases h0 : wgtB h
  · have HB0 := hid h0
    clear h0
    go_enter Try.func23, Try.ntmps23
    go_wp2_with fail
    refine (impl_IsWeights_is _ h _ _ HU.out HB0.out).mono ?_
    rintro e w' ⟨rfl, rfl⟩
    go_wp2_with fail
    go_ret2
    exact ⟨_, rfl, .inl ⟨rfl, rfl⟩, Below.refl _ _⟩
  · have HB0 := hid h0
    clear h0
    by_cases hk : 0 ≤ k ∧ k ≤ 64
    · obtain ⟨K, rfl⟩ := Int.eq_ofNat_of_zero_le hk.1
      rw [decide_eq_true hk]
      by_cases hd : at0 h 0 = 1 ∨ at0 h 0 = -1
      · have h3 := impl_Inverse_in v h w HU.out K (by omega) (wgtB_t HB0.out) hd
        rw [decide_eq_true hd]
        rw [← onB_awL] at h3
        exact h3
      · obtain ⟨a, n, cap, rfl, hn, hrd⟩ := HU.out.rd
        have hw := wgtB_t HB0.out
        have hn1 : 0 < n := by rw [hn]; exact hw.1.1
        obtain ⟨d1, d2⟩ := wgt_zero hw
        obtain ⟨bb, oo, hix, hbb, hce⟩ := hrd.at (P := Try.prog) (T := 31) n cap uslice sone (get0 hw) hn1
        simp only [Int.natCast_zero] at hix
        rw [decide_eq_false hd]
        obtain ⟨d, hdd⟩ : ∃ d, at0 h 0 = d := ⟨_, rfl⟩
        rw [hdd] at hd d1 d2 hce
        have k1 : (0 : Int) ≤ (K : Int) := by omega
        have k2 : (K : Int) ≤ 64 := by omega
        have ha : absI d ≠ 1 := by unfold absI; omega
        have ne1 : (absI d == 1) = false := by rw [beq_eq_false_iff_ne]; exact ha
        have ne2 : (absI d != 1) = true := by rw [bne_iff_ne]; exact ha
        clear hn hrd hw hdd hd ha
        go_enter Try.func23, Try.ntmps23
        go_wp2_with fail
        refine (impl_IsWeights_is _ h _ _ HU.out HB0.out).mono ?_
        rintro e w' ⟨rfl, rfl⟩
        go_wp2_with fail
        refine (sizeOf_any _ _ (by omega) (by omega)).mono ?_
        rintro e w' ⟨rfl, rfl⟩
        go_wp2_with fail
        go_ret2
        exact ⟨_, rfl, .inl ⟨rfl, rfl⟩, Below.refl _ _⟩
    · rw [decide_eq_false hk]
      by_cases h0 : k < 0
      · clear hk
        go_enter Try.func23, Try.ntmps23
        go_wp2_with fail
        refine (impl_IsWeights_is _ h _ _ HU.out HB0.out).mono ?_
        rintro e w' ⟨rfl, rfl⟩
        go_wp2_with fail
        go_ret2
        exact ⟨_, rfl, .inl ⟨rfl, rfl⟩, Below.refl _ _⟩
      · have h1 : 0 ≤ k := by omega
        have h2 : 64 < k := by omega
        clear hk h0
        go_enter Try.func23, Try.ntmps23
        go_wp2_with fail
        refine (impl_IsWeights_is _ h _ _ HU.out HB0.out).mono ?_
        rintro e w' ⟨rfl, rfl⟩
        go_wp2_with fail
        go_ret2
        exact ⟨_, rfl, .inl ⟨rfl, rfl⟩, Below.refl _ _⟩


def invB (h : List Int) (k : Int) : Bool := wgtB h && (decide (0 ≤ k ∧ k ≤ 64) && (decide (at0 h 0 = 1 ∨ at0 h 0 = -1) && awOk h (impL k.toNat) 100000 k.toNat))
theorem invB_len {h : List Int} {k : Int} (hb : invB h k = true) : (awL h (impL k.toNat) 100000 k.toNat).length ≤ 2000000 := by
  have h1 := of_decide_eq_true (and_t (and_t hb).2).1
  have h2 := awL_len (h := h) (a := impL k.toNat) (L := 100000) (N := k.toNat)
  omega


set_option maxHeartbeats 1600000 in
theorem gen_FnExactInverseAnswer (h : List Int) (k : Int) (u_h : Option Addr) (l_h c_h : Nat) (ys : List Int) (ok : Bool) (w : World) (hs_h : Sl w (.slice u_h l_h c_h) h) (ll_h : l_h ≤ 1048576) (hl_h : h.length ≤ 1048576) (hy : ys.length ≤ 2000000) (hspec : ∀ (w : World) (v_h : Value), Sl w v_h h → Calls Try.prog 22 #[v_h, .int .i64 k] w (Gives w ys ok)) (himpl : ∀ (w : World) (v_h : Value), Sl w v_h h → Calls Try.prog 23 #[v_h, .int .i64 k] w (Gives w ys ok)) :
    Calls Try.prog 6 #[.slice u_h l_h c_h, .int .i64 k] w fun e w' => e = .returned (.bool true) ∧ Below w.heap.size w w' := by
  have HSh := hid hs_h
  clear hs_h
  have HSP := hid hspec
  have HIM := hid himpl
  clear hspec himpl
  all_goals cases ok
  all_goals
    go_enter Try.func6, Try.ntmps6
    go_wp2_with fail
    refine (toIntS_any _ h _ HSh.out (by omega)).mono ?_
    rintro e w1 ⟨g_Ah0, hg_Ah0, rfl, K_Ah0, hb⟩
    have B1 := hb
    have hz1 : w.heap.size ≤ w1.heap.size := by first | exact hb.size | (have := hb.size; simp at this; omega)
    have Ah0 := K_Ah0.res hg_Ah0
    go_wp2_with fail
    refine (HSP.out _ _ Ah0.sl).mono ?_
    rintro e w2 ⟨v_R0, rfl, R0, hb⟩
    have B2 := bel_step B1 hb
    have hz2 : w1.heap.size ≤ w2.heap.size := hb.size
    have Ah0_2 := Ah0.kept hb
    have hlt0 : ∀ g, v_R0.ownBlock = some g → g < w2.heap.size := fun g hg => R0.lt hg
    have Hlt0 := hid hlt0
    clear hlt0
    go_wp2_with fail
    refine (toIntS_any _ h _ (HSh.out.kept B2) (by omega)).mono ?_
    rintro e w3 ⟨g_Xh, hg_Xh, rfl, K_Xh, hb⟩
    have B3 := bel_step B2 hb
    have hz3 : w2.heap.size ≤ w3.heap.size := hb.size
    have R0_3 := R0.kept hb
    have Xh := K_Xh.res hg_Xh
    have hlt_Xh := K_Xh.lt
    have hne_Xh : ∀ g, v_R0.ownBlock = some g → g ≠ g_Xh := fun g hg => by have a1 := Hlt0.out g hg; omega
    have Hne_Xh := hid hne_Xh
    clear hne_Xh
    have hxl_Xh : g_Xh < w3.heap.size := Xh.lt rfl
    go_wp2_with fail
    refine (HIM.out _ _ Xh.sl).mono ?_
    rintro e w4 ⟨v_R1, rfl, R1, hb⟩
    have B4 := bel_step B3 hb
    have hz4 : w3.heap.size ≤ w4.heap.size := hb.size
    have R0_4 := R0_3.kept hb
    have Xh_4 := Xh.kept hb
    have hne1_Xh : ∀ g, v_R1.ownBlock = some g → g ≠ g_Xh := fun g hg => by have a1 := R1.ge hg; omega
    have Hne1_Xh := hid hne1_Xh
    clear hne1_Xh
    have hne01 : ∀ g, v_R0.ownBlock = some g → v_R1.ownBlock ≠ some g := fun g hg e => by have a1 := R1.ge e; have a2 := Hlt0.out g hg; omega
    have Hne01 := hid hne01
    clear hne01
    have hge1 : ∀ g, v_R1.ownBlock = some g → w3.heap.size ≤ g := fun g hg => R1.ge hg
    have Hge1 := hid hge1
    clear hge1
    go_wp2_with fail
    refine (eqIntS_same _ _ ys _ R1.sl R0_4.sl hy).mono ?_
    rintro e w5 ⟨rfl, hb⟩
    have B5 := bel_step B4 hb
    have hz5 : w4.heap.size ≤ w5.heap.size := hb.size
    have R0_5 := R0_4.kept hb
    have Xh_5 := Xh_4.kept hb
    have R1_5 := R1.kept hb
    go_wp2_with fail
    refine (toIntS_any _ h _ (HSh.out.kept B5) (by omega)).mono ?_
    rintro e w6 ⟨g_TXh, hg_TXh, rfl, K_TXh, hb⟩
    have B6 := bel_step B5 hb
    have hz6 : w5.heap.size ≤ w6.heap.size := hb.size
    have R0_6 := R0_5.kept hb
    have Xh_6 := Xh_5.kept hb
    have R1_6 := R1_5.kept hb
    have TXh := K_TXh.res hg_TXh
    go_wp2_with fail
    refine (eqIntS_same _ _ h _ Xh_6.sl TXh.sl (by omega)).mono ?_
    rintro e w7 ⟨rfl, hb⟩
    have B7 := bel_step B6 hb
    have hz7 : w6.heap.size ≤ w7.heap.size := hb.size
    have R0_7 := R0_6.kept hb
    have Xh_7 := Xh_6.kept hb
    have R1_7 := R1_6.kept hb
    have TXh_7 := TXh.kept hb
    go_wp2_with fail
    refine (markIntS_one _ h _ _ Xh_7 (by omega)).mono ?_
    rintro e w8 ⟨rfl, ho, _⟩
    have B8 := B7.trans (ho.below fun g hg => by cases hg; exact Nat.le_trans B2.size hg_Xh)
    have hz8 : w7.heap.size ≤ w8.heap.size := Nat.le_of_eq ho.size.symm
    have R0_8 := R0_7.only ho fun g hg e => by cases e; exact Hne_Xh.out _ hg rfl
    have R1_8 := R1_7.only ho fun g hg e => by cases e; exact Hne1_Xh.out _ hg rfl
    go_wp2_with fail
    refine (eqIntS_same _ _ ys _ R1_8.sl R0_8.sl hy).mono ?_
    rintro e w9 ⟨rfl, hb⟩
    have B9 := bel_step B8 hb
    have hz9 : w8.heap.size ≤ w9.heap.size := hb.size
    have R0_9 := R0_8.kept hb
    have R1_9 := R1_8.kept hb
    go_wp2_with fail
    refine (markIntS_one _ ys _ _ R1_9 hy).mono ?_
    rintro e w10 ⟨rfl, ho, M⟩
    have B10 := B9.trans (ho.below fun g hg => Nat.le_trans B3.size (Hge1.out g hg))
    have hz10 : w9.heap.size ≤ w10.heap.size := Nat.le_of_eq ho.size.symm
    have R0_10 := R0_9.only ho Hne01.out
    go_wp2_with fail
    refine (heldIntS_one _ ys.length _ _ M hy).mono ?_
    rintro e w' ⟨rfl, rfl⟩
    go_wp2_with fail
    refine (toIntS_any _ h _ (HSh.out.kept B10) (by omega)).mono ?_
    rintro e w11 ⟨g_Ah10, hg_Ah10, rfl, K_Ah10, hb⟩
    have B11 := bel_step B10 hb
    have hz11 : w10.heap.size ≤ w11.heap.size := hb.size
    have R0_11 := R0_10.kept hb
    have M_11 := M.kept hb
    have Ah10 := K_Ah10.res hg_Ah10
    go_wp2_with fail
    refine (HIM.out _ _ Ah10.sl).mono ?_
    rintro e w12 ⟨v_R2, rfl, R2, hb⟩
    have B12 := bel_step B11 hb
    have hz12 : w11.heap.size ≤ w12.heap.size := hb.size
    have R0_12 := R0_11.kept hb
    have M_12 := M_11.kept hb
    have Ah10_12 := Ah10.kept hb
    go_wp2_with fail
    refine (eqIntS_same _ _ ys _ R2.sl R0_12.sl hy).mono ?_
    rintro e w13 ⟨rfl, hb⟩
    have B13 := bel_step B12 hb
    have hz13 : w12.heap.size ≤ w13.heap.size := hb.size
    have R0_13 := R0_12.kept hb
    have M_13 := M_12.kept hb
    have R2_13 := R2.kept hb
    go_wp2_with fail
    refine (heldIntS_one _ ys.length _ _ M_13 hy).mono ?_
    rintro e w' ⟨rfl, rfl⟩
    go_wp2_with fail
    go_ret
    exact ⟨rfl, B13⟩


set_option maxHeartbeats 1600000 in
theorem walk_FnExactInverseAnswer (w : World) (u_h : Option Addr) (l_h c_h : Nat) (z_h : List Int) (hr_h : IsRow .i64 w u_h l_h c_h z_h) (k : Int) (w_k : (Lit.int .i64 k).wf = true) :
    Calls Try.prog 6 #[.slice u_h l_h c_h, .int .i64 k] w fun e w' => e = .returned (.bool true) ∧ Below w.heap.size w w' := by
  obtain ⟨hs_h, hlen_h, hin_h⟩ := hr_h.sl
  generalize z_h.take l_h = h at hs_h hlen_h hin_h
  clear hr_h
  obtain ⟨k_1, k_2⟩ := bounds_i64 w_k
  by_cases hbig_h : 1048576 < l_h
  · clear hs_h hlen_h hin_h
    go_enter Try.func6, Try.ntmps6
    go_wp2
    go_ret
    exact ⟨rfl, Below.refl _ _⟩
  · have hq_h : l_h ≤ 1048576 := by omega
    exact gen_FnExactInverseAnswer h k _ _ _ (onB (invB h k) (awL h (impL k.toNat) 100000 k.toNat) []) (invB h k) w hs_h (by omega) (by omega) (onB_len invB_len) (fun w v_h h_h => spec_InverseAnswer_any v_h h w h_h k) (fun w v_h h_h => impl_InverseAnswer_any v_h h w h_h k)

end Go.Proofs.Ytkpfcaipbhfgkaa
