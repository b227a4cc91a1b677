
import Derived.Test.YtgkjncgaecfbgabDv
namespace Go.Proofs.Ytgkjncgaecfbgab
open Go.RowKit BitX Go.MemX
set_option linter.unusedVariables false


theorem own_other {w w2 : World} {base : Nat} {e : TypeId} {size : Nat} {v : Value} {n : Nat} {xs : List Value} (h : w.ownsRow base e size v n xs) {g : Nat} (hg : g < base) (ho : ∀ k, k ≠ g → w2.heap[k]? = w.heap[k]?) : w2.ownsRow base e size v n xs := by
  obtain ⟨h1, h2⟩ := h
  refine ⟨h1, ?_⟩
  rcases h2 with h2 | ⟨g2, cap, cur, hv, hB, hh, r⟩
  · exact .inl h2
  · exact .inr ⟨g2, cap, cur, hv, hB, by rw [ho g2 (by omega)]; exact hh, r⟩
theorem only_other {g n cap : Nat} {w w2 : World} (h : OnlyV (.slice (some ⟨g, 0, none⟩) n cap) w w2) (k : Nat) (hk : k ≠ g) : w2.heap[k]? = w.heap[k]? := h.block k fun e => hk (Option.some.inj e).symm
theorem dv_bad {a b : List Int} {w w2 : World} (h : awOk b (dvA a b) 1000 (dvP a b) = false) (hb : Below w.heap.size w w2) : Gives w (onB (dvOk a b) (dvQ a b) []) (dvOk a b) (.returned (.tuple #[.slice none 0 0, .bool false])) w2 := by
  have e : dvOk a b = false := by unfold dvOk; rw [h]; rfl
  exact gives_of e (by rw [e]; rfl) ⟨_, rfl, .inl ⟨rfl, rfl⟩, hb⟩
theorem tmod_small {r d B : Int} (h1 : -B ≤ r) (h2 : r ≤ B) : -B ≤ r.tmod d ∧ r.tmod d ≤ B := by
  have h : (r.tmod d).natAbs ≤ r.natAbs := by rw [Int.natAbs_tmod]; exact Nat.mod_le _ _
  omega
/-- what is known at a round's head of the division -/
structure DvAt (w w1 : World) (gl capl n : Nat) (a b q : List Int) (i : Nat) (v : Value) (wr : World) : Prop where
  hq : awS b (dvA a b) 1000 i = some q
  own : wr.ownsRow w1.heap.size 3 1 v i (q.map (Value.int .i64))
  row : RowB 3 wr gl capl (tab n (lft a b q))
  bel : Below w.heap.size w wr
  hsz : w1.heap.size ≤ wr.heap.size


set_option maxHeartbeats 6400000 in
theorem spec_Divide_in (u v : Value) (a b : List Int) (w : World) (hu : Sl w u a) (hv : Sl w v b) (ha : WgtP a) (hb : WgtP b) (hd0 : at0 b 0 ≠ 0) (hba : b.length ≤ a.length) :
    Calls Try.prog 22 #[u, v] w (Gives w (onB (dvOk a b) (dvQ a b) []) (dvOk a b)) := by
  have hla := ha.1
  have hlb := hb.1
  obtain ⟨a1, n, cap, rfl, hn, hrd⟩ := hu.rd
  obtain ⟨a2, m, cap2, rfl, hm, hrd2⟩ := hv.rd
  have HU := hid hu
  have HV := hid hv
  have HA := hid ha
  have HB := hid hb
  have Hn := hid hn
  have Hm := hid hm
  have Hrd2 := hid hrd2
  have hm1 : 0 < m := by omega
  have hm9 : m ≤ 9 := by omega
  have hn1 : 0 < n := by omega
  have hn9 : n ≤ 9 := by omega
  have hmn : m ≤ n := by omega
  obtain ⟨bb, oo, hix, hbb, hce⟩ := hrd2.at (P := Try.prog) (T := 22) m cap2 uslice sone (get0 hb) hm1
  simp only [Int.natCast_zero] at hix
  obtain ⟨d, hd⟩ : ∃ d, at0 b 0 = d := ⟨_, rfl⟩
  have hdz := wgt_zero hb
  rw [hd] at hce hd0 hdz
  obtain ⟨d1, d2⟩ := hdz
  have Hd := hid hd
  have Hd0 := hid hd0
  have Hdn := hid (show d ≠ 0 from hd0)
  have ne1 : (d == 0) = false := by rw [beq_eq_false_iff_ne]; exact hd0
  obtain ⟨P, hP⟩ : ∃ P, P = dvP a b := ⟨_, rfl⟩
  have hPn : P + m = n + 1 := by rw [hP]; unfold dvP; omega
  have HP := hid hP
  have hsome : ∃ b1 o1, a1 = some ⟨b1, o1, none⟩ := by
    rcases hu with ⟨rfl, _⟩ | ⟨b1, o1, n1, c1, he, hn2, h02, hc2, hlt2, hx2⟩
    · simp at hn; omega
    · cases he; exact ⟨_, _, rfl⟩
  obtain ⟨b1, o1, rfl⟩ := hsome
  have hl1 : a.length ≤ 1000000 := by omega
  have Hl1 := hid hl1
  obtain ⟨i0, hi0, hz0, hz1, hz2⟩ := info_parts iint
  clear hu hv ha hb hla hlb hn hm hrd hrd2 hd hd0 hP hl1
  go_enter Try.func22, Try.ntmps22
  go_wp2_with fail
  refine (weGood_is _ a true _ HU.out (wgtB_of HA.out)).mono ?_
  rintro e w' ⟨rfl, rfl⟩
  go_wp2_with fail
  refine (weGood_is _ b true _ HV.out (wgtB_of HB.out)).mono ?_
  rintro e w' ⟨rfl, rfl⟩
  go_wp2_with fail
  refine (l1Own_some b1 o1 n cap a _ HU.out Hl1.out).mono ?_
  rintro e w1 ⟨v1, rfl, R, B1⟩
  have hform : ∃ gl capl, v1 = .slice (some ⟨gl, 0, none⟩) n capl ∧ w.heap.size ≤ gl ∧ RowB 3 w1 gl capl a := by
    rcases R with ⟨he, _⟩ | ⟨g, c, hv1, hg, hrow⟩
    · rw [he] at Hn; have := Hn.out; simp at this; omega
    · exact ⟨g, c, by rw [hv1, ← Hn.out], hg, hrow⟩
  obtain ⟨gl, capl, rfl, hgl, hrow⟩ := hform
  have hgl1 : gl < w1.heap.size := hrow.lt
  have Hrow := hid hrow
  clear R hrow
  go_wp2_with fail
  go_loopw [7, 8] (fun v i wr => ∃ (k : Nat) (q : List Int), k ≤ P ∧ i = .int .i64 k ∧ DvAt w w1 gl capl n a b q k v wr)
    (fun _ i _ => P - (intOf i).toNat)
  case atStart => exact ⟨0, [], by omega, rfl, ⟨rfl, World.ownsRow_nil _ _ _ _, by rw [Hn.out, lft_start]; exact Hrow.out, B1, Nat.le_refl _⟩⟩
  case round =>
    obtain ⟨k, q, hk, rfl, D⟩ := hrel
    have hbw := D.bel
    have hql := (awS_in D.hq).1
    have hqi := (awS_in D.hq).2
    have HDq := hid D.hq
    have Hown := hid D.own
    have Hrw := hid D.row
    have hsz := D.hsz
    clear D
    have hqw : InP (-100000) 100000 q := fun x hx => by have := hqi x hx; omega
    by_cases hlk : k < P
    · have hkn : k < n := by omega
      have hcl : wr.cell? ⟨gl, k, none⟩ = some (.int .i64 (lft a b q k)) := Hrw.out.cell (tab_get _ _ _ hkn)
      have hfl := Hrw.out.free k
      have hce1 : wr.cell? ⟨bb, oo, none⟩ = some (.int .i64 d) := (hbw.cell (p := ⟨bb, oo, none⟩) hbb).trans hce
      have hlb := lft_bound (a := a) (b := b) (q := q) k HA.out.2 HB.out hqw
      obtain ⟨r, hr⟩ : ∃ r, lft a b q k = r := ⟨_, rfl⟩
      have hrr : at0 (dvA a b) k - conv b q k = r := by rw [dvA_at (by rw [← HP.out]; exact hlk), ← hr]; rfl
      have hno := awS_no HDq.out
      have hye := awS_yes HDq.out
      rw [Hd.out, hrr] at hno hye
      rw [hr] at hcl hlb
      obtain ⟨r1, r2⟩ := hlb
      obtain ⟨x, hxe⟩ : ∃ x, r.tdiv d = x := ⟨_, rfl⟩
      have hx := tdiv_small (d := d) r1 r2
      rw [hxe] at hno hye hx
      obtain ⟨xb1, xb2⟩ := hx
      have htm := tmod_iff (r := r) Hd0.out
      rw [hxe] at htm
      have Hno := hid hno
      have Hye := hid hye
      have Htm := hid htm
      have Hql := hid hql
      have Hqw := hid hqw
      have c1 : (k : Int) + m ≤ n := by omega
      have k0 : (0 : Int) ≤ (k : Int) := by omega
      have k1 : (k : Int) < (n : Int) := by omega
      have HX := hid hxe
      clear hno hye htm hql hqw hqi hr hrr hxe
      have hdn0 : ¬ d = 0 := Hdn.out
      have hm1' := tmod_small (d := d) r1 r2
      obtain ⟨tm1, tm2⟩ := hm1'
      have hxe := HX.out
      by_cases hc : r.tmod d = 0
      · have hxd : x * d = r := Htm.out.1 hc
        have Hxd := hid hxd
        clear hxd
        by_cases hok : absI x ≤ 1000
        · have Hnx := hid (Hye.out Hxd.out hok)
          have Hin := hid (show decide (-1000 ≤ x ∧ x ≤ 1000) = true from decide_eq_true (by unfold absI at hok; omega))
          have f1 : -1000 ≤ x := by unfold absI at hok; omega
          have f2 : x ≤ 1000 := by unfold absI at hok; omega
          clear hok
          go_wp2_with fail
          go_quiet (fail)
          go_wp2_with fail
          go_quiet (fail)
          go_wp2_with fail
          refine (l1In_is _ _ _ true _ Hin.out).mono ?_
          rintro e w' ⟨rfl, rfl⟩
          clear hcl hfl hce1 hxe hc
          go_wp2_with fail
          obtain ⟨wo, rfl⟩ : ∃ wo : World, wo = wr := ⟨_, rfl⟩
          go_loopw [66] (fun i wq => ∃ t : Nat, t ≤ m ∧ i = .int .i64 t ∧ OnlyV (.slice (some ⟨gl, 0, none⟩) n capl) wo wq ∧ RowB 3 wq gl capl (tab n (lftT a b q x k t)))
            (fun i _ => m - (intOf i).toNat)
          case atStart =>
            refine ⟨0, by omega, rfl, ⟨rfl, rfl, rfl, rfl, fun _ _ => rfl⟩, ?_⟩
            rw [tab_congr n _ _ fun j _ => lftT_zero a b q x k j]
            exact Hrw.out.same rfl
          case round =>
            obtain ⟨t, ht, rfl, ho, hrow⟩ := hrel
            have hbq : Below w.heap.size w wr := hbw.trans (ho.below fun g hg => by cases hg; exact hgl)
            by_cases hlt : t < m
            · obtain ⟨y, hky⟩ := get_lt b t (by rw [← Hm.out]; exact hlt)
              obtain ⟨b4, o4, hix4, hbb4, hce4⟩ := (Hrd2.out.kept hbq).at (P := Try.prog) (T := 22) m cap2 uslice sone hky hlt
              obtain ⟨y1, y2⟩ := HB.out.2.at hky
              have hkt : k + t < n := by omega
              have hpb := lftT_bound (a := a) (b := b) (q := q) (x := x) k t (k + t) HA.out.2 HB.out Hqw.out f1 f2
              have hst := lftT_at a b q x k t
              rw [show at0 b t = y from at0_of hky] at hst
              have hcd : wr.cell? ⟨gl, k + t, none⟩ = some (.int .i64 (lftT a b q x k t (k + t))) := hrow.cell (tab_get _ _ _ hkt)
              have hfd := hrow.free (k + t)
              have hmm := mul_in f1 f2 y1 y2 (by omega)
              have hm3 : -1000000 ≤ x * y := by omega
              have hm4 : x * y ≤ 1000000 := by omega
              obtain ⟨p1, p2⟩ := hpb
              have hset : (tab n (lftT a b q x k t)).set (k + t) (lftT a b q x k t (k + t) - x * y) = tab n (lftT a b q x k (t + 1)) := tab_set _ _ _ _ hst fun i _ hne => lftT_other a b q x k t i hne
              have hk2 : ((k : Int) + (t : Int)).toNat = k + t := by omega
              have hk3 : (0 : Int) ≤ (k : Int) + t := by omega
              have hk4 : (k : Int) + t < (n : Int) := by omega
              generalize lftT a b q x k t (k + t) = z at *
              have Hset := hid hset
              have Hrow2 := hid hrow
              clear hset hrow hst hky hmm
              go_wp2
              go_roundw
              case rel => exact ⟨t + 1, by omega, by go_num, ho.set _ _, by rw [← Hset.out]; exact Hrow2.out.set (k + t) _⟩
              case measure => simp [intOf]; omega
            · have hge : (m : Int) ≤ (t : Int) := by omega
              have htm : t = b.length := by rw [← Hm.out]; omega
              have hfull : tab n (lftT a b q x k t) = tab n (lft a b (q ++ [x])) := by rw [htm]; exact tab_congr _ _ _ fun j _ => lftT_full Hql.out j
              rw [hfull] at hrow
              have hown4 := own_other Hown.out hgl1 (only_other ho)
              have hsz4 : w1.heap.size ≤ wr.heap.size := by rw [ho.size]; exact hsz
              have Hob := hid (ownsRow_base hown4)
              have Hown4 := hid hown4
              have Hrow4 := hid hrow
              have hk9 : k ≤ 9 := by omega
              clear hlt htm hfull hrow hown4 ht
              go_wp2_with (at_builtin; refine wpList_append_own _ rfl _ _ 22 rfl w1.heap.size 3 i0 (.int .i64 0) 1 8 uslice hi0 hz0 hz1 hz2 rfl (by decide) _ _ _ rfl (Hown4.out.alloc _) ⟨wr.heap.size, 0, none⟩ 1 1 [.int .i64 x] rfl rfl ?c1 ?c2 ?c3 ?c4 ?c5 ?_)
              try (case c1 => exact cell_one_new _ _ _)
              try (case c2 => first | rfl | (intro u hu; simp at hu; subst hu; rfl))
              try (case c3 => first | omega | (unfold maxLen; omega))
              try (case c4 => omega)
              try (case c5 => first | omega | (simp; omega))
              · intro v' w3 hown3 hgrow _
                have hglr : gl < wr.heap.size := Nat.lt_of_lt_of_le hgl1 hsz4
                have hkeep : w3.heap[gl]? = wr.heap[gl]? := by
                  rw [hgrow.block gl (by simp; omega) (fun e => by have := Hob.out gl e.symm; omega)]
                  exact heap_alloc_old _ _ hglr
                have hrow3 := Hrow4.out.same hkeep
                have hb3 : Below w.heap.size w w3 := (hbq.alloc hbq.size _).grown hgrow (by have := hbq.size; simp; omega) (fun j hj => by have := Hob.out j hj; have := B1.size; omega)
                have hsz3 : w1.heap.size ≤ w3.heap.size := by have := hgrow.size; simp at this; omega
                have HD3 := hid (show DvAt w w1 gl capl n a b (q ++ [x]) (k + 1) v' w3 from ⟨Hnx.out, by rw [List.map_append]; exact hown3, hrow3, hb3, hsz3⟩)
                clear hown3 hgrow hkeep hrow3 hb3 hsz3
                go_wp2
                go_roundw
                case rel => exact ⟨k + 1, q ++ [x], by omega, by go_num, HD3.out⟩
                case measure => simp [intOf]; omega
        · have Hbad := hid (awOk_f (Hno.out (fun h => hok h.2) P (by omega)))
          have Hin := hid (show decide (-1000 ≤ x ∧ x ≤ 1000) = false from decide_eq_false (by unfold absI at hok; omega))
          clear hok
          go_wp2_with fail
          go_quiet (fail)
          go_wp2_with fail
          go_quiet (fail)
          go_wp2_with fail
          refine (l1In_is _ _ _ false _ Hin.out).mono ?_
          rintro e w' ⟨rfl, rfl⟩
          go_wp2
          go_ret2
          exact dv_bad (by rw [← HP.out]; exact Hbad.out.1) (below_drewN hbw _)
      · have Hbad := hid (awOk_f (Hno.out (fun h => hc (Htm.out.2 h.1)) P (by omega)))
        have hn1' : (r.tmod d == 0) = false := by rw [beq_eq_false_iff_ne]; exact hc
        have hn2' : (r.tmod d != 0) = true := by rw [bne_iff_ne]; exact hc
        clear hc
        go_wp2_with fail
        go_quiet (fail)
        go_wp2
        go_ret2
        exact dv_bad (by rw [← HP.out]; exact Hbad.out.1) (below_drewN hbw _)
    · have hge : (P : Int) ≤ (k : Int) := by omega
      have hkP : k = P := by omega
      have c1 : ¬ (k : Int) + m ≤ n := by omega
      have c2 : (n : Int) < (k : Int) + m := by omega
      have hqP : awS b (dvA a b) 1000 P = some q := hkP ▸ HDq.out
      have hok := awOk_t hqP
      have hqe : dvQ a b = q := by unfold dvQ; rw [← HP.out]; exact hok.2
      have hsl := Hrw.out.sl
      have hlen : (tab n (lft a b q)).length = n := tab_len _ _
      rw [hlen] at hsl
      have hin : InP (-10000000000) 10000000000 (tab n (lft a b q)) := fun y hy => by
        obtain ⟨i, hi⟩ := List.getElem?_of_mem hy
        have hil := (List.getElem?_eq_some_iff.1 hi).1
        rw [hlen] at hil
        rw [tab_get _ _ _ hil] at hi
        have e := Option.some.inj hi
        have := lft_bound (a := a) (b := b) (q := q) i HA.out.2 HB.out hqw
        rw [← e]; omega
      have hqne : q ≠ [] := fun e => by rw [e] at hql; simp at hql; omega
      have hdone : pkM (tab n (lft a b q)) = 0 ↔ ans b q = a := by
        rw [pkM_zero, ← lft_done (wgt_ne HB.out) hqne (by rw [← Hn.out, ← Hm.out, hql]; omega), ← Hn.out]
        constructor
        · intro h j hj; exact h _ (List.mem_of_getElem? (tab_get n (lft a b q) j hj))
        · intro h y hy
          obtain ⟨i, hi⟩ := List.getElem?_of_mem hy
          have hil := (List.getElem?_eq_some_iff.1 hi).1
          rw [hlen] at hil
          rw [tab_get _ _ _ hil] at hi
          rw [← Option.some.inj hi]; exact h i hil
      have hpn := pkM_nonneg (tab n (lft a b q))
      have hwq : WgtP q := ⟨⟨by omega, by omega⟩, hqi⟩
      have hown2 := Hown.out
      rw [← hql] at hown2
      have hres := (Res.owns hown2).mono B1.size
      obtain ⟨z, hz⟩ : ∃ z, pkM (tab n (lft a b q)) = z := ⟨_, rfl⟩
      rw [hz] at hdone hpn
      have Hz := hid hz
      have Hsl := hid hsl
      have Hin := hid hin
      have Hlen := hid hlen
      have Hres := hid hres
      have Hwq := hid hwq
      have Hdone := hid hdone
      have Hqe := hid hqe
      have Hok := hid (show awOk b (dvA a b) 1000 (dvP a b) = true from by rw [← HP.out]; exact hok.1)
      clear hlk hkP hqP hok hqe hsl hlen hin hqne hdone hwq hown2 hres hqw hqi hql hz hge
      go_wp2_with fail
      have hpk := wdPeakM_any _ _ _ Hsl.out (by rw [Hlen.out]; omega) Hin.out
      rw [Hz.out] at hpk
      refine hpk.mono ?_
      rintro e w' ⟨rfl, rfl⟩
      clear hpk
      by_cases hz0' : z = 0
      · have Hg := hid (show dvOk a b = true from by unfold dvOk; rw [Hok.out, Hqe.out, decide_eq_true (Hdone.out.1 hz0')]; rfl)
        have hz3 : ¬ (0 : Int) < z := by omega
        clear hz0' hpn
        go_wp2_with fail
        refine (weIf_is _ q true _ Hres.out.sl (wgtB_of Hwq.out)).mono ?_
        rintro e w' ⟨rfl, rfl⟩
        go_wp2_with fail
        go_ret2
        exact gives_of Hg.out (show onB (dvOk a b) (dvQ a b) [] = q from by rw [Hg.out, Hqe.out]; rfl) ⟨_, rfl, Hres.out, hbw⟩
      · have Hbd := hid (show dvOk a b = false from by unfold dvOk; rw [Hqe.out, decide_eq_false (fun h => hz0' (Hdone.out.2 h)), Bool.and_false])
        have hz3 : (0 : Int) < z := by omega
        clear hz0' hpn
        go_wp2_with fail
        go_ret2
        exact gives_of Hbd.out (show onB (dvOk a b) (dvQ a b) [] = [] from by rw [Hbd.out]; rfl) ⟨_, rfl, .inl ⟨rfl, rfl⟩, hbw⟩


set_option maxHeartbeats 1600000 in
theorem spec_DivideWeights_any (u v : Value) (a b : List Int) (w : World) (hu : Sl w u a) (hv : Sl w v b) :
    Calls Try.prog 22 #[u, v] w (Gives w (onB ((wgtB a && wgtB b) && (decide (at0 b 0 ≠ 0 ∧ b.length ≤ a.length) && dvOk a b)) (dvQ a b) []) ((wgtB a && wgtB b) && (decide (at0 b 0 ≠ 0 ∧ b.length ≤ a.length) && dvOk a b))) := by
  have HU := hid hu
  have HV := hid hv
  clear hu hv
  cases h0 : wgtB a
  · have HB0 := hid h0
    clear h0
    go_enter Try.func22, Try.ntmps22
    go_wp2_with fail
    refine (weGood_is _ a _ _ HU.out HB0.out).mono ?_
    rintro e w' ⟨rfl, rfl⟩
    go_wp2_with fail
    go_ret2
    exact ⟨_, rfl, .inl ⟨rfl, rfl⟩, Below.refl _ _⟩
  · have HB0 := hid h0
    clear h0
    cases h1 : wgtB b
    · have HB1 := hid h1
      clear h1
      go_enter Try.func22, Try.ntmps22
      go_wp2_with fail
      refine (weGood_is _ a _ _ HU.out HB0.out).mono ?_
      rintro e w' ⟨rfl, rfl⟩
      go_wp2_with fail
      refine (weGood_is _ b _ _ HV.out HB1.out).mono ?_
      rintro e w' ⟨rfl, rfl⟩
      go_wp2_with fail
      go_ret2
      exact ⟨_, rfl, .inl ⟨rfl, rfl⟩, Below.refl _ _⟩
    · have HB1 := hid h1
      clear h1
      by_cases hd : at0 b 0 ≠ 0 ∧ b.length ≤ a.length
      · rw [decide_eq_true hd]
        exact spec_Divide_in u v a b w HU.out HV.out (wgtB_t HB0.out) (wgtB_t HB1.out) hd.1 hd.2
      · by_cases hz : at0 b 0 = 0
        · obtain ⟨a1, n, cap, rfl, hn, hrd1⟩ := HU.out.rd
          obtain ⟨a2, m, cap2, rfl, hm, hrd⟩ := HV.out.rd
          have hw := wgtB_t HB1.out
          have hwa := wgtB_t HB0.out
          have hm1 : 0 < m := by rw [hm]; exact hw.1.1
          have hm9 : m ≤ 9 := by rw [hm]; exact hw.1.2
          have hn9 : n ≤ 9 := by rw [hn]; exact hwa.1.2
          obtain ⟨bb, oo, hix, hbb, hce⟩ := hrd.at (P := Try.prog) (T := 22) m cap2 uslice sone (get0 hw) hm1
          simp only [Int.natCast_zero] at hix
          rw [decide_eq_false hd]
          rw [hz] at hce
          clear hn hm hrd hrd1 hw hwa hd hz
          go_enter Try.func22, Try.ntmps22
          go_wp2_with fail
          refine (weGood_is _ a _ _ HU.out HB0.out).mono ?_
          rintro e w' ⟨rfl, rfl⟩
          go_wp2_with fail
          refine (weGood_is _ b _ _ HV.out HB1.out).mono ?_
          rintro e w' ⟨rfl, rfl⟩
          go_wp2_with fail
          go_ret2
          exact ⟨_, rfl, .inl ⟨rfl, rfl⟩, Below.refl _ _⟩
        · have hlen : a.length < b.length := by omega
          obtain ⟨a1, n, cap, rfl, hn, hrd1⟩ := HU.out.rd
          obtain ⟨a2, m, cap2, rfl, hm, hrd⟩ := HV.out.rd
          have hw := wgtB_t HB1.out
          have hwa := wgtB_t HB0.out
          have hm1 : 0 < m := by rw [hm]; exact hw.1.1
          have hm9 : m ≤ 9 := by rw [hm]; exact hw.1.2
          have hn9 : n ≤ 9 := by rw [hn]; exact hwa.1.2
          obtain ⟨bb, oo, hix, hbb, hce⟩ := hrd.at (P := Try.prog) (T := 22) m cap2 uslice sone (get0 hw) hm1
          simp only [Int.natCast_zero] at hix
          rw [decide_eq_false hd]
          have hl : n < m := by omega
          obtain ⟨d, hdd⟩ : ∃ d, at0 b 0 = d := ⟨_, rfl⟩
          rw [hdd] at hce hz
          have ne1 : (d == 0) = false := by rw [beq_eq_false_iff_ne]; exact hz
          have ne3 : ¬ d = 0 := hz
          clear hn hm hrd hrd1 hw hwa hd hdd hz
          go_enter Try.func22, Try.ntmps22
          go_wp2_with fail
          refine (weGood_is _ a _ _ HU.out HB0.out).mono ?_
          rintro e w' ⟨rfl, rfl⟩
          go_wp2_with fail
          refine (weGood_is _ b _ _ HV.out HB1.out).mono ?_
          rintro e w' ⟨rfl, rfl⟩
          go_wp2_with fail
          go_ret2
          exact ⟨_, rfl, .inl ⟨rfl, rfl⟩, Below.refl _ _⟩


set_option maxHeartbeats 1600000 in
theorem impl_DivideWeights_any (u v : Value) (a b : List Int) (w : World) (hu : Sl w u a) (hv : Sl w v b) :
    Calls Try.prog 23 #[u, v] w (Gives w (onB ((wgtB a && wgtB b) && (decide (at0 b 0 ≠ 0 ∧ b.length ≤ a.length) && dvOk a b)) (dvQ a b) []) ((wgtB a && wgtB b) && (decide (at0 b 0 ≠ 0 ∧ b.length ≤ a.length) && dvOk a b))) := by
  have HU := hid hu
  have HV := hid hv
  clear hu hv
  cases h0 : wgtB a
  · have HB0 := hid h0
    clear h0
    go_enter Try.func23, Try.ntmps23
    go_wp2_with fail
    refine (impl_IsWeights_is _ a _ _ HU.out HB0.out).mono ?_
    rintro e w' ⟨rfl, rfl⟩
    go_wp2_with fail
    go_ret2
    exact ⟨_, rfl, .inl ⟨rfl, rfl⟩, Below.refl _ _⟩
  · have HB0 := hid h0
    clear h0
    cases h1 : wgtB b
    · have HB1 := hid h1
      clear h1
      go_enter Try.func23, Try.ntmps23
      go_wp2_with fail
      refine (impl_IsWeights_is _ a _ _ HU.out HB0.out).mono ?_
      rintro e w' ⟨rfl, rfl⟩
      go_wp2_with fail
      refine (impl_IsWeights_is _ b _ _ HV.out HB1.out).mono ?_
      rintro e w' ⟨rfl, rfl⟩
      go_wp2_with fail
      go_ret2
      exact ⟨_, rfl, .inl ⟨rfl, rfl⟩, Below.refl _ _⟩
    · have HB1 := hid h1
      clear h1
      by_cases hd : at0 b 0 ≠ 0 ∧ b.length ≤ a.length
      · rw [decide_eq_true hd]
        exact impl_Divide_in u v a b w HU.out HV.out (wgtB_t HB0.out) (wgtB_t HB1.out) hd.1 hd.2
      · by_cases hz : at0 b 0 = 0
        · obtain ⟨a1, n, cap, rfl, hn, hrd1⟩ := HU.out.rd
          obtain ⟨a2, m, cap2, rfl, hm, hrd⟩ := HV.out.rd
          have hw := wgtB_t HB1.out
          have hwa := wgtB_t HB0.out
          have hm1 : 0 < m := by rw [hm]; exact hw.1.1
          have hm9 : m ≤ 9 := by rw [hm]; exact hw.1.2
          have hn9 : n ≤ 9 := by rw [hn]; exact hwa.1.2
          obtain ⟨bb, oo, hix, hbb, hce⟩ := hrd.at (P := Try.prog) (T := 22) m cap2 uslice sone (get0 hw) hm1
          simp only [Int.natCast_zero] at hix
          rw [decide_eq_false hd]
          rw [hz] at hce
          clear hn hm hrd hrd1 hw hwa hd hz
          go_enter Try.func23, Try.ntmps23
          go_wp2_with fail
          refine (impl_IsWeights_is _ a _ _ HU.out HB0.out).mono ?_
          rintro e w' ⟨rfl, rfl⟩
          go_wp2_with fail
          refine (impl_IsWeights_is _ b _ _ HV.out HB1.out).mono ?_
          rintro e w' ⟨rfl, rfl⟩
          go_wp2_with fail
          go_ret2
          exact ⟨_, rfl, .inl ⟨rfl, rfl⟩, Below.refl _ _⟩
        · have hlen : a.length < b.length := by omega
          obtain ⟨a1, n, cap, rfl, hn, hrd1⟩ := HU.out.rd
          obtain ⟨a2, m, cap2, rfl, hm, hrd⟩ := HV.out.rd
          have hw := wgtB_t HB1.out
          have hwa := wgtB_t HB0.out
          have hm1 : 0 < m := by rw [hm]; exact hw.1.1
          have hm9 : m ≤ 9 := by rw [hm]; exact hw.1.2
          have hn9 : n ≤ 9 := by rw [hn]; exact hwa.1.2
          obtain ⟨bb, oo, hix, hbb, hce⟩ := hrd.at (P := Try.prog) (T := 22) m cap2 uslice sone (get0 hw) hm1
          simp only [Int.natCast_zero] at hix
          rw [decide_eq_false hd]
          have hl : n < m := by omega
          obtain ⟨d, hdd⟩ : ∃ d, at0 b 0 = d := ⟨_, rfl⟩
          rw [hdd] at hce hz
          have ne1 : (d == 0) = false := by rw [beq_eq_false_iff_ne]; exact hz
          have ne3 : ¬ d = 0 := hz
          clear hn hm hrd hrd1 hw hwa hd hdd hz
          go_enter Try.func23, Try.ntmps23
          go_wp2_with fail
          refine (impl_IsWeights_is _ a _ _ HU.out HB0.out).mono ?_
          rintro e w' ⟨rfl, rfl⟩
          go_wp2_with fail
          refine (impl_IsWeights_is _ b _ _ HV.out HB1.out).mono ?_
          rintro e w' ⟨rfl, rfl⟩
          go_wp2_with fail
          go_ret2
          exact ⟨_, rfl, .inl ⟨rfl, rfl⟩, Below.refl _ _⟩


def dvB (a b : List Int) : Bool := (wgtB a && wgtB b) && (decide (at0 b 0 ≠ 0 ∧ b.length ≤ a.length) && dvOk a b)
theorem dvB_len {a b : List Int} (hb : dvB a b = true) : (dvQ a b).length ≤ 2000000 := by
  have h1 := (wgtB_t (and_t (and_t hb).1).1).1.2
  have h2 := awL_len (h := b) (a := dvA a b) (L := 1000) (N := dvP a b)
  unfold dvQ
  unfold dvP at *
  omega


set_option maxHeartbeats 1600000 in
theorem gen_FnExactDivideWeights (a : List Int) (b : List Int) (u_a : Option Addr) (l_a c_a : Nat) (u_b : Option Addr) (l_b c_b : Nat) (ys : List Int) (ok : Bool) (w : World) (hs_a : Sl w (.slice u_a l_a c_a) a) (ll_a : l_a ≤ 1048576) (hl_a : a.length ≤ 1048576) (hs_b : Sl w (.slice u_b l_b c_b) b) (ll_b : l_b ≤ 1048576) (hl_b : b.length ≤ 1048576) (hy : ys.length ≤ 2000000) (hspec : ∀ (w : World) (v_a : Value) (v_b : Value), Sl w v_a a → Sl w v_b b → Calls Try.prog 22 #[v_a, v_b] w (Gives w ys ok)) (himpl : ∀ (w : World) (v_a : Value) (v_b : Value), Sl w v_a a → Sl w v_b b → Calls Try.prog 23 #[v_a, v_b] w (Gives w ys ok)) :
    Calls Try.prog 7 #[.slice u_a l_a c_a, .slice u_b l_b c_b] w fun e w' => e = .returned (.bool true) ∧ Below w.heap.size w w' := by
  have HSa := hid hs_a
  clear hs_a
  have HSb := hid hs_b
  clear hs_b
  have HSP := hid hspec
  have HIM := hid himpl
  clear hspec himpl
  all_goals cases ok
  all_goals
    go_enter Try.func7, Try.ntmps7
    go_wp2_with fail
    refine (toIntS_any _ a _ HSa.out (by omega)).mono ?_
    rintro e w1 ⟨g_Aa0, hg_Aa0, rfl, K_Aa0, hb⟩
    have B1 := hb
    have hz1 : w.heap.size ≤ w1.heap.size := by first | exact hb.size | (have := hb.size; simp at this; omega)
    have Aa0 := K_Aa0.res hg_Aa0
    go_wp2_with fail
    refine (toIntS_any _ b _ (HSb.out.kept B1) (by omega)).mono ?_
    rintro e w2 ⟨g_Ab1, hg_Ab1, rfl, K_Ab1, hb⟩
    have B2 := bel_step B1 hb
    have hz2 : w1.heap.size ≤ w2.heap.size := hb.size
    have Aa0_2 := Aa0.kept hb
    have Ab1 := K_Ab1.res hg_Ab1
    go_wp2_with fail
    refine (HSP.out _ _ _ Aa0_2.sl Ab1.sl).mono ?_
    rintro e w3 ⟨v_R0, rfl, R0, hb⟩
    have B3 := bel_step B2 hb
    have hz3 : w2.heap.size ≤ w3.heap.size := hb.size
    have Aa0_3 := Aa0_2.kept hb
    have Ab1_3 := Ab1.kept hb
    have hlt0 : ∀ g, v_R0.ownBlock = some g → g < w3.heap.size := fun g hg => R0.lt hg
    have Hlt0 := hid hlt0
    clear hlt0
    go_wp2_with fail
    refine (toIntS_any _ a _ (HSa.out.kept B3) (by omega)).mono ?_
    rintro e w4 ⟨g_Xa, hg_Xa, rfl, K_Xa, hb⟩
    have B4 := bel_step B3 hb
    have hz4 : w3.heap.size ≤ w4.heap.size := hb.size
    have R0_4 := R0.kept hb
    have Xa := K_Xa.res hg_Xa
    have hlt_Xa := K_Xa.lt
    have hne_Xa : ∀ g, v_R0.ownBlock = some g → g ≠ g_Xa := fun g hg => by have a1 := Hlt0.out g hg; omega
    have Hne_Xa := hid hne_Xa
    clear hne_Xa
    go_wp2_with fail
    refine (toIntS_any _ b _ (HSb.out.kept B4) (by omega)).mono ?_
    rintro e w5 ⟨g_Xb, hg_Xb, rfl, K_Xb, hb⟩
    have B5 := bel_step B4 hb
    have hz5 : w4.heap.size ≤ w5.heap.size := hb.size
    have R0_5 := R0_4.kept hb
    have Xa_5 := Xa.kept hb
    have Xb := K_Xb.res hg_Xb
    have hlt_Xb := K_Xb.lt
    have hne_Xb : ∀ g, v_R0.ownBlock = some g → g ≠ g_Xb := fun g hg => by have a1 := Hlt0.out g hg; omega
    have Hne_Xb := hid hne_Xb
    clear hne_Xb
    have hxl_Xa : g_Xa < w5.heap.size := Xa_5.lt rfl
    have hxl_Xb : g_Xb < w5.heap.size := Xb.lt rfl
    go_wp2_with fail
    refine (HIM.out _ _ _ Xa_5.sl Xb.sl).mono ?_
    rintro e w6 ⟨v_R1, rfl, R1, hb⟩
    have B6 := bel_step B5 hb
    have hz6 : w5.heap.size ≤ w6.heap.size := hb.size
    have R0_6 := R0_5.kept hb
    have Xa_6 := Xa_5.kept hb
    have Xb_6 := Xb.kept hb
    have hne1_Xa : ∀ g, v_R1.ownBlock = some g → g ≠ g_Xa := fun g hg => by have a1 := R1.ge hg; omega
    have Hne1_Xa := hid hne1_Xa
    clear hne1_Xa
    have hne1_Xb : ∀ g, v_R1.ownBlock = some g → g ≠ g_Xb := fun g hg => by have a1 := R1.ge hg; omega
    have Hne1_Xb := hid hne1_Xb
    clear hne1_Xb
    have hne01 : ∀ g, v_R0.ownBlock = some g → v_R1.ownBlock ≠ some g := fun g hg e => by have a1 := R1.ge e; have a2 := Hlt0.out g hg; omega
    have Hne01 := hid hne01
    clear hne01
    have hge1 : ∀ g, v_R1.ownBlock = some g → w5.heap.size ≤ g := fun g hg => R1.ge hg
    have Hge1 := hid hge1
    clear hge1
    go_wp2_with fail
    refine (eqIntS_same _ _ ys _ R1.sl R0_6.sl hy).mono ?_
    rintro e w7 ⟨rfl, hb⟩
    have B7 := bel_step B6 hb
    have hz7 : w6.heap.size ≤ w7.heap.size := hb.size
    have R0_7 := R0_6.kept hb
    have Xa_7 := Xa_6.kept hb
    have Xb_7 := Xb_6.kept hb
    have R1_7 := R1.kept hb
    go_wp2_with fail
    refine (toIntS_any _ a _ (HSa.out.kept B7) (by omega)).mono ?_
    rintro e w8 ⟨g_TXa, hg_TXa, rfl, K_TXa, hb⟩
    have B8 := bel_step B7 hb
    have hz8 : w7.heap.size ≤ w8.heap.size := hb.size
    have R0_8 := R0_7.kept hb
    have Xa_8 := Xa_7.kept hb
    have Xb_8 := Xb_7.kept hb
    have R1_8 := R1_7.kept hb
    have TXa := K_TXa.res hg_TXa
    go_wp2_with fail
    refine (eqIntS_same _ _ a _ Xa_8.sl TXa.sl (by omega)).mono ?_
    rintro e w9 ⟨rfl, hb⟩
    have B9 := bel_step B8 hb
    have hz9 : w8.heap.size ≤ w9.heap.size := hb.size
    have R0_9 := R0_8.kept hb
    have Xa_9 := Xa_8.kept hb
    have Xb_9 := Xb_8.kept hb
    have R1_9 := R1_8.kept hb
    have TXa_9 := TXa.kept hb
    go_wp2_with fail
    refine (toIntS_any _ b _ (HSb.out.kept B9) (by omega)).mono ?_
    rintro e w10 ⟨g_TXb, hg_TXb, rfl, K_TXb, hb⟩
    have B10 := bel_step B9 hb
    have hz10 : w9.heap.size ≤ w10.heap.size := hb.size
    have R0_10 := R0_9.kept hb
    have Xa_10 := Xa_9.kept hb
    have Xb_10 := Xb_9.kept hb
    have R1_10 := R1_9.kept hb
    have TXb := K_TXb.res hg_TXb
    go_wp2_with fail
    refine (eqIntS_same _ _ b _ Xb_10.sl TXb.sl (by omega)).mono ?_
    rintro e w11 ⟨rfl, hb⟩
    have B11 := bel_step B10 hb
    have hz11 : w10.heap.size ≤ w11.heap.size := hb.size
    have R0_11 := R0_10.kept hb
    have Xa_11 := Xa_10.kept hb
    have Xb_11 := Xb_10.kept hb
    have R1_11 := R1_10.kept hb
    have TXb_11 := TXb.kept hb
    go_wp2_with fail
    refine (markIntS_one _ a _ _ Xa_11 (by omega)).mono ?_
    rintro e w12 ⟨rfl, ho, _⟩
    have B12 := B11.trans (ho.below fun g hg => by cases hg; exact Nat.le_trans B3.size hg_Xa)
    have hz12 : w11.heap.size ≤ w12.heap.size := Nat.le_of_eq ho.size.symm
    have R0_12 := R0_11.only ho fun g hg e => by cases e; exact Hne_Xa.out _ hg rfl
    have R1_12 := R1_11.only ho fun g hg e => by cases e; exact Hne1_Xa.out _ hg rfl
    have Xb_12 := Xb_11.only ho fun g hg e => by cases hg; cases e; omega
    go_wp2_with fail
    refine (markIntS_plus _ b a.length _ _ Xb_12 (by omega) (by omega)).mono ?_
    rintro e w13 ⟨rfl, ho, _⟩
    have B13 := B12.trans (ho.below fun g hg => by cases hg; exact Nat.le_trans B4.size hg_Xb)
    have hz13 : w12.heap.size ≤ w13.heap.size := Nat.le_of_eq ho.size.symm
    have R0_13 := R0_12.only ho fun g hg e => by cases e; exact Hne_Xb.out _ hg rfl
    have R1_13 := R1_12.only ho fun g hg e => by cases e; exact Hne1_Xb.out _ hg rfl
    go_wp2_with fail
    refine (eqIntS_same _ _ ys _ R1_13.sl R0_13.sl hy).mono ?_
    rintro e w14 ⟨rfl, hb⟩
    have B14 := bel_step B13 hb
    have hz14 : w13.heap.size ≤ w14.heap.size := hb.size
    have R0_14 := R0_13.kept hb
    have R1_14 := R1_13.kept hb
    go_wp2_with fail
    refine (markIntS_one _ ys _ _ R1_14 hy).mono ?_
    rintro e w15 ⟨rfl, ho, M⟩
    have B15 := B14.trans (ho.below fun g hg => Nat.le_trans B5.size (Hge1.out g hg))
    have hz15 : w14.heap.size ≤ w15.heap.size := Nat.le_of_eq ho.size.symm
    have R0_15 := R0_14.only ho Hne01.out
    go_wp2_with fail
    refine (heldIntS_one _ ys.length _ _ M hy).mono ?_
    rintro e w' ⟨rfl, rfl⟩
    go_wp2_with fail
    refine (toIntS_any _ a _ (HSa.out.kept B15) (by omega)).mono ?_
    rintro e w16 ⟨g_Aa15, hg_Aa15, rfl, K_Aa15, hb⟩
    have B16 := bel_step B15 hb
    have hz16 : w15.heap.size ≤ w16.heap.size := hb.size
    have R0_16 := R0_15.kept hb
    have M_16 := M.kept hb
    have Aa15 := K_Aa15.res hg_Aa15
    go_wp2_with fail
    refine (toIntS_any _ b _ (HSb.out.kept B16) (by omega)).mono ?_
    rintro e w17 ⟨g_Ab16, hg_Ab16, rfl, K_Ab16, hb⟩
    have B17 := bel_step B16 hb
    have hz17 : w16.heap.size ≤ w17.heap.size := hb.size
    have R0_17 := R0_16.kept hb
    have M_17 := M_16.kept hb
    have Aa15_17 := Aa15.kept hb
    have Ab16 := K_Ab16.res hg_Ab16
    go_wp2_with fail
    refine (HIM.out _ _ _ Aa15_17.sl Ab16.sl).mono ?_
    rintro e w18 ⟨v_R2, rfl, R2, hb⟩
    have B18 := bel_step B17 hb
    have hz18 : w17.heap.size ≤ w18.heap.size := hb.size
    have R0_18 := R0_17.kept hb
    have M_18 := M_17.kept hb
    have Aa15_18 := Aa15_17.kept hb
    have Ab16_18 := Ab16.kept hb
    go_wp2_with fail
    refine (eqIntS_same _ _ ys _ R2.sl R0_18.sl hy).mono ?_
    rintro e w19 ⟨rfl, hb⟩
    have B19 := bel_step B18 hb
    have hz19 : w18.heap.size ≤ w19.heap.size := hb.size
    have R0_19 := R0_18.kept hb
    have M_19 := M_18.kept hb
    have R2_19 := R2.kept hb
    go_wp2_with fail
    refine (heldIntS_one _ ys.length _ _ M_19 hy).mono ?_
    rintro e w' ⟨rfl, rfl⟩
    go_wp2_with fail
    go_ret
    exact ⟨rfl, B19⟩


set_option maxHeartbeats 1600000 in
theorem walk_FnExactDivideWeights (w : World) (u_a : Option Addr) (l_a c_a : Nat) (z_a : List Int) (hr_a : IsRow .i64 w u_a l_a c_a z_a) (u_b : Option Addr) (l_b c_b : Nat) (z_b : List Int) (hr_b : IsRow .i64 w u_b l_b c_b z_b) :
    Calls Try.prog 7 #[.slice u_a l_a c_a, .slice u_b l_b c_b] w fun e w' => e = .returned (.bool true) ∧ Below w.heap.size w w' := by
  obtain ⟨hs_a, hlen_a, hin_a⟩ := hr_a.sl
  generalize z_a.take l_a = a at hs_a hlen_a hin_a
  clear hr_a
  obtain ⟨hs_b, hlen_b, hin_b⟩ := hr_b.sl
  generalize z_b.take l_b = b at hs_b hlen_b hin_b
  clear hr_b
  by_cases hbig_a : 1048576 < l_a
  · clear hs_a hlen_a hin_a hs_b hlen_b hin_b
    go_enter Try.func7, Try.ntmps7
    go_wp2
    go_ret
    exact ⟨rfl, Below.refl _ _⟩
  · have hq_a : l_a ≤ 1048576 := by omega
    by_cases hbig_b : 1048576 < l_b
    · clear hs_b hlen_b hin_b
      go_enter Try.func7, Try.ntmps7
      go_wp2
      go_ret
      exact ⟨rfl, Below.refl _ _⟩
    · have hq_b : l_b ≤ 1048576 := by omega
      exact gen_FnExactDivideWeights a b _ _ _ _ _ _ (onB (dvB a b) (dvQ a b) []) (dvB a b) w hs_a (by omega) (by omega) hs_b (by omega) (by omega) (onB_len dvB_len) (fun w v_a v_b h_a h_b => spec_DivideWeights_any v_a v_b a b w h_a h_b) (fun w v_a v_b h_a h_b => impl_DivideWeights_any v_a v_b a b w h_a h_b)

end Go.Proofs.Ytgkjncgaecfbgab
