
import Derived.Test.YtkpfcaipbhfgkaaPw
import Derived.Test.YtkpfcaipbhfgkaaAw
namespace Go.Proofs.Ytkpfcaipbhfgkaa
open Go.RowKit BitX Go.MemX
set_option linter.unusedVariables false


theorem wgt_zero {h : List Int} (hw : WgtP h) : -1000 ≤ at0 h 0 ∧ at0 h 0 ≤ 1000 := at0_in hw.2 (by omega) (by omega) 0
theorem get0 {h : List Int} (hw : WgtP h) : h[0]? = some (at0 h 0) := by
  cases h with
  | nil => have := hw.1.1; simp at this
  | cons x xs => rfl


theorem _root_.Go.Proofs.Ytkpfcaipbhfgkaa.InP.wide2 {lo hi lo2 hi2 : Int} {xs : List Int} (h : InP lo hi xs) (h1 : lo2 ≤ lo) (h2 : hi ≤ hi2) : InP lo2 hi2 xs := fun x hx => by have := h x hx; omega


set_option maxHeartbeats 3200000 in
theorem answered_in (u v : Value) (h s : List Int) (L : Int) (w : World) (hu : Sl w u h) (hv : Sl w v s) (hw : WgtP h) (hd0 : at0 h 0 ≠ 0) (hl : s.length ≤ 64) (hs : InP (-100000) 100000 s) (hL0 : 0 ≤ L) (hL1 : L ≤ 100000) :
    Calls Try.prog 41 #[u, v, .int .i64 L] w (Gives w (awL h s L s.length) (awOk h s L s.length)) := by
  obtain ⟨a, n, cap, rfl, hn, hrd⟩ := hu.rd
  obtain ⟨a2, m, cap2, rfl, hm, hrd2⟩ := hv.rd
  have HU := hid hu
  have HW := hid hw
  have Hn := hid hn
  have Hm := hid hm
  have Hrd := hid hrd
  have Hrd2 := hid hrd2
  have Hj := hid hs
  have hn1 : 1 ≤ n := by rw [hn]; exact hw.1.1
  have hn9 : n ≤ 9 := by rw [hn]; exact hw.1.2
  have hm64 : m ≤ 64 := by omega
  have Hg0 := hid (get0 hw)
  obtain ⟨d1, d2⟩ := wgt_zero hw
  have hLm : m = s.length := hm
  have HL2 := hid (show (0 : Int) ≤ L ∧ L ≤ 100000 from ⟨hL0, hL1⟩)
  obtain ⟨d, hd⟩ : ∃ d, at0 h 0 = d := ⟨_, rfl⟩
  rw [hd] at hd0 d1 d2
  have Hd := hid hd
  have hdz : (d == 0) = false := by rw [beq_eq_false_iff_ne]; exact hd0
  rw [← hm]
  have hmk := run_make_ints (P := Try.prog) 31 3 uslice iint m (by omega)
  clear hu hv hw hs hn hm hrd hrd2 hl hLm hd
  go_enter Try.func41, Try.ntmps41
  go_wp2_with fail
  refine (exactFilter_v _ _ _ _).mono ?_
  rintro e w1 ⟨rfl, rfl⟩
  have B1 := bel_alloc w (.cells #[.slice a n cap] 31)
  have hcl : (w.alloc (.cells #[.slice a n cap] 31)).cell? ⟨w.heap.size, 0, none⟩ = some (.slice a n cap) := by rw [World.cell?_alloc_at _ _ _ _ rfl]; rfl
  have Hcl := hid hcl
  clear hcl
  generalize hw1 : w.alloc (.cells #[.slice a n cap] 31) = w1 at *
  have hs1 : w.heap.size < w1.heap.size := by rw [← hw1]; simp
  clear hw1
  go_wp2
  go_loopw [21] (fun i wr => ∃ (k : Nat) (q : List Int), k ≤ m ∧ i = .int .i64 k ∧ Hid (awS h s L k = some q) ∧ Blk 3 wr w1.heap.size (tab m (at0 q)) ∧ Below w1.heap.size w1 wr)
    (fun i _ => m - (intOf i).toNat)
  case atStart => exact ⟨0, [], by omega, rfl, rfl, by rw [cur_zero]; exact heap_alloc_new _ _, bel_alloc _ _⟩
  case round =>
    obtain ⟨k, q, hk, rfl, HQ, hblk, hb⟩ := hrel
    have hbw : Below w.heap.size w wr := bel_step B1 hb
    by_cases hlk : k < m
    · obtain ⟨y, hky⟩ := get_lt s k (by rw [← Hm.out]; exact hlk)
      obtain ⟨bb, oo, hix, hbb, hce⟩ := (Hrd2.out.kept hbw).at (P := Try.prog) (T := 31) m cap2 uslice sone hky hlk
      obtain ⟨y1, y2⟩ := Hj.out.at hky
      have hq := awS_in HQ.out
      have hql := hq.1
      have hqi := hq.2
      have hcu : InP (-100000) 100000 (tab m (at0 q)) := (cur_in hqi HL2.out.1).wide2 (by have := HL2.out.2; omega) (by have := HL2.out.2; omega)
      have hsl : Sl wr (.slice (some ⟨w1.heap.size, 0, none⟩) m m) (tab m (at0 q)) := by have := hblk.sl; rwa [tab_len] at this
      have hfil := exact_fil (gh := w.heap.size) (hv := .slice a n cap) (h := h) (s := tab m (at0 q)) (w := wr) (by rw [hb.cell (by exact hs1)]; exact Hcl.out) (HU.out.kept hbw) HW.out hcu
      rw [← Hn.out] at hfil
      have hcb := conv_bound h (tab m (at0 q)) k HW.out.1.2 HW.out.2 hcu
      rw [conv_cur h q m k hlk] at hcb
      have hfk := fun (W : World) (v : Value) => hfil W k v (by rw [tab_len]; exact hlk)
      rw [conv_cur h q m k hlk] at hfk
      have hno := awS_no HQ.out
      have hye := awS_yes HQ.out
      rw [Hd.out, show at0 s k = y from at0_of hky] at hno hye
      generalize hc : conv h q k = c at *
      obtain ⟨c1, c2⟩ := hcb
      obtain ⟨r, hr⟩ : ∃ r, y - c = r := ⟨_, rfl⟩
      rw [hr] at hno hye
      have r1 : -900100000 ≤ r := by omega
      have r2 : r ≤ 900100000 := by omega
      have hx := tdiv_small (d := d) r1 r2
      obtain ⟨x, hxe⟩ : ∃ x, r.tdiv d = x := ⟨_, rfl⟩
      rw [hxe] at hno hye hx
      obtain ⟨x1, x2⟩ := hx
      have hp := mul_in x1 x2 d1 d2 (by omega)
      have p1 : -900100000000 ≤ x * d := by omega
      have p2 : x * d ≤ 900100000000 := by omega
      have hset := cur_set (q := q) m x hql
      have hcd : wr.cell? ⟨w1.heap.size, k, none⟩ = some (.int .i64 0) := hblk.cell (cur_get hql hlk)
      have Hblk := hid hblk
      have Hsl := hid hsl
      have Hfk := hid hfk
      have Hno := hid hno
      have Hye := hid hye
      have Hset := hid hset
      have hkl : k < (tab m (at0 q)).length := by rw [tab_len]; exact hlk
      have Hkl := hid hkl
      have hlen : (tab m (at0 q)).length ≤ 2000000 := by rw [tab_len]; omega
      have Hlen := hid hlen
      have Hr := hid hr
      have Hxe := hid hxe
      clear hblk hsl hfil hfk hno hye hset hcu hq hql hqi hky hp hc hkl hlen hr hxe hcd
      go_wp2_with fail
      refine (reached_any _ (tab m (at0 q)) k n _ Hsl.out Hkl.out Hlen.out hn1 (by omega)).mono ?_
      rintro e w' ⟨v, rfl, hv, rfl⟩
      have Hv := hid hv
      clear hv
      go_wp2_with fail
      refine (Hfk.out _ v (Below.refl _ _) Hv.out).mono ?_
      rintro e w2 ⟨rfl, hb2⟩
      have hb3 := bel_step hb hb2
      have hbw3 : Below w.heap.size w w2 := bel_step B1 hb3
      obtain ⟨b3, o3, hix3, hbb3, hce3⟩ := (Hrd.out.kept hbw3).at (P := Try.prog) (T := 31) n cap uslice sone Hg0.out (by omega)
      rw [Hd.out] at hce3
      simp only [Int.natCast_zero] at hix3
      have hblk2 := Hblk.out.kept hb2 Hblk.out.lt
      have hcd : w2.cell? ⟨w1.heap.size, k, none⟩ = some (.int .i64 0) := hblk2.cell (cur_get ((awS_in HQ.out).1) hlk)
      have hfd := hblk2.free k
      have Hblk2 := hid hblk2
      clear hblk2
      have hr := Hr.out
      have hxe := Hxe.out
      by_cases hc1 : x * d = r
      · by_cases hc2 : absI x ≤ L
        · have Hnx := hid (Hye.out hc1 hc2)
          have hxL := hid hc2
          go_wp2_with fail
          refine (sizeOf_any _ _ (by omega) (by omega)).mono ?_
          rintro e w' ⟨rfl, rfl⟩
          go_wp2
          go_roundw
          case rel => exact ⟨k + 1, q ++ [x], by omega, by go_num, Hnx, by rw [← Hset.out]; exact Hblk2.out.set k _, hb3.setCell (by simp) _⟩
          case measure => simp [intOf]; omega
        · have Hnx := hid (awOk_f (Hno.out (fun a => hc2 a.2) m (by omega)))
          have hc3 : L < absI x := by omega
          clear hc2
          go_wp2_with fail
          refine (sizeOf_any _ _ (by omega) (by omega)).mono ?_
          rintro e w' ⟨rfl, rfl⟩
          go_wp2
          go_ret2
          exact gives_of Hnx.out.1 Hnx.out.2 ⟨_, rfl, .inl ⟨rfl, rfl⟩, hbw3⟩
      · have Hnx := hid (awOk_f (Hno.out (fun a => hc1 a.1) m (by omega)))
        have hne1 : (x * d == r) = false := by rw [beq_eq_false_iff_ne]; exact hc1
        have hne2 : (x * d != r) = true := by rw [bne_iff_ne]; exact hc1
        clear hc1
        go_wp2
        go_ret2
        exact gives_of Hnx.out.1 Hnx.out.2 ⟨_, rfl, .inl ⟨rfl, rfl⟩, hbw3⟩
    · have hge : (m : Int) ≤ (k : Int) := by omega
      have hkm : k = m := by omega
      have hqm : awS h s L m = some q := hkm ▸ HQ.out
      have Hres := hid (awOk_t hqm)
      have hcf := cur_full (awS_in hqm).1
      rw [hcf] at hblk
      have hres := hblk.res (Nat.le_refl _)
      rw [(awS_in hqm).1] at hres
      have HR := hid (hres.mono B1.size)
      clear hlk hkm hqm hcf hblk hres
      go_wp2
      go_ret2
      exact gives_of Hres.out.1 Hres.out.2 ⟨_, rfl, HR.out, hbw⟩

end Go.Proofs.Ytkpfcaipbhfgkaa
