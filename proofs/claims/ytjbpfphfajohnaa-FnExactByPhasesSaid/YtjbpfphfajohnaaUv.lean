
import Derived.Test.YtjbpfphfajohnaaUr
import Derived.Test.YtjbpfphfajohnaaUf
import Derived.Test.YtjbpfphfajohnaaUj
import Derived.Deep.RegionHeld3
import Derived.Laws.EntriesVeiled
namespace Go.Proofs.Ytjbpfphfajohnaa
open Go.RowKit BitX Go.MemX Go.Ch6 Go.Ch8
set_option linter.unusedVariables false
def bpL (h s : List Int) (p q : Nat) : List Int := tab (lenN s.length p q) (bpF h s p q)
def bpO (h s : List Int) (p q : Int) : Bool := uaB h s p q && sigB (bpL h s p.toNat q.toNat)
theorem bp_n {h s : List Int} {p q : Int} (e : uaB h s p q = false) : bpO h s p q = false := and_n1 e
theorem bp_y {h s : List Int} {p q : Int} (e : uaB h s p q = true) : bpO h s p q = sigB (bpL h s p.toNat q.toNat) := by unfold bpO; rw [e]; rfl
theorem bpO_len {h s : List Int} {p q : Int} : (onL (bpO h s p q) (bpL h s p.toNat q.toNat)).length ≤ 2000000 := onL_len fun e => by
  unfold bpO at e
  rw [Bool.and_eq_true] at e
  have := (sigB_t e.2).1; omega
theorem gives_eqb {w w' : World} {ys : List Int} {b c : Bool} {e : Ending} (h : b = c) (hg : Gives w (onL c ys) c e w') : Gives w (onL b ys) b e w' := by subst h; exact hg


set_option maxHeartbeats 400000 in
theorem reached_zero (v : Value) (s : List Int) (n : Nat) (w : World) (hs : Sl w v s) (hn : n < s.length) (hls : s.length ≤ 2000000) :
    Calls Try.prog 33 #[v, .int .i64 (n : Int), .int .i64 0] w (GivesSl w (win s n 0)) := by
  rcases hs with ⟨rfl, _⟩ | ⟨b, off, l, cap, rfl, hl, h0, hc, hlt, hx⟩
  · simp at hn
  have hnl : n < l := by omega
  have hl6 : l ≤ 2000000 := by omega
  have hw : win s n 0 = [] := by unfold win; simp
  have Hw := hid hw
  have f4 : ((n : Int) + 1).toNat = n + 1 := by omega
  clear hw hx hlt hl hn hls
  go_enter Try.func33, Try.ntmps33
  go_wp2
  go_ret
  exact ⟨_, rfl, by rw [Hw.out]; exact .inl ⟨rfl, _, _, by simp; exact ⟨rfl, rfl⟩⟩, rfl⟩
theorem reached8_any (v : Value) (s : List Int) (n m : Nat) (w : World) (hs : Sl w v s) (hn : n < s.length) (hls : s.length ≤ 2000000) (hm9 : m ≤ 64) :
    Calls Try.prog 33 #[v, .int .i64 (n : Int), .int .i64 (m : Int)] w (GivesSl w (win s n m)) := by
  by_cases h0 : m = 0
  · subst h0; exact reached_zero v s n w hs hn hls
  · exact reached_any v s n m w hs hn hls (by omega) hm9
theorem Sl_form {w : World} {v : Value} {xs : List Int} (h : Sl w v xs) : ∃ a n c, v = .slice a n c := by
  obtain ⟨a, n, c, h1, _⟩ := h.rd; exact ⟨a, n, c, h1⟩


set_option maxHeartbeats 1000000 in
theorem phaseC_any (gp gs g z r : Nat) (P : Nat) (vs : List Value) (v : Value) (h s : List Int) (w : World) (hcp : w.cell? ⟨gp, 0, none⟩ = some (.slice (some ⟨g, 0, none⟩) P P)) (hcs : w.cell? ⟨gs, 0, none⟩ = some v) (hph : PhS 22 (fun W u xs => Res 3 (g + 1) W u xs) g w vs (phL h P)) (hs : Sl w v s) (hw : WgtP h) (hg : SigP s) (P1 : 1 ≤ P) (hz : z < s.length) (hr : r < P) :
    Calls Try.prog 32 #[.int .i64 (z : Int), .int .i64 (r : Int), .pointer (some ⟨gp, 0, none⟩), .pointer (some ⟨gs, 0, none⟩)] w fun e w' => e = .returned (.int .i64 (conv (dropL P r h) s z)) ∧ Below w.heap.size w w' := by
  have hix0 := ixO g P r hr
  obtain ⟨f, hf⟩ := hph.get (i := r) (by rw [phL_len]; exact hr)
  have hce0 := hph.cell hf
  have hsl := (hph.each r f _ hf (phL_at hr)).sl
  have hfl : (dropL P r h).length ≤ 9 := Nat.le_trans (dropL_le _ _ _ P1) hw.1.2
  have hfi : InP (-1000) 1000 (dropL P r h) := drop_in P1 hw.2
  generalize dropL P r h = ds at *
  obtain ⟨a5, n5, c5, rfl, hn5, hrd5⟩ := hsl.rd
  have Hsl := hid hsl
  have Hn5 := hid hn5
  have Hfl := hid hfl
  have Hfi := hid hfi
  obtain ⟨a2, n2, c2, rfl, hx1, hx2⟩ := hs.rd
  have HS := hid hs
  have HG := hid hg
  have Hz := hid hz
  have hn9 : n5 ≤ 64 := by omega
  have hS : w.drew.cell? ⟨gs, 0, none⟩ = some (.slice a2 n2 c2) := hcs
  have hgs : gs < w.heap.size := block_lt_of_cell hcs
  have Hcs := hid hcs
  have eg := enterEx
  clear hph hf hsl hfl hfi hn5 hrd5 hs hw hg hz hx1 hx2 hcs
  go_enter Try.func32, Try.ntmps32
  go_wp2_with fail
  go_region_held3 (fun W => W.cell? ⟨gs, 0, none⟩ = some (.slice a2 n2 c2)) (first | exact hS | assumption | go_keep) (first | (go_at_call 25; refine (exactFilter_v _ _ _ _).mono ?_; rintro e w2 ⟨rfl, hw2⟩; have hb2 : Below w.heap.size w w2 := (by rw [← hw2]; exact bel_undrew (bel_alloc _ _)); have hS : w2.cell? ⟨gs, 0, none⟩ = some (.slice a2 n2 c2) := (by rw [hb2.cell (by exact hgs)]; exact Hcs.out); have hck : w2.cell? ⟨w.heap.size, 0, none⟩ = some (.slice a5 n5 c5) := (by rw [← hw2]; exact (Var1.new w.drew _ _).cell)) | (go_at_call 33; refine (reached8_any _ s z n5 _ (HS.out.kept hb2) Hz.out (Nat.le_trans HG.out.1 (by omega)) hn9).mono ?_; rintro e w' ⟨vr, rfl, hv, rfl⟩; have Hv := hid hv; obtain ⟨a7, n7, c7, rfl⟩ := Sl_form hv; clear hv) | (go_at_call 44; refine (exact_clo w.heap.size _ _ ds (win s z n5) _ hck (Hsl.out.kept hb2) Hv.out (by rw [win_len _ _ _ Hz.out]; have := Hn5.out; omega) Hfl.out Hfi.out (fun x hx => HG.out.2 x (by unfold win at hx; exact List.mem_of_mem_take (List.mem_of_mem_drop hx)))).mono ?_; rintro e w3 ⟨rfl, hb3⟩; have hB := bel_step hb2 hb3; have hS : w3.cell? ⟨gs, 0, none⟩ = some (.slice a2 n2 c2) := (by rw [hB.cell (by exact hgs)]; exact Hcs.out)))
  all_goals go_wp2
  all_goals go_ret
  all_goals exact ⟨ret_i (by rw [Hn5.out]; exact filt_win ds s z Hz.out), hB⟩


theorem enterBP : Go.Proofs.Enters Try.prog 32 := enters_of Try.func32 (by kernel_rfl) rfl


set_option maxHeartbeats 1000000 in
theorem impl_ByPhases_any (u v : Value) (h s : List Int) (p q : Int) (w : World) (hu : Sl w u h) (hs : Sl w v s) :
    Calls Try.prog 18 #[u, v, .int .i64 p, .int .i64 q] w (Gives w (onL (bpO h s p q) (bpL h s p.toNat q.toNat)) (bpO h s p q)) := by
  have HU := hid hu
  have HS := hid hs
  clear hu hs
  obtain ⟨a, n, cap, rfl, hx1, hx2⟩ := HS.out.rd
  have Hn := hid hx1
  clear hx1 hx2
  obtain ⟨a2, n2, cap2, rfl, hx1, hx2⟩ := HU.out.rd
  have Hn2 := hid hx1
  clear hx1 hx2
  have hmf : ∀ (fn : Fn) (first cap : Array Value) (w : World), (Instr.makeFunc fn first cap).run Try.prog w = .ok (.func fn first cap) w := fun _ _ _ _ => rfl
  cases h0 : sigB s
  · have HB0 := hid h0
    clear h0
    go_enter Try.func18, Try.ntmps18
    go_wp2_with fail
    refine (impl_IsSignal_is _ s false _ (HS.out.kept (bel_alloc _ _)) HB0.out).mono ?_
    rintro e w' ⟨rfl, rfl⟩
    go_wp2_with fail
    go_ret2
    exact gives_no (bp_n (and_n1 HB0.out)) (bel_alloc _ _)
  · have HB0 := hid h0
    clear h0
    cases h1 : cfB h (n : Int) p q
    · have HB1 := hid h1
      clear h1
      go_enter Try.func18, Try.ntmps18
      go_wp2_with fail
      refine (impl_IsSignal_is _ s true _ (HS.out.kept (bel_alloc _ _)) HB0.out).mono ?_
      rintro e w' ⟨rfl, rfl⟩
      go_wp2_with fail
      refine (canFilterUp_is _ h _ _ _ false _ (HU.out.kept (bel_alloc _ _)) HB1.out).mono ?_
      rintro e w' ⟨rfl, rfl⟩
      go_wp2_with fail
      go_ret2
      exact gives_no (bp_n (ua_of Hn.out HB0.out HB1.out)) (bel_alloc _ _)
    · have HB1 := hid h1
      clear h1
      have HUA := hid (ua_of Hn.out HB0.out HB1.out)
      obtain ⟨HW0, HG0, hpq, hnp⟩ := ua_t HUA.out
      obtain ⟨p1, p8, q1, q8⟩ : 1 ≤ p ∧ p ≤ 8 ∧ 1 ≤ q ∧ q ≤ 8 := by omega
      obtain ⟨P, rfl⟩ : ∃ P : Nat, p = P := ⟨p.toNat, by omega⟩
      obtain ⟨Q, rfl⟩ : ∃ Q : Nat, q = Q := ⟨q.toNat, by omega⟩
      have P1 : 1 ≤ P := by omega
      have P8 : P ≤ 8 := by omega
      have Q1 : 1 ≤ Q := by omega
      have Q8 : Q ≤ 8 := by omega
      have HW := hid HW0
      have HG := hid HG0
      have HNP := hid (show s.length * P ≤ 64 from by exact_mod_cast hnp)
      clear HW0 HG0 hpq hnp p1 p8 q1 q8
      have hn64 : n ≤ 64 := by rw [Hn.out]; exact HG.out.1
      go_enter Try.func18, Try.ntmps18
      go_wp2_with fail
      refine (impl_IsSignal_is _ s true _ (HS.out.kept (bel_alloc _ _)) HB0.out).mono ?_
      rintro e w' ⟨rfl, rfl⟩
      go_wp2_with fail
      refine (canFilterUp_is _ h _ _ _ true _ (HU.out.kept (bel_alloc _ _)) HB1.out).mono ?_
      rintro e w' ⟨rfl, rfl⟩
      go_wp2_with fail
      refine (phasesOf_any _ h P _ (HU.out.kept (bel_alloc _ _)) (Nat.le_trans HW.out.1.2 (by omega)) P1 P8).mono ?_
      rintro e w2 ⟨g, vs, rfl, R, hg, hb2⟩
      have hvl : vs.length = P := by rw [R.len, phL_len]
      rw [hvl]
      have hv1 := (Var1.new w (.slice a n cap) 22).kept hb2 (Var1.new w _ _).lt
      have hc1 := hv1.cell
      have B2 := bel_step (bel_alloc w (.cells #[.slice a n cap] 22)) hb2
      have hv2 := Var1.new w2 (.slice (some ⟨g, 0, none⟩) P P) 43
      have B3 := bel_step B2 (bel_alloc w2 (.cells #[.slice (some ⟨g, 0, none⟩) P P] 43))
      have hv3 := hv1.kept (bel_alloc w2 (.cells #[.slice (some ⟨g, 0, none⟩) P P] 43)) hv1.lt
      have hph := R.keptR (bel_alloc w2 (.cells #[.slice (some ⟨g, 0, none⟩) P P] 43))
      have HMd := hid (show Made2 Try.prog 32 #[.pointer (some ⟨w2.heap.size, 0, none⟩), .pointer (some ⟨w.heap.size, 0, none⟩)] n P Q (bpF h s P Q) (w2.alloc (.cells #[.slice (some ⟨g, 0, none⟩) P P] 43)) from fun V k hk hV => phaseC_any w2.heap.size w.heap.size g _ _ P vs _ h s V ((hv2.kept hV hv2.lt).cell) ((hv3.kept hV hv3.lt).cell) (hph.keptR hV) ((HS.out.kept B3).kept hV) HW.out HG.out P1 (by rw [← Hn.out]; exact src_lt P1 Q1 hk) (Nat.mod_lt _ P1))
      have HB3 := hid B3
      have hc3 := hv3.cell
      have hlt3 : w.heap.size < w2.heap.size := hv1.lt
      clear R hg hb2 hvl hv1 B2 hv2 B3 hv3 hph
      go_wp2_with fail
      refine (resampled_any 32 _ enterBP n P Q (bpF h s P Q) _ hn64 P1 P8 Q1 Q8 HMd.out).mono ?_
      intro e w4 hG
      have hG2 := gives_trans HB3.out hG
      clear hG
      rw [Hn.out] at hG2
      obtain ⟨v4, rfl, R4, hb4⟩ := gives_eqb (bp_y HUA.out) hG2
      clear hG2
      go_wp2_with fail
      go_ret2
      exact ⟨v4, rfl, R4, hb4⟩


set_option maxHeartbeats 1000000 in
theorem spec_ByPhases_any (u v : Value) (h s : List Int) (p q : Int) (w : World) (hu : Sl w u h) (hs : Sl w v s) :
    Calls Try.prog 17 #[u, v, .int .i64 p, .int .i64 q] w (Gives w (onL (bpO h s p q) (bpL h s p.toNat q.toNat)) (bpO h s p q)) := by
  have HU := hid hu
  have HS := hid hs
  clear hu hs
  obtain ⟨a, n, cap, rfl, hx1, hx2⟩ := HS.out.rd
  have Hn := hid hx1
  clear hx1 hx2
  obtain ⟨a2, n2, cap2, rfl, hx1, hx2⟩ := HU.out.rd
  have Hn2 := hid hx1
  clear hx1 hx2
  cases h0 : uaB h s p q
  · have HB0 := hid h0
    clear h0
    go_enter Try.func17, Try.ntmps17
    go_wp2_with fail
    refine (rsAsked_is _ _ h s _ _ false _ HU.out HS.out HB0.out).mono ?_
    rintro e w' ⟨rfl, rfl⟩
    go_wp2_with fail
    go_ret2
    exact gives_no (bp_n HB0.out) (Below.refl _ _)
  · have HB0 := hid h0
    clear h0
    obtain ⟨HW0, HG0, hpq, hnp⟩ := ua_t HB0.out
    obtain ⟨p1, p8, q1, q8⟩ : 1 ≤ p ∧ p ≤ 8 ∧ 1 ≤ q ∧ q ≤ 8 := by omega
    obtain ⟨P, rfl⟩ : ∃ P : Nat, p = P := ⟨p.toNat, by omega⟩
    obtain ⟨Q, rfl⟩ : ∃ Q : Nat, q = Q := ⟨q.toNat, by omega⟩
    have P1 : 1 ≤ P := by omega
    have P8 : P ≤ 8 := by omega
    have Q1 : 1 ≤ Q := by omega
    have Q8 : Q ≤ 8 := by omega
    have HW := hid HW0
    have HG := hid HG0
    have HNP := hid (show s.length * P ≤ 64 from by exact_mod_cast hnp)
    clear HW0 HG0 hpq hnp p1 p8 q1 q8
    go_enter Try.func17, Try.ntmps17
    go_wp2_with fail
    refine (rsAsked_is _ _ h s _ _ true _ HU.out HS.out HB0.out).mono ?_
    rintro e w' ⟨rfl, rfl⟩
    go_wp2_with fail
    refine (rsByPhases_any _ _ h s P Q _ HU.out HS.out HW.out HG.out.1 HG.out.2 P1 P8 Q1 Q8).mono ?_
    rintro e w1 ⟨v1, rfl, R, B1⟩
    have HR := hid R
    clear R
    go_wp2_with fail
    refine (wdIf_is _ _ (sigB (bpL h s P Q)) _ HR.out.sl rfl).mono ?_
    rintro e w' ⟨rfl, rfl⟩
    go_wp2_with fail
    go_ret2
    exact gives_if (bp_y HB0.out) HR.out B1


set_option maxHeartbeats 1600000 in
theorem gen_FnExactByPhases (h : List Int) (s : List Int) (p : Int) (q : Int) (u_h : Option Addr) (l_h c_h : Nat) (u_s : Option Addr) (l_s c_s : Nat) (ys : List Int) (ok : Bool) (w : World) (hs_h : Sl w (.slice u_h l_h c_h) h) (ll_h : l_h ≤ 1048576) (hl_h : h.length ≤ 1048576) (hs_s : Sl w (.slice u_s l_s c_s) s) (ll_s : l_s ≤ 1048576) (hl_s : s.length ≤ 1048576) (hy : ys.length ≤ 2000000) (hspec : ∀ (w : World) (v_h : Value) (v_s : Value), Sl w v_h h → Sl w v_s s → Calls Try.prog 17 #[v_h, v_s, .int .i64 p, .int .i64 q] w (Gives w ys ok)) (himpl : ∀ (w : World) (v_h : Value) (v_s : Value), Sl w v_h h → Sl w v_s s → Calls Try.prog 18 #[v_h, v_s, .int .i64 p, .int .i64 q] w (Gives w ys ok)) :
    Calls Try.prog 6 #[.slice u_h l_h c_h, .slice u_s l_s c_s, .int .i64 p, .int .i64 q] w fun e w' => e = .returned (.bool true) ∧ Below w.heap.size w w' := by
  have HSh := hid hs_h
  clear hs_h
  have HSs := hid hs_s
  clear hs_s
  have HSP := hid hspec
  have HIM := hid himpl
  clear hspec himpl
  all_goals cases ok
  all_goals
    go_enter Try.func6, Try.ntmps6
    go_wp2_with fail
    refine (toIntS_any _ h _ HSh.out (by omega)).mono ?_
    rintro e w1 ⟨g_Ah0, hg_Ah0, rfl, K_Ah0, hb⟩
    have B1 := hb
    have hz1 : w.heap.size ≤ w1.heap.size := by first | exact hb.size | (have := hb.size; simp at this; omega)
    have Ah0 := K_Ah0.res hg_Ah0
    go_wp2_with fail
    refine (toIntS_any _ s _ (HSs.out.kept B1) (by omega)).mono ?_
    rintro e w2 ⟨g_As1, hg_As1, rfl, K_As1, hb⟩
    have B2 := bel_step B1 hb
    have hz2 : w1.heap.size ≤ w2.heap.size := hb.size
    have Ah0_2 := Ah0.kept hb
    have As1 := K_As1.res hg_As1
    go_wp2_with fail
    refine (HSP.out _ _ _ Ah0_2.sl As1.sl).mono ?_
    rintro e w3 ⟨v_R0, rfl, R0, hb⟩
    have B3 := bel_step B2 hb
    have hz3 : w2.heap.size ≤ w3.heap.size := hb.size
    have Ah0_3 := Ah0_2.kept hb
    have As1_3 := As1.kept hb
    have hlt0 : ∀ g, v_R0.ownBlock = some g → g < w3.heap.size := fun g hg => R0.lt hg
    have Hlt0 := hid hlt0
    clear hlt0
    go_wp2_with fail
    refine (toIntS_any _ h _ (HSh.out.kept B3) (by omega)).mono ?_
    rintro e w4 ⟨g_Xh, hg_Xh, rfl, K_Xh, hb⟩
    have B4 := bel_step B3 hb
    have hz4 : w3.heap.size ≤ w4.heap.size := hb.size
    have R0_4 := R0.kept hb
    have Xh := K_Xh.res hg_Xh
    have hlt_Xh := K_Xh.lt
    have hne_Xh : ∀ g, v_R0.ownBlock = some g → g ≠ g_Xh := fun g hg => by have a1 := Hlt0.out g hg; omega
    have Hne_Xh := hid hne_Xh
    clear hne_Xh
    go_wp2_with fail
    refine (toIntS_any _ s _ (HSs.out.kept B4) (by omega)).mono ?_
    rintro e w5 ⟨g_Xs, hg_Xs, rfl, K_Xs, hb⟩
    have B5 := bel_step B4 hb
    have hz5 : w4.heap.size ≤ w5.heap.size := hb.size
    have R0_5 := R0_4.kept hb
    have Xh_5 := Xh.kept hb
    have Xs := K_Xs.res hg_Xs
    have hlt_Xs := K_Xs.lt
    have hne_Xs : ∀ g, v_R0.ownBlock = some g → g ≠ g_Xs := fun g hg => by have a1 := Hlt0.out g hg; omega
    have Hne_Xs := hid hne_Xs
    clear hne_Xs
    have hxl_Xh : g_Xh < w5.heap.size := Xh_5.lt rfl
    have hxl_Xs : g_Xs < w5.heap.size := Xs.lt rfl
    go_wp2_with fail
    refine (HIM.out _ _ _ Xh_5.sl Xs.sl).mono ?_
    rintro e w6 ⟨v_R1, rfl, R1, hb⟩
    have B6 := bel_step B5 hb
    have hz6 : w5.heap.size ≤ w6.heap.size := hb.size
    have R0_6 := R0_5.kept hb
    have Xh_6 := Xh_5.kept hb
    have Xs_6 := Xs.kept hb
    have hne1_Xh : ∀ g, v_R1.ownBlock = some g → g ≠ g_Xh := fun g hg => by have a1 := R1.ge hg; omega
    have Hne1_Xh := hid hne1_Xh
    clear hne1_Xh
    have hne1_Xs : ∀ g, v_R1.ownBlock = some g → g ≠ g_Xs := fun g hg => by have a1 := R1.ge hg; omega
    have Hne1_Xs := hid hne1_Xs
    clear hne1_Xs
    have hne01 : ∀ g, v_R0.ownBlock = some g → v_R1.ownBlock ≠ some g := fun g hg e => by have a1 := R1.ge e; have a2 := Hlt0.out g hg; omega
    have Hne01 := hid hne01
    clear hne01
    have hge1 : ∀ g, v_R1.ownBlock = some g → w5.heap.size ≤ g := fun g hg => R1.ge hg
    have Hge1 := hid hge1
    clear hge1
    go_wp2_with fail
    refine (eqIntS_same _ _ ys _ R1.sl R0_6.sl hy).mono ?_
    rintro e w7 ⟨rfl, hb⟩
    have B7 := bel_step B6 hb
    have hz7 : w6.heap.size ≤ w7.heap.size := hb.size
    have R0_7 := R0_6.kept hb
    have Xh_7 := Xh_6.kept hb
    have Xs_7 := Xs_6.kept hb
    have R1_7 := R1.kept hb
    go_wp2_with fail
    refine (toIntS_any _ h _ (HSh.out.kept B7) (by omega)).mono ?_
    rintro e w8 ⟨g_TXh, hg_TXh, rfl, K_TXh, hb⟩
    have B8 := bel_step B7 hb
    have hz8 : w7.heap.size ≤ w8.heap.size := hb.size
    have R0_8 := R0_7.kept hb
    have Xh_8 := Xh_7.kept hb
    have Xs_8 := Xs_7.kept hb
    have R1_8 := R1_7.kept hb
    have TXh := K_TXh.res hg_TXh
    go_wp2_with fail
    refine (eqIntS_same _ _ h _ Xh_8.sl TXh.sl (by omega)).mono ?_
    rintro e w9 ⟨rfl, hb⟩
    have B9 := bel_step B8 hb
    have hz9 : w8.heap.size ≤ w9.heap.size := hb.size
    have R0_9 := R0_8.kept hb
    have Xh_9 := Xh_8.kept hb
    have Xs_9 := Xs_8.kept hb
    have R1_9 := R1_8.kept hb
    have TXh_9 := TXh.kept hb
    go_wp2_with fail
    refine (toIntS_any _ s _ (HSs.out.kept B9) (by omega)).mono ?_
    rintro e w10 ⟨g_TXs, hg_TXs, rfl, K_TXs, hb⟩
    have B10 := bel_step B9 hb
    have hz10 : w9.heap.size ≤ w10.heap.size := hb.size
    have R0_10 := R0_9.kept hb
    have Xh_10 := Xh_9.kept hb
    have Xs_10 := Xs_9.kept hb
    have R1_10 := R1_9.kept hb
    have TXs := K_TXs.res hg_TXs
    go_wp2_with fail
    refine (eqIntS_same _ _ s _ Xs_10.sl TXs.sl (by omega)).mono ?_
    rintro e w11 ⟨rfl, hb⟩
    have B11 := bel_step B10 hb
    have hz11 : w10.heap.size ≤ w11.heap.size := hb.size
    have R0_11 := R0_10.kept hb
    have Xh_11 := Xh_10.kept hb
    have Xs_11 := Xs_10.kept hb
    have R1_11 := R1_10.kept hb
    have TXs_11 := TXs.kept hb
    go_wp2_with fail
    refine (markIntS_one _ h _ _ Xh_11 (by omega)).mono ?_
    rintro e w12 ⟨rfl, ho, _⟩
    have B12 := B11.trans (ho.below fun g hg => by cases hg; exact Nat.le_trans B3.size hg_Xh)
    have hz12 : w11.heap.size ≤ w12.heap.size := Nat.le_of_eq ho.size.symm
    have R0_12 := R0_11.only ho fun g hg e => by cases e; exact Hne_Xh.out _ hg rfl
    have R1_12 := R1_11.only ho fun g hg e => by cases e; exact Hne1_Xh.out _ hg rfl
    have Xs_12 := Xs_11.only ho fun g hg e => by cases hg; cases e; omega
    go_wp2_with fail
    refine (markIntS_plus _ s h.length _ _ Xs_12 (by omega) (by omega)).mono ?_
    rintro e w13 ⟨rfl, ho, _⟩
    have B13 := B12.trans (ho.below fun g hg => by cases hg; exact Nat.le_trans B4.size hg_Xs)
    have hz13 : w12.heap.size ≤ w13.heap.size := Nat.le_of_eq ho.size.symm
    have R0_13 := R0_12.only ho fun g hg e => by cases e; exact Hne_Xs.out _ hg rfl
    have R1_13 := R1_12.only ho fun g hg e => by cases e; exact Hne1_Xs.out _ hg rfl
    go_wp2_with fail
    refine (eqIntS_same _ _ ys _ R1_13.sl R0_13.sl hy).mono ?_
    rintro e w14 ⟨rfl, hb⟩
    have B14 := bel_step B13 hb
    have hz14 : w13.heap.size ≤ w14.heap.size := hb.size
    have R0_14 := R0_13.kept hb
    have R1_14 := R1_13.kept hb
    go_wp2_with fail
    refine (markIntS_one _ ys _ _ R1_14 hy).mono ?_
    rintro e w15 ⟨rfl, ho, M⟩
    have B15 := B14.trans (ho.below fun g hg => Nat.le_trans B5.size (Hge1.out g hg))
    have hz15 : w14.heap.size ≤ w15.heap.size := Nat.le_of_eq ho.size.symm
    have R0_15 := R0_14.only ho Hne01.out
    go_wp2_with fail
    refine (heldIntS_one _ ys.length _ _ M hy).mono ?_
    rintro e w' ⟨rfl, rfl⟩
    go_wp2_with fail
    refine (toIntS_any _ h _ (HSh.out.kept B15) (by omega)).mono ?_
    rintro e w16 ⟨g_Ah15, hg_Ah15, rfl, K_Ah15, hb⟩
    have B16 := bel_step B15 hb
    have hz16 : w15.heap.size ≤ w16.heap.size := hb.size
    have R0_16 := R0_15.kept hb
    have M_16 := M.kept hb
    have Ah15 := K_Ah15.res hg_Ah15
    go_wp2_with fail
    refine (toIntS_any _ s _ (HSs.out.kept B16) (by omega)).mono ?_
    rintro e w17 ⟨g_As16, hg_As16, rfl, K_As16, hb⟩
    have B17 := bel_step B16 hb
    have hz17 : w16.heap.size ≤ w17.heap.size := hb.size
    have R0_17 := R0_16.kept hb
    have M_17 := M_16.kept hb
    have Ah15_17 := Ah15.kept hb
    have As16 := K_As16.res hg_As16
    go_wp2_with fail
    refine (HIM.out _ _ _ Ah15_17.sl As16.sl).mono ?_
    rintro e w18 ⟨v_R2, rfl, R2, hb⟩
    have B18 := bel_step B17 hb
    have hz18 : w17.heap.size ≤ w18.heap.size := hb.size
    have R0_18 := R0_17.kept hb
    have M_18 := M_17.kept hb
    have Ah15_18 := Ah15_17.kept hb
    have As16_18 := As16.kept hb
    go_wp2_with fail
    refine (eqIntS_same _ _ ys _ R2.sl R0_18.sl hy).mono ?_
    rintro e w19 ⟨rfl, hb⟩
    have B19 := bel_step B18 hb
    have hz19 : w18.heap.size ≤ w19.heap.size := hb.size
    have R0_19 := R0_18.kept hb
    have M_19 := M_18.kept hb
    have R2_19 := R2.kept hb
    go_wp2_with fail
    refine (heldIntS_one _ ys.length _ _ M_19 hy).mono ?_
    rintro e w' ⟨rfl, rfl⟩
    go_wp2_with fail
    go_ret
    exact ⟨rfl, B19⟩


set_option maxHeartbeats 1600000 in
theorem walk_FnExactByPhases (w : World) (u_h : Option Addr) (l_h c_h : Nat) (z_h : List Int) (hr_h : IsRow .i64 w u_h l_h c_h z_h) (u_s : Option Addr) (l_s c_s : Nat) (z_s : List Int) (hr_s : IsRow .i64 w u_s l_s c_s z_s) (p : Int) (w_p : (Lit.int .i64 p).wf = true) (q : Int) (w_q : (Lit.int .i64 q).wf = true) :
    Calls Try.prog 6 #[.slice u_h l_h c_h, .slice u_s l_s c_s, .int .i64 p, .int .i64 q] w fun e w' => e = .returned (.bool true) ∧ Below w.heap.size w w' := by
  obtain ⟨hs_h, hlen_h, hin_h⟩ := hr_h.sl
  generalize z_h.take l_h = h at hs_h hlen_h hin_h
  clear hr_h
  obtain ⟨hs_s, hlen_s, hin_s⟩ := hr_s.sl
  generalize z_s.take l_s = s at hs_s hlen_s hin_s
  clear hr_s
  obtain ⟨p_1, p_2⟩ := bounds_i64 w_p
  obtain ⟨q_1, q_2⟩ := bounds_i64 w_q
  by_cases hbig_h : 1048576 < l_h
  · clear hs_h hlen_h hin_h hs_s hlen_s hin_s
    go_enter Try.func6, Try.ntmps6
    go_wp2
    go_ret
    exact ⟨rfl, Below.refl _ _⟩
  · have hq_h : l_h ≤ 1048576 := by omega
    by_cases hbig_s : 1048576 < l_s
    · clear hs_s hlen_s hin_s
      go_enter Try.func6, Try.ntmps6
      go_wp2
      go_ret
      exact ⟨rfl, Below.refl _ _⟩
    · have hq_s : l_s ≤ 1048576 := by omega
      exact gen_FnExactByPhases h s p q _ _ _ _ _ _ _ _ w hs_h (by omega) (by omega) hs_s (by omega) (by omega) bpO_len (fun w v_h v_s h_h h_s => spec_ByPhases_any v_h v_s h s p q w h_h h_s) (fun w v_h v_s h_h h_s => impl_ByPhases_any v_h v_s h s p q w h_h h_s)

end Go.Proofs.Ytjbpfphfajohnaa
