
import Derived.Test.YtfeihplfcbjigaaUr
import Derived.Test.YtfeihplfcbjigaaUd
namespace Go.Proofs.Ytfeihplfcbjigaa
open Go.RowKit BitX Go.MemX Go.Ch6 Go.Ch8
set_option linter.unusedVariables false
def pqB (h : List Int) (n p q : Int) : Bool := cfB h n p q
theorem pqb {h : List Int} {n p q : Int} {b : Bool} (e : cfB h n p q = b) : pqB h n p q = b := e
theorem zeros_sl (w : World) (N : Nat) : Sl (w.alloc (.cells (intsA (List.replicate N 0)) 3)) (.slice (some ⟨w.heap.size, 0, none⟩) N N) (List.replicate N 0) := by
  have h : Blk 3 (w.alloc (.cells (intsA (List.replicate N 0)) 3)) w.heap.size (List.replicate N 0) := heap_alloc_new _ _
  have h2 := h.sl
  rw [List.length_replicate] at h2
  exact h2
theorem zeros_in (n : Nat) : InP (-100000) 100000 (List.replicate n 0) := fun x hx => by rw [List.eq_of_mem_replicate hx]; omega


set_option maxHeartbeats 1000000 in
theorem spec_ProductsByPhases_any (v : Value) (h : List Int) (n p q : Int) (w : World) (hs : Sl w v h) :
    Calls Try.prog 25 #[v, .int .i64 n, .int .i64 p, .int .i64 q] w fun e w' => e = .returned (.tuple #[.int .i64 (onI (pqB h n p q) (ppF h p.toNat q.toNat (lenN n.toNat p.toNat q.toNat))), .bool (pqB h n p q)]) ∧ Below w.heap.size w w' := by
  have HS := hid hs
  clear hs
  cases h0 : cfB h n p q
  · have HB0 := hid h0
    clear h0
    go_enter Try.func25, Try.ntmps25
    go_wp2_with fail
    refine (rsCount_is _ h _ _ _ false _ HS.out HB0.out).mono ?_
    rintro e w' ⟨rfl, rfl⟩
    go_wp2_with fail
    go_ret2
    exact ⟨onI8_no (pqb HB0.out), Below.refl _ _⟩
  · have HB0 := hid h0
    clear h0
    obtain ⟨hw, ⟨n0, n1⟩, ⟨⟨p1, p8⟩, ⟨q1, q8⟩⟩, hnp⟩ := cf_t HB0.out
    obtain ⟨N, rfl⟩ : ∃ N : Nat, n = N := ⟨n.toNat, by omega⟩
    obtain ⟨P, rfl⟩ : ∃ P : Nat, p = P := ⟨p.toNat, by omega⟩
    obtain ⟨Q, rfl⟩ : ∃ Q : Nat, q = Q := ⟨q.toNat, by omega⟩
    have P1 : 1 ≤ P := by omega
    have P8 : P ≤ 8 := by omega
    have Q1 : 1 ≤ Q := by omega
    have Q8 : Q ≤ 8 := by omega
    have hn64 : N ≤ 64 := by omega
    have HW := hid hw
    clear hw n0 n1 p1 p8 q1 q8 hnp
    have hmk := run_make_ints (P := Try.prog) 29 3 uslice iint N (by omega)
    go_enter Try.func25, Try.ntmps25
    go_wp2_with fail
    refine (rsCount_is _ h _ _ _ true _ HS.out HB0.out).mono ?_
    rintro e w' ⟨rfl, rfl⟩
    go_wp2_with fail
    refine (rsByPhases_any _ _ h (List.replicate N 0) P Q _ (HS.out.kept (bel_alloc _ _)) (zeros_sl w N) HW.out (by rw [List.length_replicate]; exact hn64) (zeros_in N) P1 P8 Q1 Q8).mono ?_
    rintro e w2 ⟨v2, rfl, R, hb⟩
    rw [List.length_replicate]
    clear hmk
    go_wp2_with fail
    go_ret2
    exact ⟨onI8_yes (pqb HB0.out) rfl, bel_step (bel_alloc _ _) hb⟩


set_option maxHeartbeats 1000000 in
theorem impl_ProductsByPhases_any (v : Value) (h : List Int) (n p q : Int) (w : World) (hs : Sl w v h) :
    Calls Try.prog 26 #[v, .int .i64 n, .int .i64 p, .int .i64 q] w fun e w' => e = .returned (.tuple #[.int .i64 (onI (pqB h n p q) (ppF h p.toNat q.toNat (lenN n.toNat p.toNat q.toNat))), .bool (pqB h n p q)]) ∧ Below w.heap.size w w' := by
  have HS := hid hs
  clear hs
  cases h0 : cfB h n p q
  · have HB0 := hid h0
    clear h0
    go_enter Try.func26, Try.ntmps26
    go_wp2_with fail
    refine (canFilterUp_is _ h _ _ _ false _ HS.out HB0.out).mono ?_
    rintro e w' ⟨rfl, rfl⟩
    go_wp2_with fail
    go_ret2
    exact ⟨onI8_no (pqb HB0.out), Below.refl _ _⟩
  · have HB0 := hid h0
    clear h0
    obtain ⟨hw, ⟨n0, n1⟩, ⟨⟨p1, p8⟩, ⟨q1, q8⟩⟩, hnp⟩ := cf_t HB0.out
    obtain ⟨N, rfl⟩ : ∃ N : Nat, n = N := ⟨n.toNat, by omega⟩
    obtain ⟨P, rfl⟩ : ∃ P : Nat, p = P := ⟨p.toNat, by omega⟩
    obtain ⟨Q, rfl⟩ : ∃ Q : Nat, q = Q := ⟨q.toNat, by omega⟩
    have P1 : 1 ≤ P := by omega
    have P8 : P ≤ 8 := by omega
    have Q1 : 1 ≤ Q := by omega
    have Q8 : Q ≤ 8 := by omega
    have hn64 : N ≤ 64 := by omega
    have HW := hid hw
    clear hw n0 n1 p1 p8 q1 q8 hnp
    go_enter Try.func26, Try.ntmps26
    go_wp2_with fail
    refine (canFilterUp_is _ h _ _ _ true _ HS.out HB0.out).mono ?_
    rintro e w' ⟨rfl, rfl⟩
    go_wp2_with fail
    refine (phasesOf_any _ h P _ HS.out (Nat.le_trans HW.out.1.2 (by omega)) P1 P8).mono ?_
    rintro e w1 ⟨g, vs, rfl, R, hg, B1⟩
    have HR := hid R
    have hvl : vs.length = P := by rw [R.len, phL_len]
    rw [hvl]
    clear R hvl
    go_wp2_with fail
    refine (lengthAfter_any N P Q _ hn64 P8 Q1 Q8).mono ?_
    rintro e w' ⟨rfl, rfl⟩
    obtain ⟨L, hL0⟩ : ∃ L, L = lenN N P Q := ⟨_, rfl⟩
    have hL5 : L ≤ 512 := by rw [hL0]; exact lenN_512 hn64 P8 Q1
    have HL := hid hL0
    rw [← hL0]
    clear hL0
    go_wp2_with fail
    go_loopw [11, 28] (fun s0 i wr => ∃ k : Nat, k ≤ L ∧ i = .int .i64 (k : Int) ∧ s0 = .int .i64 (ppF h P Q k) ∧ Below w1.heap.size w1 wr)
      (fun _ i _ => L - (intOf i).toNat)
    case atStart => exact ⟨0, by omega, rfl, rfl, Below.refl _ _⟩
    case round =>
      obtain ⟨k, hk, rfl, rfl, hb⟩ := hrel
      by_cases hlk : k < L
      · have hst := ppF_succ h P Q k
        have hin := ppF_in (q := Q) (k := k) P1 HW.out.1.2
        obtain ⟨r, hr⟩ : ∃ r, r = k * Q % P := ⟨_, rfl⟩
        obtain ⟨z, hz⟩ : ∃ z, z = k * Q / P := ⟨_, rfl⟩
        have hrp : r < P := by rw [hr]; exact Nat.mod_lt _ P1
        have hz64 : z < N := by rw [hz]; exact src_lt P1 Q1 (by rw [← HL.out]; exact hlk)
        have hpn : ppN h P Q k = min (z + 1) (dropL P r h).length := by unfold ppN; rw [← hz, ← hr]
        have hso := sourceOf_any k P Q wr (by omega) P1 P8 Q1 Q8
        rw [← hz, ← hr] at hso
        have Hso := hid hso
        rw [hpn] at hst
        have hfl : (dropL P r h).length ≤ 9 := Nat.le_trans (dropL_le _ _ _ P1) HW.out.1.2
        have hix0 := ixO g P r hrp
        generalize hpz : ppF h P Q k = pz at *
        have hpz1 : 0 ≤ pz := hin.1
        have hpz2 : pz ≤ 4608 := by have := hin.2; omega
        have Hst := hid hst
        clear hst hpz hin hpn hso hr hz
        go_wp2_with fail
        refine Hso.out.mono ?_
        rintro e w2 ⟨rfl, hb2⟩
        have hb3 := bel_step hb hb2
        have hph := HR.out.keptR hb3
        obtain ⟨f, hf⟩ := hph.get (i := r) (by rw [phL_len]; exact hrp)
        have hce0 := hph.cell hf
        have hsl := (hph.each r f _ hf (phL_at hrp)).sl
        obtain ⟨a5, n5, c5, rfl, hn5, hrd5⟩ := hsl.rd
        rw [← hn5] at Hst hfl
        clear hph hf hsl hn5 hrd5
        obtain ⟨mn, hmn⟩ : ∃ mn, mn = min (z + 1) n5 := ⟨_, rfl⟩
        rw [← hmn] at Hst
        have hm9 : mn ≤ 9 := by omega
        have hmi : min ((z : Int) + 1) (n5 : Int) = (mn : Int) := by omega
        go_wp2
        all_goals go_roundw
        all_goals first
          | exact ⟨k + 1, by omega, by go_num, by first | (rw [Hst.out]; done) | (rw [Hst.out]; congr 2; split <;> omega) | (rw [Hst.out]; congr 2; omega), hb3⟩
          | (simp [intOf]; omega)
      · have hge : (L : Int) ≤ (k : Int) := by omega
        have hkn : k = L := by omega
        have Hk := hid hkn
        clear hlk hkn
        go_wp2
        go_ret2
        exact ⟨onI8_yes (pqb HB0.out) (by rw [Hk.out, HL.out]; rfl), B1.trans (hb.mono B1.size)⟩


set_option maxHeartbeats 1600000 in
theorem gen_FnExactProductsByPhases (h : List Int) (n : Int) (p : Int) (q : Int) (u_h : Option Addr) (l_h c_h : Nat) (r0 : Int) (r1 : Bool) (w : World) (hs_h : Sl w (.slice u_h l_h c_h) h) (ll_h : l_h ≤ 1048576) (hl_h : h.length ≤ 1048576) (hspec : ∀ (w : World) (v_h : Value), Sl w v_h h → Calls Try.prog 25 #[v_h, .int .i64 n, .int .i64 p, .int .i64 q] w fun e w' => e = .returned (.tuple #[.int .i64 r0, .bool r1]) ∧ Below w.heap.size w w') (himpl : ∀ (w : World) (v_h : Value), Sl w v_h h → Calls Try.prog 26 #[v_h, .int .i64 n, .int .i64 p, .int .i64 q] w fun e w' => e = .returned (.tuple #[.int .i64 r0, .bool r1]) ∧ Below w.heap.size w w') :
    Calls Try.prog 8 #[.slice u_h l_h c_h, .int .i64 n, .int .i64 p, .int .i64 q] w fun e w' => e = .returned (.bool true) ∧ Below w.heap.size w w' := by
  have HSh := hid hs_h
  clear hs_h
  have HSP := hid hspec
  have HIM := hid himpl
  clear hspec himpl
  all_goals cases r1
  all_goals
    go_enter Try.func8, Try.ntmps8
    go_wp2_with fail
    refine (toIntS_any _ h _ HSh.out (by omega)).mono ?_
    rintro e w1 ⟨g_Ah0, hg_Ah0, rfl, K_Ah0, hb⟩
    have B1 := hb
    have hz1 : w.heap.size ≤ w1.heap.size := by first | exact hb.size | (have := hb.size; simp at this; omega)
    have Ah0 := K_Ah0.res hg_Ah0
    go_wp2_with fail
    refine (HSP.out _ _ Ah0.sl).mono ?_
    rintro e w2 ⟨rfl, hb⟩
    have B2 := bel_step B1 hb
    have hz2 : w1.heap.size ≤ w2.heap.size := hb.size
    have Ah0_2 := Ah0.kept hb
    go_wp2_with fail
    refine (toIntS_any _ h _ (HSh.out.kept B2) (by omega)).mono ?_
    rintro e w3 ⟨g_Xh, hg_Xh, rfl, K_Xh, hb⟩
    have B3 := bel_step B2 hb
    have hz3 : w2.heap.size ≤ w3.heap.size := hb.size
    have Xh := K_Xh.res hg_Xh
    have hlt_Xh := K_Xh.lt
    have hxl_Xh : g_Xh < w3.heap.size := Xh.lt rfl
    go_wp2_with fail
    refine (HIM.out _ _ Xh.sl).mono ?_
    rintro e w4 ⟨rfl, hb⟩
    have B4 := bel_step B3 hb
    have hz4 : w3.heap.size ≤ w4.heap.size := hb.size
    have Xh_4 := Xh.kept hb
    go_wp2_with fail
    refine (toIntS_any _ h _ (HSh.out.kept B4) (by omega)).mono ?_
    rintro e w5 ⟨g_TXh, hg_TXh, rfl, K_TXh, hb⟩
    have B5 := bel_step B4 hb
    have hz5 : w4.heap.size ≤ w5.heap.size := hb.size
    have Xh_5 := Xh_4.kept hb
    have TXh := K_TXh.res hg_TXh
    go_wp2_with fail
    refine (eqIntS_same _ _ h _ Xh_5.sl TXh.sl (by omega)).mono ?_
    rintro e w6 ⟨rfl, hb⟩
    have B6 := bel_step B5 hb
    have hz6 : w5.heap.size ≤ w6.heap.size := hb.size
    have Xh_6 := Xh_5.kept hb
    have TXh_6 := TXh.kept hb
    go_wp2_with fail
    go_ret
    exact ⟨rfl, B6⟩


set_option maxHeartbeats 1600000 in
theorem walk_FnExactProductsByPhases (w : World) (u_h : Option Addr) (l_h c_h : Nat) (z_h : List Int) (hr_h : IsRow .i64 w u_h l_h c_h z_h) (n : Int) (w_n : (Lit.int .i64 n).wf = true) (p : Int) (w_p : (Lit.int .i64 p).wf = true) (q : Int) (w_q : (Lit.int .i64 q).wf = true) :
    Calls Try.prog 8 #[.slice u_h l_h c_h, .int .i64 n, .int .i64 p, .int .i64 q] w fun e w' => e = .returned (.bool true) ∧ Below w.heap.size w w' := by
  obtain ⟨hs_h, hlen_h, hin_h⟩ := hr_h.sl
  generalize z_h.take l_h = h at hs_h hlen_h hin_h
  clear hr_h
  obtain ⟨n_1, n_2⟩ := bounds_i64 w_n
  obtain ⟨p_1, p_2⟩ := bounds_i64 w_p
  obtain ⟨q_1, q_2⟩ := bounds_i64 w_q
  by_cases hbig_h : 1048576 < l_h
  · clear hs_h hlen_h hin_h
    go_enter Try.func8, Try.ntmps8
    go_wp2
    go_ret
    exact ⟨rfl, Below.refl _ _⟩
  · have hq_h : l_h ≤ 1048576 := by omega
    exact gen_FnExactProductsByPhases h n p q _ _ _ _ _ w hs_h (by omega) (by omega)  (fun w v_h h_h => spec_ProductsByPhases_any v_h h n p q w h_h) (fun w v_h h_h => impl_ProductsByPhases_any v_h h n p q w h_h)

end Go.Proofs.Ytfeihplfcbjigaa
