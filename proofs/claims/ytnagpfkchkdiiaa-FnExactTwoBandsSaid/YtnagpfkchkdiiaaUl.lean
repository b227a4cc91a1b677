
import Derived.Test.YtnagpfkchkdiiaaUk
import Derived.Test.YtnagpfkchkdiiaaEo
import Derived.Test.YtnagpfkchkdiiaaMp
import Derived.Deep.RegionHeld3
namespace Go.Proofs.Ytnagpfkchkdiiaa
open Go.RowKit BitX Go.MemX Go.Ch6 Go.Ch8
set_option linter.unusedVariables false
theorem gives_if {w w' : World} {v : Value} {ys : List Int} {b q : Bool} (h : b = q) (hv : Res 3 w.heap.size w' v ys) (hb : Below w.heap.size w w') : Gives w (onL b ys) b (.returned (.tuple #[onB q v (.slice none 0 0), .bool q])) w' := by
  subst h
  cases b
  · exact ⟨_, rfl, .inl ⟨rfl, rfl⟩, hb⟩
  · exact ⟨_, rfl, hv, hb⟩
theorem gives_eq {w w' : World} {ys : List Int} {b c : Bool} {e : Ending} (h : b = c) (hg : Gives w (onL c ys) c e w') : Gives w (onL b ys) b e w' := by subst h; exact hg
/-- the samples that two lists of bands are joined to -/
def jbF (a d : List Int) (k : Nat) : Int := if k % 2 = 0 then jnX (at0 a (k / 2)) (at0 d (k / 2)) else jnX (at0 a (k / 2)) (at0 d (k / 2)) - at0 d (k / 2)
def jbL (a d : List Int) : List Int := tab (2 * a.length) (jbF a d)
def jbB (a d : List Int) : Bool := sigB a && (sigB d && decide (a.length = d.length))
def jbO (a d : List Int) : Bool := jbB a d && sigB (jbL a d)
theorem jb_n1 {a d : List Int} (h : sigB a = false) : jbO a d = false := and_n1 (and_n1 h)
theorem jb_n2 {a d : List Int} (h : sigB d = false) : jbO a d = false := and_n1 (and_n2 (and_n1 h))
theorem jb_n3 {a d : List Int} (h : decide (a.length = d.length) = false) : jbO a d = false := and_n1 (and_n2 (and_n2 h))
theorem jb_y {a d : List Int} (h1 : sigB a = true) (h2 : sigB d = true) (h3 : decide (a.length = d.length) = true) : jbO a d = sigB (jbL a d) := by unfold jbO jbB; rw [h1, h2, h3]; rfl
theorem jbO_len {a d : List Int} : (onL (jbO a d) (jbL a d)).length ≤ 2000000 := onL_len fun e => by
  unfold jbO at e
  rw [Bool.and_eq_true] at e
  have := (sigB_t e.2).1; omega
theorem jbF_even (a d : List Int) (k : Nat) : jbF a d (2 * k) = jnX (at0 a k) (at0 d k) := by
  unfold jbF; rw [if_pos (by omega), show 2 * k / 2 = k from by omega]
theorem jbF_odd (a d : List Int) (k : Nat) : jbF a d (2 * k + 1) = jnX (at0 a k) (at0 d k) - at0 d k := by
  unfold jbF; rw [if_neg (by omega), show (2 * k + 1) / 2 = k from by omega]


set_option maxHeartbeats 1000000 in
theorem joinC_any (ga gd k : Nat) (u v : Value) (a d : List Int) (w : World) (hca : w.cell? ⟨ga, 0, none⟩ = some u) (hcd : w.cell? ⟨gd, 0, none⟩ = some v) (ha : Sl w u a) (hd : Sl w v d) (hga : SigP a) (hgd : SigP d) (he : a.length = d.length) (hk : k < 2 * a.length) :
    Calls Try.prog 23 #[.int .i64 (k : Int), .pointer (some ⟨ga, 0, none⟩), .pointer (some ⟨gd, 0, none⟩)] w fun e w' => e = .returned (.int .i64 (jbF a d k)) ∧ Below w.heap.size w w' := by
  obtain ⟨b1, n1, c1, rfl, hn1, hr1⟩ := ha.rd
  obtain ⟨b2, n2, c2, rfl, hn2, hr2⟩ := hd.rd
  obtain ⟨z, hz⟩ : ∃ z, z = k / 2 := ⟨_, rfl⟩
  have hz1 : z < n1 := by omega
  have hz2 : z < n2 := by omega
  obtain ⟨x, hkx⟩ := get_lt a z (by omega)
  obtain ⟨y, hky⟩ := get_lt d z (by omega)
  obtain ⟨bb, oo, hix, hbb, hce⟩ := hr1.at (P := Try.prog) (T := 22) n1 c1 uslice sone hkx hz1
  obtain ⟨b3, o3, hix2, hbb2, hce2⟩ := hr2.at (P := Try.prog) (T := 22) n2 c2 uslice sone hky hz2
  obtain ⟨x1, x2⟩ := hga.2.at hkx
  obtain ⟨y1, y2⟩ := hgd.2.at hky
  have hk64 : k ≤ 128 := by have := hga.1; omega
  have hzc : ((z : Nat) : Int) = (k : Int) / 2 := by omega
  rw [hzc] at hix hix2
  have HE := hid (show jbF a d k = if k % 2 = 0 then jnX x y else jnX x y - y from by unfold jbF; rw [← hz, at0_of hkx, at0_of hky])
  rw [HE.out]
  have hS : w.drew.cell? ⟨ga, 0, none⟩ = some (.slice b1 n1 c1) ∧ w.drew.cell? ⟨gd, 0, none⟩ = some (.slice b2 n2 c2) ∧ w.drew.cell? ⟨bb, oo, none⟩ = some (.int .i64 x) ∧ w.drew.cell? ⟨b3, o3, none⟩ = some (.int .i64 y) := ⟨hca, hcd, hce, hce2⟩
  have e1 : ∀ [Inhabited Unit], IntKind.i64.wrap ((k : Int) / 2) = (k : Int) / 2 := IntWalk.i64_in _ (by omega)
  clear hn1 hr1 hn2 hr2 ha hd hga hgd hkx hky hzc hz hz1 hz2 he hk
  by_cases h2 : k % 2 = 0
  · have f1 : (k : Int) % 2 = 0 := by omega
    rw [if_pos h2]
    clear h2
    go_enter Try.func23, Try.ntmps23
    go_wp2_with fail
    go_region_held3 (fun W => W.cell? ⟨ga, 0, none⟩ = some (.slice b1 n1 c1) ∧ W.cell? ⟨gd, 0, none⟩ = some (.slice b2 n2 c2) ∧ W.cell? ⟨bb, oo, none⟩ = some (.int .i64 x) ∧ W.cell? ⟨b3, o3, none⟩ = some (.int .i64 y)) (first | exact hS | assumption | go_keep) (first | (go_at_call 24; refine (joinedBands_any x y _ x1 x2 y1 y2).mono ?_; rintro e w' ⟨rfl, rfl⟩))
    all_goals go_wp2
    all_goals go_ret
    all_goals exact ⟨rfl, below_drewN (Below.refl _ _) 1⟩
  · have f1 : (k : Int) % 2 = 1 := by omega
    rw [if_neg h2]
    clear h2
    go_enter Try.func23, Try.ntmps23
    go_wp2_with fail
    go_region_held3 (fun W => W.cell? ⟨ga, 0, none⟩ = some (.slice b1 n1 c1) ∧ W.cell? ⟨gd, 0, none⟩ = some (.slice b2 n2 c2) ∧ W.cell? ⟨bb, oo, none⟩ = some (.int .i64 x) ∧ W.cell? ⟨b3, o3, none⟩ = some (.int .i64 y)) (first | exact hS | assumption | go_keep) (first | (go_at_call 24; refine (joinedBands_any x y _ x1 x2 y1 y2).mono ?_; rintro e w' ⟨rfl, rfl⟩))
    all_goals go_wp2
    all_goals go_ret
    all_goals exact ⟨rfl, below_drewN (Below.refl _ _) 1⟩

theorem smB_def (x : Int) : smB x = decide (-100000 ≤ x ∧ x ≤ 100000) := rfl
theorem plB_sig (L : Nat) (F : Nat → Int) : plB L (fun _ => true) F = sigB (tab L F) := by
  cases h : sigB (tab L F)
  · have hn := sigB_f h
    have : ∃ k, k < L ∧ goodB (fun _ => true) F k = false := by
      refine Classical.byContradiction fun hc => hn ?_
      have hg : ∀ k, k < L → k < 64 ∧ (-100000 ≤ F k ∧ F k ≤ 100000) := fun k hk => by
        cases hb : goodB (fun _ => true) F k
        · exact absurd ⟨k, hk, hb⟩ hc
        · simpa [goodB, smB_def] using hb
      refine ⟨?_, fun x hx => ?_⟩
      · rw [tab_len]
        by_cases h0 : L ≤ 64
        · exact h0
        · have := (hg 64 (by omega)).1; omega
      · obtain ⟨k, hk⟩ := List.getElem?_of_mem hx
        have hkl : k < L := by have := (List.getElem?_eq_some_iff.1 hk).1; rwa [tab_len] at this
        rw [tab_get _ _ _ hkl] at hk
        cases hk
        exact (hg k hkl).2
    obtain ⟨k, hk, hb⟩ := this
    exact plB_f hk hb
  · have hs := sigB_t h
    refine plB_t fun j hj => ?_
    have h1 := hs.1
    rw [tab_len] at h1
    have h2 := hs.2 (F j) (List.mem_of_getElem? (tab_get L F j hj))
    simp only [goodB, smB_def, Bool.true_and, Bool.and_eq_true, decide_eq_true_eq]
    exact ⟨by omega, h2⟩
theorem gives_trans {w w3 w' : World} {xs : List Int} {ok : Bool} {e : Ending} (hb : Below w.heap.size w w3) (h : Gives w3 xs ok e w') : Gives w xs ok e w' := by
  obtain ⟨v, rfl, R, hb2⟩ := h
  exact ⟨v, rfl, R.mono hb.size, hb.trans (hb2.mono hb.size)⟩


theorem enterJC : Go.Proofs.Enters Try.prog 23 := enters_of Try.func23 (by kernel_rfl) rfl
theorem two_cast (n : Nat) : (2 : Int) * (n : Int) = ((2 * n : Nat) : Int) := by omega
theorem alloc2_cells (w : World) (u1 u2 : Value) (T1 T2 : TypeId) : Var1 T1 ((w.alloc (.cells #[u1] T1)).alloc (.cells #[u2] T2)) w.heap.size u1 ∧ Var1 T2 ((w.alloc (.cells #[u1] T1)).alloc (.cells #[u2] T2)) (w.heap.size + 1) u2 ∧ Below w.heap.size w ((w.alloc (.cells #[u1] T1)).alloc (.cells #[u2] T2)) := by
  have a1 := Var1.new w u1 T1
  have a2 := Var1.new (w.alloc (.cells #[u1] T1)) u2 T2
  have b1 := bel_alloc w (.cells #[u1] T1)
  have b2 := bel_alloc (w.alloc (.cells #[u1] T1)) (.cells #[u2] T2)
  have e1 : (w.alloc (.cells #[u1] T1)).heap.size = w.heap.size + 1 := by simp
  rw [e1] at a2
  exact ⟨a1.kept b2 a1.lt, a2, bel_step b1 b2⟩


set_option maxHeartbeats 1000000 in
theorem impl_JoinBands_any (u v : Value) (a d : List Int) (w : World) (ha : Sl w u a) (hd : Sl w v d) :
    Calls Try.prog 12 #[u, v] w (Gives w (onL (jbO a d) (jbL a d)) (jbO a d)) := by
  have HA := hid ha
  have HD := hid hd
  clear ha hd
  obtain ⟨b1, n1, c1, rfl, hx1, hx2⟩ := HA.out.rd
  have Hn1 := hid hx1
  clear hx1 hx2
  obtain ⟨b2, n2, c2, rfl, hx1, hx2⟩ := HD.out.rd
  have Hn2 := hid hx1
  clear hx1 hx2
  have hmf : ∀ (fn : Fn) (first cap : Array Value) (w : World), (Instr.makeFunc fn first cap).run Try.prog w = .ok (.func fn first cap) w := fun _ _ _ _ => rfl
  cases h0 : sigB a
  · have HB0 := hid h0
    clear h0
    go_enter Try.func12, Try.ntmps12
    go_wp2_with fail
    refine (impl_IsSignal_is _ a false _ (HA.out.kept (bel_step (bel_alloc _ _) (bel_alloc _ _))) HB0.out).mono ?_
    rintro e w' ⟨rfl, rfl⟩
    go_wp2_with fail
    go_ret2
    exact gives_no (jb_n1 HB0.out) (bel_step (bel_alloc _ _) (bel_alloc _ _))
  · have HB0 := hid h0
    clear h0
    cases h1 : sigB d
    · have HB1 := hid h1
      clear h1
      go_enter Try.func12, Try.ntmps12
      go_wp2_with fail
      refine (impl_IsSignal_is _ a true _ (HA.out.kept (bel_step (bel_alloc _ _) (bel_alloc _ _))) HB0.out).mono ?_
      rintro e w' ⟨rfl, rfl⟩
      go_wp2_with fail
      refine (impl_IsSignal_is _ d false _ (HD.out.kept (bel_step (bel_alloc _ _) (bel_alloc _ _))) HB1.out).mono ?_
      rintro e w' ⟨rfl, rfl⟩
      go_wp2_with fail
      go_ret2
      exact gives_no (jb_n2 HB1.out) (bel_step (bel_alloc _ _) (bel_alloc _ _))
    · have HB1 := hid h1
      clear h1
      cases h2 : decide (a.length = d.length)
      · have HB2 := hid h2
        clear h2
        have hnn : ((n1 : Int) != (n2 : Int)) = true := by rw [bne_iff_ne, Hn1.out, Hn2.out]; have := of_decide_eq_false HB2.out; omega
        go_enter Try.func12, Try.ntmps12
        go_wp2_with fail
        refine (impl_IsSignal_is _ a true _ (HA.out.kept (bel_step (bel_alloc _ _) (bel_alloc _ _))) HB0.out).mono ?_
        rintro e w' ⟨rfl, rfl⟩
        go_wp2_with fail
        refine (impl_IsSignal_is _ d true _ (HD.out.kept (bel_step (bel_alloc _ _) (bel_alloc _ _))) HB1.out).mono ?_
        rintro e w' ⟨rfl, rfl⟩
        go_wp2_with fail
        go_ret2
        exact gives_no (jb_n3 HB2.out) (bel_step (bel_alloc _ _) (bel_alloc _ _))
      · have HB2 := hid h2
        clear h2
        have hnn : ((n1 : Int) != (n2 : Int)) = false := by rw [Hn1.out, Hn2.out, of_decide_eq_true HB2.out]; exact bne_self_eq_false _
        have hn64 : n1 ≤ 64 := by rw [Hn1.out]; exact (sigB_t HB0.out).1
        obtain ⟨hv1, hv2, hB⟩ := alloc2_cells w (.slice b1 n1 c1) (.slice b2 n2 c2) 22 22
        have HMd := hid (show MadeAt Try.prog 23 #[.pointer (some ⟨w.heap.size, 0, none⟩), .pointer (some ⟨w.heap.size + 1, 0, none⟩)] (2 * n1) (fun _ => true) (jbF a d) ((w.alloc (.cells #[.slice b1 n1 c1] 22)).alloc (.cells #[.slice b2 n2 c2] 22)) from fun V k hk hV => joinC_any w.heap.size (w.heap.size + 1) k _ _ a d V ((hv1.kept hV hv1.lt).cell) ((hv2.kept hV hv2.lt).cell) ((HA.out.kept hB).kept hV) ((HD.out.kept hB).kept hV) (sigB_t HB0.out) (sigB_t HB1.out) (of_decide_eq_true HB2.out) (by rw [← Hn1.out]; exact hk))
        have HP := hid (plB_sig (2 * n1) (jbF a d))
        clear hv1 hv2
        have HB := hid hB
        clear hB
        go_enter Try.func12, Try.ntmps12
        go_wp2_with fail
        refine (impl_IsSignal_is _ a true _ (HA.out.kept (bel_step (bel_alloc _ _) (bel_alloc _ _))) HB0.out).mono ?_
        rintro e w' ⟨rfl, rfl⟩
        go_wp2_with fail
        refine (impl_IsSignal_is _ d true _ (HD.out.kept (bel_step (bel_alloc _ _) (bel_alloc _ _))) HB1.out).mono ?_
        rintro e w' ⟨rfl, rfl⟩
        go_wp2_with fail
        rw [two_cast]
        refine (placed_any _ _ enterJC (2 * n1) (by omega) (fun _ => true) (jbF a d) _ HMd.out).mono ?_
        intro e w4 hG
        rw [HP.out] at hG
        have hG2 := gives_trans HB.out hG
        clear hG
        rw [Hn1.out] at hG2
        obtain ⟨v4, rfl, R, hb⟩ := gives_eq (jb_y HB0.out HB1.out HB2.out) hG2
        clear hG2
        have HR := hid R
        clear R
        go_wp2_with fail
        go_ret2
        exact ⟨v4, rfl, HR.out, hb⟩


theorem wdShift_1 (x : Int) (w : World) (h3 : -1000000000000 ≤ x) (h4 : x ≤ 1000000000000) :
    Calls Try.prog 14 #[.int .i64 x, .int .i64 1, .int .i64 0] w fun e w' => e = .returned (.int .i64 (x / 2)) ∧ w = w' := by
  have h := wdShift_any x 1 0 w (by omega) h3 h4 (.inl rfl)
  rw [show ShX.shiftI x 1 0 = x / 2 from rfl] at h
  exact h
theorem jn_eq (m d : Int) : jnX m d = m + (d + 1) / 2 := by unfold jnX; omega
theorem tab_step2 (k : Nat) (f : Nat → Int) : tab (k + 2) f = tab k f ++ [f k, f (k + 1)] := by
  rw [show k + 2 = (k + 1) + 1 from rfl, tab_step, tab_step, List.append_assoc]; rfl

theorem cell_two_new (w : World) (u v : Value) (E : TypeId) : ∀ (j : Nat) (x : Value), [u, v][j]? = some x → (w.alloc (.cells #[u, v] E)).cell? ((⟨w.heap.size, 0, none⟩ : Addr).add j) = some x := by
  intro i x hi
  rw [show (⟨w.heap.size, 0, none⟩ : Addr).add i = ⟨w.heap.size, i, none⟩ from by rw [Go.WideShapes.add_plain, Nat.zero_add]]
  rw [World.cell?_alloc_at _ _ _ _ rfl]
  match i, hi with
  | 0, hi => simp at hi; subst hi; simp
  | 1, hi => simp at hi; subst hi; simp
  | i + 2, hi => simp at hi


set_option maxHeartbeats 1000000 in
theorem spec_JoinBands_any (u v : Value) (a d : List Int) (w : World) (ha : Sl w u a) (hd : Sl w v d) :
    Calls Try.prog 11 #[u, v] w (Gives w (onL (jbO a d) (jbL a d)) (jbO a d)) := by
  have HA := hid ha
  have HD := hid hd
  clear ha hd
  obtain ⟨b1, n1, c1, rfl, hx1, hx2⟩ := HA.out.rd
  have Hn1 := hid hx1
  clear hx1 hx2
  obtain ⟨b2, n2, c2, rfl, hx1, hx2⟩ := HD.out.rd
  have Hn2 := hid hx1
  clear hx1 hx2
  cases h0 : sigB a
  · have HB0 := hid h0
    clear h0
    go_enter Try.func11, Try.ntmps11
    go_wp2_with fail
    refine (wdSignal_is _ a false _ HA.out HB0.out).mono ?_
    rintro e w' ⟨rfl, rfl⟩
    go_wp2_with fail
    go_ret2
    exact gives_no (jb_n1 HB0.out) (Below.refl _ _)
  · have HB0 := hid h0
    clear h0
    cases h1 : sigB d
    · have HB1 := hid h1
      clear h1
      go_enter Try.func11, Try.ntmps11
      go_wp2_with fail
      refine (wdSignal_is _ a true _ HA.out HB0.out).mono ?_
      rintro e w' ⟨rfl, rfl⟩
      go_wp2_with fail
      refine (wdSignal_is _ d false _ HD.out HB1.out).mono ?_
      rintro e w' ⟨rfl, rfl⟩
      go_wp2_with fail
      go_ret2
      exact gives_no (jb_n2 HB1.out) (Below.refl _ _)
    · have HB1 := hid h1
      clear h1
      cases h2 : decide (a.length = d.length)
      · have HB2 := hid h2
        clear h2
        have hnn : ((n1 : Int) != (n2 : Int)) = true := by rw [bne_iff_ne, Hn1.out, Hn2.out]; have := of_decide_eq_false HB2.out; omega
        go_enter Try.func11, Try.ntmps11
        go_wp2_with fail
        refine (wdSignal_is _ a true _ HA.out HB0.out).mono ?_
        rintro e w' ⟨rfl, rfl⟩
        go_wp2_with fail
        refine (wdSignal_is _ d true _ HD.out HB1.out).mono ?_
        rintro e w' ⟨rfl, rfl⟩
        go_wp2_with fail
        go_ret2
        exact gives_no (jb_n3 HB2.out) (Below.refl _ _)
      · have HB2 := hid h2
        clear h2
        have hnn : ((n1 : Int) != (n2 : Int)) = false := by rw [Hn1.out, Hn2.out, of_decide_eq_true HB2.out]; exact bne_self_eq_false _
        have hn64 : n1 ≤ 64 := by rw [Hn1.out]; exact (sigB_t HB0.out).1
        have He := hid (show n1 = n2 from by rw [Hn1.out, Hn2.out]; exact of_decide_eq_true HB2.out)
        obtain ⟨q1, q2, q3, hq, hx4, hr1⟩ := HA.out.rd
        cases hq
        have Hr1 := hid hr1
        clear hx4 hr1
        obtain ⟨q1, q2, q3, hq, hx4, hr2⟩ := HD.out.rd
        cases hq
        have Hr2 := hid hr2
        clear hx4 hr2
        obtain ⟨i0, hi0, hz0, hz1, hz2⟩ := info_parts iint
        go_enter Try.func11, Try.ntmps11
        go_wp2_with fail
        refine (wdSignal_is _ a true _ HA.out HB0.out).mono ?_
        rintro e w' ⟨rfl, rfl⟩
        go_wp2_with fail
        refine (wdSignal_is _ d true _ HD.out HB1.out).mono ?_
        rintro e w' ⟨rfl, rfl⟩
        go_wp2_with fail
        go_loopw [6, 27] (fun v i wr => ∃ k : Nat, k ≤ n1 ∧ i = .int .i64 (k : Int) ∧ wr.ownsRow w.heap.size 3 1 v (2 * k) ((tab (2 * k) (jbF a d)).map (Value.int .i64)) ∧ Below w.heap.size w wr)
          (fun _ i _ => n1 - (intOf i).toNat)
        case atStart => exact ⟨0, by omega, rfl, World.ownsRow_nil _ _ _ _, Below.refl _ _⟩
        case round =>
          obtain ⟨k, hk, rfl, hown, hb⟩ := hrel
          have hsz : w.heap.size ≤ wr.heap.size := hb.size
          by_cases hlk : k < n1
          · have hlk2 : k < n2 := by rw [← He.out]; exact hlk
            obtain ⟨x, hkx⟩ := get_lt a k (by rw [← Hn1.out]; exact hlk)
            obtain ⟨y, hky⟩ := get_lt d k (by rw [← Hn2.out]; exact hlk2)
            obtain ⟨bb, oo, hix, hbb, hce⟩ := (Hr1.out.kept hb).at (P := Try.prog) (T := 22) n1 c1 uslice sone hkx hlk
            obtain ⟨b3, o3, hix2, hbb2, hce2⟩ := (Hr2.out.kept hb).at (P := Try.prog) (T := 22) n2 c2 uslice sone hky hlk2
            obtain ⟨x1, x2⟩ := (sigB_t HB0.out).2.at hkx
            obtain ⟨y1, y2⟩ := (sigB_t HB1.out).2.at hky
            have hst := tab_step2 (2 * k) (jbF a d)
            rw [jbF_even, jbF_odd, at0_of hkx, at0_of hky, jn_eq] at hst
            generalize hys : tab (2 * k) (jbF a d) = ys at hst hown
            have Hob := hid (ownsRow_base hown)
            have Hst := hid hst
            have Hown := hid hown
            have y3 : -1000000000000 ≤ y + 1 := by omega
            have y4 : y + 1 ≤ 1000000000000 := by omega
            clear hst hown hys hkx hky
            go_wp2_with fail
            refine (wdShift_1 (y + 1) _ y3 y4).mono ?_
            rintro e w' ⟨rfl, rfl⟩
            go_wp2_with (at_builtin; refine wpList_append_own _ rfl _ _ 22 rfl w.heap.size 3 i0 (.int .i64 0) 1 8 uslice hi0 hz0 hz1 hz2 rfl (by decide) _ _ _ rfl (Hown.out.alloc _) ⟨wr.heap.size, 0, none⟩ 2 2 [.int .i64 (x + (y + 1) / 2), .int .i64 (x + (y + 1) / 2 - y)] rfl rfl (cell_two_new _ _ _ _) (by intro u hu; simp at hu; rcases hu with rfl | rfl <;> rfl) (by unfold maxLen; omega) (by omega) (by simp; omega) ?_; intro v' w3 hown3 hgrow _; have hb3 : Below w.heap.size w w3 := (hb.alloc hsz _).grown hgrow (by simp; omega) (fun j hj => Hob.out j hj); have Hown3 := hid hown3; clear hown3 hgrow)
            go_roundw
            case rel => exact ⟨k + 1, by omega, by go_num, by rw [show 2 * (k + 1) = 2 * k + 2 from by omega, Hst.out, List.map_append]; exact Hown3.out, hb3⟩
            case measure => simp [intOf]; omega
          · have hge : (n1 : Int) ≤ (k : Int) := by omega
            have hkn : k = n1 := by omega
            have Hk := hid hkn
            have Hown := hid hown
            clear hkn hlk hown
            have ho := Hown.out
            rw [Hk.out] at ho
            have R : Res 3 w.heap.size wr _ (tab (2 * n1) (jbF a d)) := Res.owns (by rw [tab_len]; exact ho)
            rw [Hn1.out] at R
            have HR := hid R
            clear R ho
            go_wp2_with fail
            refine (wdIf_is _ _ (sigB (jbL a d)) _ HR.out.sl rfl).mono ?_
            rintro e w' ⟨rfl, rfl⟩
            go_wp2_with fail
            go_ret2
            exact gives_if (jb_y HB0.out HB1.out HB2.out) HR.out hb


set_option maxHeartbeats 1600000 in
theorem gen_FnExactJoinBands (a : List Int) (d : List Int) (u_a : Option Addr) (l_a c_a : Nat) (u_d : Option Addr) (l_d c_d : Nat) (ys : List Int) (ok : Bool) (w : World) (hs_a : Sl w (.slice u_a l_a c_a) a) (ll_a : l_a ≤ 1048576) (hl_a : a.length ≤ 1048576) (hs_d : Sl w (.slice u_d l_d c_d) d) (ll_d : l_d ≤ 1048576) (hl_d : d.length ≤ 1048576) (hy : ys.length ≤ 2000000) (hspec : ∀ (w : World) (v_a : Value) (v_d : Value), Sl w v_a a → Sl w v_d d → Calls Try.prog 11 #[v_a, v_d] w (Gives w ys ok)) (himpl : ∀ (w : World) (v_a : Value) (v_d : Value), Sl w v_a a → Sl w v_d d → Calls Try.prog 12 #[v_a, v_d] w (Gives w ys ok)) :
    Calls Try.prog 4 #[.slice u_a l_a c_a, .slice u_d l_d c_d] w fun e w' => e = .returned (.bool true) ∧ Below w.heap.size w w' := by
  have HSa := hid hs_a
  clear hs_a
  have HSd := hid hs_d
  clear hs_d
  have HSP := hid hspec
  have HIM := hid himpl
  clear hspec himpl
  all_goals cases ok
  all_goals
    go_enter Try.func4, Try.ntmps4
    go_wp2_with fail
    refine (toIntS_any _ a _ HSa.out (by omega)).mono ?_
    rintro e w1 ⟨g_Aa0, hg_Aa0, rfl, K_Aa0, hb⟩
    have B1 := hb
    have hz1 : w.heap.size ≤ w1.heap.size := by first | exact hb.size | (have := hb.size; simp at this; omega)
    have Aa0 := K_Aa0.res hg_Aa0
    go_wp2_with fail
    refine (toIntS_any _ d _ (HSd.out.kept B1) (by omega)).mono ?_
    rintro e w2 ⟨g_Ad1, hg_Ad1, rfl, K_Ad1, hb⟩
    have B2 := bel_step B1 hb
    have hz2 : w1.heap.size ≤ w2.heap.size := hb.size
    have Aa0_2 := Aa0.kept hb
    have Ad1 := K_Ad1.res hg_Ad1
    go_wp2_with fail
    refine (HSP.out _ _ _ Aa0_2.sl Ad1.sl).mono ?_
    rintro e w3 ⟨v_R0, rfl, R0, hb⟩
    have B3 := bel_step B2 hb
    have hz3 : w2.heap.size ≤ w3.heap.size := hb.size
    have Aa0_3 := Aa0_2.kept hb
    have Ad1_3 := Ad1.kept hb
    have hlt0 : ∀ g, v_R0.ownBlock = some g → g < w3.heap.size := fun g hg => R0.lt hg
    have Hlt0 := hid hlt0
    clear hlt0
    go_wp2_with fail
    refine (toIntS_any _ a _ (HSa.out.kept B3) (by omega)).mono ?_
    rintro e w4 ⟨g_Xa, hg_Xa, rfl, K_Xa, hb⟩
    have B4 := bel_step B3 hb
    have hz4 : w3.heap.size ≤ w4.heap.size := hb.size
    have R0_4 := R0.kept hb
    have Xa := K_Xa.res hg_Xa
    have hlt_Xa := K_Xa.lt
    have hne_Xa : ∀ g, v_R0.ownBlock = some g → g ≠ g_Xa := fun g hg => by have a1 := Hlt0.out g hg; omega
    have Hne_Xa := hid hne_Xa
    clear hne_Xa
    go_wp2_with fail
    refine (toIntS_any _ d _ (HSd.out.kept B4) (by omega)).mono ?_
    rintro e w5 ⟨g_Xd, hg_Xd, rfl, K_Xd, hb⟩
    have B5 := bel_step B4 hb
    have hz5 : w4.heap.size ≤ w5.heap.size := hb.size
    have R0_5 := R0_4.kept hb
    have Xa_5 := Xa.kept hb
    have Xd := K_Xd.res hg_Xd
    have hlt_Xd := K_Xd.lt
    have hne_Xd : ∀ g, v_R0.ownBlock = some g → g ≠ g_Xd := fun g hg => by have a1 := Hlt0.out g hg; omega
    have Hne_Xd := hid hne_Xd
    clear hne_Xd
    have hxl_Xa : g_Xa < w5.heap.size := Xa_5.lt rfl
    have hxl_Xd : g_Xd < w5.heap.size := Xd.lt rfl
    go_wp2_with fail
    refine (HIM.out _ _ _ Xa_5.sl Xd.sl).mono ?_
    rintro e w6 ⟨v_R1, rfl, R1, hb⟩
    have B6 := bel_step B5 hb
    have hz6 : w5.heap.size ≤ w6.heap.size := hb.size
    have R0_6 := R0_5.kept hb
    have Xa_6 := Xa_5.kept hb
    have Xd_6 := Xd.kept hb
    have hne1_Xa : ∀ g, v_R1.ownBlock = some g → g ≠ g_Xa := fun g hg => by have a1 := R1.ge hg; omega
    have Hne1_Xa := hid hne1_Xa
    clear hne1_Xa
    have hne1_Xd : ∀ g, v_R1.ownBlock = some g → g ≠ g_Xd := fun g hg => by have a1 := R1.ge hg; omega
    have Hne1_Xd := hid hne1_Xd
    clear hne1_Xd
    have hne01 : ∀ g, v_R0.ownBlock = some g → v_R1.ownBlock ≠ some g := fun g hg e => by have a1 := R1.ge e; have a2 := Hlt0.out g hg; omega
    have Hne01 := hid hne01
    clear hne01
    have hge1 : ∀ g, v_R1.ownBlock = some g → w5.heap.size ≤ g := fun g hg => R1.ge hg
    have Hge1 := hid hge1
    clear hge1
    go_wp2_with fail
    refine (eqIntS_same _ _ ys _ R1.sl R0_6.sl hy).mono ?_
    rintro e w7 ⟨rfl, hb⟩
    have B7 := bel_step B6 hb
    have hz7 : w6.heap.size ≤ w7.heap.size := hb.size
    have R0_7 := R0_6.kept hb
    have Xa_7 := Xa_6.kept hb
    have Xd_7 := Xd_6.kept hb
    have R1_7 := R1.kept hb
    go_wp2_with fail
    refine (toIntS_any _ a _ (HSa.out.kept B7) (by omega)).mono ?_
    rintro e w8 ⟨g_TXa, hg_TXa, rfl, K_TXa, hb⟩
    have B8 := bel_step B7 hb
    have hz8 : w7.heap.size ≤ w8.heap.size := hb.size
    have R0_8 := R0_7.kept hb
    have Xa_8 := Xa_7.kept hb
    have Xd_8 := Xd_7.kept hb
    have R1_8 := R1_7.kept hb
    have TXa := K_TXa.res hg_TXa
    go_wp2_with fail
    refine (eqIntS_same _ _ a _ Xa_8.sl TXa.sl (by omega)).mono ?_
    rintro e w9 ⟨rfl, hb⟩
    have B9 := bel_step B8 hb
    have hz9 : w8.heap.size ≤ w9.heap.size := hb.size
    have R0_9 := R0_8.kept hb
    have Xa_9 := Xa_8.kept hb
    have Xd_9 := Xd_8.kept hb
    have R1_9 := R1_8.kept hb
    have TXa_9 := TXa.kept hb
    go_wp2_with fail
    refine (toIntS_any _ d _ (HSd.out.kept B9) (by omega)).mono ?_
    rintro e w10 ⟨g_TXd, hg_TXd, rfl, K_TXd, hb⟩
    have B10 := bel_step B9 hb
    have hz10 : w9.heap.size ≤ w10.heap.size := hb.size
    have R0_10 := R0_9.kept hb
    have Xa_10 := Xa_9.kept hb
    have Xd_10 := Xd_9.kept hb
    have R1_10 := R1_9.kept hb
    have TXd := K_TXd.res hg_TXd
    go_wp2_with fail
    refine (eqIntS_same _ _ d _ Xd_10.sl TXd.sl (by omega)).mono ?_
    rintro e w11 ⟨rfl, hb⟩
    have B11 := bel_step B10 hb
    have hz11 : w10.heap.size ≤ w11.heap.size := hb.size
    have R0_11 := R0_10.kept hb
    have Xa_11 := Xa_10.kept hb
    have Xd_11 := Xd_10.kept hb
    have R1_11 := R1_10.kept hb
    have TXd_11 := TXd.kept hb
    go_wp2_with fail
    refine (markIntS_one _ a _ _ Xa_11 (by omega)).mono ?_
    rintro e w12 ⟨rfl, ho, _⟩
    have B12 := B11.trans (ho.below fun g hg => by cases hg; exact Nat.le_trans B3.size hg_Xa)
    have hz12 : w11.heap.size ≤ w12.heap.size := Nat.le_of_eq ho.size.symm
    have R0_12 := R0_11.only ho fun g hg e => by cases e; exact Hne_Xa.out _ hg rfl
    have R1_12 := R1_11.only ho fun g hg e => by cases e; exact Hne1_Xa.out _ hg rfl
    have Xd_12 := Xd_11.only ho fun g hg e => by cases hg; cases e; omega
    go_wp2_with fail
    refine (markIntS_plus _ d a.length _ _ Xd_12 (by omega) (by omega)).mono ?_
    rintro e w13 ⟨rfl, ho, _⟩
    have B13 := B12.trans (ho.below fun g hg => by cases hg; exact Nat.le_trans B4.size hg_Xd)
    have hz13 : w12.heap.size ≤ w13.heap.size := Nat.le_of_eq ho.size.symm
    have R0_13 := R0_12.only ho fun g hg e => by cases e; exact Hne_Xd.out _ hg rfl
    have R1_13 := R1_12.only ho fun g hg e => by cases e; exact Hne1_Xd.out _ hg rfl
    go_wp2_with fail
    refine (eqIntS_same _ _ ys _ R1_13.sl R0_13.sl hy).mono ?_
    rintro e w14 ⟨rfl, hb⟩
    have B14 := bel_step B13 hb
    have hz14 : w13.heap.size ≤ w14.heap.size := hb.size
    have R0_14 := R0_13.kept hb
    have R1_14 := R1_13.kept hb
    go_wp2_with fail
    refine (markIntS_one _ ys _ _ R1_14 hy).mono ?_
    rintro e w15 ⟨rfl, ho, M⟩
    have B15 := B14.trans (ho.below fun g hg => Nat.le_trans B5.size (Hge1.out g hg))
    have hz15 : w14.heap.size ≤ w15.heap.size := Nat.le_of_eq ho.size.symm
    have R0_15 := R0_14.only ho Hne01.out
    go_wp2_with fail
    refine (heldIntS_one _ ys.length _ _ M hy).mono ?_
    rintro e w' ⟨rfl, rfl⟩
    go_wp2_with fail
    refine (toIntS_any _ a _ (HSa.out.kept B15) (by omega)).mono ?_
    rintro e w16 ⟨g_Aa15, hg_Aa15, rfl, K_Aa15, hb⟩
    have B16 := bel_step B15 hb
    have hz16 : w15.heap.size ≤ w16.heap.size := hb.size
    have R0_16 := R0_15.kept hb
    have M_16 := M.kept hb
    have Aa15 := K_Aa15.res hg_Aa15
    go_wp2_with fail
    refine (toIntS_any _ d _ (HSd.out.kept B16) (by omega)).mono ?_
    rintro e w17 ⟨g_Ad16, hg_Ad16, rfl, K_Ad16, hb⟩
    have B17 := bel_step B16 hb
    have hz17 : w16.heap.size ≤ w17.heap.size := hb.size
    have R0_17 := R0_16.kept hb
    have M_17 := M_16.kept hb
    have Aa15_17 := Aa15.kept hb
    have Ad16 := K_Ad16.res hg_Ad16
    go_wp2_with fail
    refine (HIM.out _ _ _ Aa15_17.sl Ad16.sl).mono ?_
    rintro e w18 ⟨v_R2, rfl, R2, hb⟩
    have B18 := bel_step B17 hb
    have hz18 : w17.heap.size ≤ w18.heap.size := hb.size
    have R0_18 := R0_17.kept hb
    have M_18 := M_17.kept hb
    have Aa15_18 := Aa15_17.kept hb
    have Ad16_18 := Ad16.kept hb
    go_wp2_with fail
    refine (eqIntS_same _ _ ys _ R2.sl R0_18.sl hy).mono ?_
    rintro e w19 ⟨rfl, hb⟩
    have B19 := bel_step B18 hb
    have hz19 : w18.heap.size ≤ w19.heap.size := hb.size
    have R0_19 := R0_18.kept hb
    have M_19 := M_18.kept hb
    have R2_19 := R2.kept hb
    go_wp2_with fail
    refine (heldIntS_one _ ys.length _ _ M_19 hy).mono ?_
    rintro e w' ⟨rfl, rfl⟩
    go_wp2_with fail
    go_ret
    exact ⟨rfl, B19⟩


set_option maxHeartbeats 1600000 in
theorem walk_FnExactJoinBands (w : World) (u_a : Option Addr) (l_a c_a : Nat) (z_a : List Int) (hr_a : IsRow .i64 w u_a l_a c_a z_a) (u_d : Option Addr) (l_d c_d : Nat) (z_d : List Int) (hr_d : IsRow .i64 w u_d l_d c_d z_d) :
    Calls Try.prog 4 #[.slice u_a l_a c_a, .slice u_d l_d c_d] w fun e w' => e = .returned (.bool true) ∧ Below w.heap.size w w' := by
  obtain ⟨hs_a, hlen_a, hin_a⟩ := hr_a.sl
  generalize z_a.take l_a = a at hs_a hlen_a hin_a
  clear hr_a
  obtain ⟨hs_d, hlen_d, hin_d⟩ := hr_d.sl
  generalize z_d.take l_d = d at hs_d hlen_d hin_d
  clear hr_d
  by_cases hbig_a : 1048576 < l_a
  · clear hs_a hlen_a hin_a hs_d hlen_d hin_d
    go_enter Try.func4, Try.ntmps4
    go_wp2
    go_ret
    exact ⟨rfl, Below.refl _ _⟩
  · have hq_a : l_a ≤ 1048576 := by omega
    by_cases hbig_d : 1048576 < l_d
    · clear hs_d hlen_d hin_d
      go_enter Try.func4, Try.ntmps4
      go_wp2
      go_ret
      exact ⟨rfl, Below.refl _ _⟩
    · have hq_d : l_d ≤ 1048576 := by omega
      exact gen_FnExactJoinBands a d _ _ _ _ _ _ _ _ w hs_a (by omega) (by omega) hs_d (by omega) (by omega) jbO_len (fun w v_a v_d h_a h_d => spec_JoinBands_any v_a v_d a d w h_a h_d) (fun w v_a v_d h_a h_d => impl_JoinBands_any v_a v_d a d w h_a h_d)

end Go.Proofs.Ytnagpfkchkdiiaa
