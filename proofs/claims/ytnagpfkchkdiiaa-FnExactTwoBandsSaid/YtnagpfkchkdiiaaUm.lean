
import Derived.Test.YtnagpfkchkdiiaaUl
import Derived.Test.YtnagpfkchkdiiaaQa
import Derived.Laws.EntriesVeiled
namespace Go.Proofs.Ytnagpfkchkdiiaa
open Go.RowKit BitX Go.MemX Go.Ch6 Go.Ch8 FltX
set_option linter.unusedVariables false
def tlF (s : List Int) (k : Nat) : Int := (at0 s (2 * k) + at0 s (2 * k + 1)) / 2
def thF (s : List Int) (k : Nat) : Int := at0 s (2 * k) - at0 s (2 * k + 1)
def tlL (s : List Int) : List Int := tab (s.length / 2) (tlF s)
def thL (s : List Int) : List Int := tab (s.length / 2) (thF s)
def tbB (s : List Int) : Bool := sigB s && decide (s.length % 2 = 0)
def tbO (s : List Int) : Bool := tbB s && sigB (thL s)
theorem tb_n1 {s : List Int} (h : sigB s = false) : tbO s = false := and_n1 (and_n1 h)
theorem tb_n2 {s : List Int} (h : decide (s.length % 2 = 0) = false) : tbO s = false := and_n1 (and_n2 h)
theorem tb_n3 {s : List Int} (h : sigB (thL s) = false) : tbO s = false := and_n2 h
theorem tb_y {s : List Int} (h1 : sigB s = true) (h2 : decide (s.length % 2 = 0) = true) (h3 : sigB (thL s) = true) : tbO s = true := by unfold tbO tbB; rw [h1, h2, h3]; rfl
theorem at0_inp8 {s : List Int} (h : InP (-100000) 100000 s) (i : Nat) : -100000 ≤ at0 s i ∧ at0 s i ≤ 100000 := by
  unfold at0
  rw [List.getD_eq_getElem?_getD]
  cases hx : s[i]? with
  | none => exact ⟨by decide, by decide⟩
  | some x => exact h x (List.mem_of_getElem? hx)
theorem tlF_in {s : List Int} (hs : InP (-100000) 100000 s) (k : Nat) : -100000 ≤ tlF s k ∧ tlF s k ≤ 100000 := by
  have a := at0_inp8 hs (2 * k)
  have b := at0_inp8 hs (2 * k + 1)
  unfold tlF; omega
theorem tl_sig {s : List Int} (h : SigP s) : sigB (tlL s) = true := sigB_of ⟨by unfold tlL; rw [tab_len]; have := h.1; omega, fun x hx => by
  obtain ⟨i, hi⟩ := List.getElem?_of_mem hx
  have hil : i < s.length / 2 := by have := (List.getElem?_eq_some_iff.1 hi).1; unfold tlL at this; rwa [tab_len] at this
  unfold tlL at hi
  rw [tab_get _ _ _ hil] at hi
  cases hi
  exact tlF_in h.2 i⟩


set_option maxHeartbeats 1000000 in
theorem bandC_any (gs i : Nat) (v : Value) (s : List Int) (w : World) (hc : w.cell? ⟨gs, 0, none⟩ = some v) (hs : Sl w v s) (hg : SigP s) (hi : 2 * i + 1 < s.length) :
    Calls Try.prog 16 #[.int .i64 (i : Int), .pointer (some ⟨gs, 0, none⟩)] w fun e w' => ∃ re im, e = .returned (.complex .f64 re im) ∧ (Rep Ieee.double re (at0 s (2 * i) + at0 s (2 * i + 1)) ∧ Rep Ieee.double im (thF s i)) ∧ Below w.heap.size w w' := by
  obtain ⟨a, n, cap, rfl, hn, hrd⟩ := hs.rd
  obtain ⟨x, hkx⟩ := get_lt s (2 * i) (by omega)
  obtain ⟨y, hky⟩ := get_lt s (2 * i + 1) hi
  obtain ⟨bb, oo, hix, hbb, hce⟩ := hrd.at (P := Try.prog) (T := 22) n cap uslice sone hkx (by omega)
  obtain ⟨b2, o2, hix2, hbb2, hce2⟩ := hrd.at (P := Try.prog) (T := 22) n cap uslice sone hky (by omega)
  obtain ⟨x1, x2⟩ := hg.2.at hkx
  obtain ⟨y1, y2⟩ := hg.2.at hky
  have hi64 : i ≤ 64 := by have := hg.1; omega
  have hc1 : ((2 * i : Nat) : Int) = 2 * (i : Int) := by omega
  have hc2 : ((2 * i + 1 : Nat) : Int) = 2 * (i : Int) + 1 := by omega
  rw [hc1] at hix
  rw [hc2] at hix2
  have HE := hid (show at0 s (2 * i) = x ∧ at0 s (2 * i + 1) = y ∧ thF s i = x - y from ⟨at0_of hkx, at0_of hky, by unfold thF; rw [at0_of hkx, at0_of hky]⟩)
  rw [HE.out.1, HE.out.2.1, HE.out.2.2]
  have hS : w.drew.cell? ⟨gs, 0, none⟩ = some (.slice a n cap) ∧ w.drew.cell? ⟨bb, oo, none⟩ = some (.int .i64 x) ∧ w.drew.cell? ⟨b2, o2, none⟩ = some (.int .i64 y) := ⟨hc, hce, hce2⟩
  have e1 : ∀ [Inhabited Unit], IntKind.i64.wrap (2 * (i : Int)) = 2 * (i : Int) := IntWalk.i64_in _ (by omega)
  have e2 : ∀ [Inhabited Unit], IntKind.i64.wrap (2 * (i : Int) + 1) = 2 * (i : Int) + 1 := IntWalk.i64_in _ (by omega)
  clear hn hrd hs hg hkx hky hc1 hc2 hi hc
  go_enter Try.func16, Try.ntmps16
  go_wp2_with fail
  go_region_held3 (fun W => W.cell? ⟨gs, 0, none⟩ = some (.slice a n cap) ∧ W.cell? ⟨bb, oo, none⟩ = some (.int .i64 x) ∧ W.cell? ⟨b2, o2, none⟩ = some (.int .i64 y)) (first | exact hS | assumption | go_keep) (first | (go_at_call 17; refine (bandsOf_any x y _ x1 x2 y1 y2).mono ?_; rintro e w' ⟨re, im, rfl, hR, rfl⟩))
  all_goals go_wp2
  all_goals go_ret
  all_goals exact ⟨re, im, rfl, hR, below_drewN (Below.refl _ _) 1⟩
theorem enterBC : Go.Proofs.Enters Try.prog 16 := enters_of Try.func16 (by kernel_rfl) rfl
theorem shifted_1x (x : Int) (w : World) (h3 : -1000000000000 ≤ x) (h4 : x ≤ 1000000000000) :
    Calls Try.prog 20 #[.int .i64 x, .int .i64 1, .int .i64 0] w fun e w' => e = .returned (.int .i64 (x / 2)) ∧ w = w' := by
  have h := shifted_any x 1 0 w (by omega) h3 h4 (.inl rfl)
  rw [show ShX.shiftI x 1 0 = x / 2 from rfl] at h
  exact h


set_option maxHeartbeats 1000000 in
theorem lowC_any (gb gs i : Nat) (v : Value) (s : List Int) (w : World) (hb : w.cell? ⟨gb, 0, none⟩ = some (.func (.func 16) #[] #[.pointer (some ⟨gs, 0, none⟩)])) (hc : w.cell? ⟨gs, 0, none⟩ = some v) (hs : Sl w v s) (hg : SigP s) (hi : 2 * i + 1 < s.length) :
    Calls Try.prog 19 #[.int .i64 (i : Int), .pointer (some ⟨gb, 0, none⟩)] w fun e w' => e = .returned (.int .i64 (tlF s i)) ∧ Below w.heap.size w w' := by
  have HC := hid (bandC_any gs i v s w hc hs hg hi)
  have hx := at0_inp8 hg.2 (2 * i)
  have hy := at0_inp8 hg.2 (2 * i + 1)
  have HV := hid (show tlF s i = (at0 s (2 * i) + at0 s (2 * i + 1)) / 2 from rfl)
  have HT := hid (show thF s i = at0 s (2 * i) - at0 s (2 * i + 1) from rfl)
  rw [HV.out]
  rw [HT.out] at HC
  obtain ⟨xx1, xx2⟩ := hx
  obtain ⟨yy1, yy2⟩ := hy
  generalize at0 s (2 * i) = x at *
  generalize at0 s (2 * i + 1) = y at *
  have eg := enterBC
  clear hs hg hi hc HV HT
  go_enter Try.func19, Try.ntmps19
  go_wp2_with fail
  refine HC.out.mono ?_
  rintro e w1 ⟨re, im, rfl, hR, hB⟩
  have b1 := back64 (P := Try.prog) 36 3 hR.1 (by omega) (by kernel_rfl) (by kernel_rfl)
  go_wp2_with fail
  refine (shifted_1x (x + y) _ (by omega) (by omega)).mono ?_
  rintro e w' ⟨rfl, rfl⟩
  go_wp2
  go_ret
  exact ⟨rfl, hB⟩


set_option maxHeartbeats 1000000 in
theorem highC_any (gb gs i : Nat) (v : Value) (s : List Int) (w : World) (hb : w.cell? ⟨gb, 0, none⟩ = some (.func (.func 16) #[] #[.pointer (some ⟨gs, 0, none⟩)])) (hc : w.cell? ⟨gs, 0, none⟩ = some v) (hs : Sl w v s) (hg : SigP s) (hi : 2 * i + 1 < s.length) :
    Calls Try.prog 21 #[.int .i64 (i : Int), .pointer (some ⟨gb, 0, none⟩)] w fun e w' => e = .returned (.int .i64 (thF s i)) ∧ Below w.heap.size w w' := by
  have HC := hid (bandC_any gs i v s w hc hs hg hi)
  have hx := at0_inp8 hg.2 (2 * i)
  have hy := at0_inp8 hg.2 (2 * i + 1)
  have HV := hid (show thF s i = at0 s (2 * i) - at0 s (2 * i + 1) from rfl)
  have HT := hid (show thF s i = at0 s (2 * i) - at0 s (2 * i + 1) from rfl)
  rw [HV.out]
  rw [HT.out] at HC
  obtain ⟨xx1, xx2⟩ := hx
  obtain ⟨yy1, yy2⟩ := hy
  generalize at0 s (2 * i) = x at *
  generalize at0 s (2 * i + 1) = y at *
  have eg := enterBC
  clear hs hg hi hc HV HT
  go_enter Try.func21, Try.ntmps21
  go_wp2_with fail
  refine HC.out.mono ?_
  rintro e w1 ⟨re, im, rfl, hR, hB⟩
  have b1 := back64 (P := Try.prog) 36 3 hR.2 (by omega) (by kernel_rfl) (by kernel_rfl)
  go_wp2_with fail
  go_ret
  exact ⟨rfl, hB⟩


theorem enterLo : Go.Proofs.Enters Try.prog 19 := enters_of Try.func19 (by kernel_rfl) rfl
theorem enterHi : Go.Proofs.Enters Try.prog 21 := enters_of Try.func21 (by kernel_rfl) rfl
theorem tb_world (w : World) (a z f : Value) (T1 T2 : TypeId) : Var1 T1 (((w.alloc (.cells #[a] T1)).alloc (.cells #[z] T2)).setCell ⟨w.heap.size + 1, 0, none⟩ f) w.heap.size a ∧ Var1 T2 (((w.alloc (.cells #[a] T1)).alloc (.cells #[z] T2)).setCell ⟨w.heap.size + 1, 0, none⟩ f) (w.heap.size + 1) f ∧ Below w.heap.size w (((w.alloc (.cells #[a] T1)).alloc (.cells #[z] T2)).setCell ⟨w.heap.size + 1, 0, none⟩ f) := by
  obtain ⟨a1, a2, b⟩ := alloc2_cells w a z T1 T2
  refine ⟨?_, a2.set f, b.setCell (Nat.le_succ _) _⟩
  unfold Var1
  rw [heap_setCell_other _ _ _ _ (by simp)]
  exact a1
theorem half_cast (n : Nat) : (n : Int) / 2 = ((n / 2 : Nat) : Int) := rfl
/-- what a call leaves that hands back two new lists and a bool -/
def GivesLL (w : World) (xs ys : List Int) (ok : Bool) (e : Ending) (w' : World) : Prop :=
  ∃ u v, e = .returned (.tuple #[u, v, .bool ok]) ∧ Res 3 w.heap.size w' u xs ∧ Res 3 w.heap.size w' v ys ∧ Apart u v ∧ Below w.heap.size w w'
theorem givesLL_no {w w' : World} {xs ys : List Int} {b : Bool} (h : b = false) (hb : Below w.heap.size w w') : GivesLL w (onL b xs) (onL b ys) b (.returned (.tuple #[.slice none 0 0, .slice none 0 0, .bool false])) w' := by
  subst h; exact ⟨_, _, rfl, .inl ⟨rfl, rfl⟩, .inl ⟨rfl, rfl⟩, Apart.nil _, hb⟩
theorem givesLL_yes {w w' : World} {u v : Value} {xs ys : List Int} {b : Bool} (h : b = true) (hu : Res 3 w.heap.size w' u xs) (hv : Res 3 w.heap.size w' v ys) (ha : Apart u v) (hb : Below w.heap.size w w') : GivesLL w (onL b xs) (onL b ys) b (.returned (.tuple #[u, v, .bool true])) w' := by
  subst h; exact ⟨_, _, rfl, hu, hv, ha, hb⟩
theorem apart_later {w w' : World} {B C : Nat} {u v : Value} {xs ys : List Int} (hu : Res 3 B w u xs) (hv : Res 3 C w' v ys) (hC : w.heap.size ≤ C) : Apart u v := fun k hk e => by
  have h1 := hu.lt hk
  have h2 := hv.ge e
  omega


set_option maxHeartbeats 1000000 in
theorem impl_TwoBands_any (v : Value) (s : List Int) (w : World) (hs : Sl w v s) :
    Calls Try.prog 7 #[v] w (GivesLL w (onL (tbO s) (tlL s)) (onL (tbO s) (thL s)) (tbO s)) := by
  have HS := hid hs
  clear hs
  obtain ⟨a, n, cap, rfl, hx1, hx2⟩ := HS.out.rd
  have Hn := hid hx1
  clear hx1 hx2
  have hmf : ∀ (fn : Fn) (first cap : Array Value) (w : World), (Instr.makeFunc fn first cap).run Try.prog w = .ok (.func fn first cap) w := fun _ _ _ _ => rfl
  cases h0 : sigB s
  · have HB0 := hid h0
    clear h0
    go_enter Try.func7, Try.ntmps7
    go_wp2_with fail
    refine (impl_IsSignal_is _ s false _ (HS.out.kept (bel_alloc _ _)) HB0.out).mono ?_
    rintro e w' ⟨rfl, rfl⟩
    go_wp2_with fail
    go_ret3
    exact givesLL_no (tb_n1 HB0.out) (bel_alloc _ _)
  · have HB0 := hid h0
    clear h0
    cases h1 : decide (s.length % 2 = 0)
    · have HB1 := hid h1
      clear h1
      have hev : (n : Int) % 2 = 1 := by rw [Hn.out]; have := of_decide_eq_false HB1.out; omega
      go_enter Try.func7, Try.ntmps7
      go_wp2_with fail
      refine (impl_IsSignal_is _ s true _ (HS.out.kept (bel_alloc _ _)) HB0.out).mono ?_
      rintro e w' ⟨rfl, rfl⟩
      go_wp2_with fail
      go_ret3
      exact givesLL_no (tb_n2 HB1.out) (bel_alloc _ _)
    · have HB1 := hid h1
      clear h1
      have hev : (n : Int) % 2 = 0 := by rw [Hn.out]; have := of_decide_eq_true HB1.out; omega
      have hn64 : n ≤ 64 := by rw [Hn.out]; exact (sigB_t HB0.out).1
      have hl2 : n / 2 ≤ 2000 := by omega
      have HEv := hid (of_decide_eq_true HB1.out)
      have HM1 := hid (fun (W : World) (h1 : Var1 34 W (w.heap.size + 1) (.func (.func 16) #[] #[.pointer (some ⟨w.heap.size, 0, none⟩)])) (h2 : Var1 22 W w.heap.size (.slice a n cap)) (hB : Below w.heap.size w W) => show MadeAt Try.prog 19 #[.pointer (some ⟨w.heap.size + 1, 0, none⟩)] (n / 2) (fun _ => true) (tlF s) W from fun V k hk hV => lowC_any (w.heap.size + 1) w.heap.size k _ s V ((h1.kept hV h1.lt).cell) ((h2.kept hV h2.lt).cell) ((HS.out.kept hB).kept hV) (sigB_t HB0.out) (by have := HEv.out; have := Hn.out; omega))
      have HM2 := hid (fun (W : World) (h1 : Var1 34 W (w.heap.size + 1) (.func (.func 16) #[] #[.pointer (some ⟨w.heap.size, 0, none⟩)])) (h2 : Var1 22 W w.heap.size (.slice a n cap)) (hB : Below w.heap.size w W) => show MadeAt Try.prog 21 #[.pointer (some ⟨w.heap.size + 1, 0, none⟩)] (n / 2) (fun _ => true) (thF s) W from fun V k hk hV => highC_any (w.heap.size + 1) w.heap.size k _ s V ((h1.kept hV h1.lt).cell) ((h2.kept hV h2.lt).cell) ((HS.out.kept hB).kept hV) (sigB_t HB0.out) (by have := HEv.out; have := Hn.out; omega))
      have HP1 := hid (plB_sig (n / 2) (tlF s))
      have HP2 := hid (plB_sig (n / 2) (thF s))
      have HL := hid hl2
      have HLo := hid (show sigB (tab (n / 2) (tlF s)) = true from by rw [Hn.out]; exact tl_sig (sigB_t HB0.out))
      obtain ⟨hw1, hw2, hwB⟩ := alloc2_cells w (.slice a n cap) (.func (.func 16) #[] #[.pointer (some ⟨w.heap.size, 0, none⟩)]) 22 34
      have HW := hid (And.intro hw1 (And.intro hw2 hwB))
      clear hl2 hw1 hw2 hwB
      go_enter Try.func7, Try.ntmps7
      go_wp2_with fail
      refine (impl_IsSignal_is _ s true _ (HS.out.kept (bel_alloc _ _)) HB0.out).mono ?_
      rintro e w' ⟨rfl, rfl⟩
      go_wp2_with fail
      rw [half_cast]
      refine (placed_any _ _ enterLo (n / 2) HL.out (fun _ => true) (tlF s) _ (HM1.out _ HW.out.2.1 HW.out.1 HW.out.2.2)).mono ?_
      intro e w4 hG
      rw [HP1.out, HLo.out] at hG
      obtain ⟨v4, rfl, R4, hb4⟩ := hG
      have hB4 := bel_step HW.out.2.2 hb4
      have hv1 := HW.out.1.kept hb4 HW.out.1.lt
      have hv2 := HW.out.2.1.kept hb4 HW.out.2.1.lt
      have hc1 := hv1.cell
      have hc2 := hv2.cell
      have HM3 := hid (HM2.out w4 hv2 hv1 hB4)
      have HR4 := hid (show Res 3 w.heap.size w4 v4 (tab (n / 2) (tlF s)) from R4.mono HW.out.2.2.size)
      have HB4 := hid hB4
      clear R4 hb4 hv1 hv2 hB4
      go_wp2_with fail
      rw [half_cast]
      refine (placed_any _ _ enterHi (n / 2) HL.out (fun _ => true) (thF s) _ HM3.out).mono ?_
      intro e w5 hG
      rw [HP2.out] at hG
      obtain ⟨v5, rfl, R5, hb5⟩ := hG
      have HB5 := hid (bel_step HB4.out hb5)
      have HA5 := hid (apart_later HR4.out R5 (Nat.le_refl _))
      have HR5 := hid (R5.mono HB4.out.size)
      have HR45 := hid (HR4.out.kept hb5)
      clear R5 hb5
      cases hq : sigB (tab (n / 2) (thF s))
      · have HQ := hid (show tbO s = false from tb_n3 (by unfold thL; rw [← Hn.out]; exact hq))
        rw [hq] at HR5
        clear hq
        go_wp2_with fail
        go_ret3
        exact givesLL_no HQ.out HB5.out
      · have HQ := hid (show tbO s = true from tb_y HB0.out HB1.out (by unfold thL; rw [← Hn.out]; exact hq))
        rw [hq] at HR5
        clear hq
        go_wp2_with fail
        go_ret3
        have h1 := HR45.out
        have h2 := HR5.out
        rw [Hn.out] at h1 h2
        exact givesLL_yes HQ.out h1 h2 HA5.out HB5.out

end Go.Proofs.Ytnagpfkchkdiiaa
