
import Derived.Test.YthkfjoonkkmgiaaKg
import Derived.Test.YthkfjoonkkmgiaaYl
namespace Go.Proofs.Ythkfjoonkkmgiaa
open Go.RowKit BitX Go.MemX
set_option linter.unusedVariables false

theorem Res.gets {E : TypeId} {B g : Nat} {w w' : World} {v : Value} {xs : List Int} (h : Res E B w v xs) (hb : Gets g w w') (hg : g < B) : Res E B w' v xs :=
  h.same fun k hk => hb.2 k (h.lt hk) (by have := h.ge hk; omega)
theorem Cur.new {w : World} {a : Option Addr} {len cap : Nat} (hb : By w.heap.size w a len) (hl : len ≤ 1048576) : Cur w.heap.size 0 (w.alloc (.cells #[.slice a len cap, .int .i64 0, .int .u64 0] 36)) :=
  ⟨a, len, cap, 0, 0, heap_alloc_new _ _, hb.kept (bel_alloc w _), hl, Nat.le_refl _, by decide, by decide⟩
theorem own_shape {w : World} {base : Nat} {e : TypeId} {size : Nat} {v : Value} {n : Nat} {xs : List Value} (h : w.ownsRow base e size v n xs) : ∃ a cap, v = .slice a n cap := by
  obtain ⟨_, ⟨rfl, rfl⟩ | ⟨g, cap, cur, hv, _⟩⟩ := h
  · exact ⟨none, 0, rfl⟩
  · exact ⟨_, cap, hv⟩
def lnV : Value → Nat
  | .slice _ n _ => n
  | _ => 0


set_option maxHeartbeats 1000000 in
theorem step_any (g K : Nat)  (w : World) (hc : Cur g K w) (hK : K ≤ 999990000) :
    Calls Try.prog 25 #[.pointer (some ⟨g, 0, none⟩)] w (Draws g (K + 4) (-1) 4097 w) := by
  have HC := hid hc
  clear hc
  go_enter Try.func25, Try.ntmps25
  go_wp2_with fail
  refine (pick_any g K 50 _ HC.out (by omega) (by omega) (by omega)).mono ?_
  rintro e w1 ⟨⟨r, rfl, r1, r2⟩, hc1, hb1⟩
  have HC1 := hid hc1
  have HB1 := hid hb1
  have e1 : IntKind.i64.wrap (1 + r) = 1 + r := (w64s (by omega) (by omega)).1
  have e2 : wrap64 (1 + r) = 1 + r := (w64s (by omega) (by omega)).2
  clear hc1 hb1
  go_wp2_with fail
  refine (among_any g (K + 2) w1.heap.size [1, 2, 3, 8, 100, 4096, 4097, 0, (-1), 1 + r] (-1) 4097 _ (HC1.out.kept (bel_alloc _ _)) (by omega) (heap_alloc_new _ _) (Nat.ne_of_gt HC1.out.lt) (by simp) (by simp) (by intro x hx; simp at hx; omega)).mono ?_
  rintro e w2 ⟨⟨t, rfl, t1, t2⟩, hc2, hb2⟩
  have HC2 := hid hc2
  have HB2 := hid ((HB1.out.alloc HC1.out.lt (.cells (intsA [1, 2, 3, 8, 100, 4096, 4097, 0, (-1), 1 + r]) 3)).trans hb2)
  clear hc2 hb2
  go_wp2
  go_ret
  exact ⟨⟨t, rfl, t1, t2⟩, HC2.out, HB2.out⟩


set_option maxHeartbeats 4000000 in
theorem bits9_any (g K : Nat) (w : World) (hc : Cur g K w) (hK : K ≤ 999980000) :
    Calls Try.prog 43 #[.pointer (some ⟨g, 0, none⟩)] w (DrawsL g (K + 240) 66 w) := by
  have HC := hid hc
  have hgl := hc.lt
  clear hc
  obtain ⟨i0, hi0, hz0, hz1, hz2⟩ := info_parts iint
  go_enter Try.func43, Try.ntmps43
  go_wp2_with fail
  refine (pick_any g K 16 _ HC.out (by omega) (by omega) (by omega)).mono ?_
  rintro e w1 ⟨⟨r, rfl, r1, r2⟩, hc1, hb1⟩
  have HC1 := hid (hc1.mono (show K + 2 ≤ K + 2 + 2 * 0 by omega))
  have HB1 := hid hb1
  clear hc1 hb1
  go_wp2_with fail
  go_loopw [3, 4, 5] (fun v t i wr => ∃ (z la : Int) (n : Nat) (xs : List Int), i = .int .i64 z ∧ t = .int .i64 la ∧ (-1 ≤ la ∧ la ≤ 1) ∧ 0 ≤ z ∧ z + n ≤ 15 ∧ wr.ownsRow w.heap.size 3 1 v n (xs.map (Value.int .i64)) ∧ xs.length = n ∧ Cur g (K + 2 + 2 * n) wr ∧ Gets g w wr)
    (fun _ _ i _ => (intOf i).toNat)
  case atStart => exact ⟨r, 1, 0, [], rfl, rfl, by omega, r1, by omega, World.ownsRow_nil _ _ _ _, rfl, HC1.out, HB1.out⟩
  case round =>
    obtain ⟨z, la, n, xs, rfl, rfl, ⟨la1, la2⟩, hz, hzn, hown, hxl, hcr, hbr⟩ := hrel
    have hsz : w.heap.size ≤ wr.heap.size := hbr.1.size
    have HCR := hid hcr
    have HBR := hid hbr
    have Hxl := hid hxl
    clear hcr hbr hxl
    by_cases hz0' : 0 < z
    · have Hown1 := hid hown
      clear hown
      go_wp2_with fail
      refine (one_any g (K + 2 + 2 * n) 2 _ HCR.out (by omega) (by omega) (by omega)).mono ?_
      rintro e w2 ⟨⟨q, rfl⟩, hc2, hb2⟩
      have hs2 : wr.heap.size ≤ w2.heap.size := hb2.1.size
      have HC9 := hid (hc2.mono (show K + 2 + 2 * n + 2 ≤ K + 2 + 2 * (n + 1) by omega))
      have HB9 := hid (HBR.out.trans hb2)
      have Hown := hid (ownsRow_gets Hown1.out hb2 hgl)
      have Hob := hid (ownsRow_base Hown.out)
      clear hc2 hb2 Hown1 HCR HBR
      cases q
      · skip
        go_wp2_with (at_builtin; refine wpList_append_own _ rfl _ _ 24 rfl w.heap.size 3 i0 (.int .i64 0) 1 8 uslice hi0 hz0 hz1 hz2 rfl (by decide) _ _ _ rfl (Hown.out.alloc _) ⟨w2.heap.size, 0, none⟩ 1 1 [.int .i64 (la)] rfl rfl ?c1 ?c2 ?c3 ?c4 ?c5 ?_)
        case c1 => exact cell_one_new _ _ _
        case c2 => intro u hu; simp at hu; subst hu; rfl
        case c3 => unfold maxLen; omega
        case c4 => omega
        case c5 => simp; omega
        intro v' w9 hown9 hgrow _
        have hb9 : Below w.heap.size w2 w9 := ((Below.refl w.heap.size w2).alloc (by omega) _).grown hgrow (by simp; omega) (fun j hj => Hob.out j hj)
        have Hc9 := hid (HC9.out.over hb9 hgl)
        have Hb9 := hid (HB9.out.over hb9 (Nat.le_refl _) hgl)
        have Hown9 := hid hown9
        clear hown9 hgrow hb9
        go_wp2
        go_roundw
        case rel => exact ⟨z - 1, la, n + 1, xs ++ [la], by go_num, rfl, by omega, by omega, by omega, by rw [List.map_append]; exact Hown9.out, by rw [List.length_append, Hxl.out]; rfl, Hc9.out, Hb9.out⟩
        case measure => simp [intOf]; omega
      · obtain ⟨lb, hlb⟩ : ∃ lb, lb = -la := ⟨_, rfl⟩
        have e1 : wrap64 (-la) = lb := by rw [hlb]; exact (w64s (by omega) (by omega)).2
        have e2 : IntKind.i64.wrap (-la) = lb := by rw [hlb]; exact (w64s (by omega) (by omega)).1
        have lb1 : -1 ≤ lb := by omega
        have lb2 : lb ≤ 1 := by omega
        have Hlb := hid hlb
        clear hlb
        go_wp2_with (at_builtin; refine wpList_append_own _ rfl _ _ 24 rfl w.heap.size 3 i0 (.int .i64 0) 1 8 uslice hi0 hz0 hz1 hz2 rfl (by decide) _ _ _ rfl (Hown.out.alloc _) ⟨w2.heap.size, 0, none⟩ 1 1 [.int .i64 (lb)] rfl rfl ?c1 ?c2 ?c3 ?c4 ?c5 ?_)
        case c1 => exact cell_one_new _ _ _
        case c2 => intro u hu; simp at hu; subst hu; rfl
        case c3 => unfold maxLen; omega
        case c4 => omega
        case c5 => simp; omega
        intro v' w9 hown9 hgrow _
        have hb9 : Below w.heap.size w2 w9 := ((Below.refl w.heap.size w2).alloc (by omega) _).grown hgrow (by simp; omega) (fun j hj => Hob.out j hj)
        have Hc9 := hid (HC9.out.over hb9 hgl)
        have Hb9 := hid (HB9.out.over hb9 (Nat.le_refl _) hgl)
        have Hown9 := hid hown9
        clear hown9 hgrow hb9
        go_wp2
        go_roundw
        case rel => exact ⟨z - 1, lb, n + 1, xs ++ [lb], by go_num, rfl, by omega, by omega, by omega, by rw [List.map_append]; exact Hown9.out, by rw [List.length_append, Hxl.out]; rfl, Hc9.out, Hb9.out⟩
        case measure => simp [intOf]; omega
    · have hzz : z ≤ 0 := by omega
      have Hown1 := hid hown
      clear hown hz0'
      go_wp2_with fail
      refine (pick_any g (K + 2 + 2 * n) 14 _ HCR.out (by omega) (by omega) (by omega)).mono ?_
      rintro e w2 ⟨⟨q, rfl, q1, q2⟩, hc2, hb2⟩
      have hs2 : wr.heap.size ≤ w2.heap.size := hb2.1.size
      have HC2 := hid (hc2.mono (show K + 2 + 2 * n + 2 ≤ K + 40 by omega))
      have HB2 := hid (HBR.out.trans hb2)
      have Hown2 := hid (ownsRow_gets Hown1.out hb2 hgl)
      clear hc2 hb2 Hown1 HCR HBR
      by_cases h0 : q = 0
      · have hq0 : (q == 0) = true := beq_iff_eq.2 h0
        go_wp2_with fail
        refine (among_any g (K + 40) w2.heap.size [0, 2, (-2), 4611686018427387904] (-2) 4611686018427387904 _ (HC2.out.kept (bel_alloc _ _)) (by omega) (heap_alloc_new _ _) (Nat.ne_of_gt HC2.out.lt) (by decide) (by decide) (by decide)).mono ?_
        rintro e w3 ⟨⟨x, rfl, x1, x2⟩, hc3, hb3⟩
        have hs3 : w2.heap.size ≤ w3.heap.size := by have h1 := hb3.1.size; have h2 := (bel_alloc w2 (.cells (intsA [0, 2, (-2), 4611686018427387904]) 3)).size; exact Nat.le_trans h2 h1
        have hb4 : Gets g w2 w3 := ((Gets.refl g w2).alloc HC2.out.lt (.cells (intsA [0, 2, (-2), 4611686018427387904]) 3)).trans hb3
        have HC9 := hid (hc3.mono (show K + 40 + 2 ≤ K + 240 by omega))
        have HB9 := hid (HB2.out.trans hb4)
        have Hown := hid (ownsRow_gets Hown2.out hb4 hgl)
        have Hob := hid (ownsRow_base Hown.out)
        clear hc3 hb3 hb4 HC2 HB2 Hown2
        go_wp2_with (at_builtin; refine wpList_append_own _ rfl _ _ 24 rfl w.heap.size 3 i0 (.int .i64 0) 1 8 uslice hi0 hz0 hz1 hz2 rfl (by decide) _ _ _ rfl (Hown.out.alloc _) ⟨w3.heap.size, 0, none⟩ 1 1 [.int .i64 (x)] rfl rfl ?c1 ?c2 ?c3 ?c4 ?c5 ?_)
        case c1 => exact cell_one_new _ _ _
        case c2 => intro u hu; simp at hu; subst hu; rfl
        case c3 => unfold maxLen; omega
        case c4 => omega
        case c5 => simp; omega
        intro v' w9 hown9 hgrow _
        have hb9 : Below w.heap.size w3 w9 := ((Below.refl w.heap.size w3).alloc (by omega) _).grown hgrow (by simp; omega) (fun j hj => Hob.out j hj)
        have Hc9 := hid (HC9.out.over hb9 hgl)
        have Hb9 := hid (HB9.out.over hb9 (Nat.le_refl _) hgl)
        have Hown9 := hid hown9
        clear hown9 hgrow hb9
        go_wp2
        go_ret
        have ho := Hown9.out
        exact ⟨⟨_, xs ++ [x], rfl, Res.owns (by rw [List.length_append, Hxl.out, List.map_append]; exact ho), by rw [List.length_append, Hxl.out]; show n + 1 ≤ 66; omega⟩, Hc9.out, Hb9.out⟩
      · have hq0 : (q == 0) = false := beq_eq_false_iff_ne.2 h0
        by_cases h1 : q = 1
        · have hq1 : (q == 1) = true := beq_iff_eq.2 h1
          clear h0
          go_wp2_with fail
          go_loopw [3] (fun v wr => ∃ (a : Option Addr) (n c : Nat) (xs : List Int), v = .slice a n c ∧ n ≤ 65 ∧ wr.ownsRow w.heap.size 3 1 (.slice a n c) n (xs.map (Value.int .i64)) ∧ xs.length = n ∧ Cur g (K + 40 + 2 * n) wr ∧ Gets g w wr)
            (fun v _ => 66 - lnV v)
          case atStart =>
            obtain ⟨a, c, rfl⟩ := own_shape Hown2.out
            exact ⟨a, n, c, xs, rfl, by omega, Hown2.out, Hxl.out, HC2.out.mono (by omega), HB2.out⟩
          case round =>
            obtain ⟨a, n, c, xs, rfl, hn65, hown, hxl, hcr, hbr⟩ := hrel
            have hsz : w.heap.size ≤ wr.heap.size := hbr.1.size
            have HCR := hid hcr
            have HBR := hid hbr
            have Hxl := hid hxl
            have Hown1 := hid hown
            clear hcr hbr hxl hown
            go_wp2_with fail
            refine (pick_any g (K + 40 + 2 * n) 3 _ HCR.out (by omega) (by omega) (by omega)).mono ?_
            rintro e w3 ⟨⟨t, rfl, t1, t2⟩, hc3, hb3⟩
            have hs3 : wr.heap.size ≤ w3.heap.size := hb3.1.size
            have HC9 := hid (hc3.mono (show K + 40 + 2 * n + 2 ≤ K + 40 + 2 * (n + 1) by omega))
            have HB9 := hid (HBR.out.trans hb3)
            have Hown := hid (ownsRow_gets Hown1.out hb3 hgl)
            have Hob := hid (ownsRow_base Hown.out)
            clear hc3 hb3 Hown1 HCR HBR
            by_cases hlt : (n : Int) < 64 + t - 1
            · skip
              go_wp2_with (at_builtin; refine wpList_append_own _ rfl _ _ 24 rfl w.heap.size 3 i0 (.int .i64 0) 1 8 uslice hi0 hz0 hz1 hz2 rfl (by decide) _ _ _ rfl (Hown.out.alloc _) ⟨w3.heap.size, 0, none⟩ 1 1 [.int .i64 (1)] rfl rfl ?c1 ?c2 ?c3 ?c4 ?c5 ?_)
              case c1 => exact cell_one_new _ _ _
              case c2 => intro u hu; simp at hu; subst hu; rfl
              case c3 => unfold maxLen; omega
              case c4 => omega
              case c5 => simp; omega
              intro v' w9 hown9 hgrow _
              have hb9 : Below w.heap.size w3 w9 := ((Below.refl w.heap.size w3).alloc (by omega) _).grown hgrow (by simp; omega) (fun j hj => Hob.out j hj)
              have Hc9 := hid (HC9.out.over hb9 hgl)
              have Hb9 := hid (HB9.out.over hb9 (Nat.le_refl _) hgl)
              have Hown9 := hid hown9
              clear hown9 hgrow hb9
              go_wp2
              have ho := Hown9.out
              obtain ⟨a9, c9, rfl⟩ := own_shape ho
              go_roundw
              case rel => exact ⟨a9, n + 1, c9, xs ++ [1], rfl, by omega, by rw [List.map_append]; exact ho, by rw [List.length_append, Hxl.out]; rfl, Hc9.out, Hb9.out⟩
              case measure => simp [lnV]; omega
            · have hge : 64 + t - 1 ≤ (n : Int) := by omega
              clear hlt
              go_wp2
              go_ret
              exact ⟨⟨_, xs, rfl, Res.owns (by rw [Hxl.out]; exact Hown.out), by rw [Hxl.out]; omega⟩, HC9.out.mono (by omega), HB9.out⟩
        · have hq1 : (q == 1) = false := beq_eq_false_iff_ne.2 h1
          have HC9 := hid (HC2.out.mono (show K + 40 ≤ K + 240 by omega))
          clear h0 h1
          go_wp2
          go_ret
          exact ⟨⟨_, xs, rfl, Res.owns (by rw [Hxl.out]; exact Hown2.out), by rw [Hxl.out]; omega⟩, HC9.out, HB2.out⟩


/-- what a call leaves that draws a list and a number -/
def DrawsLI (w : World) (e : Ending) (w' : World) : Prop := (∃ v xs f, e = .returned (.tuple #[v, .int .i64 f]) ∧ Res 3 w.heap.size w' v xs ∧ xs.length ≤ 66 ∧ -1 ≤ f ∧ f ≤ 4097) ∧ Below w.heap.size w w'


set_option maxHeartbeats 2000000 in
theorem DrawStepBits_any (a : Option Addr) (len cap : Nat) (w : World) (hb : By w.heap.size w a len) (hl : len ≤ 1048576) :
    Calls Try.prog 5 #[.slice a len cap] w (DrawsLI w) := by
  have hc0 := Cur.new (cap := cap) hb hl
  have hb0 := bel_alloc w (.cells #[.slice a len cap, .int .i64 0, .int .u64 0] 36)
  clear hb
  go_enter Try.func5, Try.ntmps5
  go_wp2_with fail
  refine (signal_any w.heap.size 0 14 40 _ hc0 (by omega) (by omega) (by omega)).mono ?_
  rintro e w1 ⟨⟨v, xs, rfl, hres, hxs⟩, hc1, hb1⟩
  have hr1 := hres.mono (show w.heap.size + 1 ≤ (w.alloc (.cells #[.slice a len cap, .int .i64 0, .int .u64 0] 36)).heap.size from by simp)
  have HR1 := hid hr1
  have HC1 := hid hc1
  have HB1 := hid (hb0.trans hb1.1)
  clear hc0 hb0 hres hc1 hb1 hr1
  go_wp2_with fail
  refine (step_any w.heap.size (0 + 90) _ HC1.out (by omega)).mono ?_
  rintro e w2 ⟨⟨f, rfl, f1, f2⟩, hc2, hb2⟩
  have HR2 := hid (Res.gets HR1.out hb2 (by omega))
  have HB2 := hid (HB1.out.trans hb2.1)
  clear hc2 hb2
  go_wp2
  go_ret2
  exact ⟨⟨v, xs, f, rfl, HR2.out.mono (by omega), hxs, f1, f2⟩, HB2.out⟩


set_option maxHeartbeats 2000000 in
theorem DrawStepsOfBits_any (a : Option Addr) (len cap : Nat) (w : World) (hb : By w.heap.size w a len) (hl : len ≤ 1048576) :
    Calls Try.prog 18 #[.slice a len cap] w (DrawsLI w) := by
  have hc0 := Cur.new (cap := cap) hb hl
  have hb0 := bel_alloc w (.cells #[.slice a len cap, .int .i64 0, .int .u64 0] 36)
  clear hb
  go_enter Try.func18, Try.ntmps18
  go_wp2_with fail
  refine (bits9_any w.heap.size 0 _ hc0 (by omega)).mono ?_
  rintro e w1 ⟨⟨v, xs, rfl, hres, hxs⟩, hc1, hb1⟩
  have hr1 := hres.mono (show w.heap.size + 1 ≤ (w.alloc (.cells #[.slice a len cap, .int .i64 0, .int .u64 0] 36)).heap.size from by simp)
  have HR1 := hid hr1
  have HC1 := hid hc1
  have HB1 := hid (hb0.trans hb1.1)
  clear hc0 hb0 hres hc1 hb1 hr1
  go_wp2_with fail
  refine (step_any w.heap.size (0 + 240) _ HC1.out (by omega)).mono ?_
  rintro e w2 ⟨⟨f, rfl, f1, f2⟩, hc2, hb2⟩
  have HR2 := hid (Res.gets HR1.out hb2 (by omega))
  have HB2 := hid (HB1.out.trans hb2.1)
  clear hc2 hb2
  go_wp2
  go_ret2
  exact ⟨⟨v, xs, f, rfl, HR2.out.mono (by omega), hxs, f1, f2⟩, HB2.out⟩


theorem DrawFixedValues_any (a : Option Addr) (len cap : Nat) (w : World) (hb : By w.heap.size w a len) (hl : len ≤ 1048576) :
    Calls Try.prog 22 #[.slice a len cap] w (DrawsLI w) := by
  have HB := hid hb
  clear hb
  go_enter Try.func22, Try.ntmps22
  go_wp2_with fail
  refine (DrawStepsOfBits_any _ _ _ _ HB.out hl).mono ?_
  rintro e w1 ⟨⟨v, xs, f, rfl, hres, hxs, f1, f2⟩, hb⟩
  go_wp2
  go_ret2
  exact ⟨⟨v, xs, f, rfl, hres, hxs, f1, f2⟩, hb⟩

end Go.Proofs.Ythkfjoonkkmgiaa
