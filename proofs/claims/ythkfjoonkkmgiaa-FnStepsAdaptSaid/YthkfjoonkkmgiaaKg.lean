
import Derived.Test.YthkfjoonkkmgiaaKb
import Derived.Test.YthkfjoonkkmgiaaEb
namespace Go.Proofs.Ythkfjoonkkmgiaa
open Go.RowKit BitX Go.MemX
set_option linter.unusedVariables false
theorem ownsRow_gets {w w' : World} {g base : Nat} {e : TypeId} {size : Nat} {v : Value} {n : Nat} {xs : List Value} (h : w.ownsRow base e size v n xs) (hb : Gets g w w') (hg : g < base) : w'.ownsRow base e size v n xs := by
  obtain ⟨h1, h2⟩ := h
  refine ⟨h1, ?_⟩
  rcases h2 with h2 | ⟨k, cap, cur, hv, hk, hh, r⟩
  · exact .inl h2
  · exact .inr ⟨k, cap, cur, hv, hk, by rw [hb.2 k (lt_of_block hh) (by omega)]; exact hh, r⟩
/-- the cursor stays at changes above it -/
theorem Cur.over {g K N : Nat} {w w' : World} (h : Cur g K w) (hb : Below N w w') (hN : g < N) : Cur g K w' := by
  obtain ⟨a, len, cap, at_, seed, h1, h2, h3⟩ := h
  exact ⟨a, len, cap, at_, seed, by rw [hb.block g hN]; exact h1, h2.kept (hb.mono (by omega)), h3⟩
theorem Gets.over {g N : Nat} {w w1 w2 : World} (h : Gets g w w1) (k : Below N w1 w2) (hN : w.heap.size ≤ N) (hg : g < N) : Gets g w w2 :=
  ⟨h.1.trans (k.mono (by omega)), fun b hb hne => (k.block b (Nat.lt_of_lt_of_le hb hN)).trans (h.2 b hb hne)⟩
/-- what a call leaves that draws a list -/
def DrawsL (g K n : Nat) (w : World) (e : Ending) (w' : World) : Prop := (∃ v xs, e = .returned v ∧ Res 3 w.heap.size w' v xs ∧ xs.length ≤ n) ∧ Cur g K w' ∧ Gets g w w'


set_option maxHeartbeats 4000000 in
theorem signal_any (g K m s : Nat) (w : World) (hc : Cur g K w) (hK : K ≤ 999980000) (hm : m ≤ 20) (hs : s ≤ 1000) :
    Calls Try.prog 24 #[.pointer (some ⟨g, 0, none⟩), .int .i64 (m : Int), .int .i64 (s : Int)] w (DrawsL g (K + 90) 66 w) := by
  have HC := hid hc
  have hgl := hc.lt
  clear hc
  obtain ⟨i0, hi0, hz0, hz1, hz2⟩ := info_parts iint
  go_enter Try.func24, Try.ntmps24
  go_wp2_with fail
  refine (pick_any g K ((m : Int) + 1) _ HC.out (by omega) (by omega) (by omega)).mono ?_
  rintro e w1 ⟨⟨r, rfl, r1, r2⟩, hc1, hb1⟩
  have HC1 := hid (hc1.mono (show K + 2 ≤ K + 2 + 4 * 0 by omega))
  have HB1 := hid hb1
  clear hc1 hb1
  go_wp2_with fail
  go_loopw [7, 8] (fun v i wr => ∃ (z : Int) (n : Nat) (xs : List Int), i = .int .i64 z ∧ 0 ≤ z ∧ z + n ≤ 20 ∧ wr.ownsRow w.heap.size 3 1 v n (xs.map (Value.int .i64)) ∧ xs.length = n ∧ Cur g (K + 2 + 4 * n) wr ∧ Gets g w wr)
    (fun _ i _ => (intOf i).toNat)
  case atStart => exact ⟨r, 0, [], rfl, r1, by omega, World.ownsRow_nil _ _ _ _, rfl, HC1.out, HB1.out⟩
  case round =>
    obtain ⟨z, n, xs, rfl, hz, hzn, hown, hxl, hcr, hbr⟩ := hrel
    have hsz : w.heap.size ≤ wr.heap.size := hbr.1.size
    have HCR := hid hcr
    have HBR := hid hbr
    have Hxl := hid hxl
    clear hcr hbr hxl
    by_cases hz0' : 0 < z
    · have Hown1 := hid hown
      clear hown
      go_wp2_with fail
      refine (one_any g (K + 2 + 4 * n) 4 _ HCR.out (by omega) (by omega) (by omega)).mono ?_
      rintro e w2 ⟨⟨q, rfl⟩, hc2, hb2⟩
      have hs2 : wr.heap.size ≤ w2.heap.size := hb2.1.size
      have HC2 := hid hc2
      have HB2 := hid (HBR.out.trans hb2)
      have Hown2 := hid (ownsRow_gets Hown1.out hb2 hgl)
      clear hc2 hb2 Hown1 HCR HBR
      cases q
      · go_wp2_with fail
        refine (pick_any g (K + 2 + 4 * n + 2) (2 * (s : Int) + 1) _ HC2.out (by omega) (by omega) (by omega)).mono ?_
        rintro e w3 ⟨⟨t, rfl, t1, t2⟩, hc3, hb3⟩
        have hs3 : w2.heap.size ≤ w3.heap.size := hb3.1.size
        obtain ⟨x, hx⟩ : ∃ x, x = t - (s : Int) := ⟨_, rfl⟩
        have e1 : wrap64 (t - (s : Int)) = x := by rw [hx]; exact (w64s (by omega) (by omega)).2
        have e2 : IntKind.i64.wrap (t - (s : Int)) = x := by rw [hx]; exact (w64s (by omega) (by omega)).1
        have HC9 := hid (hc3.mono (show K + 2 + 4 * n + 2 + 2 ≤ K + 2 + 4 * (n + 1) by omega))
        have HB9 := hid (HB2.out.trans hb3)
        have Hown := hid (ownsRow_gets Hown2.out hb3 hgl)
        have Hob := hid (ownsRow_base Hown.out)
        clear hc3 hb3 hx HC2 HB2 Hown2
        go_wp2_with (at_builtin; refine wpList_append_own _ rfl _ _ 24 rfl w.heap.size 3 i0 (.int .i64 0) 1 8 uslice hi0 hz0 hz1 hz2 rfl (by decide) _ _ _ rfl (Hown.out.alloc _) ⟨w3.heap.size, 0, none⟩ 1 1 [.int .i64 (x)] rfl rfl ?c1 ?c2 ?c3 ?c4 ?c5 ?_)
        case c1 => exact cell_one_new _ _ _
        case c2 => intro u hu; simp at hu; subst hu; rfl
        case c3 => unfold maxLen; omega
        case c4 => omega
        case c5 => simp; omega
        intro v' w9 hown9 hgrow _
        have hb9 : Below w.heap.size w3 w9 := ((Below.refl w.heap.size w3).alloc (by omega) _).grown hgrow (by simp; omega) (fun j hj => Hob.out j hj)
        have Hc9 := hid (HC9.out.over hb9 hgl)
        have Hb9 := hid (HB9.out.over hb9 (Nat.le_refl _) hgl)
        have Hown9 := hid hown9
        clear hown9 hgrow hb9
        go_wp2
        go_roundw
        case rel => exact ⟨z - 1, n + 1, xs ++ [x], by go_num, by omega, by omega, by rw [List.map_append]; exact Hown9.out, by rw [List.length_append, Hxl.out]; rfl, Hc9.out, Hb9.out⟩
        case measure => simp [intOf]; omega
      · have HC9 := hid (HC2.out.mono (show K + 2 + 4 * n + 2 ≤ K + 2 + 4 * (n + 1) by omega))
        have HB9 := HB2
        have Hown := Hown2
        have Hob := hid (ownsRow_base Hown.out)
        clear HC2 HB2 Hown2
        go_wp2_with (at_builtin; refine wpList_append_own _ rfl _ _ 24 rfl w.heap.size 3 i0 (.int .i64 0) 1 8 uslice hi0 hz0 hz1 hz2 rfl (by decide) _ _ _ rfl (Hown.out.alloc _) ⟨w2.heap.size, 0, none⟩ 1 1 [.int .i64 (0)] rfl rfl ?c1 ?c2 ?c3 ?c4 ?c5 ?_)
        case c1 => exact cell_one_new _ _ _
        case c2 => intro u hu; simp at hu; subst hu; rfl
        case c3 => unfold maxLen; omega
        case c4 => omega
        case c5 => simp; omega
        intro v' w9 hown9 hgrow _
        have hb9 : Below w.heap.size w2 w9 := ((Below.refl w.heap.size w2).alloc (by omega) _).grown hgrow (by simp; omega) (fun j hj => Hob.out j hj)
        have Hc9 := hid (HC9.out.over hb9 hgl)
        have Hb9 := hid (HB9.out.over hb9 (Nat.le_refl _) hgl)
        have Hown9 := hid hown9
        clear hown9 hgrow hb9
        go_wp2
        go_roundw
        case rel => exact ⟨z - 1, n + 1, xs ++ [0], by go_num, by omega, by omega, by rw [List.map_append]; exact Hown9.out, by rw [List.length_append, Hxl.out]; rfl, Hc9.out, Hb9.out⟩
        case measure => simp [intOf]; omega
    · have hzz : z ≤ 0 := by omega
      have Hown1 := hid hown
      clear hown hz0'
      go_wp2_with fail
      refine (pick_any g (K + 2 + 4 * n) 16 _ HCR.out (by omega) (by omega) (by omega)).mono ?_
      rintro e w2 ⟨⟨q, rfl, q1, q2⟩, hc2, hb2⟩
      have hs2 : wr.heap.size ≤ w2.heap.size := hb2.1.size
      have HC2 := hid hc2
      have HB2 := hid (HBR.out.trans hb2)
      have Hown2 := hid (ownsRow_gets Hown1.out hb2 hgl)
      clear hc2 hb2 Hown1 HCR HBR
      by_cases h0 : q = 0
      · have hq0 : (q == 0) = true := beq_iff_eq.2 h0
        go_wp2_with fail
        refine (among_any g (K + 2 + 4 * n + 2) w2.heap.size [100000, (-100000), 100001, 4611686018427387904] (-100000) 4611686018427387904 _ (HC2.out.kept (bel_alloc _ _)) (by omega) (heap_alloc_new _ _) (Nat.ne_of_gt HC2.out.lt) (by decide) (by decide) (by decide)).mono ?_
        rintro e w3 ⟨⟨x, rfl, x1, x2⟩, hc3, hb3⟩
        have hs3 : w2.heap.size ≤ w3.heap.size := by have h1 := hb3.1.size; have h2 := (bel_alloc w2 (.cells (intsA [100000, (-100000), 100001, 4611686018427387904]) 3)).size; exact Nat.le_trans h2 h1
        have hb4 : Gets g w2 w3 := ((Gets.refl g w2).alloc HC2.out.lt (.cells (intsA [100000, (-100000), 100001, 4611686018427387904]) 3)).trans hb3
        have HC9 := hid (hc3.mono (show K + 2 + 4 * n + 2 + 2 ≤ K + 90 by omega))
        have HB9 := hid (HB2.out.trans hb4)
        have Hown := hid (ownsRow_gets Hown2.out hb4 hgl)
        have Hob := hid (ownsRow_base Hown.out)
        clear hc3 hb3 hb4 HC2 HB2 Hown2
        go_wp2_with (at_builtin; refine wpList_append_own _ rfl _ _ 24 rfl w.heap.size 3 i0 (.int .i64 0) 1 8 uslice hi0 hz0 hz1 hz2 rfl (by decide) _ _ _ rfl (Hown.out.alloc _) ⟨w3.heap.size, 0, none⟩ 1 1 [.int .i64 (x)] rfl rfl ?c1 ?c2 ?c3 ?c4 ?c5 ?_)
        case c1 => exact cell_one_new _ _ _
        case c2 => intro u hu; simp at hu; subst hu; rfl
        case c3 => unfold maxLen; omega
        case c4 => omega
        case c5 => simp; omega
        intro v' w9 hown9 hgrow _
        have hb9 : Below w.heap.size w3 w9 := ((Below.refl w.heap.size w3).alloc (by omega) _).grown hgrow (by simp; omega) (fun j hj => Hob.out j hj)
        have Hc9 := hid (HC9.out.over hb9 hgl)
        have Hb9 := hid (HB9.out.over hb9 (Nat.le_refl _) hgl)
        have Hown9 := hid hown9
        clear hown9 hgrow hb9
        go_wp2
        go_ret
        have ho := Hown9.out
        exact ⟨⟨_, xs ++ [x], rfl, Res.owns (by rw [List.length_append, Hxl.out, List.map_append]; exact ho), by rw [List.length_append, Hxl.out]; show n + 1 ≤ 66; omega⟩, Hc9.out, Hb9.out⟩
      · have hq0 : (q == 0) = false := beq_eq_false_iff_ne.2 h0
        by_cases h1 : q = 1
        · have hq1 : (q == 1) = true := beq_iff_eq.2 h1
          clear h0
          go_wp2_with fail
          refine (pick_any g (K + 2 + 4 * n + 2) 2 _ HC2.out (by omega) (by omega) (by omega)).mono ?_
          rintro e w3 ⟨⟨t, rfl, t1, t2⟩, hc3, hb3⟩
          have hs3 : w2.heap.size ≤ w3.heap.size := hb3.1.size
          obtain ⟨l, hl⟩ : ∃ l : Nat, (l : Int) = 64 + t := ⟨(64 + t).toNat, by omega⟩
          have hl2 : l ≤ 66 := by omega
          have hmk := run_make_ints (P := Try.prog) 24 3 uslice iint l (by omega)
          rw [hl] at hmk
          have HC3 := hid (hc3.mono (show K + 2 + 4 * n + 2 + 2 ≤ K + 90 by omega))
          have HB3 := hid (HB2.out.trans hb3)
          have Hl := hid hl
          clear hc3 hb3 hl HC2 HB2 Hown2
          go_wp2
          go_ret
          refine ⟨⟨_, List.replicate l 0, rfl, ?_, by rw [List.length_replicate]; exact hl2⟩, HC3.out.kept (bel_alloc _ _), HB3.out.alloc HC3.out.lt _⟩
          have h2 := Blk.res (E := 3) (B := w.heap.size) (g := w3.heap.size) (heap_alloc_new w3 (.cells (intsA (List.replicate l 0)) 3)) (by omega)
          rw [List.length_replicate] at h2
          exact h2
        · have hq1 : (q == 1) = false := beq_eq_false_iff_ne.2 h1
          have HC9 := hid (HC2.out.mono (show K + 2 + 4 * n + 2 ≤ K + 90 by omega))
          clear h0 h1
          go_wp2
          go_ret
          exact ⟨⟨_, xs, rfl, Res.owns (by rw [Hxl.out]; exact Hown2.out), by rw [Hxl.out]; omega⟩, HC9.out, HB2.out⟩


/-- what a call leaves that draws a number of stages and a rate -/
def DrawsNR (g K : Nat) (w : World) (e : Ending) (w' : World) : Prop := (∃ x y, e = .returned (.tuple #[.int .i64 x, .int .i64 y]) ∧ (0 ≤ x ∧ x ≤ 9) ∧ 0 ≤ y ∧ y ≤ 9) ∧ Cur g K w' ∧ Gets g w w'
end Go.Proofs.Ythkfjoonkkmgiaa
