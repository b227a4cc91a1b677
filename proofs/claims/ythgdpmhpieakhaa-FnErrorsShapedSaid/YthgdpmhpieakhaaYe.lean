
import Derived.Test.YthgdpmhpieakhaaKg
import Derived.Test.YthgdpmhpieakhaaQg
namespace Go.Proofs.Ythgdpmhpieakhaa
open Go.RowKit BitX Go.MemX Go.ShX Go.ChV
set_option linter.unusedVariables false


theorem Res.gets {E : TypeId} {B g : Nat} {w w' : World} {v : Value} {xs : List Int} (h : Res E B w v xs) (hb : Gets g w w') (hg : g < B) : Res E B w' v xs :=
  h.same fun k hk => hb.2 k (h.lt hk) (by have := h.ge hk; omega)
theorem Cur.new {w : World} {a : Option Addr} {len cap : Nat} (hb : By w.heap.size w a len) (hl : len ≤ 1048576) : Cur w.heap.size 0 (w.alloc (.cells #[.slice a len cap, .int .i64 0, .int .u64 0] 36)) :=
  ⟨a, len, cap, 0, 0, heap_alloc_new _ _, hb.kept (bel_alloc w _), hl, Nat.le_refl _, by decide, by decide⟩

theorem rest_strict (x : Int) (k : Nat) (mode : Int) : ((2 : Int) ^ k = 1 ∧ x - shiftI x k mode * 2 ^ k = 0) ∨ (1 < (2 : Int) ^ k ∧ -(2 : Int) ^ k < x - shiftI x k mode * 2 ^ k ∧ x - shiftI x k mode * 2 ^ k < 2 ^ k) := by
  have hp := pow_or k
  unfold shiftI
  generalize (2 : Int) ^ k = P at *
  rcases hp with rfl | ⟨h, rfl, h0⟩
  · refine .inl ⟨rfl, ?_⟩
    split
    · omega
    · split
      · rw [Int.tdiv_one]; omega
      · omega
  · refine .inr ⟨by omega, ?_⟩
    split
    · have e : 2 * h / 2 = h := by omega
      rw [e]
      have h1 := Int.mul_ediv_add_emod (x + h) (2 * h)
      have h2 := Int.emod_nonneg (x + h) (show (2 * h) ≠ 0 by omega)
      have h3 := Int.emod_lt_of_pos (x + h) (show 0 < 2 * h by omega)
      rw [Int.mul_comm] at h1
      generalize (x + h) / (2 * h) * (2 * h) = q at *
      omega
    · split
      · have h1 := Int.mul_tdiv_add_tmod x (2 * h)
        have h2 := Int.tmod_lt_of_pos x (show 0 < 2 * h by omega)
        have h3 : -(2 * h) < x.tmod (2 * h) := by
          have := Int.tmod_lt_of_pos (-x) (show 0 < 2 * h by omega)
          rw [Int.neg_tmod] at this
          omega
        rw [Int.mul_comm] at h1
        generalize x.tdiv (2 * h) * (2 * h) = q at *
        omega
      · have h1 := Int.mul_ediv_add_emod x (2 * h)
        have h2 := Int.emod_nonneg x (show (2 * h) ≠ 0 by omega)
        have h3 := Int.emod_lt_of_pos x (show 0 < 2 * h by omega)
        rw [Int.mul_comm] at h1
        generalize x / (2 * h) * (2 * h) = q at *
        omega
theorem gp_one (s : List Int) (k : Nat) (mode : Int) (i : Nat) : gpS s k mode 1 i = erL s k mode 1 i := by
  induction i with
  | zero => rfl
  | succ i ih =>
    rw [gpS_succ, erL_succ, ih]
    unfold suI
    rw [bkI_1]
    omega
theorem gp_two (s : List Int) (k : Nat) (mode : Int) (i : Nat) : gpS s k mode 2 i = erL s k mode 2 i - erB s k mode 2 i := by
  induction i with
  | zero => rfl
  | succ i ih =>
    rw [gpS_succ, erL_succ, erB_succ, ih]
    have e : suI s k mode 2 i = at0 s i + (2 * erL s k mode 2 i - erB s k mode 2 i) := rfl
    rw [e]
    omega
/-- the greatest size of the first i sums -/
def gsM (s : List Int) (k : Nat) (mode order : Int) (i : Nat) : Int := pkM ((sgL s k mode order).take i)
theorem gsM_zero (s : List Int) (k : Nat) (mode order : Int) : gsM s k mode order 0 = 0 := rfl
theorem gsM_succ (s : List Int) (k : Nat) (mode order : Int) (i : Nat) (h : i < s.length) : gsM s k mode order (i + 1) = mostI (gsM s k mode order i) (absI (gpS s k mode order (i + 1))) :=
  pkM_step (by unfold sgL; rw [tab_get _ _ _ h])
theorem gsM_full (s : List Int) (k : Nat) (mode order : Int) : gsM s k mode order s.length = pkM (sgL s k mode order) := by
  unfold gsM
  rw [List.take_of_length_le (by rw [sgL, tab_len]; exact Nat.le_refl _)]
/-- what the greatest sum is bounded by -/
theorem gsM_bound (s : List Int) (k : Nat) (mode order : Int) (i : Nat) (hi : i ≤ s.length) :
    (order = 1 → gsM s k mode order i < 2 ^ k ∨ gsM s k mode order i = 0) ∧ (order = 2 → gsM s k mode order i < 2 * 2 ^ k ∨ gsM s k mode order i = 0) := by
  induction i with
  | zero => exact ⟨fun _ => .inr rfl, fun _ => .inr rfl⟩
  | succ i ih =>
    have h := ih (by omega)
    rw [gsM_succ _ _ _ _ _ (by omega)]
    have r0 : ∀ j, ((2 : Int) ^ k = 1 ∧ erL s k mode order (j + 1) = 0) ∨ (1 < (2 : Int) ^ k ∧ -(2 : Int) ^ k < erL s k mode order (j + 1) ∧ erL s k mode order (j + 1) < 2 ^ k) := fun j => rest_strict (suI s k mode order j) k mode
    have r1 := r0 i
    have r2 : erL s k mode order i = 0 ∨ ((2 : Int) ^ k = 1 ∧ erL s k mode order i = 0) ∨ (1 < (2 : Int) ^ k ∧ -(2 : Int) ^ k < erL s k mode order i ∧ erL s k mode order i < 2 ^ k) := by
      cases i with
      | zero => exact .inl rfl
      | succ j => exact .inr (r0 j)
    have hp : (0 : Int) < 2 ^ k := Int.pow_pos (by decide)
    refine ⟨fun ho => ?_, fun ho => ?_⟩
    · have h1 := h.1 ho
      subst ho
      rw [gp_one]
      generalize (2 : Int) ^ k = P at *
      unfold mostI absI
      split <;> omega
    · have h1 := h.2 ho
      subst ho
      rw [gp_two, erB_succ]
      generalize (2 : Int) ^ k = P at *
      unfold mostI absI
      split <;> omega


theorem results_tmp4 {fn : Func} {t u v x : Tmp} (h : fn.results = #[.tmp t, .tmp u, .tmp v, .tmp x]) (tmps : Array Value) (P : Program) (w : World) :
    (results fn tmps).run P w = .ok (.tuple #[tmps.getD t undef, tmps.getD u undef, tmps.getD v undef, tmps.getD x undef]) w := by
  simp [results, h]
def DrawsS (g K : Nat) (w : World) (e : Ending) (w' : World) : Prop := (∃ v xs k m o, e = .returned (.tuple #[v, .int .i64 k, .int .i64 m, .int .i64 o]) ∧ Res 3 w.heap.size w' v xs ∧ xs.length ≤ 66 ∧ (-1 ≤ k ∧ k ≤ 11) ∧ (-1 ≤ m ∧ m ≤ 3) ∧ -1 ≤ o ∧ o ≤ 3) ∧ Cur g K w' ∧ Gets g w w'
set_option maxHeartbeats 2000000 in
theorem shaped_any (g K : Nat) (w : World) (hc : Cur g K w) (hK : K ≤ 999970000) :
    Calls Try.prog 16 #[.pointer (some ⟨g, 0, none⟩)] w (DrawsS g (K + 120) w) := by
  have HC0 := hid hc
  have HB0 := hid (Gets.refl g w)
  have hgl := hc.lt
  clear hc
  go_enter Try.func16, Try.ntmps16
  go_wp2_with fail
  refine (one_any g (K) 12 _ HC0.out (by omega) (by omega) (by omega)).mono ?_
  rintro e w1 ⟨⟨q, rfl⟩, hc1, hb1⟩
  have HC1 := hid hc1
  have HB1 := hid (HB0.out.trans hb1)
  clear hc1 hb1
  cases q
  · skip
    go_wp2_with fail
    refine (signal_any g (K + 2) 14 60 _ HC1.out (by omega) (by omega) (by omega)).mono ?_
    rintro e w2 ⟨⟨v, xs, rfl, hres, hxs⟩, hc2, hb2⟩
    have HR2 := hid (hres.mono (show w.heap.size ≤ w1.heap.size from HB1.out.1.size))
    clear hres
    have HC2 := hid hc2
    have HB2 := hid (HB1.out.trans hb2)
    clear hc2 hb2
    go_wp2_with fail
    refine (pick_any g (K + 2 + 90) 5 _ HC2.out (by omega) (by omega) (by omega)).mono ?_
    rintro e w3 ⟨⟨k, rfl, k1, k2⟩, hc3, hb3⟩
    have HR3 := hid (Res.gets HR2.out hb3 hgl)
    have HC3 := hid hc3
    have HB3 := hid (HB2.out.trans hb3)
    clear hc3 hb3
    go_wp2_with fail
    refine (mode_any g (K + 2 + 90 + 2) _ HC3.out (by omega)).mono ?_
    rintro e w4 ⟨⟨m, rfl, m1, m2⟩, hc4, hb4⟩
    have HR4 := hid (Res.gets HR3.out hb4 hgl)
    have HC4 := hid hc4
    have HB4 := hid (HB3.out.trans hb4)
    clear hc4 hb4
    go_wp2_with fail
    refine (pick_any g (K + 2 + 90 + 2 + 2) 4 _ HC4.out (by omega) (by omega) (by omega)).mono ?_
    rintro e w5 ⟨⟨a, rfl, a1, a2⟩, hc5, hb5⟩
    have HR5 := hid (Res.gets HR4.out hb5 hgl)
    have HC5 := hid hc5
    have HB5 := hid (HB4.out.trans hb5)
    clear hc5 hb5
    go_wp2_with fail
    refine (pick_any g (K + 2 + 90 + 2 + 2 + 2) 9 _ HC5.out (by omega) (by omega) (by omega)).mono ?_
    rintro e w6 ⟨⟨b, rfl, b1, b2⟩, hc6, hb6⟩
    have HR6 := hid (Res.gets HR5.out hb6 hgl)
    have HC6 := hid hc6
    have HB6 := hid (HB5.out.trans hb6)
    clear hc6 hb6
    obtain ⟨d, hd⟩ : ∃ d, d = b / 8 := ⟨_, rfl⟩
    have d1 : 0 ≤ d := by omega
    have d2 : d ≤ 1 := by omega
    have e1 : b / 8 = d := hd.symm
    have e2 : b.tdiv 8 = d := by rw [Int.tdiv_eq_ediv_of_nonneg b1]; exact hd.symm
    have e3 : IntKind.i64.wrap (a - d) = a - d := (w64s (by omega) (by omega)).1
    have e4 : wrap64 (a - d) = a - d := (w64s (by omega) (by omega)).2
    have e5 : IntKind.i64.wrap d = d := (w64s (by omega) (by omega)).1
    clear hd
    go_wp2
    (try simp only [Exit.inBlock, Exit.then])
    refine bodyPost_ret (results_tmp4 rfl _ _ _) rfl ?_
    exact ⟨⟨v, xs, k, m, (a - d), rfl, HR6.out, hxs, ⟨by omega, by omega⟩, ⟨m1, m2⟩, by omega, by omega⟩, HC6.out.mono (by omega), HB6.out⟩
  · skip
    go_wp2_with fail
    refine (signal_any g (K + 2) 6 30 _ HC1.out (by omega) (by omega) (by omega)).mono ?_
    rintro e w2 ⟨⟨v, xs, rfl, hres, hxs⟩, hc2, hb2⟩
    have HR2 := hid (hres.mono (show w.heap.size ≤ w1.heap.size from HB1.out.1.size))
    clear hres
    have HC2 := hid hc2
    have HB2 := hid (HB1.out.trans hb2)
    clear hc2 hb2
    go_wp2_with fail
    refine (among_any g (K + 2 + 90) w2.heap.size [(-1), 0, 10, 11] (-1) (11) _ (HC2.out.kept (bel_alloc _ _)) (by omega) (heap_alloc_new _ _) (Nat.ne_of_gt HC2.out.lt) (by decide) (by decide) (by decide)).mono ?_
    rintro e w3 ⟨⟨k, rfl, k1, k2⟩, hc3, hb3'⟩
    have hb3 : Gets g w2 w3 := ((Gets.refl g w2).alloc HC2.out.lt (.cells (intsA [(-1), 0, 10, 11]) 3)).trans hb3'
    clear hb3'
    have HR3 := hid (Res.gets HR2.out hb3 hgl)
    have HC3 := hid hc3
    have HB3 := hid (HB2.out.trans hb3)
    clear hc3 hb3
    go_wp2_with fail
    refine (mode_any g (K + 2 + 90 + 2) _ HC3.out (by omega)).mono ?_
    rintro e w4 ⟨⟨m, rfl, m1, m2⟩, hc4, hb4⟩
    have HR4 := hid (Res.gets HR3.out hb4 hgl)
    have HC4 := hid hc4
    have HB4 := hid (HB3.out.trans hb4)
    clear hc4 hb4
    go_wp2_with fail
    refine (pick_any g (K + 2 + 90 + 2 + 2) 3 _ HC4.out (by omega) (by omega) (by omega)).mono ?_
    rintro e w5 ⟨⟨o, rfl, o1, o2⟩, hc5, hb5⟩
    have HR5 := hid (Res.gets HR4.out hb5 hgl)
    have HC5 := hid hc5
    have HB5 := hid (HB4.out.trans hb5)
    clear hc5 hb5
    go_wp2
    (try simp only [Exit.inBlock, Exit.then])
    refine bodyPost_ret (results_tmp4 rfl _ _ _) rfl ?_
    exact ⟨⟨v, xs, k, m, o, rfl, HR5.out, hxs, ⟨by omega, by omega⟩, ⟨m1, m2⟩, by omega, by omega⟩, HC5.out.mono (by omega), HB5.out⟩

/-- what a call leaves that draws for a shape -/
def DrawsW (w : World) (e : Ending) (w' : World) : Prop := (∃ v xs k m o, e = .returned (.tuple #[v, .int .i64 k, .int .i64 m, .int .i64 o]) ∧ Res 3 w.heap.size w' v xs ∧ xs.length ≤ 66 ∧ (-1 ≤ k ∧ k ≤ 11) ∧ (-1 ≤ m ∧ m ≤ 3) ∧ -1 ≤ o ∧ o ≤ 3) ∧ Below w.heap.size w w'
set_option maxHeartbeats 2000000 in
theorem DrawShapeSignal_any (a : Option Addr) (len cap : Nat) (w : World) (hb : By w.heap.size w a len) (hl : len ≤ 1048576) :
    Calls Try.prog 5 #[.slice a len cap] w (DrawsW w) := by
  have hc0 := Cur.new (cap := cap) hb hl
  have hb0 := bel_alloc w (.cells #[.slice a len cap, .int .i64 0, .int .u64 0] 36)
  clear hb
  go_enter Try.func5, Try.ntmps5
  go_wp2_with fail
  refine (shaped_any w.heap.size 0 _ hc0 (by omega)).mono ?_
  rintro e w1 ⟨⟨v, xs, k, m, o, rfl, hres, hxs, hk, hm, ho⟩, hc1, hb1⟩
  go_wp2
  (try simp only [Exit.inBlock, Exit.then])
  refine bodyPost_ret (results_tmp4 rfl _ _ _) rfl ?_
  exact ⟨⟨v, xs, k, m, o, rfl, hres.mono hb0.size, hxs, hk, hm, ho⟩, hb0.trans hb1.1⟩

end Go.Proofs.Ythgdpmhpieakhaa
