
import Derived.Test.YtihoidejjljajaaDoorHa
import Derived.Test.YtihoidejjljajaaDoorOb
namespace Go.Proofs.YtihoidejjljajaaDoor
open Go.RowKit BitX Go.MemX
set_option linter.unusedVariables false
theorem bel_undrew3 {X w : World} (h : Below X.drew.heap.size X.drew w) : Below X.heap.size X w := (Below.refl _ X).drew.trans h

set_option maxHeartbeats 400000 in
theorem eqWord_same (b : Int) (r : Bool) (w : World) :
    Calls Tryd.prog 25 #[.agg #[.int .i64 b, .bool r], .agg #[.int .i64 b, .bool r]] w fun e w' => e = .returned (.bool true) ∧ Below w.heap.size w w' := by
  go_enter Tryd.func25, Tryd.ntmps25
  go_wp2
  go_ret
  exact ⟨rfl, bel_step (bel_alloc _ _) (bel_alloc _ _)⟩
set_option maxHeartbeats 400000 in
theorem eqFirst_same (a k m b : Int) (r : Bool) (w : World) :
    Calls Tryd.prog 15 #[.agg #[.int .i64 a, .int .i64 k, .int .i64 m, .int .i64 b, .bool r], .agg #[.int .i64 a, .int .i64 k, .int .i64 m, .int .i64 b, .bool r]] w fun e w' => e = .returned (.bool true) ∧ Below w.heap.size w w' := by
  go_enter Tryd.func15, Tryd.ntmps15
  go_wp2_with fail
  refine (eqWord_same b r _).mono ?_
  rintro e w1 ⟨rfl, hb⟩
  go_wp2_with fail
  go_ret
  exact ⟨rfl, bel_step (bel_alloc _ _) (bel_step (bel_alloc _ _) hb)⟩

set_option maxHeartbeats 1000000 in
theorem eqFirstS_same (u v : Value) (fs : List Fo) (w : World) (hu : FSl w u fs) (hv : FSl w v fs) (hl : fs.length ≤ 2000000) :
    Calls Tryd.prog 8 #[u, v] w fun e w' => e = .returned (.bool true) ∧ Below w.heap.size w w' := by
  obtain ⟨a, n, cap, rfl, hn, hrd⟩ := hu
  obtain ⟨a2, n2, cap2, rfl, hn2, hrd2⟩ := hv
  obtain rfl : n2 = n := by omega
  have Hn := hid hn
  have Hrd := hid hrd
  have Hrd2 := hid hrd2
  have hl' : n2 ≤ 2000000 := by omega
  clear hn hn2 hrd hrd2 hl
  go_enter Tryd.func8, Tryd.ntmps8
  go_wp2_with fail
  go_loopw [5] (fun i wr => ∃ j : Nat, j ≤ n2 ∧ i = .int .i64 j ∧ Below w.heap.size w wr)
    (fun i _ => n2 - (intOf i).toNat)
  case atStart => exact ⟨0, by omega, rfl, Below.refl _ _⟩
  case round =>
    obtain ⟨j, hj, rfl, hb⟩ := hrel
    by_cases hlk : j < n2
    · obtain ⟨f, hkf⟩ := get_lt fs j (by rw [← Hn.out]; exact hlk)
      obtain ⟨bb, oo, hix, hbb, h0, h1, h2, h3, h4⟩ := (Hrd.out.kept hb).at (P := Tryd.prog) (T := 26) n2 cap usliceF sfiveF hkf hlk
      obtain ⟨b2, o2, hix2, hbb2, g0, g1, g2, g3, g4⟩ := (Hrd2.out.kept hb).at (P := Tryd.prog) (T := 26) n2 cap2 usliceF sfiveF hkf hlk
      have i1 : (0 : Int) ≤ (j : Int) := by omega
      have i2 : (j : Int) < (n2 : Int) := by omega
      clear hkf
      go_wp2_with fail
      go_region_with (go_at_call 15; refine (eqFirst_same _ _ _ _ _ _).mono ?_; rintro e w2 ⟨rfl, hb2⟩; have hB := hb.trans ((bel_undrew3 hb2).mono hb.size))
      all_goals
        go_wp2
        go_roundw
        case rel => exact ⟨j + 1, by omega, by go_num, hB⟩
        case measure => simp [intOf]; omega
    · have hge : (n2 : Int) ≤ (j : Int) := by omega
      clear hlk
      go_wp2
      go_ret
      exact ⟨rfl, hb⟩

/-- one filter of the list is good -/
def foG (f : Fo) : Bool := foB f.a f.k f.m f.b
/-- parts -/
def fsB (fs : List Fo) : Bool := decide (1 ≤ fs.length ∧ fs.length ≤ 4) && fs.all foG
theorem fsB_t {fs : List Fo} (h : fsB fs = true) : (1 ≤ fs.length ∧ fs.length ≤ 4) ∧ ∀ (i : Nat) (f : Fo), fs[i]? = some f → foG f = true := by
  unfold fsB at h
  rw [Bool.and_eq_true] at h
  exact ⟨of_decide_eq_true h.1, fun i f hi => List.all_eq_true.1 h.2 f (List.mem_of_getElem? hi)⟩
theorem fsB_mk {fs : List Fo} (h1 : 1 ≤ fs.length ∧ fs.length ≤ 4) (h2 : ∀ (i : Nat), i < fs.length → ∀ (f : Fo), fs[i]? = some f → foG f = true) : fsB fs = true := by
  unfold fsB
  rw [Bool.and_eq_true]
  refine ⟨decide_eq_true h1, List.all_eq_true.2 fun f hf => ?_⟩
  obtain ⟨i, hi⟩ := List.getElem?_of_mem hf
  exact h2 i (List.getElem?_eq_some_iff.1 hi).1 f hi
theorem fsB_len {fs : List Fo} (h : ¬ (1 ≤ fs.length ∧ fs.length ≤ 4)) : fsB fs = false := by unfold fsB; rw [decide_eq_false h]; rfl
theorem fsB_bad {fs : List Fo} {k : Nat} {f : Fo} (hk : fs[k]? = some f) (h : foG f = false) : fsB fs = false := by
  unfold fsB
  have : fs.all foG = false := by
    rw [List.all_eq_false]
    exact ⟨f, List.mem_of_getElem? hk, by rw [h]; exact Bool.false_ne_true⟩
  rw [this, Bool.and_false]


theorem foGood_g (a k m b : Int) (r q : Bool) (w : World) (h : foG ⟨a, k, m, b, r⟩ = q) :
    Calls Tryd.prog 17 #[.agg #[.int .i64 a, .int .i64 k, .int .i64 m, .int .i64 b, .bool r]] w fun e w' => e = .returned (.bool q) ∧ Below w.heap.size w w' := by
  subst h; exact foGood_is a k m b r w
theorem IsFirst_g (a k m b : Int) (r q : Bool) (w : World) (h : foG ⟨a, k, m, b, r⟩ = q) :
    Calls Tryd.prog 20 #[.agg #[.int .i64 a, .int .i64 k, .int .i64 m, .int .i64 b, .bool r]] w fun e w' => e = .returned (.bool q) ∧ Below w.heap.size w w' := by
  subst h; exact IsFirst_is a k m b r w


set_option maxHeartbeats 1000000 in
theorem chGood_is (v : Value) (fs : List Fo) (w : World) (hs : FSl w v fs) (hl : fs.length ≤ 2000000) :
    Calls Tryd.prog 9 #[v] w fun e w' => e = .returned (.bool (fsB fs)) ∧ Below w.heap.size w w' := by
  obtain ⟨a, n, cap, rfl, hn, hrd⟩ := hs
  have Hn := hid hn
  have Hrd := hid hrd
  by_cases hlen : 1 ≤ n ∧ n ≤ 4
  · obtain ⟨n1, n4⟩ := hlen
    have HL := hid (show 1 ≤ fs.length ∧ fs.length ≤ 4 from by omega)
    clear hn hrd hl
    go_enter Tryd.func9, Tryd.ntmps9
    go_wp2_with fail
    refine (l1In_yes _ _ _ _ (by omega) (by omega)).mono ?_
    rintro e w' ⟨rfl, rfl⟩
    go_wp2_with fail
    go_loopw [11] (fun i wr => ∃ k : Nat, k ≤ n ∧ i = .int .i64 k ∧ Hid (∀ (j : Nat), j < k → ∀ (f : Fo), fs[j]? = some f → foG f = true) ∧ Below w.heap.size w wr)
      (fun i _ => n - (intOf i).toNat)
    case atStart => exact ⟨0, by omega, rfl, hid (fun j hj => absurd hj (Nat.not_lt_zero _)), Below.refl _ _⟩
    case round =>
      obtain ⟨k, hk, rfl, HG, hb⟩ := hrel
      by_cases hlk : k < n
      · obtain ⟨f, hkf⟩ := get_lt fs k (by rw [← Hn.out]; exact hlk)
        obtain ⟨bb, oo, hix, hbb, h0, h1, h2, h3, h4⟩ := (Hrd.out.kept hb).at (P := Tryd.prog) (T := 26) n cap usliceF sfiveF hkf hlk
        have Hkf := hid hkf
        have i1 : (0 : Int) ≤ (k : Int) := by omega
        have i2 : (k : Int) < (n : Int) := by omega
        clear hkf
        cases hg : foG f
        · have HF := hid hg
          clear hg
          go_wp2_with (go_at_call 17; refine (foGood_g _ _ _ _ _ false _ HF.out).mono ?_; rintro e w2 ⟨rfl, hb2⟩)
          go_ret
          exact ⟨by rw [fsB_bad Hkf.out HF.out]; rfl, bel_step (bel_step hb (bel_alloc _ _)) hb2⟩
        · have HF := hid hg
          clear hg
          go_wp2_with (go_at_call 17; refine (foGood_g _ _ _ _ _ true _ HF.out).mono ?_; rintro e w2 ⟨rfl, hb2⟩)
          go_roundw
          case rel => exact ⟨k + 1, by omega, by go_num, hid (fun j hj g hg => by
            rcases Nat.lt_succ_iff_lt_or_eq.1 hj with h | h
            · exact HG.out j h g hg
            · subst h; rw [Hkf.out] at hg; cases hg; exact HF.out), bel_step (bel_step hb (bel_alloc _ _)) hb2⟩
          case measure => simp [intOf]; omega
      · have hge : (n : Int) ≤ (k : Int) := by omega
        have hkn : k = fs.length := by rw [← Hn.out]; omega
        have Hk := hid hkn
        clear hkn hlk
        go_wp2
        go_ret
        exact ⟨by rw [fsB_mk HL.out (fun i hi => HG.out i (by rw [Hk.out]; exact hi))]; rfl, hb⟩
  · have HL := hid (fsB_len (fs := fs) (by rw [← hn]; exact hlen))
    have n2 : n ≤ 2000000 := by omega
    clear hn hrd hl
    have HC := hid (show ¬ ((1 : Int) ≤ (n : Int) ∧ (n : Int) ≤ 4) from by omega)
    clear hlen
    go_enter Tryd.func9, Tryd.ntmps9
    go_wp2_with fail
    refine (l1In_no _ _ _ _ HC.out).mono ?_
    rintro e w' ⟨rfl, rfl⟩
    go_wp2_with fail
    go_ret
    exact ⟨by rw [HL.out]; rfl, Below.refl _ _⟩


set_option maxHeartbeats 1000000 in
theorem AreParts_is (v : Value) (fs : List Fo) (w : World) (hs : FSl w v fs) (hl : fs.length ≤ 2000000) :
    Calls Tryd.prog 12 #[v] w fun e w' => e = .returned (.bool (fsB fs)) ∧ Below w.heap.size w w' := by
  obtain ⟨a, n, cap, rfl, hn, hrd⟩ := hs
  have Hn := hid hn
  have Hrd := hid hrd
  by_cases hlen : 1 ≤ n ∧ n ≤ 4
  · obtain ⟨n1, n4⟩ := hlen
    have HL := hid (show 1 ≤ fs.length ∧ fs.length ≤ 4 from by omega)
    clear hn hrd hl
    go_enter Tryd.func12, Tryd.ntmps12
    have e1 : ¬ (n : Int) < 1 := by omega
    have e2 : ¬ (4 : Int) < (n : Int) := by omega
    go_wp2_with fail
    go_loopw [15] (fun i wr => ∃ k : Nat, k ≤ n ∧ i = .int .i64 k ∧ Hid (∀ (j : Nat), j < k → ∀ (f : Fo), fs[j]? = some f → foG f = true) ∧ Below w.heap.size w wr)
      (fun i _ => n - (intOf i).toNat)
    case atStart => exact ⟨0, by omega, rfl, hid (fun j hj => absurd hj (Nat.not_lt_zero _)), Below.refl _ _⟩
    case round =>
      obtain ⟨k, hk, rfl, HG, hb⟩ := hrel
      by_cases hlk : k < n
      · obtain ⟨f, hkf⟩ := get_lt fs k (by rw [← Hn.out]; exact hlk)
        obtain ⟨bb, oo, hix, hbb, h0, h1, h2, h3, h4⟩ := (Hrd.out.kept hb).at (P := Tryd.prog) (T := 26) n cap usliceF sfiveF hkf hlk
        have Hkf := hid hkf
        have i1 : (0 : Int) ≤ (k : Int) := by omega
        have i2 : (k : Int) < (n : Int) := by omega
        clear hkf
        cases hg : foG f
        · have HF := hid hg
          clear hg
          go_wp2_with (go_at_call 20; refine (IsFirst_g _ _ _ _ _ false _ HF.out).mono ?_; rintro e w2 ⟨rfl, hb2⟩)
          go_ret
          exact ⟨by rw [fsB_bad Hkf.out HF.out]; rfl, bel_step (bel_step hb (bel_alloc _ _)) hb2⟩
        · have HF := hid hg
          clear hg
          go_wp2_with (go_at_call 20; refine (IsFirst_g _ _ _ _ _ true _ HF.out).mono ?_; rintro e w2 ⟨rfl, hb2⟩)
          go_roundw
          case rel => exact ⟨k + 1, by omega, by go_num, hid (fun j hj g hg => by
            rcases Nat.lt_succ_iff_lt_or_eq.1 hj with h | h
            · exact HG.out j h g hg
            · subst h; rw [Hkf.out] at hg; cases hg; exact HF.out), bel_step (bel_step hb (bel_alloc _ _)) hb2⟩
          case measure => simp [intOf]; omega
      · have hge : (n : Int) ≤ (k : Int) := by omega
        have hkn : k = fs.length := by rw [← Hn.out]; omega
        have Hk := hid hkn
        clear hkn hlk
        go_wp2
        go_ret
        exact ⟨by rw [fsB_mk HL.out (fun i hi => HG.out i (by rw [Hk.out]; exact hi))]; rfl, hb⟩
  · have HL := hid (fsB_len (fs := fs) (by rw [← hn]; exact hlen))
    have n2 : n ≤ 2000000 := by omega
    clear hn hrd hl
    by_cases h0 : n < 1
    · have e1 : (n : Int) < 1 := by omega
      clear hlen h0
      go_enter Tryd.func12, Tryd.ntmps12
      go_wp2
      go_ret
      exact ⟨by rw [HL.out]; rfl, Below.refl _ _⟩
    · have e1 : ¬ (n : Int) < 1 := by omega
      have e2 : (4 : Int) < (n : Int) := by omega
      clear hlen h0
      go_enter Tryd.func12, Tryd.ntmps12
      go_wp2
      go_ret
      exact ⟨by rw [HL.out]; rfl, Below.refl _ _⟩


/-- the sum of the shifts -/
def shL (fs : List Fo) : Int := sumL (fs.map Fo.k)
theorem shL_step {fs : List Fo} {k : Nat} {f : Fo} (h : fs[k]? = some f) : shL (fs.take (k + 1)) = shL (fs.take k) + f.k := by
  unfold shL
  rw [take_step fs k f h, List.map_append, sumL_append]; simp [sumL]
theorem foG_k {f : Fo} (h : foG f = true) : 0 ≤ f.k ∧ f.k ≤ 10 := (foB_t h).2.1
theorem shL_bound {fs : List Fo} (h : ∀ (i : Nat) (f : Fo), fs[i]? = some f → foG f = true) : ∀ k, k ≤ fs.length → 0 ≤ shL (fs.take k) ∧ shL (fs.take k) ≤ 10 * (k : Int) := by
  intro k
  induction k with
  | zero => intro _; simp [shL, sumL]
  | succ k ih =>
    intro hk
    obtain ⟨f, hf⟩ := get_lt fs k (by omega)
    have := foG_k (h k f hf)
    have := ih (by omega)
    rw [shL_step hf]; omega
theorem shL_in {fs : List Fo} (h : fsB fs = true) : 0 ≤ shL fs ∧ shL fs ≤ 40 := by
  have h1 := (fsB_t h).1
  have := shL_bound (fsB_t h).2 fs.length (Nat.le_refl _)
  rw [List.take_length] at this
  omega


end Go.Proofs.YtihoidejjljajaaDoor
