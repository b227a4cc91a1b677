
import Derived.Test.YtoiojbbadmkbjaaXt
import Derived.Test.YtoiojbbadmkbjaaEb
namespace Go.Ch9
open Go Go.RowKit Go.MemX
set_option linter.unusedVariables false
def fjP (s : List Int) (c : Int) : Nat → Int × Int
  | 0 => (0, 0)
  | k + 1 => (at0 s k + c * (fjP s c k).1 - (fjP s c k).2, (fjP s c k).1)
def fiY (s : List Int) (c : Int) (k : Nat) : Int := (fjP s c k).1
def fiZ (s : List Int) (c : Int) (k : Nat) : Int := (fjP s c k).2
theorem fiY_zero (s : List Int) (c : Int) : fiY s c 0 = 0 := rfl
theorem fiZ_zero (s : List Int) (c : Int) : fiZ s c 0 = 0 := rfl
theorem fiY_succ (s : List Int) (c : Int) (k : Nat) : fiY s c (k + 1) = at0 s k + c * fiY s c k - fiZ s c k := rfl
theorem fiZ_succ (s : List Int) (c : Int) (k : Nat) : fiZ s c (k + 1) = fiY s c k := rfl
theorem fi_in {s : List Int} {c : Int} (hs : ∀ i, -100000 ≤ at0 s i ∧ at0 s i ≤ 100000) (hc : c = -1 ∨ c = 0 ∨ c = 1) (n : Nat) :
    (-(100000 * (n : Int)) ≤ fiY s c n ∧ fiY s c n ≤ 100000 * (n : Int)) ∧ (-(100000 * (n : Int)) ≤ fiZ s c n ∧ fiZ s c n ≤ 100000 * (n : Int)) ∧
    (c = 1 → -(100000 * (n : Int)) ≤ fiY s c n - fiZ s c n ∧ fiY s c n - fiZ s c n ≤ 100000 * (n : Int)) ∧ (c = -1 → -(100000 * (n : Int)) ≤ fiY s c n + fiZ s c n ∧ fiY s c n + fiZ s c n ≤ 100000 * (n : Int)) := by
  induction n with
  | zero => rw [fiY_zero, fiZ_zero]; omega
  | succ n ih =>
    have h := hs n
    rw [fiY_succ, fiZ_succ]
    rcases hc with rfl | rfl | rfl <;> omega
def bkI9 (p : Int) : Int := if p = 3 then -1 else if p = 4 then 0 else if p = 6 then 1 else 0
def bkB9 (p : Int) : Bool := decide (p = 3 ∨ p = 4 ∨ p = 6)
def pwI (c y z : Int) : Int := y * y + z * z - c * y * z
end Go.Ch9
namespace Go.Proofs.Ytoiojbbadmkbjaa
open Go.RowKit BitX Go.MemX Go.Ch6 Go.Ch9
set_option linter.unusedVariables false
def tsB (s : List Int) (p : Int) : Bool := bkB9 p && sigB s
theorem sig_at0 {s : List Int} (h : SigP s) (i : Nat) : -100000 ≤ at0 s i ∧ at0 s i ≤ 100000 := by
  by_cases hi : i < s.length
  · obtain ⟨x, hx⟩ := get_lt s i hi
    rw [at0_of hx]; exact h.2 x (List.mem_of_getElem? hx)
  · rw [at0_out (by omega)]; omega
theorem onII9_no {x y : Int} {b : Bool} (h : b = false) : Ending.returned (.tuple #[.int .i64 0, .int .i64 0, .bool false]) = .returned (.tuple #[.int .i64 (onI b x), .int .i64 (onI b y), .bool b]) := by subst h; rfl
theorem onII9_yes {x y x' y' : Int} {b : Bool} (h : b = true) (e : x' = x) (e2 : y' = y) : Ending.returned (.tuple #[.int .i64 x', .int .i64 y', .bool true]) = .returned (.tuple #[.int .i64 (onI b x), .int .i64 (onI b y), .bool b]) := by subst h e e2; rfl
theorem onI9_no {x : Int} {b : Bool} (h : b = false) : Ending.returned (.tuple #[.int .i64 0, .bool false]) = .returned (.tuple #[.int .i64 (onI b x), .bool b]) := by subst h; rfl
theorem onI9_yes {x y : Int} {b : Bool} (h : b = true) (e : y = x) : Ending.returned (.tuple #[.int .i64 y, .bool true]) = .returned (.tuple #[.int .i64 (onI b x), .bool b]) := by subst h e; rfl
theorem ret_ii9 {x y x' y' : Int} (e1 : x = x') (e2 : y = y') : Ending.returned (.tuple #[.int .i64 x, .int .i64 y]) = .returned (.tuple #[.int .i64 x', .int .i64 y']) := by rw [e1, e2]
theorem ts_n1 {s : List Int} {p : Int} (h : bkB9 p = false) : tsB s p = false := by unfold tsB; rw [h]; rfl
theorem ts_n2 {s : List Int} {p : Int} (h : sigB s = false) : tsB s p = false := by unfold tsB; rw [h, Bool.and_false]
theorem ts_t {s : List Int} {p : Int} (h : bkB9 p = true) (h2 : sigB s = true) : tsB s p = true := by unfold tsB; rw [h, h2]; rfl


set_option maxHeartbeats 1000000 in
theorem tnBack_is (p : Int) (b : Bool) (w : World) (h : bkB9 p = b) :
    Calls Try.prog 16 #[.int .i64 p] w fun e w' => e = .returned (.tuple #[.int .i64 (bkI9 p), .bool b]) ∧ w = w' := by
  by_cases h3 : p = 3
  · subst h3
    obtain rfl : b = true := h.symm
    clear h
    go_enter Try.func16, Try.ntmps16
    go_wp2
    go_ret2
    exact ⟨rfl, rfl⟩
  · by_cases h4 : p = 4
    · subst h4
      obtain rfl : b = true := h.symm
      clear h h3
      go_enter Try.func16, Try.ntmps16
      go_wp2
      go_ret2
      exact ⟨rfl, rfl⟩
    · by_cases h6 : p = 6
      · subst h6
        obtain rfl : b = true := h.symm
        clear h h3 h4
        go_enter Try.func16, Try.ntmps16
        go_wp2
        go_ret2
        exact ⟨rfl, rfl⟩
      · obtain rfl : b = false := by rw [← h]; exact decide_eq_false (by omega)
        have HK := hid (show bkI9 p = 0 from by unfold bkI9; rw [if_neg h3, if_neg h4, if_neg h6])
        rw [HK.out]
        clear h
        go_enter Try.func16, Try.ntmps16
        go_wp2
        go_ret2
        exact ⟨rfl, rfl⟩


set_option maxHeartbeats 1000000 in
theorem givenBack_is (p : Int) (b : Bool) (w : World) (h : bkB9 p = b) :
    Calls Try.prog 19 #[.int .i64 p] w fun e w' => e = .returned (.tuple #[.int .i64 (bkI9 p), .bool b]) ∧ w = w' := by
  by_cases h3 : p = 3
  · subst h3
    obtain rfl : b = true := h.symm
    clear h
    go_enter Try.func19, Try.ntmps19
    go_wp2
    go_ret2
    exact ⟨rfl, rfl⟩
  · by_cases h4 : p = 4
    · subst h4
      obtain rfl : b = true := h.symm
      clear h h3
      go_enter Try.func19, Try.ntmps19
      go_wp2
      go_ret2
      exact ⟨rfl, rfl⟩
    · by_cases h6 : p = 6
      · subst h6
        obtain rfl : b = true := h.symm
        clear h h3 h4
        go_enter Try.func19, Try.ntmps19
        go_wp2
        go_ret2
        exact ⟨rfl, rfl⟩
      · obtain rfl : b = false := by rw [← h]; exact decide_eq_false (by omega)
        have HK := hid (show bkI9 p = 0 from by unfold bkI9; rw [if_neg h3, if_neg h4, if_neg h6])
        rw [HK.out]
        clear h
        go_enter Try.func19, Try.ntmps19
        go_wp2
        go_ret2
        exact ⟨rfl, rfl⟩


set_option maxHeartbeats 1000000 in
theorem tnStates_any (v : Value) (s : List Int) (c : Int) (w : World) (hs : Sl w v s) (hg : SigP s) (hc : c = -1 ∨ c = 0 ∨ c = 1) :
    Calls Try.prog 18 #[v, .int .i64 c] w fun e w' => e = .returned (.tuple #[.int .i64 (fiY s c s.length), .int .i64 (fiZ s c s.length)]) ∧ w = w' := by
  obtain ⟨a, n, cap, rfl, hn, hrd⟩ := hs.rd
  have Hn := hid hn
  have Hrd := hid hrd
  have hl' : n ≤ 64 := by rw [hn]; exact hg.1
  have HS := hid (sig_at0 hg)
  have HC := hid hc
  clear hs hn hrd hg hc
  go_enter Try.func18, Try.ntmps18
  go_wp2_with fail
  go_loop [6, 7, 13] (fun y z i => ∃ k : Nat, k ≤ n ∧ i = .int .i64 k ∧ y = .int .i64 (fiY s c k) ∧ z = .int .i64 (fiZ s c k))
    (fun _ _ i => n - (intOf i).toNat)
  case atStart => exact ⟨0, by omega, rfl, rfl, rfl⟩
  case round =>
    obtain ⟨k, hk, rfl, rfl, rfl⟩ := hrel
    by_cases hlk : k < n
    · obtain ⟨x, hkx⟩ := get_lt s k (by rw [← Hn.out]; exact hlk)
      obtain ⟨bb, oo, hix, hbb, hce⟩ := Hrd.out.at (P := Try.prog) (T := 22) n cap uslice sone hkx hlk
      obtain ⟨⟨y1, y2⟩, ⟨z1, z2⟩, _⟩ := fi_in HS.out HC.out k
      obtain ⟨x1, x2⟩ := HS.out k
      have hst := fiY_succ s c k
      rw [at0_of hkx] at x1 x2 hst
      have hst2 := fiZ_succ s c k
      generalize fiY s c k = y at *
      generalize fiZ s c k = z at *
      obtain ⟨y3, y4⟩ : -6400000 ≤ y ∧ y ≤ 6400000 := by omega
      obtain ⟨z3, z4⟩ : -6400000 ≤ z ∧ z ≤ 6400000 := by omega
      obtain ⟨m1, m2⟩ : -6400000 ≤ c * y ∧ c * y ≤ 6400000 := by rcases HC.out with rfl | rfl | rfl <;> omega
      have e1 : ∀ [Inhabited Unit], wrap64 (c * y) = c * y := IntWalk.wrap64_in _ (by omega)
      have Hst := hid hst
      have Hst2 := hid hst2
      clear hkx hst hst2 y1 y2 z1 z2
      go_wp2
      go_round
      case rel => exact ⟨k + 1, by omega, by go_num, by rw [Hst.out], by rw [Hst2.out]⟩
      case measure => simp [intOf]; omega
    · have hge : (n : Int) ≤ (k : Int) := by omega
      have hkn : k = s.length := by rw [← Hn.out]; omega
      have Hk := hid hkn
      clear hkn hlk
      go_wp2
      go_ret2
      exact ⟨ret_ii9 (by rw [Hk.out]) (by rw [Hk.out]), rfl⟩


set_option maxHeartbeats 1000000 in
theorem toneStates_any (v : Value) (s : List Int) (c : Int) (w : World) (hs : Sl w v s) (hg : SigP s) (hc : c = -1 ∨ c = 0 ∨ c = 1) :
    Calls Try.prog 21 #[v, .int .i64 c] w fun e w' => e = .returned (.tuple #[.int .i64 (fiY s c s.length), .int .i64 (fiZ s c s.length)]) ∧ w = w' := by
  obtain ⟨a, n, cap, rfl, hn, hrd⟩ := hs.rd
  have Hn := hid hn
  have Hrd := hid hrd
  have hl' : n ≤ 64 := by rw [hn]; exact hg.1
  have HS := hid (sig_at0 hg)
  have HC := hid hc
  clear hs hn hrd hg hc
  go_enter Try.func21, Try.ntmps21
  go_wp2_with fail
  go_loop [6, 7, 12] (fun y z i => ∃ k : Nat, k ≤ n ∧ i = .int .i64 k ∧ y = .int .i64 (fiY s c k) ∧ z = .int .i64 (fiZ s c k))
    (fun _ _ i => n - (intOf i).toNat)
  case atStart => exact ⟨0, by omega, rfl, rfl, rfl⟩
  case round =>
    obtain ⟨k, hk, rfl, rfl, rfl⟩ := hrel
    by_cases hlk : k < n
    · obtain ⟨x, hkx⟩ := get_lt s k (by rw [← Hn.out]; exact hlk)
      obtain ⟨bb, oo, hix, hbb, hce⟩ := Hrd.out.at (P := Try.prog) (T := 22) n cap uslice sone hkx hlk
      obtain ⟨⟨y1, y2⟩, ⟨z1, z2⟩, _⟩ := fi_in HS.out HC.out k
      obtain ⟨x1, x2⟩ := HS.out k
      have hst := fiY_succ s c k
      rw [at0_of hkx] at x1 x2 hst
      have hst2 := fiZ_succ s c k
      generalize fiY s c k = y at *
      generalize fiZ s c k = z at *
      obtain ⟨y3, y4⟩ : -6400000 ≤ y ∧ y ≤ 6400000 := by omega
      obtain ⟨z3, z4⟩ : -6400000 ≤ z ∧ z ≤ 6400000 := by omega
      obtain ⟨m1, m2⟩ : -6400000 ≤ c * y ∧ c * y ≤ 6400000 := by rcases HC.out with rfl | rfl | rfl <;> omega
      have e1 : ∀ [Inhabited Unit], wrap64 (c * y) = c * y := IntWalk.wrap64_in _ (by omega)
      have Hst := hid hst
      have Hst2 := hid hst2
      clear hkx hst hst2 y1 y2 z1 z2
      go_wp2
      go_round
      case rel => exact ⟨k + 1, by omega, by go_num, by rw [Hst.out], by rw [Hst2.out]⟩
      case measure => simp [intOf]; omega
    · have hge : (n : Int) ≤ (k : Int) := by omega
      have hkn : k = s.length := by rw [← Hn.out]; omega
      have Hk := hid hkn
      clear hkn hlk
      go_wp2
      go_ret2
      exact ⟨ret_ii9 (by rw [Hk.out]) (by rw [Hk.out]), rfl⟩

theorem bk9_in (p : Int) : bkI9 p = -1 ∨ bkI9 p = 0 ∨ bkI9 p = 1 := by
  unfold bkI9
  repeat' split
  all_goals simp


set_option maxHeartbeats 1000000 in
theorem spec_ToneStates_any (v : Value) (s : List Int) (p : Int) (w : World) (hs : Sl w v s) :
    Calls Try.prog 6 #[v, .int .i64 p] w fun e w' => e = .returned (.tuple #[.int .i64 (onI (tsB s p) (fiY s (bkI9 p) s.length)), .int .i64 (onI (tsB s p) (fiZ s (bkI9 p) s.length)), .bool (tsB s p)]) ∧ Below w.heap.size w w' := by
  have HS := hid hs
  clear hs
  cases h0 : bkB9 p
  · have HB0 := hid h0
    clear h0
    go_enter Try.func6, Try.ntmps6
    go_wp2_with fail
    refine (tnBack_is p false _ HB0.out).mono ?_
    rintro e w' ⟨rfl, rfl⟩
    go_wp2_with fail
    go_ret3
    exact ⟨onII9_no (ts_n1 HB0.out), Below.refl _ _⟩
  · have HB0 := hid h0
    clear h0
    cases h1 : sigB s
    · have HB1 := hid h1
      clear h1
      go_enter Try.func6, Try.ntmps6
      go_wp2_with fail
      refine (tnBack_is p true _ HB0.out).mono ?_
      rintro e w' ⟨rfl, rfl⟩
      go_wp2_with fail
      refine (wdSignal_is v s false _ HS.out HB1.out).mono ?_
      rintro e w' ⟨rfl, rfl⟩
      go_wp2_with fail
      go_ret3
      exact ⟨onII9_no (ts_n2 HB1.out), Below.refl _ _⟩
    · have HB1 := hid h1
      clear h1
      have HC := hid (bk9_in p)
      have HG := hid (sigB_t HB1.out)
      go_enter Try.func6, Try.ntmps6
      go_wp2_with fail
      refine (tnBack_is p true _ HB0.out).mono ?_
      rintro e w' ⟨rfl, rfl⟩
      go_wp2_with fail
      refine (wdSignal_is v s true _ HS.out HB1.out).mono ?_
      rintro e w' ⟨rfl, rfl⟩
      go_wp2_with fail
      refine (tnStates_any v s _ _ HS.out HG.out HC.out).mono ?_
      rintro e w' ⟨rfl, rfl⟩
      go_wp2
      go_ret3
      exact ⟨onII9_yes (ts_t HB0.out HB1.out) rfl rfl, Below.refl _ _⟩


set_option maxHeartbeats 1000000 in
theorem spec_TonePower_any (v : Value) (s : List Int) (p : Int) (w : World) (hs : Sl w v s) :
    Calls Try.prog 10 #[v, .int .i64 p] w fun e w' => e = .returned (.tuple #[.int .i64 (onI (tsB s p) (pwI (bkI9 p) (fiY s (bkI9 p) s.length) (fiZ s (bkI9 p) s.length))), .bool (tsB s p)]) ∧ Below w.heap.size w w' := by
  have HS := hid hs
  clear hs
  cases h0 : bkB9 p
  · have HB0 := hid h0
    clear h0
    go_enter Try.func10, Try.ntmps10
    go_wp2_with fail
    refine (tnBack_is p false _ HB0.out).mono ?_
    rintro e w' ⟨rfl, rfl⟩
    go_wp2_with fail
    go_ret2
    exact ⟨onI9_no (ts_n1 HB0.out), Below.refl _ _⟩
  · have HB0 := hid h0
    clear h0
    cases h1 : sigB s
    · have HB1 := hid h1
      clear h1
      go_enter Try.func10, Try.ntmps10
      go_wp2_with fail
      refine (tnBack_is p true _ HB0.out).mono ?_
      rintro e w' ⟨rfl, rfl⟩
      go_wp2_with fail
      refine (wdSignal_is v s false _ HS.out HB1.out).mono ?_
      rintro e w' ⟨rfl, rfl⟩
      go_wp2_with fail
      go_ret2
      exact ⟨onI9_no (ts_n2 HB1.out), Below.refl _ _⟩
    · have HB1 := hid h1
      clear h1
      have HC := hid (bk9_in p)
      have HG := hid (sigB_t HB1.out)
      go_enter Try.func10, Try.ntmps10
      go_wp2_with fail
      refine (tnBack_is p true _ HB0.out).mono ?_
      rintro e w' ⟨rfl, rfl⟩
      go_wp2_with fail
      refine (wdSignal_is v s true _ HS.out HB1.out).mono ?_
      rintro e w' ⟨rfl, rfl⟩
      go_wp2_with fail
      refine (tnStates_any v s _ _ HS.out HG.out HC.out).mono ?_
      rintro e w' ⟨rfl, rfl⟩
      have hfi := fi_in (sig_at0 HG.out) HC.out s.length
      have hl64 := HG.out.1
      have hcm : bkI9 p = -1 ∨ bkI9 p = 0 ∨ bkI9 p = 1 := HC.out
      generalize hY : fiY s (bkI9 p) s.length = y at *
      generalize hZ : fiZ s (bkI9 p) s.length = z at *
      generalize hC : bkI9 p = c at *
      have py : -6400000 ≤ y ∧ y ≤ 6400000 := by omega
      have pz : -6400000 ≤ z ∧ z ≤ 6400000 := by omega
      obtain ⟨p1, p2, p3⟩ := prods_in py.1 py.2 pz.1 pz.2
      have p4 : -6400000 ≤ c * y ∧ c * y ≤ 6400000 := by rcases hcm with rfl | rfl | rfl <;> omega
      have p5 : -40960000000000 ≤ c * y * z ∧ c * y * z ≤ 40960000000000 := by
        rcases hcm with rfl | rfl | rfl
        · rw [Int.neg_one_mul, Int.neg_mul]; omega
        · rw [Int.zero_mul, Int.zero_mul]; omega
        · rw [Int.one_mul]; omega
      have HPW := hid (show wrap64 (y * y + z * z - c * y * z) = pwI (bkI9 p) (fiY s (bkI9 p) s.length) (fiZ s (bkI9 p) s.length) from by rw [hC, hY, hZ]; exact IntWalk.wrap64_in _ (by omega))
      have HPV := hid (show y * y + z * z - c * y * z = pwI (bkI9 p) (fiY s (bkI9 p) s.length) (fiZ s (bkI9 p) s.length) from by rw [hC, hY, hZ]; rfl)
      have e1 : ∀ [Inhabited Unit], wrap64 (y * y) = y * y := IntWalk.wrap64_in _ (by omega)
      have e2 : ∀ [Inhabited Unit], wrap64 (z * z) = z * z := IntWalk.wrap64_in _ (by omega)
      have e3 : ∀ [Inhabited Unit], wrap64 (c * y) = c * y := IntWalk.wrap64_in _ (by omega)
      have e4 : ∀ [Inhabited Unit], wrap64 (c * y * z) = c * y * z := IntWalk.wrap64_in _ (by omega)
      have e5 : ∀ [Inhabited Unit], wrap64 (y * y + z * z) = y * y + z * z := IntWalk.wrap64_in _ (by omega)
      have e6 : ∀ [Inhabited Unit], wrap64 (y * y + z * z - c * y * z) = y * y + z * z - c * y * z := IntWalk.wrap64_in _ (by omega)
      clear p1 p2 p3 p4 p5 hfi hcm py pz hl64 hY hZ hC
      go_wp2
      go_ret2
      exact ⟨onI9_yes (ts_t HB0.out HB1.out) (by first | exact HPW.out | exact HPV.out), Below.refl _ _⟩


set_option maxHeartbeats 1000000 in
theorem impl_ToneStates_any (v : Value) (s : List Int) (p : Int) (w : World) (hs : Sl w v s) :
    Calls Try.prog 8 #[v, .int .i64 p] w fun e w' => e = .returned (.tuple #[.int .i64 (onI (tsB s p) (fiY s (bkI9 p) s.length)), .int .i64 (onI (tsB s p) (fiZ s (bkI9 p) s.length)), .bool (tsB s p)]) ∧ Below w.heap.size w w' := by
  have HS := hid hs
  clear hs
  cases h0 : bkB9 p
  · have HB0 := hid h0
    clear h0
    go_enter Try.func8, Try.ntmps8
    go_wp2_with fail
    refine (givenBack_is p false _ HB0.out).mono ?_
    rintro e w' ⟨rfl, rfl⟩
    go_wp2_with fail
    go_ret3
    exact ⟨onII9_no (ts_n1 HB0.out), Below.refl _ _⟩
  · have HB0 := hid h0
    clear h0
    cases h1 : sigB s
    · have HB1 := hid h1
      clear h1
      go_enter Try.func8, Try.ntmps8
      go_wp2_with fail
      refine (givenBack_is p true _ HB0.out).mono ?_
      rintro e w' ⟨rfl, rfl⟩
      go_wp2_with fail
      refine (impl_IsSignal_is v s false _ HS.out HB1.out).mono ?_
      rintro e w' ⟨rfl, rfl⟩
      go_wp2_with fail
      go_ret3
      exact ⟨onII9_no (ts_n2 HB1.out), Below.refl _ _⟩
    · have HB1 := hid h1
      clear h1
      have HC := hid (bk9_in p)
      have HG := hid (sigB_t HB1.out)
      go_enter Try.func8, Try.ntmps8
      go_wp2_with fail
      refine (givenBack_is p true _ HB0.out).mono ?_
      rintro e w' ⟨rfl, rfl⟩
      go_wp2_with fail
      refine (impl_IsSignal_is v s true _ HS.out HB1.out).mono ?_
      rintro e w' ⟨rfl, rfl⟩
      go_wp2_with fail
      refine (toneStates_any v s _ _ HS.out HG.out HC.out).mono ?_
      rintro e w' ⟨rfl, rfl⟩
      go_wp2
      go_ret3
      exact ⟨onII9_yes (ts_t HB0.out HB1.out) rfl rfl, Below.refl _ _⟩


set_option maxHeartbeats 1000000 in
theorem impl_TonePower_any (v : Value) (s : List Int) (p : Int) (w : World) (hs : Sl w v s) :
    Calls Try.prog 11 #[v, .int .i64 p] w fun e w' => e = .returned (.tuple #[.int .i64 (onI (tsB s p) (pwI (bkI9 p) (fiY s (bkI9 p) s.length) (fiZ s (bkI9 p) s.length))), .bool (tsB s p)]) ∧ Below w.heap.size w w' := by
  have HS := hid hs
  clear hs
  cases h0 : bkB9 p
  · have HB0 := hid h0
    clear h0
    go_enter Try.func11, Try.ntmps11
    go_wp2_with fail
    refine (givenBack_is p false _ HB0.out).mono ?_
    rintro e w' ⟨rfl, rfl⟩
    go_wp2_with fail
    go_ret2
    exact ⟨onI9_no (ts_n1 HB0.out), Below.refl _ _⟩
  · have HB0 := hid h0
    clear h0
    cases h1 : sigB s
    · have HB1 := hid h1
      clear h1
      go_enter Try.func11, Try.ntmps11
      go_wp2_with fail
      refine (givenBack_is p true _ HB0.out).mono ?_
      rintro e w' ⟨rfl, rfl⟩
      go_wp2_with fail
      refine (impl_IsSignal_is v s false _ HS.out HB1.out).mono ?_
      rintro e w' ⟨rfl, rfl⟩
      go_wp2_with fail
      go_ret2
      exact ⟨onI9_no (ts_n2 HB1.out), Below.refl _ _⟩
    · have HB1 := hid h1
      clear h1
      have HC := hid (bk9_in p)
      have HG := hid (sigB_t HB1.out)
      go_enter Try.func11, Try.ntmps11
      go_wp2_with fail
      refine (givenBack_is p true _ HB0.out).mono ?_
      rintro e w' ⟨rfl, rfl⟩
      go_wp2_with fail
      refine (impl_IsSignal_is v s true _ HS.out HB1.out).mono ?_
      rintro e w' ⟨rfl, rfl⟩
      go_wp2_with fail
      refine (toneStates_any v s _ _ HS.out HG.out HC.out).mono ?_
      rintro e w' ⟨rfl, rfl⟩
      have hfi := fi_in (sig_at0 HG.out) HC.out s.length
      have hl64 := HG.out.1
      have hcm : bkI9 p = -1 ∨ bkI9 p = 0 ∨ bkI9 p = 1 := HC.out
      generalize hY : fiY s (bkI9 p) s.length = y at *
      generalize hZ : fiZ s (bkI9 p) s.length = z at *
      generalize hC : bkI9 p = c at *
      have py : -6400000 ≤ y ∧ y ≤ 6400000 := by omega
      have pz : -6400000 ≤ z ∧ z ≤ 6400000 := by omega
      obtain ⟨p1, p2, p3⟩ := prods_in py.1 py.2 pz.1 pz.2
      have p4 : -6400000 ≤ c * y ∧ c * y ≤ 6400000 := by rcases hcm with rfl | rfl | rfl <;> omega
      have p5 : -40960000000000 ≤ c * y * z ∧ c * y * z ≤ 40960000000000 := by
        rcases hcm with rfl | rfl | rfl
        · rw [Int.neg_one_mul, Int.neg_mul]; omega
        · rw [Int.zero_mul, Int.zero_mul]; omega
        · rw [Int.one_mul]; omega
      have HPW := hid (show wrap64 (y * y + z * z - c * y * z) = pwI (bkI9 p) (fiY s (bkI9 p) s.length) (fiZ s (bkI9 p) s.length) from by rw [hC, hY, hZ]; exact IntWalk.wrap64_in _ (by omega))
      have HPV := hid (show y * y + z * z - c * y * z = pwI (bkI9 p) (fiY s (bkI9 p) s.length) (fiZ s (bkI9 p) s.length) from by rw [hC, hY, hZ]; rfl)
      have e1 : ∀ [Inhabited Unit], wrap64 (y * y) = y * y := IntWalk.wrap64_in _ (by omega)
      have e2 : ∀ [Inhabited Unit], wrap64 (z * z) = z * z := IntWalk.wrap64_in _ (by omega)
      have e3 : ∀ [Inhabited Unit], wrap64 (c * y) = c * y := IntWalk.wrap64_in _ (by omega)
      have e4 : ∀ [Inhabited Unit], wrap64 (c * y * z) = c * y * z := IntWalk.wrap64_in _ (by omega)
      have e5 : ∀ [Inhabited Unit], wrap64 (y * y + z * z) = y * y + z * z := IntWalk.wrap64_in _ (by omega)
      have e6 : ∀ [Inhabited Unit], wrap64 (y * y + z * z - c * y * z) = y * y + z * z - c * y * z := IntWalk.wrap64_in _ (by omega)
      clear p1 p2 p3 p4 p5 hfi hcm py pz hl64 hY hZ hC
      go_wp2
      go_ret2
      exact ⟨onI9_yes (ts_t HB0.out HB1.out) (by first | exact HPW.out | exact HPV.out), Below.refl _ _⟩


set_option maxHeartbeats 1600000 in
theorem gen_FnExactToneStates (s : List Int) (p : Int) (u_s : Option Addr) (l_s c_s : Nat) (r0 : Int) (r1 : Int) (r2 : Bool) (w : World) (hs_s : Sl w (.slice u_s l_s c_s) s) (ll_s : l_s ≤ 1048576) (hl_s : s.length ≤ 1048576) (hspec : ∀ (w : World) (v_s : Value), Sl w v_s s → Calls Try.prog 6 #[v_s, .int .i64 p] w fun e w' => e = .returned (.tuple #[.int .i64 r0, .int .i64 r1, .bool r2]) ∧ Below w.heap.size w w') (himpl : ∀ (w : World) (v_s : Value), Sl w v_s s → Calls Try.prog 8 #[v_s, .int .i64 p] w fun e w' => e = .returned (.tuple #[.int .i64 r0, .int .i64 r1, .bool r2]) ∧ Below w.heap.size w w') :
    Calls Try.prog 3 #[.slice u_s l_s c_s, .int .i64 p] w fun e w' => e = .returned (.bool true) ∧ Below w.heap.size w w' := by
  have HSs := hid hs_s
  clear hs_s
  have HSP := hid hspec
  have HIM := hid himpl
  clear hspec himpl
  all_goals cases r2
  all_goals
    go_enter Try.func3, Try.ntmps3
    go_wp2_with fail
    refine (toIntS_any _ s _ HSs.out (by omega)).mono ?_
    rintro e w1 ⟨g_As0, hg_As0, rfl, K_As0, hb⟩
    have B1 := hb
    have hz1 : w.heap.size ≤ w1.heap.size := by first | exact hb.size | (have := hb.size; simp at this; omega)
    have As0 := K_As0.res hg_As0
    go_wp2_with fail
    refine (HSP.out _ _ As0.sl).mono ?_
    rintro e w2 ⟨rfl, hb⟩
    have B2 := bel_step B1 hb
    have hz2 : w1.heap.size ≤ w2.heap.size := hb.size
    have As0_2 := As0.kept hb
    go_wp2_with fail
    refine (toIntS_any _ s _ (HSs.out.kept B2) (by omega)).mono ?_
    rintro e w3 ⟨g_Xs, hg_Xs, rfl, K_Xs, hb⟩
    have B3 := bel_step B2 hb
    have hz3 : w2.heap.size ≤ w3.heap.size := hb.size
    have Xs := K_Xs.res hg_Xs
    have hlt_Xs := K_Xs.lt
    have hxl_Xs : g_Xs < w3.heap.size := Xs.lt rfl
    go_wp2_with fail
    refine (HIM.out _ _ Xs.sl).mono ?_
    rintro e w4 ⟨rfl, hb⟩
    have B4 := bel_step B3 hb
    have hz4 : w3.heap.size ≤ w4.heap.size := hb.size
    have Xs_4 := Xs.kept hb
    go_wp2_with fail
    refine (toIntS_any _ s _ (HSs.out.kept B4) (by omega)).mono ?_
    rintro e w5 ⟨g_TXs, hg_TXs, rfl, K_TXs, hb⟩
    have B5 := bel_step B4 hb
    have hz5 : w4.heap.size ≤ w5.heap.size := hb.size
    have Xs_5 := Xs_4.kept hb
    have TXs := K_TXs.res hg_TXs
    go_wp2_with fail
    refine (eqIntS_same _ _ s _ Xs_5.sl TXs.sl (by omega)).mono ?_
    rintro e w6 ⟨rfl, hb⟩
    have B6 := bel_step B5 hb
    have hz6 : w5.heap.size ≤ w6.heap.size := hb.size
    have Xs_6 := Xs_5.kept hb
    have TXs_6 := TXs.kept hb
    go_wp2_with fail
    go_ret
    exact ⟨rfl, B6⟩


set_option maxHeartbeats 1600000 in
theorem walk_FnExactToneStates (w : World) (u_s : Option Addr) (l_s c_s : Nat) (z_s : List Int) (hr_s : IsRow .i64 w u_s l_s c_s z_s) (p : Int) (w_p : (Lit.int .i64 p).wf = true) :
    Calls Try.prog 3 #[.slice u_s l_s c_s, .int .i64 p] w fun e w' => e = .returned (.bool true) ∧ Below w.heap.size w w' := by
  obtain ⟨hs_s, hlen_s, hin_s⟩ := hr_s.sl
  generalize z_s.take l_s = s at hs_s hlen_s hin_s
  clear hr_s
  obtain ⟨p_1, p_2⟩ := bounds_i64 w_p
  by_cases hbig_s : 1048576 < l_s
  · clear hs_s hlen_s hin_s
    go_enter Try.func3, Try.ntmps3
    go_wp2
    go_ret
    exact ⟨rfl, Below.refl _ _⟩
  · have hq_s : l_s ≤ 1048576 := by omega
    exact gen_FnExactToneStates s p _ _ _ _ _ _ w hs_s (by omega) (by omega)  (fun w v_s h_s => spec_ToneStates_any v_s s p w h_s) (fun w v_s h_s => impl_ToneStates_any v_s s p w h_s)


set_option maxHeartbeats 1600000 in
theorem gen_FnExactTonePower (s : List Int) (p : Int) (u_s : Option Addr) (l_s c_s : Nat) (r0 : Int) (r1 : Bool) (w : World) (hs_s : Sl w (.slice u_s l_s c_s) s) (ll_s : l_s ≤ 1048576) (hl_s : s.length ≤ 1048576) (hspec : ∀ (w : World) (v_s : Value), Sl w v_s s → Calls Try.prog 10 #[v_s, .int .i64 p] w fun e w' => e = .returned (.tuple #[.int .i64 r0, .bool r1]) ∧ Below w.heap.size w w') (himpl : ∀ (w : World) (v_s : Value), Sl w v_s s → Calls Try.prog 11 #[v_s, .int .i64 p] w fun e w' => e = .returned (.tuple #[.int .i64 r0, .bool r1]) ∧ Below w.heap.size w w') :
    Calls Try.prog 4 #[.slice u_s l_s c_s, .int .i64 p] w fun e w' => e = .returned (.bool true) ∧ Below w.heap.size w w' := by
  have HSs := hid hs_s
  clear hs_s
  have HSP := hid hspec
  have HIM := hid himpl
  clear hspec himpl
  all_goals cases r1
  all_goals
    go_enter Try.func4, Try.ntmps4
    go_wp2_with fail
    refine (toIntS_any _ s _ HSs.out (by omega)).mono ?_
    rintro e w1 ⟨g_As0, hg_As0, rfl, K_As0, hb⟩
    have B1 := hb
    have hz1 : w.heap.size ≤ w1.heap.size := by first | exact hb.size | (have := hb.size; simp at this; omega)
    have As0 := K_As0.res hg_As0
    go_wp2_with fail
    refine (HSP.out _ _ As0.sl).mono ?_
    rintro e w2 ⟨rfl, hb⟩
    have B2 := bel_step B1 hb
    have hz2 : w1.heap.size ≤ w2.heap.size := hb.size
    have As0_2 := As0.kept hb
    go_wp2_with fail
    refine (toIntS_any _ s _ (HSs.out.kept B2) (by omega)).mono ?_
    rintro e w3 ⟨g_Xs, hg_Xs, rfl, K_Xs, hb⟩
    have B3 := bel_step B2 hb
    have hz3 : w2.heap.size ≤ w3.heap.size := hb.size
    have Xs := K_Xs.res hg_Xs
    have hlt_Xs := K_Xs.lt
    have hxl_Xs : g_Xs < w3.heap.size := Xs.lt rfl
    go_wp2_with fail
    refine (HIM.out _ _ Xs.sl).mono ?_
    rintro e w4 ⟨rfl, hb⟩
    have B4 := bel_step B3 hb
    have hz4 : w3.heap.size ≤ w4.heap.size := hb.size
    have Xs_4 := Xs.kept hb
    go_wp2_with fail
    refine (toIntS_any _ s _ (HSs.out.kept B4) (by omega)).mono ?_
    rintro e w5 ⟨g_TXs, hg_TXs, rfl, K_TXs, hb⟩
    have B5 := bel_step B4 hb
    have hz5 : w4.heap.size ≤ w5.heap.size := hb.size
    have Xs_5 := Xs_4.kept hb
    have TXs := K_TXs.res hg_TXs
    go_wp2_with fail
    refine (eqIntS_same _ _ s _ Xs_5.sl TXs.sl (by omega)).mono ?_
    rintro e w6 ⟨rfl, hb⟩
    have B6 := bel_step B5 hb
    have hz6 : w5.heap.size ≤ w6.heap.size := hb.size
    have Xs_6 := Xs_5.kept hb
    have TXs_6 := TXs.kept hb
    go_wp2_with fail
    go_ret
    exact ⟨rfl, B6⟩


set_option maxHeartbeats 1600000 in
theorem walk_FnExactTonePower (w : World) (u_s : Option Addr) (l_s c_s : Nat) (z_s : List Int) (hr_s : IsRow .i64 w u_s l_s c_s z_s) (p : Int) (w_p : (Lit.int .i64 p).wf = true) :
    Calls Try.prog 4 #[.slice u_s l_s c_s, .int .i64 p] w fun e w' => e = .returned (.bool true) ∧ Below w.heap.size w w' := by
  obtain ⟨hs_s, hlen_s, hin_s⟩ := hr_s.sl
  generalize z_s.take l_s = s at hs_s hlen_s hin_s
  clear hr_s
  obtain ⟨p_1, p_2⟩ := bounds_i64 w_p
  by_cases hbig_s : 1048576 < l_s
  · clear hs_s hlen_s hin_s
    go_enter Try.func4, Try.ntmps4
    go_wp2
    go_ret
    exact ⟨rfl, Below.refl _ _⟩
  · have hq_s : l_s ≤ 1048576 := by omega
    exact gen_FnExactTonePower s p _ _ _ _ _ w hs_s (by omega) (by omega)  (fun w v_s h_s => spec_TonePower_any v_s s p w h_s) (fun w v_s h_s => impl_TonePower_any v_s s p w h_s)

end Go.Proofs.Ytoiojbbadmkbjaa
