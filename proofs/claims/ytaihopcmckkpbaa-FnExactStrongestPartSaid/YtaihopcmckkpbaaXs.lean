
import Derived.Test.YtaihopcmckkpbaaXp
namespace Go.Proofs.Ytaihopcmckkpbaa
open Go.RowKit BitX Go.MemX Go.Ch6 Go.Ch9 FltX
set_option linter.unusedVariables false

/-- what slices.Index finds -/
def IxF (xs : List Int) (x e : Int) : Prop := (e = -1 ∧ ∀ i, i < xs.length → at0 xs i ≠ x) ∨ ∃ i, i < xs.length ∧ e = (i : Int) ∧ at0 xs i = x ∧ ∀ j, j < i → at0 xs j ≠ x


set_option maxRecDepth 20000 in
set_option maxHeartbeats 1000000 in
theorem indexF_any (v : Value) (xs : List Int) (x : Int) (w : World) (hs : Sl w v xs) (hl : xs.length ≤ 64) :
    Calls Try.prog 29 #[v, .int .i64 x] w fun e w' => ∃ k, e = .returned (.int .i64 k) ∧ IxF xs x k ∧ w = w' := by
  obtain ⟨a, n, cap, rfl, hn, hrd⟩ := hs.rd
  have Hn := hid hn
  have Hrd := hid hrd
  have hl' : n ≤ 64 := by omega
  clear hs hn hrd hl
  go_enter Try.func29, Try.ntmps29
  go_wp2_with fail
  go_loop [8] (fun i => ∃ k : Nat, k ≤ n ∧ i = .int .i64 k ∧ Hid (∀ i, i < k → at0 xs i ≠ x))
    (fun i => n - (intOf i).toNat)
  case atStart => exact ⟨0, by omega, rfl, hid fun i hi => by omega⟩
  case round =>
    obtain ⟨k, hk, rfl, hno⟩ := hrel
    have Hno := hid hno
    clear hno
    by_cases hlk : k < n
    · obtain ⟨y, hky⟩ := get_lt xs k (by rw [← Hn.out]; exact hlk)
      obtain ⟨bb, oo, hix, hbb, hce⟩ := Hrd.out.at (P := Try.prog) (T := 22) n cap uslice sone hky hlk
      have Hky := hid (at0_of hky)
      clear hky
      by_cases hxy : x = y
      · have hne : (x == y) = true := beq_iff_eq.2 hxy
        have Hix := hid (show IxF xs x (k : Int) from .inr ⟨k, by rw [← Hn.out]; exact hlk, rfl, Hky.out.trans hxy.symm, Hno.out.out⟩)
        clear hxy
        go_wp2_with fail
        go_ret
        exact ⟨_, rfl, Hix.out, rfl⟩
      · have hne : (x == y) = false := by rw [beq_eq_false_iff_ne]; exact hxy
        have Hs := hid (show ∀ i, i < k + 1 → at0 xs i ≠ x from fun i hi => by
          by_cases e : i = k
          · rw [e, Hky.out]; exact fun h => hxy h.symm
          · exact Hno.out.out i (by omega))
        clear hxy
        go_wp2_with fail
        go_round
        case rel => exact ⟨k + 1, by omega, by go_num, Hs⟩
        case measure => simp [intOf]; omega
    · have hge : (n : Int) ≤ (k : Int) := by omega
      have Hix := hid (show IxF xs x (-1) from .inl ⟨rfl, fun i hi => Hno.out.out i (by rw [← Hn.out] at hi; omega)⟩)
      clear hlk
      go_wp2_with fail
      go_ret
      exact ⟨_, rfl, Hix.out, rfl⟩


set_option maxHeartbeats 1000000 in
theorem slMaxF_any (v : Value) (f : Nat → Int) (m : Nat) (w : World) (hs : Sl w v (tab m f)) (m1 : 1 ≤ m) (m2 : m ≤ 64) (hf : ∀ i, -122880000000000 ≤ f i ∧ f i ≤ 122880000000000) :
    Calls Try.prog 30 #[v] w fun e w' => e = .returned (.int .i64 (f (amN f m))) ∧ w = w' := by
  obtain ⟨aa, n, cap, rfl, hm, hrd⟩ := hs.rd
  rw [tab_len] at hm
  subst hm
  have Hrd := hid hrd
  have HF := hid hf
  have hk0 : (tab n f)[0]? = some (f 0) := tab_get _ _ _ (by omega)
  obtain ⟨b0, o0, hix0, hbb0, hce0⟩ := Hrd.out.at (P := Try.prog) (T := 22) n cap uslice sone hk0 (by omega)
  rw [show ((0 : Nat) : Int) = 0 from rfl] at hix0
  have H0 := hid (show f 0 = f (amN f 1) from by by_cases h : f (amN f 0) < f 0
                                                 · rw [amN_t h]
                                                 · rw [amN_f (by omega)]; rfl)
  rw [H0.out] at hce0
  clear hs hrd hf hk0
  go_enter Try.func30, Try.ntmps30
  go_wp2_with fail
  go_loop [3, 4] (fun mm i => ∃ c : Nat, 1 ≤ c ∧ c ≤ n ∧ mm = .int .i64 (f (amN f c)) ∧ i = .int .i64 c)
    (fun _ i => n - (intOf i).toNat)
  case atStart => exact ⟨1, by omega, by omega, rfl, rfl⟩
  case round =>
    clear hix0 hbb0 hce0
    obtain ⟨c, hc1, hc, rfl, rfl⟩ := hrel
    by_cases hlk : c < n
    · have hkx : (tab n f)[c]? = some (f c) := tab_get _ _ _ hlk
      obtain ⟨bb, oo, hix, hbb, hce⟩ := Hrd.out.at (P := Try.prog) (T := 22) n cap uslice sone hkx hlk
      obtain ⟨z1, z2⟩ := HF.out (amN f c)
      obtain ⟨y1, y2⟩ := HF.out c
      by_cases hlt : f (amN f c) < f c
      · have Hst := hid (show f (amN f (c + 1)) = f c from by rw [amN_t hlt])
        generalize f (amN f c) = z at *
        generalize f c = y at *
        clear hkx
        go_wp2
        go_round
        case rel => exact ⟨c + 1, by omega, by omega, by rw [Hst.out]; first | done | exact congrArg _ (by first | omega | (split <;> omega)), by go_num⟩
        case measure => simp [intOf]; omega
      · have hle : f c ≤ f (amN f c) := by omega
        have Hst := hid (show f (amN f (c + 1)) = f (amN f c) from by rw [amN_f hle])
        generalize f (amN f c) = z at *
        generalize f c = y at *
        clear hkx hlt
        go_wp2
        go_round
        case rel => exact ⟨c + 1, by omega, by omega, by rw [Hst.out]; first | done | exact congrArg _ (by first | omega | (split <;> omega)), by go_num⟩
        case measure => simp [intOf]; omega
    · have hge : (n : Int) ≤ (c : Int) := by omega
      have hkn : c = n := by omega
      have Hk := hid hkn
      clear hkn hlk
      go_wp2
      go_ret
      exact ⟨ret_i (by rw [Hk.out]), rfl⟩
theorem ix_am {f : Nat → Int} {m : Nat} {e : Int} (m1 : 1 ≤ m) (h : IxF (tab m f) (f (amN f m)) e) : e = ((amN f m : Nat) : Int) := by
  have hlt := (amN_lt f m).2 (by omega)
  rcases h with ⟨_, h⟩ | ⟨i, hi, rfl, h, hfst⟩
  · exact absurd (at0_tab m f _ hlt) (h (amN f m) (by rw [tab_len]; exact hlt))
  · rw [tab_len] at hi
    rw [at0_tab m f i hi] at h
    have h1 := amN_le f m i hi
    by_cases hc : i < amN f m
    · have := amN_first f m i hc; omega
    · by_cases hd : amN f m < i
      · exact absurd (at0_tab m f _ hlt) (hfst _ hd)
      · have : i = amN f m := by omega
        rw [this]


set_option maxHeartbeats 1000000 in
theorem powersOf_bad (v : Value) (s : List Int) (p : Int) (w : World) (hs : Sl w v s) (hp : decide (p = 4 ∨ p = 6) = false) :
    Calls Try.prog 27 #[v, .int .i64 p] w fun e w' => e = .returned (.tuple #[.slice none 0 0, .bool false]) ∧ Below w.heap.size w w' := by
  have HS := hid hs
  have HP := hid hp
  clear hs hp
  cases h0 : sigB s
  · have HB0 := hid h0
    clear h0
    go_enter Try.func27, Try.ntmps27
    go_wp2_with fail
    refine (impl_IsSignal_is v s false _ HS.out HB0.out).mono ?_
    rintro e w' ⟨rfl, rfl⟩
    go_wp2_with fail
    go_ret2
    exact ⟨rfl, Below.refl _ _⟩
  · have HB0 := hid h0
    clear h0
    go_enter Try.func27, Try.ntmps27
    go_wp2_with fail
    refine (impl_IsSignal_is v s true _ HS.out HB0.out).mono ?_
    rintro e w' ⟨rfl, rfl⟩
    go_wp2_with fail
    refine (hasTones_is p false _ HP.out).mono ?_
    rintro e w' ⟨rfl, rfl⟩
    go_wp2_with fail
    go_ret2
    exact ⟨rfl, Below.refl _ _⟩


set_option maxHeartbeats 1000000 in
theorem strong_4 (v : Value) (s : List Int) (w : World) (hs : Sl w v s) :
    Calls Try.prog 21 #[v, .int .i64 4] w fun e w' => e = .returned (.tuple #[.int .i64 (onI (sgB9 s) ((amN (poK s 4) 4 : Nat) : Int)), .bool (sgB9 s)]) ∧ Below w.heap.size w w' := by
  have HS := hid hs
  cases h0 : sigB s
  · have HB0 := hid h0
    have hcall := powersOf_4 v s w hs
    rw [sg9 h0] at hcall
    have HC := hid hcall
    clear hcall h0 hs
    go_enter Try.func21, Try.ntmps21
    go_wp2_with fail
    refine HC.out.mono ?_
    rintro e w1 ⟨u, rfl, R, hb⟩
    clear R
    go_wp2_with fail
    go_ret2
    exact ⟨onI9_no (sg9 HB0.out), hb⟩
  · have HB0 := hid h0
    have hcall := powersOf_4 v s w hs
    rw [sg9 h0] at hcall
    have HC := hid hcall
    have HG := hid (sigB_t h0)
    clear hcall h0 hs
    go_enter Try.func21, Try.ntmps21
    go_wp2_with fail
    refine HC.out.mono ?_
    rintro e w1 ⟨u, rfl, R, hb⟩
    have HR := hid (show Sl w1 u (tab 4 (poK s 4)) from R.sl)
    clear R
    go_wp2_with fail
    refine (slMaxF_any u (poK s 4) 4 _ HR.out (by omega) (by omega) (poK_in HG.out 4)).mono ?_
    rintro e w2 ⟨rfl, rfl⟩
    go_wp2_with fail
    refine (indexF_any u _ _ _ HR.out (by rw [tab_len]; omega)).mono ?_
    rintro e w2 ⟨k, rfl, hk, rfl⟩
    have HK := hid (ix_am (by omega) hk)
    clear hk
    go_wp2_with fail
    go_ret2
    exact ⟨onI9_yes (sg9 HB0.out) HK.out, hb⟩


set_option maxHeartbeats 1000000 in
theorem strong_6 (v : Value) (s : List Int) (w : World) (hs : Sl w v s) :
    Calls Try.prog 21 #[v, .int .i64 6] w fun e w' => e = .returned (.tuple #[.int .i64 (onI (sgB9 s) ((amN (poK s 6) 6 : Nat) : Int)), .bool (sgB9 s)]) ∧ Below w.heap.size w w' := by
  have HS := hid hs
  cases h0 : sigB s
  · have HB0 := hid h0
    have hcall := powersOf_6 v s w hs
    rw [sg9 h0] at hcall
    have HC := hid hcall
    clear hcall h0 hs
    go_enter Try.func21, Try.ntmps21
    go_wp2_with fail
    refine HC.out.mono ?_
    rintro e w1 ⟨u, rfl, R, hb⟩
    clear R
    go_wp2_with fail
    go_ret2
    exact ⟨onI9_no (sg9 HB0.out), hb⟩
  · have HB0 := hid h0
    have hcall := powersOf_6 v s w hs
    rw [sg9 h0] at hcall
    have HC := hid hcall
    have HG := hid (sigB_t h0)
    clear hcall h0 hs
    go_enter Try.func21, Try.ntmps21
    go_wp2_with fail
    refine HC.out.mono ?_
    rintro e w1 ⟨u, rfl, R, hb⟩
    have HR := hid (show Sl w1 u (tab 6 (poK s 6)) from R.sl)
    clear R
    go_wp2_with fail
    refine (slMaxF_any u (poK s 6) 6 _ HR.out (by omega) (by omega) (poK_in HG.out 6)).mono ?_
    rintro e w2 ⟨rfl, rfl⟩
    go_wp2_with fail
    refine (indexF_any u _ _ _ HR.out (by rw [tab_len]; omega)).mono ?_
    rintro e w2 ⟨k, rfl, hk, rfl⟩
    have HK := hid (ix_am (by omega) hk)
    clear hk
    go_wp2_with fail
    go_ret2
    exact ⟨onI9_yes (sg9 HB0.out) HK.out, hb⟩


theorem sg_pw {s : List Int} {p : Int} (h : p = 4 ∨ p = 6) : sgB9 s = pwB p s := by unfold pwB sgB9; rw [decide_eq_true h, Bool.and_true]
set_option maxHeartbeats 1000000 in
theorem impl_StrongestPart_any (v : Value) (s : List Int) (p : Int) (w : World) (hs : Sl w v s) :
    Calls Try.prog 21 #[v, .int .i64 p] w fun e w' => e = .returned (.tuple #[.int .i64 (onI (pwB p s) ((amN (poK s p.toNat) p.toNat : Nat) : Int)), .bool (pwB p s)]) ∧ Below w.heap.size w w' := by
  by_cases h4 : p = 4
  · subst h4
    have := strong_4 v s w hs
    rw [sg_pw (p := 4) (.inl rfl)] at this
    exact this
  · by_cases h6 : p = 6
    · subst h6
      have := strong_6 v s w hs
      rw [sg_pw (p := 6) (.inr rfl)] at this
      exact this
    · have hd : decide (p = 4 ∨ p = 6) = false := decide_eq_false (by omega)
      have HN := hid (pw_n2 (s := s) hd)
      have HC := hid (powersOf_bad v s p w hs hd)
      clear h4 h6 hd hs
      go_enter Try.func21, Try.ntmps21
      go_wp2_with fail
      refine HC.out.mono ?_
      rintro e w1 ⟨rfl, hb⟩
      go_wp2_with fail
      go_ret2
      exact ⟨onI9_no HN.out, hb⟩
set_option maxHeartbeats 400000 in
theorem tnParts_is (p : Int) (b : Bool) (w : World) (h : decide (p = 4 ∨ p = 6) = b) : Calls Try.prog 28 #[.int .i64 p] w fun e w' => e = .returned (.bool (b)) ∧ w = w' := by
  by_cases h4 : p = 4
  · subst h4
    obtain rfl : b = true := h.symm
    clear h
    go_enter Try.func28, Try.ntmps28
    go_wp2
    go_ret
    exact ⟨rfl, rfl⟩
  · by_cases h6 : p = 6
    · subst h6
      obtain rfl : b = true := h.symm
      clear h h4
      go_enter Try.func28, Try.ntmps28
      go_wp2
      go_ret
      exact ⟨rfl, rfl⟩
    · obtain rfl : b = false := by rw [← h]; exact decide_eq_false (by omega)
      have q4 : (p == 4) = false := by rw [beq_eq_false_iff_ne]; exact h4
      have q6 : (p == 6) = false := by rw [beq_eq_false_iff_ne]; exact h6
      clear h h4 h6
      go_enter Try.func28, Try.ntmps28
      go_wp2
      go_ret
      exact ⟨by first | rfl | simp [q4, q6], rfl⟩


set_option maxHeartbeats 2000000 in
theorem sstrong_4 (v : Value) (s : List Int) (w : World) (hs : Sl w v s) :
    Calls Try.prog 20 #[v, .int .i64 4] w fun e w' => e = .returned (.tuple #[.int .i64 (onI (sgB9 s) ((amN (poK s 4) 4 : Nat) : Int)), .bool (sgB9 s)]) ∧ Below w.heap.size w w' := by
  have HS := hid hs
  clear hs
  cases h0 : sigB s
  · have HB0 := hid h0
    clear h0
    go_enter Try.func20, Try.ntmps20
    go_wp2_with fail
    refine (wdSignal_is v s false _ HS.out HB0.out).mono ?_
    rintro e w' ⟨rfl, rfl⟩
    go_wp2_with fail
    go_ret2
    exact ⟨onI9_no (sg9 HB0.out), Below.refl _ _⟩
  · have HB0 := hid h0
    clear h0
    have HG := hid (sigB_t HB0.out)
    go_enter Try.func20, Try.ntmps20
    go_wp2_with fail
    refine (wdSignal_is v s true _ HS.out HB0.out).mono ?_
    rintro e w' ⟨rfl, rfl⟩
    go_wp2_with fail
    refine (tnParts_is 4 true _ rfl).mono ?_
    rintro e w' ⟨rfl, rfl⟩
    go_wp2_with fail
    refine (tnPowers_4 v s _ HS.out HG.out).mono ?_
    rintro e w1 ⟨u, rfl, R, hb⟩
    obtain ⟨ua, un, uc, rfl, hun, hrd⟩ := R.sl.rd
    rw [poL_len] at hun
    subst hun
    have Hrd := hid (show Rd w1 ua (tab 4 (poK s 4)) from hrd)
    have HB := hid hb
    clear R hrd hb
    go_wp2_with fail
    go_loop [7, 23] (fun bst i => ∃ c : Nat, c ≤ 4 ∧ i = .int .i64 c ∧ bst = .int .i64 ((amN (poK s 4) c : Nat) : Int))
      (fun _ i => 4 - (intOf i).toNat)
    case atStart => exact ⟨0, by omega, rfl, rfl⟩
    case round =>
      obtain ⟨c, hc, rfl, rfl⟩ := hrel
      by_cases hlk : c < 4
      · have hkx : (tab 4 (poK s 4))[c]? = some (poK s 4 c) := tab_get _ _ _ hlk
        obtain ⟨bb, oo, hix, hbb, hce⟩ := Hrd.out.at (P := Try.prog) (T := 22) 4 uc uslice sone hkx hlk
        have ham : amN (poK s 4) c < 4 := by have := amN_lt (poK s 4) c; omega
        have hky : (tab 4 (poK s 4))[amN (poK s 4) c]? = some (poK s 4 (amN (poK s 4) c)) := tab_get _ _ _ ham
        obtain ⟨b2, o2, hix2, hbb2, hce2⟩ := Hrd.out.at (P := Try.prog) (T := 22) 4 uc uslice sone hky ham
        have hci : (c : Int) < 4 := by omega
        by_cases hlt : poK s 4 (amN (poK s 4) c) < poK s 4 c
        · have Hst := hid (amN_t hlt)
          generalize poK s 4 (amN (poK s 4) c) = z at *
          generalize poK s 4 c = y at *
          generalize amN (poK s 4) c = t at *
          clear hkx hky
          go_wp2
          go_round
          case rel => exact ⟨c + 1, by omega, by go_num, by rw [Hst.out]⟩
          case measure => simp [intOf]; omega
        · have hle : poK s 4 c ≤ poK s 4 (amN (poK s 4) c) := by omega
          have Hst := hid (amN_f hle)
          generalize poK s 4 (amN (poK s 4) c) = z at *
          generalize poK s 4 c = y at *
          generalize amN (poK s 4) c = t at *
          clear hkx hky hlt
          go_wp2
          go_round
          case rel => exact ⟨c + 1, by omega, by go_num, by rw [Hst.out]⟩
          case measure => simp [intOf]; omega
      · have hge : (4 : Int) ≤ (c : Int) := by omega
        have hkn : c = 4 := by omega
        have Hk := hid hkn
        clear hkn hlk
        go_wp2
        go_ret2
        exact ⟨onI9_yes (sg9 HB0.out) (by rw [Hk.out]), HB.out⟩


set_option maxHeartbeats 2000000 in
theorem sstrong_6 (v : Value) (s : List Int) (w : World) (hs : Sl w v s) :
    Calls Try.prog 20 #[v, .int .i64 6] w fun e w' => e = .returned (.tuple #[.int .i64 (onI (sgB9 s) ((amN (poK s 6) 6 : Nat) : Int)), .bool (sgB9 s)]) ∧ Below w.heap.size w w' := by
  have HS := hid hs
  clear hs
  cases h0 : sigB s
  · have HB0 := hid h0
    clear h0
    go_enter Try.func20, Try.ntmps20
    go_wp2_with fail
    refine (wdSignal_is v s false _ HS.out HB0.out).mono ?_
    rintro e w' ⟨rfl, rfl⟩
    go_wp2_with fail
    go_ret2
    exact ⟨onI9_no (sg9 HB0.out), Below.refl _ _⟩
  · have HB0 := hid h0
    clear h0
    have HG := hid (sigB_t HB0.out)
    go_enter Try.func20, Try.ntmps20
    go_wp2_with fail
    refine (wdSignal_is v s true _ HS.out HB0.out).mono ?_
    rintro e w' ⟨rfl, rfl⟩
    go_wp2_with fail
    refine (tnParts_is 6 true _ rfl).mono ?_
    rintro e w' ⟨rfl, rfl⟩
    go_wp2_with fail
    refine (tnPowers_6 v s _ HS.out HG.out).mono ?_
    rintro e w1 ⟨u, rfl, R, hb⟩
    obtain ⟨ua, un, uc, rfl, hun, hrd⟩ := R.sl.rd
    rw [poL_len] at hun
    subst hun
    have Hrd := hid (show Rd w1 ua (tab 6 (poK s 6)) from hrd)
    have HB := hid hb
    clear R hrd hb
    go_wp2_with fail
    go_loop [7, 23] (fun bst i => ∃ c : Nat, c ≤ 6 ∧ i = .int .i64 c ∧ bst = .int .i64 ((amN (poK s 6) c : Nat) : Int))
      (fun _ i => 6 - (intOf i).toNat)
    case atStart => exact ⟨0, by omega, rfl, rfl⟩
    case round =>
      obtain ⟨c, hc, rfl, rfl⟩ := hrel
      by_cases hlk : c < 6
      · have hkx : (tab 6 (poK s 6))[c]? = some (poK s 6 c) := tab_get _ _ _ hlk
        obtain ⟨bb, oo, hix, hbb, hce⟩ := Hrd.out.at (P := Try.prog) (T := 22) 6 uc uslice sone hkx hlk
        have ham : amN (poK s 6) c < 6 := by have := amN_lt (poK s 6) c; omega
        have hky : (tab 6 (poK s 6))[amN (poK s 6) c]? = some (poK s 6 (amN (poK s 6) c)) := tab_get _ _ _ ham
        obtain ⟨b2, o2, hix2, hbb2, hce2⟩ := Hrd.out.at (P := Try.prog) (T := 22) 6 uc uslice sone hky ham
        have hci : (c : Int) < 6 := by omega
        by_cases hlt : poK s 6 (amN (poK s 6) c) < poK s 6 c
        · have Hst := hid (amN_t hlt)
          generalize poK s 6 (amN (poK s 6) c) = z at *
          generalize poK s 6 c = y at *
          generalize amN (poK s 6) c = t at *
          clear hkx hky
          go_wp2
          go_round
          case rel => exact ⟨c + 1, by omega, by go_num, by rw [Hst.out]⟩
          case measure => simp [intOf]; omega
        · have hle : poK s 6 c ≤ poK s 6 (amN (poK s 6) c) := by omega
          have Hst := hid (amN_f hle)
          generalize poK s 6 (amN (poK s 6) c) = z at *
          generalize poK s 6 c = y at *
          generalize amN (poK s 6) c = t at *
          clear hkx hky hlt
          go_wp2
          go_round
          case rel => exact ⟨c + 1, by omega, by go_num, by rw [Hst.out]⟩
          case measure => simp [intOf]; omega
      · have hge : (6 : Int) ≤ (c : Int) := by omega
        have hkn : c = 6 := by omega
        have Hk := hid hkn
        clear hkn hlk
        go_wp2
        go_ret2
        exact ⟨onI9_yes (sg9 HB0.out) (by rw [Hk.out]), HB.out⟩


set_option maxHeartbeats 1000000 in
theorem sstrong_bad (v : Value) (s : List Int) (p : Int) (w : World) (hs : Sl w v s) (hp : decide (p = 4 ∨ p = 6) = false) :
    Calls Try.prog 20 #[v, .int .i64 p] w fun e w' => e = .returned (.tuple #[.int .i64 0, .bool false]) ∧ Below w.heap.size w w' := by
  have HS := hid hs
  have HP := hid hp
  clear hs hp
  cases h0 : sigB s
  · have HB0 := hid h0
    clear h0
    go_enter Try.func20, Try.ntmps20
    go_wp2_with fail
    refine (wdSignal_is v s false _ HS.out HB0.out).mono ?_
    rintro e w' ⟨rfl, rfl⟩
    go_wp2_with fail
    go_ret2
    exact ⟨rfl, Below.refl _ _⟩
  · have HB0 := hid h0
    clear h0
    go_enter Try.func20, Try.ntmps20
    go_wp2_with fail
    refine (wdSignal_is v s true _ HS.out HB0.out).mono ?_
    rintro e w' ⟨rfl, rfl⟩
    go_wp2_with fail
    refine (tnParts_is p false _ HP.out).mono ?_
    rintro e w' ⟨rfl, rfl⟩
    go_wp2_with fail
    go_ret2
    exact ⟨rfl, Below.refl _ _⟩
theorem spec_StrongestPart_any (v : Value) (s : List Int) (p : Int) (w : World) (hs : Sl w v s) :
    Calls Try.prog 20 #[v, .int .i64 p] w fun e w' => e = .returned (.tuple #[.int .i64 (onI (pwB p s) ((amN (poK s p.toNat) p.toNat : Nat) : Int)), .bool (pwB p s)]) ∧ Below w.heap.size w w' := by
  by_cases h4 : p = 4
  · subst h4
    have := sstrong_4 v s w hs
    rw [sg_pw (p := 4) (.inl rfl)] at this
    exact this
  · by_cases h6 : p = 6
    · subst h6
      have := sstrong_6 v s w hs
      rw [sg_pw (p := 6) (.inr rfl)] at this
      exact this
    · have hd : decide (p = 4 ∨ p = 6) = false := decide_eq_false (by omega)
      refine (sstrong_bad v s p w hs hd).mono ?_
      rintro e w1 ⟨rfl, hb⟩
      exact ⟨onI9_no (pw_n2 hd), hb⟩


set_option maxHeartbeats 1600000 in
theorem gen_FnExactStrongestPart (s : List Int) (p : Int) (u_s : Option Addr) (l_s c_s : Nat) (r0 : Int) (r1 : Bool) (w : World) (hs_s : Sl w (.slice u_s l_s c_s) s) (ll_s : l_s ≤ 1048576) (hl_s : s.length ≤ 1048576) (hspec : ∀ (w : World) (v_s : Value), Sl w v_s s → Calls Try.prog 20 #[v_s, .int .i64 p] w fun e w' => e = .returned (.tuple #[.int .i64 r0, .bool r1]) ∧ Below w.heap.size w w') (himpl : ∀ (w : World) (v_s : Value), Sl w v_s s → Calls Try.prog 21 #[v_s, .int .i64 p] w fun e w' => e = .returned (.tuple #[.int .i64 r0, .bool r1]) ∧ Below w.heap.size w w') :
    Calls Try.prog 7 #[.slice u_s l_s c_s, .int .i64 p] w fun e w' => e = .returned (.bool true) ∧ Below w.heap.size w w' := by
  have HSs := hid hs_s
  clear hs_s
  have HSP := hid hspec
  have HIM := hid himpl
  clear hspec himpl
  all_goals cases r1
  all_goals
    go_enter Try.func7, Try.ntmps7
    go_wp2_with fail
    refine (toIntS_any _ s _ HSs.out (by omega)).mono ?_
    rintro e w1 ⟨g_As0, hg_As0, rfl, K_As0, hb⟩
    have B1 := hb
    have hz1 : w.heap.size ≤ w1.heap.size := by first | exact hb.size | (have := hb.size; simp at this; omega)
    have As0 := K_As0.res hg_As0
    go_wp2_with fail
    refine (HSP.out _ _ As0.sl).mono ?_
    rintro e w2 ⟨rfl, hb⟩
    have B2 := bel_step B1 hb
    have hz2 : w1.heap.size ≤ w2.heap.size := hb.size
    have As0_2 := As0.kept hb
    go_wp2_with fail
    refine (toIntS_any _ s _ (HSs.out.kept B2) (by omega)).mono ?_
    rintro e w3 ⟨g_Xs, hg_Xs, rfl, K_Xs, hb⟩
    have B3 := bel_step B2 hb
    have hz3 : w2.heap.size ≤ w3.heap.size := hb.size
    have Xs := K_Xs.res hg_Xs
    have hlt_Xs := K_Xs.lt
    have hxl_Xs : g_Xs < w3.heap.size := Xs.lt rfl
    go_wp2_with fail
    refine (HIM.out _ _ Xs.sl).mono ?_
    rintro e w4 ⟨rfl, hb⟩
    have B4 := bel_step B3 hb
    have hz4 : w3.heap.size ≤ w4.heap.size := hb.size
    have Xs_4 := Xs.kept hb
    go_wp2_with fail
    refine (toIntS_any _ s _ (HSs.out.kept B4) (by omega)).mono ?_
    rintro e w5 ⟨g_TXs, hg_TXs, rfl, K_TXs, hb⟩
    have B5 := bel_step B4 hb
    have hz5 : w4.heap.size ≤ w5.heap.size := hb.size
    have Xs_5 := Xs_4.kept hb
    have TXs := K_TXs.res hg_TXs
    go_wp2_with fail
    refine (eqIntS_same _ _ s _ Xs_5.sl TXs.sl (by omega)).mono ?_
    rintro e w6 ⟨rfl, hb⟩
    have B6 := bel_step B5 hb
    have hz6 : w5.heap.size ≤ w6.heap.size := hb.size
    have Xs_6 := Xs_5.kept hb
    have TXs_6 := TXs.kept hb
    go_wp2_with fail
    go_ret
    exact ⟨rfl, B6⟩


set_option maxHeartbeats 1600000 in
theorem walk_FnExactStrongestPart (w : World) (u_s : Option Addr) (l_s c_s : Nat) (z_s : List Int) (hr_s : IsRow .i64 w u_s l_s c_s z_s) (p : Int) (w_p : (Lit.int .i64 p).wf = true) :
    Calls Try.prog 7 #[.slice u_s l_s c_s, .int .i64 p] w fun e w' => e = .returned (.bool true) ∧ Below w.heap.size w w' := by
  obtain ⟨hs_s, hlen_s, hin_s⟩ := hr_s.sl
  generalize z_s.take l_s = s at hs_s hlen_s hin_s
  clear hr_s
  obtain ⟨p_1, p_2⟩ := bounds_i64 w_p
  by_cases hbig_s : 1048576 < l_s
  · clear hs_s hlen_s hin_s
    go_enter Try.func7, Try.ntmps7
    go_wp2
    go_ret
    exact ⟨rfl, Below.refl _ _⟩
  · have hq_s : l_s ≤ 1048576 := by omega
    exact gen_FnExactStrongestPart s p _ _ _ _ _ w hs_s (by omega) (by omega)  (fun w v_s h_s => spec_StrongestPart_any v_s s p w h_s) (fun w v_s h_s => impl_StrongestPart_any v_s s p w h_s)

end Go.Proofs.Ytaihopcmckkpbaa
