
import Derived.Test.YtngjkcdfgkkdkaaUg
namespace Go.Proofs.Ytngjkcdfgkkdkaa
open Go.RowKit BitX Go.MemX Go.Ch6 Go.Ch8
set_option linter.unusedVariables false
theorem gives_eq {w w' : World} {ys : List Int} {b c : Bool} {e : Ending} (h : b = c) (hg : Gives w (onL c ys) c e w') : Gives w (onL b ys) b e w' := by subst h; exact hg
def rsL (F : Nat → Nat → Nat → Int) (n : Nat) (p q : Int) : List Int := tab (lenN n p.toNat q.toNat) (F p.toNat q.toNat)
def rsO (F : Nat → Nat → Nat → Int) (s : List Int) (p q : Int) : Bool := rsB s p q && sigB (rsL F s.length p q)
theorem rsO_n1 {F : Nat → Nat → Nat → Int} {s : List Int} {p q : Int} (h : sigB s = false) : rsO F s p q = false := and_n1 (and_n1 h)
theorem rsO_n2 {F : Nat → Nat → Nat → Int} {s : List Int} {p q : Int} (h : ratB p q = false) : rsO F s p q = false := and_n1 (and_n2 h)
theorem rsO_n {F : Nat → Nat → Nat → Int} {s : List Int} {p q : Int} (h : rsB s p q = false) : rsO F s p q = false := and_n1 h
theorem rsO_y {F : Nat → Nat → Nat → Int} {s : List Int} {p q : Int} (h : rsB s p q = true) : rsO F s p q = sigB (rsL F s.length p q) := by unfold rsO; rw [h]; rfl
theorem rsB_y {s : List Int} {p q : Int} (h : sigB s = true) (h2 : ratB p q = true) : rsB s p q = true := and_t h h2
theorem rsB_t {s : List Int} {p q : Int} (h : rsB s p q = true) : SigP s ∧ ((1 ≤ p ∧ p ≤ 8) ∧ (1 ≤ q ∧ q ≤ 8)) := by
  unfold rsB at h
  rw [Bool.and_eq_true] at h
  exact ⟨sigB_t h.1, ratB_t h.2⟩
theorem rsO_len {F : Nat → Nat → Nat → Int} {s : List Int} {p q : Int} : (onL (rsO F s p q) (rsL F s.length p q)).length ≤ 2000000 := onL_len fun h => by
  unfold rsO at h
  rw [Bool.and_eq_true] at h
  have := (sigB_t h.2).1; omega

theorem enterHoldSamples : Go.Proofs.Enters Try.prog 32 := enters_of Try.func32 (by kernel_rfl) rfl


set_option maxHeartbeats 1000000 in
theorem impl_HoldSamples_any (v : Value) (s : List Int) (p q : Int) (w : World) (hs : Sl w v s) :
    Calls Try.prog 10 #[v, .int .i64 p, .int .i64 q] w (Gives w (onL (rsO (holdF s) s p q) (rsL (holdF s) s.length p q)) (rsO (holdF s) s p q)) := by
  have HS := hid hs
  clear hs
  obtain ⟨a, n, cap, rfl, hx1, hx2⟩ := HS.out.rd
  have Hn := hid hx1
  clear hx1 hx2
  have hmf : ∀ (fn : Fn) (first cap : Array Value) (w : World), (Instr.makeFunc fn first cap).run Try.prog w = .ok (.func fn first cap) w := fun _ _ _ _ => rfl
  cases h0 : sigB s
  · have HB0 := hid h0
    clear h0
    go_enter Try.func10, Try.ntmps10
    go_wp2_with fail
    refine (impl_IsSignal_is _ s false _ (HS.out.kept (bel_alloc _ _)) HB0.out).mono ?_
    rintro e w' ⟨rfl, rfl⟩
    go_wp2_with fail
    go_ret2
    exact gives_no (rsO_n1 HB0.out) (bel_alloc _ _)
  · have HB0 := hid h0
    clear h0
    cases h1 : ratB p q
    · have HB1 := hid h1
      clear h1
      go_enter Try.func10, Try.ntmps10
      go_wp2_with fail
      refine (impl_IsSignal_is _ s true _ (HS.out.kept (bel_alloc _ _)) HB0.out).mono ?_
      rintro e w' ⟨rfl, rfl⟩
      go_wp2_with fail
      refine (isRatio_is _ _ false _ HB1.out).mono ?_
      rintro e w' ⟨rfl, rfl⟩
      go_wp2_with fail
      go_ret2
      exact gives_no (rsO_n2 HB1.out) (bel_alloc _ _)
    · have HB1 := hid h1
      clear h1
      obtain ⟨p1, p8, q1, q8⟩ : 1 ≤ p ∧ p ≤ 8 ∧ 1 ≤ q ∧ q ≤ 8 := by have := ratB_t HB1.out; omega
      obtain ⟨P, rfl⟩ : ∃ P : Nat, p = P := ⟨p.toNat, by omega⟩
      obtain ⟨Q, rfl⟩ : ∃ Q : Nat, q = Q := ⟨q.toNat, by omega⟩
      have P1 : 1 ≤ P := by omega
      have P8 : P ≤ 8 := by omega
      have Q1 : 1 ≤ Q := by omega
      have Q8 : Q ≤ 8 := by omega
      have hn64 : n ≤ 64 := by rw [Hn.out]; exact (sigB_t HB0.out).1
      have HMd := hid (show Made2 Try.prog 32 #[.pointer (some ⟨w.heap.size, 0, none⟩)] n P Q (holdF s P Q) (w.alloc (.cells #[.slice a n cap] 22)) from fun W k hk hb => holdC_any w.heap.size _ _ _ s W (((Var1.new w _ _).kept hb (Var1.new w _ _).lt).cell) ((HS.out.kept (bel_alloc _ _)).kept hb) (by rw [← Hn.out]; exact hn64) (by rw [← Hn.out]; exact src_lt P1 Q1 hk))
      go_enter Try.func10, Try.ntmps10
      go_wp2_with fail
      refine (impl_IsSignal_is _ s true _ (HS.out.kept (bel_alloc _ _)) HB0.out).mono ?_
      rintro e w' ⟨rfl, rfl⟩
      go_wp2_with fail
      refine (isRatio_is _ _ true _ HB1.out).mono ?_
      rintro e w' ⟨rfl, rfl⟩
      go_wp2_with fail
      refine (resampled_any 32 #[.pointer (some ⟨w.heap.size, 0, none⟩)] enterHoldSamples n P Q (holdF s P Q) _ hn64 P1 P8 Q1 Q8 HMd.out).mono ?_
      intro e w4 hG
      have hG2 := gives_trans (bel_alloc _ _) hG
      clear hG
      rw [Hn.out] at hG2
      have hG3 := gives_eq (rsO_y (F := holdF s) (rsB_y HB0.out HB1.out)) hG2
      clear hG2
      obtain ⟨v4, rfl, R, hb⟩ := hG3
      go_wp2_with fail
      go_ret2
      exact ⟨v4, rfl, R, hb⟩

theorem enterNearSamples : Go.Proofs.Enters Try.prog 33 := enters_of Try.func33 (by kernel_rfl) rfl


set_option maxHeartbeats 1000000 in
theorem impl_NearSamples_any (v : Value) (s : List Int) (p q : Int) (w : World) (hs : Sl w v s) :
    Calls Try.prog 15 #[v, .int .i64 p, .int .i64 q] w (Gives w (onL (rsO (nearF s) s p q) (rsL (nearF s) s.length p q)) (rsO (nearF s) s p q)) := by
  have HS := hid hs
  clear hs
  obtain ⟨a, n, cap, rfl, hx1, hx2⟩ := HS.out.rd
  have Hn := hid hx1
  clear hx1 hx2
  have hmf : ∀ (fn : Fn) (first cap : Array Value) (w : World), (Instr.makeFunc fn first cap).run Try.prog w = .ok (.func fn first cap) w := fun _ _ _ _ => rfl
  cases h0 : sigB s
  · have HB0 := hid h0
    clear h0
    go_enter Try.func15, Try.ntmps15
    go_wp2_with fail
    refine (impl_IsSignal_is _ s false _ (HS.out.kept (bel_step (bel_alloc _ _) (bel_alloc _ _))) HB0.out).mono ?_
    rintro e w' ⟨rfl, rfl⟩
    go_wp2_with fail
    go_ret2
    exact gives_no (rsO_n1 HB0.out) (bel_step (bel_alloc _ _) (bel_alloc _ _))
  · have HB0 := hid h0
    clear h0
    cases h1 : ratB p q
    · have HB1 := hid h1
      clear h1
      go_enter Try.func15, Try.ntmps15
      go_wp2_with fail
      refine (impl_IsSignal_is _ s true _ (HS.out.kept (bel_step (bel_alloc _ _) (bel_alloc _ _))) HB0.out).mono ?_
      rintro e w' ⟨rfl, rfl⟩
      go_wp2_with fail
      refine (isRatio_is _ _ false _ HB1.out).mono ?_
      rintro e w' ⟨rfl, rfl⟩
      go_wp2_with fail
      go_ret2
      exact gives_no (rsO_n2 HB1.out) (bel_step (bel_alloc _ _) (bel_alloc _ _))
    · have HB1 := hid h1
      clear h1
      obtain ⟨p1, p8, q1, q8⟩ : 1 ≤ p ∧ p ≤ 8 ∧ 1 ≤ q ∧ q ≤ 8 := by have := ratB_t HB1.out; omega
      obtain ⟨P, rfl⟩ : ∃ P : Nat, p = P := ⟨p.toNat, by omega⟩
      obtain ⟨Q, rfl⟩ : ∃ Q : Nat, q = Q := ⟨q.toNat, by omega⟩
      have P1 : 1 ≤ P := by omega
      have P8 : P ≤ 8 := by omega
      have Q1 : 1 ≤ Q := by omega
      have Q8 : Q ≤ 8 := by omega
      have hn64 : n ≤ 64 := by rw [Hn.out]; exact (sigB_t HB0.out).1
      have hv2 := Var1.new (w.alloc (.cells #[.slice a n cap] 22)) (.int .i64 (P : Int)) 3
      have e1 : (w.alloc (.cells #[.slice a n cap] 22)).heap.size = w.heap.size + 1 := by simp
      rw [e1] at hv2
      have HV2 := hid hv2
      have HV1 := hid ((Var1.new w (.slice a n cap) 22).kept (bel_alloc _ (.cells #[.int .i64 (P : Int)] 3)) (Var1.new w _ _).lt)
      clear hv2 e1
      have HMd := hid (show Made2 Try.prog 33 #[.pointer (some ⟨w.heap.size + 1, 0, none⟩), .pointer (some ⟨w.heap.size, 0, none⟩)] n P Q (nearF s P Q) ((w.alloc (.cells #[.slice a n cap] 22)).alloc (.cells #[.int .i64 (P : Int)] 3)) from fun W k hk hb => nearC_any (w.heap.size + 1) w.heap.size P _ _ _ s W P8 (Nat.mod_lt _ P1) ((HV2.out.kept hb HV2.out.lt).cell) ((HV1.out.kept hb HV1.out.lt).cell) ((HS.out.kept (bel_step (bel_alloc _ _) (bel_alloc _ _))).kept hb) (by rw [← Hn.out]; exact hn64) (by rw [← Hn.out]; exact src_lt P1 Q1 hk))
      go_enter Try.func15, Try.ntmps15
      go_wp2_with fail
      refine (impl_IsSignal_is _ s true _ (HS.out.kept (bel_step (bel_alloc _ _) (bel_alloc _ _))) HB0.out).mono ?_
      rintro e w' ⟨rfl, rfl⟩
      go_wp2_with fail
      refine (isRatio_is _ _ true _ HB1.out).mono ?_
      rintro e w' ⟨rfl, rfl⟩
      go_wp2_with fail
      refine (resampled_any 33 #[.pointer (some ⟨w.heap.size + 1, 0, none⟩), .pointer (some ⟨w.heap.size, 0, none⟩)] enterNearSamples n P Q (nearF s P Q) _ hn64 P1 P8 Q1 Q8 HMd.out).mono ?_
      intro e w4 hG
      have hG2 := gives_trans (bel_step (bel_alloc _ _) (bel_alloc _ _)) hG
      clear hG
      rw [Hn.out] at hG2
      have hG3 := gives_eq (rsO_y (F := nearF s) (rsB_y HB0.out HB1.out)) hG2
      clear hG2
      obtain ⟨v4, rfl, R, hb⟩ := hG3
      go_wp2_with fail
      go_ret2
      exact ⟨v4, rfl, R, hb⟩

theorem enterLineSamples : Go.Proofs.Enters Try.prog 36 := enters_of Try.func36 (by kernel_rfl) rfl


set_option maxHeartbeats 1000000 in
theorem impl_LineSamples_any (v : Value) (s : List Int) (p q : Int) (w : World) (hs : Sl w v s) :
    Calls Try.prog 17 #[v, .int .i64 p, .int .i64 q] w (Gives w (onL (rsO (lineF s) s p q) (rsL (lineF s) s.length p q)) (rsO (lineF s) s p q)) := by
  have HS := hid hs
  clear hs
  obtain ⟨a, n, cap, rfl, hx1, hx2⟩ := HS.out.rd
  have Hn := hid hx1
  clear hx1 hx2
  have hmf : ∀ (fn : Fn) (first cap : Array Value) (w : World), (Instr.makeFunc fn first cap).run Try.prog w = .ok (.func fn first cap) w := fun _ _ _ _ => rfl
  cases h0 : sigB s
  · have HB0 := hid h0
    clear h0
    go_enter Try.func17, Try.ntmps17
    go_wp2_with fail
    refine (impl_IsSignal_is _ s false _ (HS.out.kept (bel_step (bel_alloc _ _) (bel_alloc _ _))) HB0.out).mono ?_
    rintro e w' ⟨rfl, rfl⟩
    go_wp2_with fail
    go_ret2
    exact gives_no (rsO_n1 HB0.out) (bel_step (bel_alloc _ _) (bel_alloc _ _))
  · have HB0 := hid h0
    clear h0
    cases h1 : ratB p q
    · have HB1 := hid h1
      clear h1
      go_enter Try.func17, Try.ntmps17
      go_wp2_with fail
      refine (impl_IsSignal_is _ s true _ (HS.out.kept (bel_step (bel_alloc _ _) (bel_alloc _ _))) HB0.out).mono ?_
      rintro e w' ⟨rfl, rfl⟩
      go_wp2_with fail
      refine (isRatio_is _ _ false _ HB1.out).mono ?_
      rintro e w' ⟨rfl, rfl⟩
      go_wp2_with fail
      go_ret2
      exact gives_no (rsO_n2 HB1.out) (bel_step (bel_alloc _ _) (bel_alloc _ _))
    · have HB1 := hid h1
      clear h1
      obtain ⟨p1, p8, q1, q8⟩ : 1 ≤ p ∧ p ≤ 8 ∧ 1 ≤ q ∧ q ≤ 8 := by have := ratB_t HB1.out; omega
      obtain ⟨P, rfl⟩ : ∃ P : Nat, p = P := ⟨p.toNat, by omega⟩
      obtain ⟨Q, rfl⟩ : ∃ Q : Nat, q = Q := ⟨q.toNat, by omega⟩
      have P1 : 1 ≤ P := by omega
      have P8 : P ≤ 8 := by omega
      have Q1 : 1 ≤ Q := by omega
      have Q8 : Q ≤ 8 := by omega
      have hn64 : n ≤ 64 := by rw [Hn.out]; exact (sigB_t HB0.out).1
      have hv2 := Var1.new (w.alloc (.cells #[.slice a n cap] 22)) (.int .i64 (P : Int)) 3
      have e1 : (w.alloc (.cells #[.slice a n cap] 22)).heap.size = w.heap.size + 1 := by simp
      rw [e1] at hv2
      have HV2 := hid hv2
      have HV1 := hid ((Var1.new w (.slice a n cap) 22).kept (bel_alloc _ (.cells #[.int .i64 (P : Int)] 3)) (Var1.new w _ _).lt)
      clear hv2 e1
      have HMd := hid (show Made2 Try.prog 36 #[.pointer (some ⟨w.heap.size + 1, 0, none⟩), .pointer (some ⟨w.heap.size, 0, none⟩)] n P Q (lineF s P Q) ((w.alloc (.cells #[.slice a n cap] 22)).alloc (.cells #[.int .i64 (P : Int)] 3)) from fun W k hk hb => lineC_any (w.heap.size + 1) w.heap.size P _ _ _ s W P8 (Nat.mod_lt _ P1) ((HV2.out.kept hb HV2.out.lt).cell) ((HV1.out.kept hb HV1.out.lt).cell) ((HS.out.kept (bel_step (bel_alloc _ _) (bel_alloc _ _))).kept hb) (by rw [← Hn.out]; exact hn64) (sigB_t HB0.out).2 (by rw [← Hn.out]; exact src_lt P1 Q1 hk))
      go_enter Try.func17, Try.ntmps17
      go_wp2_with fail
      refine (impl_IsSignal_is _ s true _ (HS.out.kept (bel_step (bel_alloc _ _) (bel_alloc _ _))) HB0.out).mono ?_
      rintro e w' ⟨rfl, rfl⟩
      go_wp2_with fail
      refine (isRatio_is _ _ true _ HB1.out).mono ?_
      rintro e w' ⟨rfl, rfl⟩
      go_wp2_with fail
      refine (resampled_any 36 #[.pointer (some ⟨w.heap.size + 1, 0, none⟩), .pointer (some ⟨w.heap.size, 0, none⟩)] enterLineSamples n P Q (lineF s P Q) _ hn64 P1 P8 Q1 Q8 HMd.out).mono ?_
      intro e w4 hG
      have hG2 := gives_trans (bel_step (bel_alloc _ _) (bel_alloc _ _)) hG
      clear hG
      rw [Hn.out] at hG2
      have hG3 := gives_eq (rsO_y (F := lineF s) (rsB_y HB0.out HB1.out)) hG2
      clear hG2
      obtain ⟨v4, rfl, R, hb⟩ := hG3
      go_wp2_with fail
      go_ret2
      exact ⟨v4, rfl, R, hb⟩


set_option maxHeartbeats 400000 in
theorem impl_LinesOfSame_any (v : Value) (s : List Int) (p : Int) (w : World) (hs : Sl w v s) :
    Calls Try.prog 19 #[v, .int .i64 p] w (Gives w (onL (rsO (lineF s) s p 1) (rsL (lineF s) s.length p 1)) (rsO (lineF s) s p 1)) := by
  have HS := hid hs
  obtain ⟨a0, n0, cap0, rfl, hx1, hx2⟩ := hs.rd
  clear hs hx1 hx2
  go_enter Try.func19, Try.ntmps19
  go_wp2_with fail
  refine (impl_LineSamples_any _ s p 1 _ HS.out).mono ?_
  rintro e w1 ⟨v1, rfl, R, hb⟩
  go_wp2_with fail
  go_ret2
  exact ⟨v1, rfl, R, hb⟩

end Go.Proofs.Ytngjkcdfgkkdkaa
