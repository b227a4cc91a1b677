
import Derived.Test.YtdedifgpbehpoaaEj
import Derived.Test.YtdedifgpbehpoaaEh
namespace Go.Proofs.Ytdedifgpbehpoaa
open Go.RowKit BitX Go.MemX Go.Ch6
set_option linter.unusedVariables false


/-- the comb's answer, as long as the signal -/
def caL (r st : Nat) (s : List Int) : List Int := tab s.length (conv (cbW r st) s)
theorem caL_len (r st : Nat) (s : List Int) : (caL r st s).length = s.length := tab_len _ _
def ecL (s : List Int) (st r : Int) : List Int := dropL r.toNat (r.toNat - 1) (caL r.toNat st.toNat s)
def ecB (s : List Int) (st r : Int) : Bool := (sigB s && askB st r) && sigB (ecL s st r)
theorem ecB_g {s : List Int} {st r : Int} (h : (sigB s && askB st r) = true) : ecB s st r = sigB (ecL s st r) := by unfold ecB; rw [h]; rfl
theorem ecB_n {s : List Int} {st r : Int} (h : (sigB s && askB st r) = false) : ecB s st r = false := by unfold ecB; rw [h]; rfl
theorem sa_n1 {s : List Int} {st r : Int} (h : sigB s = false) : (sigB s && askB st r) = false := by rw [h]; rfl
theorem sa_n2 {s : List Int} {st r : Int} (h : askB st r = false) : (sigB s && askB st r) = false := by rw [h]; cases sigB s <;> rfl
theorem sa_g {s : List Int} {st r : Int} (h : sigB s = true) (h2 : askB st r = true) : (sigB s && askB st r) = true := by rw [h, h2]; rfl
theorem sa_t {s : List Int} {st r : Int} (h : (sigB s && askB st r) = true) : SigP s ∧ (1 ≤ st ∧ st ≤ 4) ∧ (1 ≤ r ∧ r ≤ 8) := by
  simp only [Bool.and_eq_true] at h
  exact ⟨sigB_t h.1, askB_t h.2⟩
def erL (s : List Int) (st r : Int) : List Int := caL r.toNat st.toNat (stuffL r.toNat s)
def erB (s : List Int) (st r : Int) : Bool := ((sigB s && askB st r) && sigB (stuffL r.toNat s)) && sigB (erL s st r)
theorem erB_n0 {s : List Int} {st r : Int} (h : (sigB s && askB st r) = false) : erB s st r = false := by unfold erB; rw [h]; rfl
theorem erB_n1 {s : List Int} {st r : Int} (h : sigB (stuffL r.toNat s) = false) : erB s st r = false := by unfold erB; rw [h]; cases (sigB s && askB st r) <;> rfl
theorem erB_g {s : List Int} {st r : Int} (h : (sigB s && askB st r) = true) (h2 : sigB (stuffL r.toNat s) = true) : erB s st r = sigB (erL s st r) := by unfold erB; rw [h, h2]; rfl
theorem erB_n2 {s : List Int} {st r : Int} (h : szB s r = false) : erB s st r = false := by
  unfold szB raB at h
  unfold erB askB
  cases h1 : sigB s
  · rfl
  · rw [h1] at h
    cases h2 : decide (1 ≤ r ∧ r ≤ 8)
    · simp
    · rw [h2] at h
      have : sigB (stuffL r.toNat s) = false := by simpa using h
      rw [this]; simp
theorem erB_n3 {s : List Int} {st r : Int} (h : decide (1 ≤ st ∧ st ≤ 4) = false) : erB s st r = false := by unfold erB askB; rw [h]; simp
theorem sz_ask {s : List Int} {st r : Int} (h : szB s r = true) (h2 : decide (1 ≤ st ∧ st ≤ 4) = true) : (sigB s && askB st r) = true ∧ sigB (stuffL r.toNat s) = true := by
  unfold szB raB at h
  simp only [Bool.and_eq_true] at h
  refine ⟨?_, h.2⟩
  unfold askB; rw [h.1.1, h.1.2, h2]; rfl


set_option maxHeartbeats 1000000 in
theorem combAnswer_any (v : Value) (s : List Int) (st r : Nat) (w : World) (hs : Sl w v s) (hg : SigP s) (s1 : 1 ≤ st) (s2 : st ≤ 4) (r1 : 1 ≤ r) (r2 : r ≤ 8) :
    Calls Try.prog 33 #[v, .int .i64 (st : Int), .int .i64 (r : Int)] w (GivesL w (caL r st s)) := by
  have HS := hid hs
  have HG := hid hg
  clear hs hg
  go_enter Try.func33, Try.ntmps33
  go_wp2_with fail
  refine (combWeights_any st r _ s1 s2 r1 r2).mono ?_
  rintro e w1 ⟨v1, rfl, hr1, B1⟩
  obtain ⟨a, n, cap, rfl, hn, hrd⟩ := hr1.sl.rd
  have hq := cbW_q r1 r2 s2
  have hn1 : 1 ≤ n := by rw [hn]; exact hq.1.1
  have hn9 : n ≤ 29 := by rw [hn]; exact hq.1.2
  have Hr1 := hid hr1
  have Hn := hid hn
  have Hq := hid hq
  clear hr1 hn hrd hq
  go_wp2_with fail
  refine (exactFilter_v _ _ _ _).mono ?_
  rintro e w2 ⟨rfl, rfl⟩
  have B2 := bel_step B1 (bel_alloc w1 (.cells #[.slice a n cap] 24))
  have hfil := exact_filQ (gh := w1.heap.size) (hv := .slice a n cap) (h := cbW r st) (s := s) (w := w1.alloc (.cells #[.slice a n cap] 24)) (by rw [World.cell?_alloc_at _ _ _ _ rfl]; rfl) (Hr1.out.sl.kept (bel_alloc _ _)) Hq.out HG.out.2
  rw [← Hn.out] at hfil
  have Hfil := hid hfil
  have hsv := HS.out.kept B2
  have Hsv := hid hsv
  clear hfil hsv
  go_wp2_with fail
  refine (runFilter_any _ _ enterEx _ s n (conv (cbW r st) s) _ Hsv.out (Nat.le_trans HG.out.1 (by omega)) hn1 (by omega) Hfil.out).mono ?_
  rintro e w3 ⟨v3, rfl, R3, hb⟩
  have B3 := bel_step B2 hb
  have R4 := R3.mono B2.size
  have HR4 := hid R4
  clear R3 R4
  go_wp2_with fail
  go_ret
  exact ⟨_, rfl, HR4.out, B3⟩


set_option maxHeartbeats 1000000 in
theorem cbExact_any (v : Value) (s : List Int) (st r : Nat) (w : World) (hs : Sl w v s) (hg : SigP s) (s1 : 1 ≤ st) (s2 : st ≤ 4) (r1 : 1 ≤ r) (r2 : r ≤ 8) :
    Calls Try.prog 35 #[v, .int .i64 (st : Int), .int .i64 (r : Int)] w (GivesL w (dropL r (r - 1) (caL r st s))) := by
  have HS := hid hs
  have HG := hid hg
  have HQ := hid (cbW_q r1 r2 s2)
  obtain ⟨a2, m, cap2, rfl, hm, hr2⟩ := hs.rd
  have Hm := hid hm
  have hrz : (r : Int) - 1 = ((r - 1 : Nat) : Int) := by omega
  have e1 : IntKind.i64.wrap ((r : Int) - 1) = ((r - 1 : Nat) : Int) := by rw [hrz]; exact IntWalk.i64_in _ (by omega)
  have e2 : wrap64 ((r : Int) - 1) = ((r - 1 : Nat) : Int) := by rw [hrz]; exact IntWalk.wrap64_in _ (by omega)
  clear hs hg hm hr2
  go_enter Try.func35, Try.ntmps35
  go_wp2_with fail
  refine (cbBox_any st r _ s1 s2 r1 r2).mono ?_
  rintro e wA ⟨v1, rfl, R1, B1⟩
  have Hr1 := hid R1
  clear R1
  go_wp2_with fail
  refine (weAnswerQ_any _ _ (cbW r st) s _ Hr1.out.sl (HS.out.kept B1) HQ.out HG.out.1 HG.out.2).mono ?_
  rintro e wB ⟨v_R, rfl, R, hb⟩
  have RB := bel_step B1 hb
  have hsh := ans_short (cbW r st) s (fun e => by have := HQ.out.1.1; rw [e] at this; simp at this)
  have hal : s.length ≤ (ans (cbW r st) s).length := by
    by_cases hs0 : s = []
    · simp [hs0]
    · rw [ans_len _ _ hs0]; have := HQ.out.1.1; omega
  have haw : (ans (cbW r st) s).length ≤ 92 := by
    by_cases hs0 : s = []
    · simp [hs0, ans]
    · rw [ans_len _ _ hs0]; have := HQ.out.1.2; have := HG.out.1; omega
  have hml : m = s.length := Hm.out
  have hm6 : m ≤ 64 := by have := HG.out.1; omega
  rcases Res.form R with ⟨he, rfl⟩ | ⟨g, L, cap, rfl, hL, hcap, hg⟩
  · have hs0 : s = [] := List.length_eq_zero_iff.1 (by rw [he] at hal; simpa using hal)
    have hm0 : m = 0 := by rw [hml, hs0]; rfl
    have hsl : Sl wB (.slice none 0 0) (caL r st s) := .inl ⟨by rw [hs0]; rfl, none, 0, rfl⟩
    have Hsl := hid hsl
    have HRB := hid RB
    subst hm0
    clear hsh hal haw hml hs0 he hsl R RB hm6
    go_wp2_with fail
    refine (cbDrop_any _ (caL r st s) r (r - 1) _ Hsl.out (by rw [caL_len]; exact HG.out.1) r1 r2 (by omega)).mono ?_
    rintro e w3 ⟨v3, rfl, R3, hb3⟩
    have B3 := bel_step HRB.out hb3
    go_wp2_with fail
    go_ret
    exact ⟨_, rfl, R3.mono HRB.out.size, B3⟩
  · have hmL : m ≤ L := by omega
    have hsl : Sl wB (.slice (some ⟨g, 0, none⟩) m cap) (caL r st s) := by
      unfold caL
      rw [← hsh]
      by_cases h0 : m = 0
      · rw [← hml, h0]; exact .inl ⟨by simp, _, cap, rfl⟩
      · have := Sl.cut (R.sl) (lo := 0) (hi := m) (c2 := cap) (by omega) (by omega) (by omega)
        rw [← hml]; simpa using this
    have Hsl := hid hsl
    have HRB := hid RB
    clear hsh hml hL hsl hal haw R RB hg
    go_wp2_with fail
    refine (cbDrop_any _ (caL r st s) r (r - 1) _ Hsl.out (by rw [caL_len]; exact HG.out.1) r1 r2 (by omega)).mono ?_
    rintro e w3 ⟨v3, rfl, R3, hb3⟩
    have B3 := bel_step HRB.out hb3
    go_wp2_with fail
    go_ret
    exact ⟨_, rfl, R3.mono HRB.out.size, B3⟩


theorem wdIf_t (v : Value) (ys : List Int) (w : World) (hs : Sl w v ys) (h : sigB ys = true) :
    Calls Try.prog 34 #[v] w fun e w' => e = .returned (.tuple #[v, .bool true]) ∧ w = w' := wdIf_is v ys true w hs h
theorem wdIf_f (v : Value) (ys : List Int) (w : World) (hs : Sl w v ys) (h : sigB ys = false) :
    Calls Try.prog 34 #[v] w fun e w' => e = .returned (.tuple #[.slice none 0 0, .bool false]) ∧ w = w' := wdIf_is v ys false w hs h
theorem stuff_t {w w' : World} {ys : List Int} {b : Bool} {e : Ending} (h : Gives w (onL b ys) b e w') (hb : b = true) : Gives w ys true e w' := by subst hb; exact h
theorem stuff_f {w w' : World} {ys : List Int} {b : Bool} {e : Ending} (h : Gives w (onL b ys) b e w') (hb : b = false) : Gives w [] false e w' := by subst hb; exact h


set_option maxHeartbeats 1000000 in
theorem spec_ExactComb_any (v : Value) (s : List Int) (st r : Int) (w : World) (hs : Sl w v s) :
    Calls Try.prog 9 #[v, .int .i64 st, .int .i64 r] w (Gives w (onL (ecB s st r) (ecL s st r)) (ecB s st r)) := by
  have HS := hid hs
  clear hs
  cases h0 : (sigB s && askB st r)
  · have HB0 := hid h0
    clear h0
    go_enter Try.func9, Try.ntmps9
    go_wp2_with fail
    refine (cbGood_is _ s _ _ false _ HS.out HB0.out).mono ?_
    rintro e w' ⟨rfl, rfl⟩
    go_wp2_with fail
    go_ret2
    exact gives_no (ecB_n HB0.out) (Below.refl _ _)
  · have HB0 := hid h0
    clear h0
    have HA := hid HB0.out
    obtain ⟨HG0, ⟨a1, a2⟩, ⟨a3, a4⟩⟩ := sa_t HA.out
    obtain ⟨t, rfl⟩ : ∃ t : Nat, st = t := ⟨st.toNat, by omega⟩
    obtain ⟨q, rfl⟩ : ∃ q : Nat, r = q := ⟨r.toNat, by omega⟩
    have s1 : 1 ≤ t := by omega
    have s2 : t ≤ 4 := by omega
    have r1 : 1 ≤ q := by omega
    have r2 : q ≤ 8 := by omega
    have HG := hid HG0
    have hrz : (q : Int) - 1 = ((q - 1 : Nat) : Int) := by omega
    have e1 : IntKind.i64.wrap ((q : Int) - 1) = ((q - 1 : Nat) : Int) := by rw [hrz]; exact IntWalk.i64_in _ (by omega)
    have e2 : wrap64 ((q : Int) - 1) = ((q - 1 : Nat) : Int) := by rw [hrz]; exact IntWalk.wrap64_in _ (by omega)
    clear a1 a2 a3 a4 HG0
    go_enter Try.func9, Try.ntmps9
    go_wp2_with fail
    refine (cbGood_is _ s _ _ true _ HS.out HB0.out).mono ?_
    rintro e w' ⟨rfl, rfl⟩
    go_wp2_with fail
    refine (cbExact_any _ s t q _ HS.out HG.out s1 s2 r1 r2).mono ?_
    rintro e w1 ⟨v_R, rfl, R, hb⟩
    have B1 := hb
    go_wp2_with fail
    refine (wdIf_is _ (ecL s (t : Int) (q : Int)) (sigB (ecL s (t : Int) (q : Int))) _ R.sl rfl).mono ?_
    rintro e w' ⟨rfl, rfl⟩
    go_wp2_with fail
    go_ret2
    exact gives_if (ecB_g HA.out) R B1


set_option maxHeartbeats 1000000 in
theorem impl_ExactComb_any (v : Value) (s : List Int) (st r : Int) (w : World) (hs : Sl w v s) :
    Calls Try.prog 8 #[v, .int .i64 st, .int .i64 r] w (Gives w (onL (ecB s st r) (ecL s st r)) (ecB s st r)) := by
  have HS := hid hs
  clear hs
  cases h0 : sigB s
  · have HB0 := hid h0
    clear h0
    go_enter Try.func8, Try.ntmps8
    go_wp2_with fail
    refine (impl_IsSignal_is _ s false _ HS.out HB0.out).mono ?_
    rintro e w' ⟨rfl, rfl⟩
    go_wp2_with fail
    go_ret2
    exact gives_no (ecB_n (sa_n1 HB0.out)) (Below.refl _ _)
  · have HB0 := hid h0
    clear h0
    cases h1 : askB st r
    · have HB1 := hid h1
      clear h1
      go_enter Try.func8, Try.ntmps8
      go_wp2_with fail
      refine (impl_IsSignal_is _ s true _ HS.out HB0.out).mono ?_
      rintro e w' ⟨rfl, rfl⟩
      go_wp2_with fail
      refine (isComb_is _ _ false _ HB1.out).mono ?_
      rintro e w' ⟨rfl, rfl⟩
      go_wp2_with fail
      go_ret2
      exact gives_no (ecB_n (sa_n2 HB1.out)) (Below.refl _ _)
    · have HB1 := hid h1
      clear h1
      have HA := hid (sa_g HB0.out HB1.out)
      obtain ⟨HG0, ⟨a1, a2⟩, ⟨a3, a4⟩⟩ := sa_t HA.out
      obtain ⟨t, rfl⟩ : ∃ t : Nat, st = t := ⟨st.toNat, by omega⟩
      obtain ⟨q, rfl⟩ : ∃ q : Nat, r = q := ⟨r.toNat, by omega⟩
      have s1 : 1 ≤ t := by omega
      have s2 : t ≤ 4 := by omega
      have r1 : 1 ≤ q := by omega
      have r2 : q ≤ 8 := by omega
      have HG := hid HG0
      have hrz : (q : Int) - 1 = ((q - 1 : Nat) : Int) := by omega
      have e1 : IntKind.i64.wrap ((q : Int) - 1) = ((q - 1 : Nat) : Int) := by rw [hrz]; exact IntWalk.i64_in _ (by omega)
      have e2 : wrap64 ((q : Int) - 1) = ((q - 1 : Nat) : Int) := by rw [hrz]; exact IntWalk.wrap64_in _ (by omega)
      clear a1 a2 a3 a4 HG0
      go_enter Try.func8, Try.ntmps8
      go_wp2_with fail
      refine (impl_IsSignal_is _ s true _ HS.out HB0.out).mono ?_
      rintro e w' ⟨rfl, rfl⟩
      go_wp2_with fail
      refine (isComb_is _ _ true _ HB1.out).mono ?_
      rintro e w' ⟨rfl, rfl⟩
      go_wp2_with fail
      refine (combAnswer_any _ s t q _ HS.out HG.out s1 s2 r1 r2).mono ?_
      rintro e w1 ⟨v_R, rfl, R, hb⟩
      have B1 := hb
      go_wp2_with fail
      refine (dropFrom_any _ (caL q t s) q (q - 1) _ R.sl (by rw [caL_len]; exact HG.out.1) r1 r2 (by omega)).mono ?_
      rintro e w2 ⟨v_T, rfl, T, hb⟩
      have B2 := bel_step B1 hb
      have R_2 := R.kept hb
      go_wp2_with fail
      refine (onlySignal_is _ (ecL s (t : Int) (q : Int)) (sigB (ecL s (t : Int) (q : Int))) _ T.sl rfl).mono ?_
      rintro e w' ⟨rfl, rfl⟩
      go_wp2_with fail
      go_ret2
      exact gives_if (ecB_g HA.out) (T.mono B1.size) B2


theorem ec_len {s : List Int} {st r : Int} : (onL (ecB s st r) (ecL s st r)).length ≤ 2000000 := onL_len fun h => by
  unfold ecB at h
  simp only [Bool.and_eq_true] at h
  have := (sigB_t h.2).1; omega
theorem er_len {s : List Int} {st r : Int} : (onL (erB s st r) (erL s st r)).length ≤ 2000000 := onL_len fun h => by
  unfold erB at h
  simp only [Bool.and_eq_true] at h
  have := (sigB_t h.2).1; omega


set_option maxHeartbeats 1000000 in
theorem spec_ExactRise_in (v : Value) (s : List Int) (t q : Nat) (w : World) (hs : Sl w v s) (hg : SigP s) (ha : (sigB s && askB (t : Int) (q : Int)) = true) (s1 : 1 ≤ t) (s2 : t ≤ 4) (r1 : 1 ≤ q) (r2 : q ≤ 8) :
    Calls Try.prog 18 #[v, .int .i64 (t : Int), .int .i64 (q : Int)] w (Gives w (onL (erB s t q) (erL s t q)) (erB s t q)) := by
  have HS := hid hs
  have HG := hid hg
  have HA := hid ha
  clear hs hg ha
  cases h1 : sigB (stuffL q s)
  · have H1 := hid h1
    clear h1
    go_enter Try.func18, Try.ntmps18
    go_wp2_with fail
    refine (cbGood_is _ s _ _ true _ HS.out HA.out).mono ?_
    rintro e w' ⟨rfl, rfl⟩
    go_wp2_with fail
    refine (cbStuff_any _ s q _ HS.out HG.out.1 r1 r2).mono ?_
    rintro e w1 ⟨v1, rfl, R1, B1⟩
    go_wp2_with fail
    refine (wdIf_f _ _ _ R1.sl H1.out).mono ?_
    rintro e w' ⟨rfl, rfl⟩
    go_wp2_with fail
    go_ret2
    exact gives_no (erB_n1 H1.out) B1
  · have H1 := hid h1
    have HG2 := hid (sigB_t h1)
    have HE := hid (erB_g HA.out h1)
    have HQ := hid (cbW_q r1 r2 s2)
    clear h1
    go_enter Try.func18, Try.ntmps18
    go_wp2_with fail
    refine (cbGood_is _ s _ _ true _ HS.out HA.out).mono ?_
    rintro e w' ⟨rfl, rfl⟩
    go_wp2_with fail
    refine (cbStuff_any _ s q _ HS.out HG.out.1 r1 r2).mono ?_
    rintro e w1 ⟨v1, rfl, R1, B1⟩
    obtain ⟨a2, m, cap2, rfl, hm, hr2⟩ := R1.sl.rd
    have Hm := hid hm
    have HR1 := hid R1
    clear hm hr2 R1
    go_wp2_with fail
    refine (wdIf_t _ (stuffL q s) _ HR1.out.sl H1.out).mono ?_
    rintro e w' ⟨rfl, rfl⟩
    go_wp2_with fail
    refine (cbBox_any t q _ s1 s2 r1 r2).mono ?_
    rintro e wA ⟨v2, rfl, R2, hb2⟩
    have B2 := bel_step B1 hb2
    have HR2 := hid R2
    clear R2
    go_wp2_with fail
    refine (weAnswerQ_any _ _ (cbW q t) (stuffL q s) _ HR2.out.sl (HR1.out.sl.kept hb2) HQ.out HG2.out.1 HG2.out.2).mono ?_
    rintro e wB ⟨v_R, rfl, R, hb⟩
    have RB := bel_step B2 hb
    clear hb hb2
    have hsh := ans_short (cbW q t) (stuffL q s) (fun e => by have := HQ.out.1.1; rw [e] at this; simp at this)
    have hal : (stuffL q s).length ≤ (ans (cbW q t) (stuffL q s)).length := by
      by_cases hs0 : (stuffL q s) = []
      · simp [hs0]
      · rw [ans_len _ _ hs0]; have := HQ.out.1.1; omega
    have haw : (ans (cbW q t) (stuffL q s)).length ≤ 92 := by
      by_cases hs0 : (stuffL q s) = []
      · simp [hs0, ans]
      · rw [ans_len _ _ hs0]; have := HQ.out.1.2; have := HG2.out.1; omega
    have hml : m = (stuffL q s).length := Hm.out
    have hm6 : m ≤ 64 := by have := HG2.out.1; omega
    rcases Res.form R with ⟨he, rfl⟩ | ⟨g, L, cap, rfl, hL, hcap, hg⟩
    · have hs0 : (stuffL q s) = [] := List.length_eq_zero_iff.1 (by rw [he] at hal; simpa using hal)
      have hm0 : m = 0 := by rw [hml, hs0]; rfl
      have hsl : Sl wB (.slice none 0 0) (caL q t (stuffL q s)) := .inl ⟨by rw [hs0]; rfl, none, 0, rfl⟩
      have Hsl := hid hsl
      have HRB := hid RB
      have HY := hid (show caL q t (stuffL q s) = [] from by unfold caL; rw [hs0]; rfl)
      subst hm0
      clear hsh hal haw hml hs0 he hsl R RB hm6
      go_wp2_with fail
      refine (l1Own_nil _).mono ?_
      rintro e wC ⟨v3, rfl, R3, hb3⟩
      rw [← HY.out] at R3
      have B3 := bel_step HRB.out hb3
      have R4 := R3.mono HRB.out.size
      have HR4 := hid R4
      have HR3 := hid R3
      clear R3 R4
      go_wp2_with fail
      refine (wdIf_is _ (erL s (t : Int) (q : Int)) (sigB (erL s (t : Int) (q : Int))) _ HR3.out.sl rfl).mono ?_
      rintro e w' ⟨rfl, rfl⟩
      go_wp2_with fail
      go_ret2
      exact gives_if HE.out HR4.out B3
    · have hmL : m ≤ L := by omega
      have hsl : Sl wB (.slice (some ⟨g, 0, none⟩) m cap) (caL q t (stuffL q s)) := by
        unfold caL
        rw [← hsh]
        by_cases h0 : m = 0
        · rw [← hml, h0]; exact .inl ⟨by simp, _, cap, rfl⟩
        · have := Sl.cut (R.sl) (lo := 0) (hi := m) (c2 := cap) (by omega) (by omega) (by omega)
          rw [← hml]; simpa using this
      have Hsl := hid hsl
      have HRB := hid RB
      clear hsh hml hL hsl hal haw R RB hg
      go_wp2_with fail
      refine (l1Own_some g 0 m cap (caL q t (stuffL q s)) _ Hsl.out (by rw [caL_len]; have := HG2.out.1; omega)).mono ?_
      rintro e wC ⟨v3, rfl, R3, hb3⟩
      have B3 := bel_step HRB.out hb3
      have R4 := R3.mono HRB.out.size
      have HR4 := hid R4
      have HR3 := hid R3
      clear R3 R4
      go_wp2_with fail
      refine (wdIf_is _ (erL s (t : Int) (q : Int)) (sigB (erL s (t : Int) (q : Int))) _ HR3.out.sl rfl).mono ?_
      rintro e w' ⟨rfl, rfl⟩
      go_wp2_with fail
      go_ret2
      exact gives_if HE.out HR4.out B3


set_option maxHeartbeats 1000000 in
theorem spec_ExactRise_any (v : Value) (s : List Int) (st r : Int) (w : World) (hs : Sl w v s) :
    Calls Try.prog 18 #[v, .int .i64 st, .int .i64 r] w (Gives w (onL (erB s st r) (erL s st r)) (erB s st r)) := by
  have HS := hid hs
  clear hs
  cases h0 : (sigB s && askB st r)
  · have HB0 := hid h0
    clear h0
    go_enter Try.func18, Try.ntmps18
    go_wp2_with fail
    refine (cbGood_is _ s _ _ false _ HS.out HB0.out).mono ?_
    rintro e w' ⟨rfl, rfl⟩
    go_wp2_with fail
    go_ret2
    exact gives_no (erB_n0 HB0.out) (Below.refl _ _)
  · have HB0 := hid h0
    clear h0
    have HA := hid HB0.out
    obtain ⟨HG0, ⟨a1, a2⟩, ⟨a3, a4⟩⟩ := sa_t HA.out
    obtain ⟨t, rfl⟩ : ∃ t : Nat, st = t := ⟨st.toNat, by omega⟩
    obtain ⟨q, rfl⟩ : ∃ q : Nat, r = q := ⟨r.toNat, by omega⟩
    have s1 : 1 ≤ t := by omega
    have s2 : t ≤ 4 := by omega
    have r1 : 1 ≤ q := by omega
    have r2 : q ≤ 8 := by omega
    have HG := hid HG0
    have hrz : (q : Int) - 1 = ((q - 1 : Nat) : Int) := by omega
    have e1 : IntKind.i64.wrap ((q : Int) - 1) = ((q - 1 : Nat) : Int) := by rw [hrz]; exact IntWalk.i64_in _ (by omega)
    have e2 : wrap64 ((q : Int) - 1) = ((q - 1 : Nat) : Int) := by rw [hrz]; exact IntWalk.wrap64_in _ (by omega)
    clear a1 a2 a3 a4 HG0
    exact spec_ExactRise_in v s t q w HS.out HG.out HA.out s1 s2 r1 r2


set_option maxHeartbeats 1000000 in
theorem impl_ExactRise_any (v : Value) (s : List Int) (st r : Int) (w : World) (hs : Sl w v s) :
    Calls Try.prog 17 #[v, .int .i64 st, .int .i64 r] w (Gives w (onL (erB s st r) (erL s st r)) (erB s st r)) := by
  have HS := hid hs
  clear hs
  cases h0 : szB s r
  · have H0 := hid h0
    clear h0
    go_enter Try.func17, Try.ntmps17
    go_wp2_with fail
    refine (impl_StuffZeros_any _ s r _ HS.out).mono ?_
    intro e w1 hG
    obtain ⟨v1, rfl, R1, B1⟩ := stuff_f hG H0.out
    clear hG
    go_wp2_with fail
    go_ret2
    exact gives_no (erB_n2 H0.out) B1
  · have H0 := hid h0
    clear h0
    cases h1 : decide (1 ≤ st ∧ st ≤ 4)
    · have H1 := hid h1
      clear h1
      go_enter Try.func17, Try.ntmps17
      go_wp2_with fail
      refine (impl_StuffZeros_any _ s r _ HS.out).mono ?_
      intro e w1 hG
      obtain ⟨v1, rfl, R1, B1⟩ := stuff_t hG H0.out
      clear hG
      go_wp2_with fail
      refine (areStages_is _ false _ H1.out).mono ?_
      rintro e w' ⟨rfl, rfl⟩
      go_wp2_with fail
      go_ret2
      exact gives_no (erB_n3 H1.out) B1
    · have H1 := hid h1
      have HA := hid (sz_ask H0.out h1).1
      have H2 := hid (sz_ask H0.out h1).2
      clear h1
      obtain ⟨HG0, ⟨a1, a2⟩, ⟨a3, a4⟩⟩ := sa_t HA.out
      obtain ⟨t, rfl⟩ : ∃ t : Nat, st = t := ⟨st.toNat, by omega⟩
      obtain ⟨q, rfl⟩ : ∃ q : Nat, r = q := ⟨r.toNat, by omega⟩
      have s1 : 1 ≤ t := by omega
      have s2 : t ≤ 4 := by omega
      have r1 : 1 ≤ q := by omega
      have r2 : q ≤ 8 := by omega
      have HG := hid HG0
      have hrz : (q : Int) - 1 = ((q - 1 : Nat) : Int) := by omega
      have e1 : IntKind.i64.wrap ((q : Int) - 1) = ((q - 1 : Nat) : Int) := by rw [hrz]; exact IntWalk.i64_in _ (by omega)
      have e2 : wrap64 ((q : Int) - 1) = ((q - 1 : Nat) : Int) := by rw [hrz]; exact IntWalk.wrap64_in _ (by omega)
      clear a1 a2 a3 a4 HG0
      have HG2 := hid (show SigP (stuffL q s) from sigB_t H2.out)
      have HE := hid (erB_g HA.out H2.out)
      go_enter Try.func17, Try.ntmps17
      go_wp2_with fail
      refine (impl_StuffZeros_any _ s _ _ HS.out).mono ?_
      intro e w1 hG
      obtain ⟨v1, rfl, R1, B1⟩ := stuff_t hG H0.out
      have HR1 := hid (show Res 3 w.heap.size w1 v1 (stuffL q s) from R1)
      clear hG R1
      go_wp2_with fail
      refine (areStages_is _ true _ H1.out).mono ?_
      rintro e w' ⟨rfl, rfl⟩
      go_wp2_with fail
      refine (combAnswer_any _ (stuffL q s) t q _ HR1.out.sl HG2.out s1 s2 r1 r2).mono ?_
      rintro e w2 ⟨v2, rfl, R2, hb⟩
      have B2 := bel_step B1 hb
      have R3 := R2.mono B1.size
      have HR2 := hid R2
      have HR3 := hid R3
      clear R2 R3
      go_wp2_with fail
      refine (onlySignal_is _ (erL s (t : Int) (q : Int)) (sigB (erL s (t : Int) (q : Int))) _ HR2.out.sl rfl).mono ?_
      rintro e w' ⟨rfl, rfl⟩
      go_wp2_with fail
      go_ret2
      exact gives_if HE.out HR3.out B2


end Go.Proofs.Ytdedifgpbehpoaa
