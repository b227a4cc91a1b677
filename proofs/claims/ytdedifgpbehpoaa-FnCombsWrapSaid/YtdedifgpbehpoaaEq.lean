
import Derived.Test.YtdedifgpbehpoaaEp
import Derived.Test.YtdedifgpbehpoaaEl
import Derived.Test.YtdedifgpbehpoaaBl
namespace Go.Proofs.Ytdedifgpbehpoaa
open Go.RowKit BitX Go.MemX Go.Ch6
set_option linter.unusedVariables false

/-- the least number of bits of which p holds -/
def fstB (p : Nat → Bool) : Option Nat := (List.range 41).find? fun b => decide (2 ≤ b) && p b
def fstR (p : Nat → Bool) : Int := match fstB p with | some b => b | none => 0
def fstO (p : Nat → Bool) : Bool := (fstB p).isSome
theorem fstB_yes {p : Nat → Bool} {b : Nat} (h2 : 2 ≤ b) (h40 : b ≤ 40) (hb : p b = true) (hn : ∀ c, 2 ≤ c → c < b → p c = false) : fstB p = some b := by
  unfold fstB
  rw [List.find?_range_eq_some]
  refine ⟨by simp [hb, h2], by simp; omega, fun j hj => ?_⟩
  by_cases hj2 : 2 ≤ j
  · simp [hn j hj2 hj]
  · simp [hj2]
theorem fstB_no {p : Nat → Bool} (hn : ∀ c, 2 ≤ c → c < 41 → p c = false) : fstB p = none := by
  unfold fstB
  rw [List.find?_eq_none]
  intro x hx
  by_cases h2 : 2 ≤ x
  · simp [hn x h2 (by simpa using hx)]
  · simp [h2]
theorem fst_yes {p : Nat → Bool} {b : Nat} (h2 : 2 ≤ b) (h40 : b ≤ 40) (hb : p b = true) (hn : ∀ c, 2 ≤ c → c < b → p c = false) : fstR p = b ∧ fstO p = true := by
  unfold fstR fstO; rw [fstB_yes h2 h40 hb hn]; exact ⟨rfl, rfl⟩
theorem fst_no {p : Nat → Bool} (hn : ∀ c, 2 ≤ c → c < 41 → p c = false) : fstR p = 0 ∧ fstO p = false := by
  unfold fstR fstO; rw [fstB_no hn]; exact ⟨rfl, rfl⟩
theorem fst_step {p : Nat → Bool} {b : Nat} (hn : ∀ c, 2 ≤ c → c < b → p c = false) (h : p b = false) : ∀ c, 2 ≤ c → c < b + 1 → p c = false := by
  intro c h1 h2
  by_cases e : c = b
  · rw [e]; exact h
  · exact hn c h1 (by omega)


def wrL (s : List Int) (b st r : Nat) : List Int := sumsL b st (stuffL r (difsL b st s))
def wrB (s : List Int) (b st r : Int) : Bool := ((sigB s && askB st r) && lonB b) && sigB (stuffL r.toNat s)
theorem stf_bd {f : Nat → Int} {B : Int} {r : Nat} (h0 : 0 ≤ B) (h : ∀ i, -B ≤ f i ∧ f i ≤ B) (j : Nat) : -B ≤ stf r f j ∧ stf r f j ≤ B := by
  unfold stf; split
  · exact h _
  · omega
theorem stuff_in {B : Int} {xs : List Int} {r : Nat} (h : InP (-B) B xs) (h0 : 0 ≤ B) : InP (-B) B (stuffL r xs) := tab_inp fun i _ => stf_bd h0 (inp_at0 h h0) i
theorem stuff_sig {s : List Int} {r : Nat} (h : SigP s) : sigB (stuffL r s) = decide (s.length * r ≤ 64) := by
  unfold sigB
  congr 1
  rw [eq_iff_iff]
  constructor
  · intro a; have := a.1; rwa [stuffL_len] at this
  · intro a; exact ⟨by rw [stuffL_len]; exact a, stuff_in (fun x hx => h.2 x hx) (by omega)⟩
theorem wrB_n1 {s : List Int} {b st r : Int} (h : (sigB s && askB st r) = false) : wrB s b st r = false := by unfold wrB; rw [h]; rfl
theorem wrB_n2 {s : List Int} {b st r : Int} (h : lonB b = false) : wrB s b st r = false := by unfold wrB; rw [h]; simp
theorem wrB_n3 {s : List Int} {b st r : Int} (h : sigB (stuffL r.toNat s) = false) : wrB s b st r = false := by unfold wrB; rw [h]; simp
theorem wrB_g {s : List Int} {b st r : Int} (h : (sigB s && askB st r) = true) (h2 : lonB b = true) (h3 : sigB (stuffL r.toNat s) = true) : wrB s b st r = true := by unfold wrB; rw [h, h2, h3]; rfl
theorem wrB_n0 {s : List Int} {b st r : Int} (h : szB s r = false) : wrB s b st r = false := by
  unfold szB raB at h
  unfold wrB askB
  cases h1 : sigB s
  · rfl
  · rw [h1] at h
    cases h2 : decide (1 ≤ r ∧ r ≤ 8)
    · simp
    · rw [h2] at h
      have : sigB (stuffL r.toNat s) = false := by simpa using h
      rw [this]; simp
theorem wrB_n4 {s : List Int} {b st r : Int} (h : decide (1 ≤ st ∧ st ≤ 4) = false) : wrB s b st r = false := by unfold wrB askB; rw [h]; simp
theorem wr_len {s : List Int} {b st r : Int} : (onL (wrB s b st r) (wrL s b.toNat st.toNat r.toNat)).length ≤ 2000000 := onL_len fun h => by
  unfold wrB at h
  simp only [Bool.and_eq_true] at h
  have := (sigB_t h.2).1
  rw [stuffL_len] at this
  unfold wrL
  rw [sumsL_len, stuffL_len, difsL_len]; omega


set_option maxHeartbeats 1000000 in
theorem spec_WrappedRise_any (v : Value) (s : List Int) (b st r : Int) (w : World) (hs : Sl w v s) :
    Calls Try.prog 16 #[v, .int .i64 b, .int .i64 st, .int .i64 r] w (Gives w (onL (wrB s b st r) (wrL s b.toNat st.toNat r.toNat)) (wrB s b st r)) := by
  have HS := hid hs
  clear hs
  cases h0 : (sigB s && askB st r)
  · have HB0 := hid h0
    clear h0
    go_enter Try.func16, Try.ntmps16
    go_wp2_with fail
    refine (cbGood_is _ s _ _ false _ HS.out HB0.out).mono ?_
    rintro e w' ⟨rfl, rfl⟩
    go_wp2_with fail
    go_ret2
    exact gives_no (wrB_n1 HB0.out) (Below.refl _ _)
  · have HB0 := hid h0
    clear h0
    cases h1 : lonB b
    · have HB1 := hid h1
      clear h1
      go_enter Try.func16, Try.ntmps16
      go_wp2_with fail
      refine (cbGood_is _ s _ _ true _ HS.out HB0.out).mono ?_
      rintro e w' ⟨rfl, rfl⟩
      go_wp2_with fail
      refine (cbBits_is _ false _ HB1.out).mono ?_
      rintro e w' ⟨rfl, rfl⟩
      go_wp2_with fail
      go_ret2
      exact gives_no (wrB_n2 HB1.out) (Below.refl _ _)
    · have HB1 := hid h1
      clear h1
      have HA := hid HB0.out
      have HLO := hid HB1.out
      obtain ⟨HG0, ⟨a1, a2⟩, ⟨a3, a4⟩⟩ := wsa_t HA.out
      obtain ⟨a5, a6⟩ := lonB_t HLO.out
      obtain ⟨t, rfl⟩ : ∃ t : Nat, st = t := ⟨st.toNat, by omega⟩
      obtain ⟨q, rfl⟩ : ∃ q : Nat, r = q := ⟨r.toNat, by omega⟩
      obtain ⟨c, rfl⟩ : ∃ c : Nat, b = c := ⟨b.toNat, by omega⟩
      have s1 : 1 ≤ t := by omega
      have s2 : t ≤ 4 := by omega
      have r1 : 1 ≤ q := by omega
      have r2 : q ≤ 8 := by omega
      have b1 : 2 ≤ c := by omega
      have b2 : c ≤ 40 := by omega
      have HG := hid HG0
      clear a1 a2 a3 a4 a5 a6 HG0
      have HI := hid (sig_39 HG.out)
      obtain ⟨aa, n, cap, rfl, hn, hrd⟩ := HS.out.rd
      clear hrd
      obtain ⟨m, hm⟩ : ∃ m, m = n * q := ⟨_, rfl⟩
      have hm512 : m ≤ 512 := by rw [hm]; exact (mul64 (Nat.le_refl n) (by rw [hn]; exact HG.out.1) r2).2
      have hmi : (n : Int) * (q : Int) = (m : Int) := by rw [hm]; exact (Int.natCast_mul n q).symm
      have e1 : wrap64 ((n : Int) * (q : Int)) = (m : Int) := by rw [hmi]; exact IntWalk.wrap64_in _ (by omega)
      have e2 : IntKind.i64.wrap ((n : Int) * (q : Int)) = (m : Int) := by rw [hmi]; exact IntWalk.i64_in _ (by omega)
      have hsz := stuff_sig (r := q) HG.out
      rw [← hn, ← hm] at hsz
      have Hmm := hid (show s.length * q = m from by rw [hm, hn])
      clear hm hmi hn
      by_cases h64 : m ≤ 64
      · have HT := hid (wrB_g HA.out HLO.out (show sigB (stuffL q s) = true from by rw [hsz]; exact decide_eq_true h64))
        have H64 := hid (show s.length * q ≤ 64 from by rw [Hmm.out]; exact h64)
        clear hsz
        go_enter Try.func16, Try.ntmps16
        go_wp2_with fail
        refine (cbGood_is _ s _ _ true _ HS.out HA.out).mono ?_
        rintro e w' ⟨rfl, rfl⟩
        go_wp2_with fail
        refine (cbBits_is _ true _ HLO.out).mono ?_
        rintro e w' ⟨rfl, rfl⟩
        go_wp2_with fail
        refine (cbCombs_any _ s _ HS.out HG.out.1 c t HI.out b1 b2 s1 s2).mono ?_
        rintro e w1 ⟨u1, rfl, R1, hb1⟩
        have B1 := hb1
        have Hs1 := hid R1.sl
        clear R1
        go_wp2_with fail
        refine (cbStuff_any _ (difsL c t s) q _ Hs1.out (by rw [difsL_len]; exact HG.out.1) r1 r2).mono ?_
        rintro e w2 ⟨u2, rfl, R2, hb2⟩
        have B2 := bel_step B1 hb2
        have Hs2 := hid R2.sl
        clear R2
        go_wp2_with fail
        refine (cbSums_any _ (stuffL q (difsL c t s)) _ Hs2.out (by rw [stuffL_len, difsL_len]; exact H64.out) c t (stuff_in (difs_in b2 HI.out) (by omega)) b1 b2 s1 s2).mono ?_
        rintro e w3 ⟨u3, rfl, R3, hb3⟩
        have B3 := bel_step B2 hb3
        go_wp2_with fail
        go_ret2
        exact gives_yes HT.out (R3.mono B2.size) B3
      · have HN := hid (wrB_n3 (b := (c : Int)) (st := (t : Int)) (r := (q : Int)) (show sigB (stuffL q s) = false from by rw [hsz]; exact decide_eq_false h64))
        have h65 : 64 < m := by omega
        clear hsz h64
        go_enter Try.func16, Try.ntmps16
        go_wp2_with fail
        refine (cbGood_is _ s _ _ true _ HS.out HA.out).mono ?_
        rintro e w' ⟨rfl, rfl⟩
        go_wp2_with fail
        refine (cbBits_is _ true _ HLO.out).mono ?_
        rintro e w' ⟨rfl, rfl⟩
        go_wp2_with fail
        go_ret2
        exact gives_no HN.out (Below.refl _ _)


set_option maxHeartbeats 1000000 in
theorem impl_WrappedRise_any (v : Value) (s : List Int) (b st r : Int) (w : World) (hs : Sl w v s) :
    Calls Try.prog 15 #[v, .int .i64 b, .int .i64 st, .int .i64 r] w (Gives w (onL (wrB s b st r) (wrL s b.toNat st.toNat r.toNat)) (wrB s b st r)) := by
  have HS := hid hs
  clear hs
  cases h0 : szB s r
  · have H0 := hid h0
    clear h0
    go_enter Try.func15, Try.ntmps15
    go_wp2_with fail
    refine (impl_StuffZeros_any _ s r _ HS.out).mono ?_
    intro e w1 hG
    obtain ⟨v1, rfl, R1, B1⟩ := stuff_f hG H0.out
    clear hG
    go_wp2_with fail
    go_ret2
    exact gives_no (wrB_n0 H0.out) B1
  · have H0 := hid h0
    clear h0
    cases h1 : lonB b
    · have H1 := hid h1
      clear h1
      go_enter Try.func15, Try.ntmps15
      go_wp2_with fail
      refine (impl_StuffZeros_any _ s r _ HS.out).mono ?_
      intro e w1 hG
      obtain ⟨v1, rfl, R1, B1⟩ := stuff_t hG H0.out
      clear hG
      go_wp2_with fail
      refine (isLong_is _ false _ H1.out).mono ?_
      rintro e w' ⟨rfl, rfl⟩
      go_wp2_with fail
      go_ret2
      exact gives_no (wrB_n2 H1.out) B1
    · have HLO := hid h1
      clear h1
      cases h2 : decide (1 ≤ st ∧ st ≤ 4)
      · have H2 := hid h2
        clear h2
        go_enter Try.func15, Try.ntmps15
        go_wp2_with fail
        refine (impl_StuffZeros_any _ s r _ HS.out).mono ?_
        intro e w1 hG
        obtain ⟨v1, rfl, R1, B1⟩ := stuff_t hG H0.out
        clear hG
        go_wp2_with fail
        refine (isLong_is _ true _ HLO.out).mono ?_
        rintro e w' ⟨rfl, rfl⟩
        go_wp2_with fail
        refine (areStages_is _ false _ H2.out).mono ?_
        rintro e w' ⟨rfl, rfl⟩
        go_wp2_with fail
        go_ret2
        exact gives_no (wrB_n4 H2.out) B1
      · have H2 := hid h2
        have HA := hid (sz_ask H0.out h2).1
        have H3 := hid (sz_ask H0.out h2).2
        clear h2
        obtain ⟨HG0, ⟨a1, a2⟩, ⟨a3, a4⟩⟩ := wsa_t HA.out
        obtain ⟨a5, a6⟩ := lonB_t HLO.out
        obtain ⟨t, rfl⟩ : ∃ t : Nat, st = t := ⟨st.toNat, by omega⟩
        obtain ⟨q, rfl⟩ : ∃ q : Nat, r = q := ⟨r.toNat, by omega⟩
        obtain ⟨c, rfl⟩ : ∃ c : Nat, b = c := ⟨b.toNat, by omega⟩
        have s1 : 1 ≤ t := by omega
        have s2 : t ≤ 4 := by omega
        have r1 : 1 ≤ q := by omega
        have r2 : q ≤ 8 := by omega
        have b1 : 2 ≤ c := by omega
        have b2 : c ≤ 40 := by omega
        have HG := hid HG0
        clear a1 a2 a3 a4 a5 a6 HG0
        have HI := hid (sig_39 HG.out)
        have HT := hid (wrB_g HA.out HLO.out H3.out)
        have H64 := hid (show s.length * q ≤ 64 from by have := (sigB_t (show sigB (stuffL q s) = true from H3.out)).1; rwa [stuffL_len] at this)
        go_enter Try.func15, Try.ntmps15
        go_wp2_with fail
        refine (impl_StuffZeros_any _ s _ _ HS.out).mono ?_
        intro e w1 hG
        obtain ⟨v1, rfl, R1, B1⟩ := stuff_t hG H0.out
        clear hG R1
        have HS0 := HS
        have HS := hid (HS0.out.kept B1)
        go_wp2_with fail
        refine (isLong_is _ true _ HLO.out).mono ?_
        rintro e w' ⟨rfl, rfl⟩
        go_wp2_with fail
        refine (areStages_is _ true _ H2.out).mono ?_
        rintro e w' ⟨rfl, rfl⟩
        go_wp2_with fail
        refine (wrappedDifferences_any _ s _ HS.out HG.out.1 c t HI.out b1 b2 s1 s2).mono ?_
        rintro e w2 ⟨u1, rfl, R1, hb1⟩
        have B2 := bel_step B1 hb1
        have Hs1 := hid R1.sl
        clear R1
        go_wp2_with fail
        refine (stuffWithZeros_any _ (difsL c t s) q _ Hs1.out (by rw [difsL_len]; exact HG.out.1) r1 r2).mono ?_
        rintro e w3 ⟨u2, rfl, R2, hb2⟩
        have B3 := bel_step B2 hb2
        have Hs2 := hid R2.sl
        clear R2
        go_wp2_with fail
        refine (wrappedSums_any _ (stuffL q (difsL c t s)) _ Hs2.out (by rw [stuffL_len, difsL_len]; exact H64.out) c t (stuff_in (difs_in b2 HI.out) (by omega)) b1 b2 s1 s2).mono ?_
        rintro e w4 ⟨u3, rfl, R3, hb3⟩
        have B4 := bel_step B3 hb3
        go_wp2_with fail
        go_ret2
        exact gives_yes HT.out (R3.mono B3.size) B4


def lbP (s : List Int) (st r : Nat) (b : Nat) : Bool := decide (wcL s b st r = dropL r (r - 1) (caL r st s))
def lbO (s : List Int) (st r : Int) : Bool := ecB s st r && fstO (lbP s st.toNat r.toNat)
def lbR (s : List Int) (st r : Int) : Int := onI (ecB s st r) (fstR (lbP s st.toNat r.toNat))
theorem lb_no {s : List Int} {st r : Int} (h : ecB s st r = false) : Ending.returned (.tuple #[.int .i64 0, .bool false]) = .returned (.tuple #[.int .i64 (lbR s st r), .bool (lbO s st r)]) := by unfold lbR lbO; rw [h]; rfl
theorem lb_yes {s : List Int} {st r x : Int} {q : Bool} (h : ecB s st r = true) (h1 : x = fstR (lbP s st.toNat r.toNat)) (h2 : q = fstO (lbP s st.toNat r.toNat)) : Ending.returned (.tuple #[.int .i64 x, .bool q]) = .returned (.tuple #[.int .i64 (lbR s st r), .bool (lbO s st r)]) := by unfold lbR lbO; rw [h, h1, h2]; rfl
theorem ex_len (s : List Int) (st r : Nat) : (dropL r (r - 1) (caL r st s)).length = drN s.length r (r - 1) := by rw [dropL_len, caL_len]
theorem list_at0 {xs ys : List Int} (hl : xs.length = ys.length) (h : ∀ i, i < xs.length → at0 xs i = at0 ys i) : xs = ys := by
  rw [← tab_self xs, ← tab_self ys, ← hl]; exact tab_congr _ _ _ h
theorem pre_step {xs ys : List Int} {j : Nat} {x : Int} (h : ∀ i, i < j → at0 xs i = at0 ys i) (h1 : at0 xs j = x) (h2 : at0 ys j = x) : ∀ i, i < j + 1 → at0 xs i = at0 ys i := fun i hi => by
  by_cases e : i = j
  · rw [e, h1, h2]
  · exact h i (by omega)


set_option maxHeartbeats 2000000 in
theorem spec_LeastBits_any (v : Value) (s : List Int) (st r : Int) (w : World) (hs : Sl w v s) :
    Calls Try.prog 20 #[v, .int .i64 st, .int .i64 r] w fun e w' => e = .returned (.tuple #[.int .i64 (lbR s st r), .bool (lbO s st r)]) ∧ Below w.heap.size w w' := by
  have HS := hid hs
  clear hs
  cases h0 : (sigB s && askB st r)
  · have HB0 := hid h0
    clear h0
    go_enter Try.func20, Try.ntmps20
    go_wp2_with fail
    refine (cbGood_is _ s _ _ false _ HS.out HB0.out).mono ?_
    rintro e w' ⟨rfl, rfl⟩
    go_wp2_with fail
    go_ret2
    exact ⟨lb_no (ecB_n HB0.out), Below.refl _ _⟩
  · have HB0 := hid h0
    clear h0
    have HA := hid HB0.out
    obtain ⟨HG0, ⟨a1, a2⟩, ⟨a3, a4⟩⟩ := sa_t HA.out
    obtain ⟨t, rfl⟩ : ∃ t : Nat, st = t := ⟨st.toNat, by omega⟩
    obtain ⟨q, rfl⟩ : ∃ q : Nat, r = q := ⟨r.toNat, by omega⟩
    have s1 : 1 ≤ t := by omega
    have s2 : t ≤ 4 := by omega
    have r1 : 1 ≤ q := by omega
    have r2 : q ≤ 8 := by omega
    have HG := hid HG0
    have hrz : (q : Int) - 1 = ((q - 1 : Nat) : Int) := by omega
    have e1 : IntKind.i64.wrap ((q : Int) - 1) = ((q - 1 : Nat) : Int) := by rw [hrz]; exact IntWalk.i64_in _ (by omega)
    have e2 : wrap64 ((q : Int) - 1) = ((q - 1 : Nat) : Int) := by rw [hrz]; exact IntWalk.wrap64_in _ (by omega)
    clear a1 a2 a3 a4 HG0
    cases h1 : sigB (dropL q (q - 1) (caL q t s))
    · have H1 := hid h1
      have HN := hid (show ecB s (t : Int) (q : Int) = false from (ecB_g HA.out).trans h1)
      clear h1
      go_enter Try.func20, Try.ntmps20
      go_wp2_with fail
      refine (cbGood_is _ s _ _ true _ HS.out HA.out).mono ?_
      rintro e w' ⟨rfl, rfl⟩
      go_wp2_with fail
      refine (cbExact_any _ s t q _ HS.out HG.out s1 s2 r1 r2).mono ?_
      rintro e w1 ⟨v1, rfl, R1, b1⟩
      have B1 := hid b1
      have HR1 := hid R1
      clear R1 b1
      go_wp2_with fail
      refine (wdIf_f _ (dropL q (q - 1) (caL q t s)) _ HR1.out.sl H1.out).mono ?_
      rintro e w' ⟨rfl, rfl⟩
      go_wp2_with fail
      go_ret2
      exact ⟨lb_no HN.out, B1.out⟩
    · have H1 := hid h1
      have HT := hid (show ecB s (t : Int) (q : Int) = true from (ecB_g HA.out).trans h1)
      clear h1
      go_enter Try.func20, Try.ntmps20
      go_wp2_with fail
      refine (cbGood_is _ s _ _ true _ HS.out HA.out).mono ?_
      rintro e w' ⟨rfl, rfl⟩
      go_wp2_with fail
      refine (cbExact_any _ s t q _ HS.out HG.out s1 s2 r1 r2).mono ?_
      rintro e w1 ⟨v1, rfl, R1, b1⟩
      have B1 := hid b1
      have HR1 := hid R1
      clear R1 b1
      go_wp2_with fail
      refine (wdIf_t _ (dropL q (q - 1) (caL q t s)) _ HR1.out.sl H1.out).mono ?_
      rintro e w' ⟨rfl, rfl⟩
      go_wp2_with fail
      clear e1 e2 hrz
      go_loopw [10] (fun i wr => ∃ b : Nat, 2 ≤ b ∧ b ≤ 41 ∧ i = .int .i64 b ∧ Hid (∀ c, 2 ≤ c → c < b → lbP s t q c = false) ∧ Below w1.heap.size w1 wr)
        (fun i _ => 41 - (intOf i).toNat)
      case atStart => exact ⟨2, by omega, by omega, rfl, hid fun c h1 h2 => by omega, Below.refl _ _⟩
      case round =>
        obtain ⟨b, hb2, hb41, rfl, hno, hb⟩ := hrel
        by_cases hb40 : b ≤ 40
        · have Hno := hid hno
          have hsk := HS.out.kept (B1.out.trans (hb.mono B1.out.size))
          have hrk := HR1.out.kept hb
          have Hsk := hid hsk
          have Hrk := hid hrk
          clear hno hsk hrk
          cases hp : lbP s t q b
          · have Hs := hid (fst_step Hno.out.out hp)
            have Hp := hid (show decide (wcL s b t q = dropL q (q - 1) (caL q t s)) = false from hp)
            clear hp
            go_wp2_with fail
            refine (cbWrapped_any _ s b t q _ Hsk.out HG.out hb2 hb40 s1 s2 r1 r2).mono ?_
            rintro e w2 ⟨u2, rfl, R2, hb3⟩
            go_wp2_with fail
            refine (weSame_is _ _ (wcL s b t q) (dropL q (q - 1) (caL q t s)) false _ R2.sl (Hrk.out.kept hb3).sl (by rw [wcL_len]; have := drN_le s.length q (q - 1) r1; have := HG.out.1; omega) Hp.out).mono ?_
            rintro e w3 ⟨rfl, hb4⟩
            have hb5 := hb.trans ((hb3.trans (hb4.mono hb3.size)).mono hb.size)
            go_wp2
            go_roundw
            case rel => exact ⟨b + 1, by omega, by omega, by go_num, Hs, hb5⟩
            case measure => simp [intOf]; omega
          · have Hfin := hid (fst_yes hb2 hb40 hp Hno.out.out)
            have Hp := hid (show decide (wcL s b t q = dropL q (q - 1) (caL q t s)) = true from hp)
            clear hp
            go_wp2_with fail
            refine (cbWrapped_any _ s b t q _ Hsk.out HG.out hb2 hb40 s1 s2 r1 r2).mono ?_
            rintro e w2 ⟨u2, rfl, R2, hb3⟩
            go_wp2_with fail
            refine (weSame_is _ _ (wcL s b t q) (dropL q (q - 1) (caL q t s)) true _ R2.sl (Hrk.out.kept hb3).sl (by rw [wcL_len]; have := drN_le s.length q (q - 1) r1; have := HG.out.1; omega) Hp.out).mono ?_
            rintro e w3 ⟨rfl, hb4⟩
            have hb5 := hb.trans ((hb3.trans (hb4.mono hb3.size)).mono hb.size)
            go_wp2
            go_ret2
            exact ⟨lb_yes HT.out Hfin.out.1.symm Hfin.out.2.symm, B1.out.trans (hb5.mono B1.out.size)⟩
        · obtain rfl : b = 41 := by omega
          have Hfin := hid (fst_no hno.out)
          clear hb40 hno
          go_wp2
          go_ret2
          exact ⟨lb_yes HT.out Hfin.out.1.symm Hfin.out.2.symm, B1.out.trans (hb.mono B1.out.size)⟩


set_option maxHeartbeats 2000000 in
theorem impl_LeastBits_any (v : Value) (s : List Int) (st r : Int) (w : World) (hs : Sl w v s) :
    Calls Try.prog 12 #[v, .int .i64 st, .int .i64 r] w fun e w' => e = .returned (.tuple #[.int .i64 (lbR s st r), .bool (lbO s st r)]) ∧ Below w.heap.size w w' := by
  have HS := hid hs
  clear hs
  cases h0 : ecB s st r
  · have H0 := hid h0
    clear h0
    go_enter Try.func12, Try.ntmps12
    go_wp2_with fail
    go_step3
    go_wp2_with fail
    refine (impl_ExactComb_any _ s _ _ _ HS.out).mono ?_
    intro e w1 hG
    obtain ⟨v1, rfl, R1, B1⟩ := stuff_f hG H0.out
    clear hG
    go_wp2_with fail
    simp only [Exit.noGoto]
    go_ret2
    exact ⟨lb_no H0.out, B1⟩
  · have HT := hid h0
    have HA := hid (show (sigB s && askB st r) = true from by unfold ecB at h0; simp only [Bool.and_eq_true] at h0 ⊢; exact h0.1)
    clear h0
    obtain ⟨HG0, ⟨a1, a2⟩, ⟨a3, a4⟩⟩ := sa_t HA.out
    obtain ⟨t, rfl⟩ : ∃ t : Nat, st = t := ⟨st.toNat, by omega⟩
    obtain ⟨q, rfl⟩ : ∃ q : Nat, r = q := ⟨r.toNat, by omega⟩
    have s1 : 1 ≤ t := by omega
    have s2 : t ≤ 4 := by omega
    have r1 : 1 ≤ q := by omega
    have r2 : q ≤ 8 := by omega
    have HG := hid HG0
    have hrz : (q : Int) - 1 = ((q - 1 : Nat) : Int) := by omega
    have e1 : IntKind.i64.wrap ((q : Int) - 1) = ((q - 1 : Nat) : Int) := by rw [hrz]; exact IntWalk.i64_in _ (by omega)
    have e2 : wrap64 ((q : Int) - 1) = ((q - 1 : Nat) : Int) := by rw [hrz]; exact IntWalk.wrap64_in _ (by omega)
    clear a1 a2 a3 a4 HG0
    clear e1 e2 hrz
    go_enter Try.func12, Try.ntmps12
    go_wp2_with fail
    go_step3
    go_wp2_with fail
    refine (impl_ExactComb_any _ s _ _ _ HS.out).mono ?_
    intro e w1 hG
    obtain ⟨v1, rfl, R1, b1⟩ := stuff_t hG HT.out
    have B1 := hid b1
    have HR1 := hid (show Res 3 w.heap.size w1 v1 (dropL q (q - 1) (caL q t s)) from R1)
    clear hG R1 b1
    obtain ⟨a8, m8, cap8, rfl, hm8, hrd8⟩ := HR1.out.sl.rd
    rw [ex_len] at hm8
    have hm64 : m8 ≤ 64 := by have := drN_le s.length q (q - 1) r1; have := HG.out.1; omega
    have Hm8 := hid hm8
    have Hrd8 := hid hrd8
    clear hm8 hrd8
    go_wp2_with fail
    go_step3
    go_wp2_with fail
    go_loopw [10] (fun i wr => ∃ b : Nat, 2 ≤ b ∧ b ≤ 41 ∧ i = .int .i64 b ∧ Hid (∀ c, 2 ≤ c → c < b → lbP s t q c = false) ∧ Below w1.heap.size w1 wr)
      (fun i _ => 41 - (intOf i).toNat)
    case atStart => exact ⟨2, by omega, by omega, rfl, hid fun c h1 h2 => by omega, Below.refl _ _⟩
    case round =>
      obtain ⟨b, hb2, hb41, rfl, hno, hb⟩ := hrel
      by_cases hb40 : b ≤ 40
      · have Hno := hid hno
        have hsk := HS.out.kept (B1.out.trans (hb.mono B1.out.size))
        have hrk := HR1.out.kept hb
        have Hsk := hid hsk
        have Hrk := hid hrk
        clear hno hsk hrk
        go_wp2_with fail
        refine (wrappedComb_any _ s b t q _ Hsk.out HG.out hb2 hb40 s1 s2 r1 r2).mono ?_
        rintro e w2 ⟨u2, rfl, R2, hb3⟩
        obtain ⟨a2, m2, cap2, rfl, hm2, hrd2⟩ := R2.sl.rd
        rw [wcL_len, ← Hm8.out] at hm2
        subst hm2
        have Hrd2 := hid hrd2
        have hb4 := hb.trans (hb3.mono hb.size)
        have Hr8 := hid (Hrd8.out.kept hb4)
        clear hrd2 R2
        go_wp2_with fail
        go_loopw [32] (fun i wq => ∃ j : Nat, j ≤ m2 ∧ i = .int .i64 j ∧ Hid (∀ i, i < j → at0 (wcL s b t q) i = at0 (dropL q (q - 1) (caL q t s)) i) ∧ Below w2.heap.size w2 wq)
          (fun i _ => m2 - (intOf i).toNat)
        case atStart => exact ⟨0, by omega, rfl, hid fun i hi => by omega, Below.refl _ _⟩
        case round =>
          obtain ⟨j, hj, rfl, hpre, hb5⟩ := hrel
          have Hpre := hid hpre
          clear hpre
          by_cases hlj : j < m2
          · obtain ⟨x, hkx⟩ := get_lt (wcL s b t q) j (by rw [wcL_len, ← Hm8.out]; exact hlj)
            obtain ⟨y, hky⟩ := get_lt (dropL q (q - 1) (caL q t s)) j (by rw [ex_len, ← Hm8.out]; exact hlj)
            obtain ⟨bb, oo, hix, hbb, hce⟩ := (Hrd2.out.kept hb5).at (P := Try.prog) (T := 24) m2 cap2 uslice sone hkx hlj
            obtain ⟨b3, o3, hix3, hbb3, hce3⟩ := (Hr8.out.kept hb5).at (P := Try.prog) (T := 24) m2 cap8 uslice sone hky hlj
            have Hkx := hid (at0_of hkx)
            have Hky := hid (at0_of hky)
            clear hkx hky
            by_cases hxy : x = y
            · have hne : (x != y) = false := bne_eq_false_iff_eq.2 hxy
              have Hs := hid (pre_step Hpre.out.out (Hkx.out.trans hxy) Hky.out)
              clear hxy
              go_wp2_with fail
              go_roundw
              case rel => exact ⟨j + 1, by omega, by go_num, Hs, hb5⟩
              case measure => simp [intOf]; omega
            · have hne : (x != y) = true := bne_iff_ne.2 hxy
              have Hp := hid (show lbP s t q b = false from decide_eq_false fun e => hxy (by rw [← Hkx.out, ← Hky.out, e]))
              have Hs := hid (fst_step Hno.out.out Hp.out)
              have hb6 := hb4.trans (hb5.mono hb4.size)
              clear hxy
              go_wp2_with fail
              go_roundw
              case rel => exact ⟨b + 1, by omega, by omega, by go_num, Hs, hb6⟩
              case measure => simp [intOf]; omega
          · have hge : (m2 : Int) ≤ (j : Int) := by omega
            have hjm : j = m2 := by omega
            have Hp := hid (show lbP s t q b = true from decide_eq_true (list_at0 (by rw [wcL_len, ex_len]) fun i hi => Hpre.out.out i (by rw [wcL_len, ← Hm8.out] at hi; omega)))
            have Hfin := hid (fst_yes hb2 hb40 Hp.out Hno.out.out)
            have hb6 := hb4.trans (hb5.mono hb4.size)
            clear hlj hjm
            go_wp2_with fail
            simp only [Exit.noGoto]
            go_ret2
            exact ⟨lb_yes HT.out Hfin.out.1.symm Hfin.out.2.symm, B1.out.trans (hb6.mono B1.out.size)⟩
      · obtain rfl : b = 41 := by omega
        have Hfin := hid (fst_no hno.out)
        clear hb40 hno
        go_wp2
        simp only [Exit.noGoto]
        go_ret2
        exact ⟨lb_yes HT.out Hfin.out.1.symm Hfin.out.2.symm, B1.out.trans (hb.mono B1.out.size)⟩


end Go.Proofs.Ytdedifgpbehpoaa
