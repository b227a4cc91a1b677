
import Derived.Test.YtjbpfphfajohnaaUd
import Derived.Test.YtjbpfphfajohnaaMp
import Derived.Test.YtjbpfphfajohnaaEg
import Derived.Test.YtjbpfphfajohnaaEo
import Derived.Test.YtjbpfphfajohnaaWh
namespace Go.Proofs.Ytjbpfphfajohnaa
open Go.RowKit BitX Go.MemX Go.Ch6 Go.Ch8
set_option linter.unusedVariables false
theorem gives_if {w w' : World} {v : Value} {ys : List Int} {b q : Bool} (h : b = q) (hv : Res 3 w.heap.size w' v ys) (hb : Below w.heap.size w w') : Gives w (onL b ys) b (.returned (.tuple #[onB q v (.slice none 0 0), .bool q])) w' := by
  subst h
  cases b
  · exact ⟨_, rfl, .inl ⟨rfl, rfl⟩, hb⟩
  · exact ⟨_, rfl, hv, hb⟩
/-- the answer, as long as the signal -/
def cvL (h s : List Int) : List Int := tab s.length (conv h s)
theorem cvL_len (h s : List Int) : (cvL h s).length = s.length := tab_len _ _
theorem ans_cut (h s : List Int) (hne : h ≠ []) : (ans h s).take s.length = cvL h s := by
  by_cases hs : s = []
  · subst hs; simp [ans, cvL]; rfl
  · rw [ans_cons h s hs]
    have hn := List.length_pos_iff.2 hne
    refine List.ext_getElem? fun i => ?_
    rw [List.getElem?_take]
    by_cases hi : i < s.length
    · rw [if_pos hi, tab_get _ _ _ (by omega)]; exact (tab_get _ _ _ hi).symm
    · rw [if_neg hi, List.getElem?_eq_none (by rw [cvL_len]; omega)]
def udL (h s : List Int) (p q : Nat) : List Int := dropL q 0 (cvL h (stuffL p s))
def uaB (h s : List Int) (p q : Int) : Bool := sigB s && cfB h s.length p q
def udO (h s : List Int) (p q : Int) : Bool := uaB h s p q && sigB (udL h s p.toNat q.toNat)
theorem lnB_sig {s : List Int} (h : sigB s = true) : lnB (s.length : Int) = true := decide_eq_true ⟨by omega, by have := (sigB_t h).1; omega⟩
theorem rsB_y {s : List Int} {p q : Int} (h : sigB s = true) (h2 : ratB p q = true) : rsB s p q = true := and_t h h2
theorem rsB_t {s : List Int} {p q : Int} (h : rsB s p q = true) : SigP s ∧ ((1 ≤ p ∧ p ≤ 8) ∧ (1 ≤ q ∧ q ≤ 8)) := by
  unfold rsB at h
  rw [Bool.and_eq_true] at h
  exact ⟨sigB_t h.1, ratB_t h.2⟩
theorem uaB_alt (h s : List Int) (p q : Int) : uaB h s p q = (wgtB h && (rsB s p q && fits s.length p)) := by
  unfold uaB cfB rsB
  cases h1 : sigB s
  · cases wgtB h <;> rfl
  · rw [lnB_sig h1]
    cases wgtB h <;> cases ratB p q <;> cases fits (s.length : Int) p <;> rfl
theorem ua_n1 {h s : List Int} {p q : Int} (e : wgtB h = false) : uaB h s p q = false := by rw [uaB_alt]; exact and_n1 e
theorem ua_n2 {h s : List Int} {p q : Int} (e : rsB s p q = false) : uaB h s p q = false := by rw [uaB_alt]; exact and_n2 (and_n1 e)
theorem ua_n3 {h s : List Int} {p q : Int} (e : fits s.length p = false) : uaB h s p q = false := by rw [uaB_alt]; exact and_n2 (and_n2 e)
theorem ua_y {h s : List Int} {p q : Int} (e1 : wgtB h = true) (e2 : rsB s p q = true) (e3 : fits s.length p = true) : uaB h s p q = true := by rw [uaB_alt]; exact and_t e1 (and_t e2 e3)
theorem ud_n {h s : List Int} {p q : Int} (e : uaB h s p q = false) : udO h s p q = false := and_n1 e
theorem ud_y {h s : List Int} {p q : Int} (e : uaB h s p q = true) : udO h s p q = sigB (udL h s p.toNat q.toNat) := by unfold udO; rw [e]; rfl
theorem ua_t {h s : List Int} {p q : Int} (e : uaB h s p q = true) : WgtP h ∧ SigP s ∧ ((1 ≤ p ∧ p ≤ 8) ∧ (1 ≤ q ∧ q ≤ 8)) ∧ (s.length : Int) * p ≤ 64 := by
  unfold uaB at e
  rw [Bool.and_eq_true] at e
  have := cf_t e.2
  exact ⟨this.1, sigB_t e.1, this.2.2.1, this.2.2.2⟩
theorem stuff_in {s : List Int} {r : Nat} (hr : 1 ≤ r) (hs : InP (-100000) 100000 s) : InP (-100000) 100000 (stuffL r s) := by
  intro x hx
  obtain ⟨i, hi⟩ := List.getElem?_of_mem hx
  have hil : i < s.length * r := by have := (List.getElem?_eq_some_iff.1 hi).1; rwa [stuffL_len] at this
  unfold stuffL at hi
  rw [tab_get _ _ _ hil] at hi
  cases hi
  unfold stf
  split
  · exact at0_in hs (by omega) (by omega) _
  · omega
theorem udO_len {h s : List Int} {p q : Int} : (onL (udO h s p q) (udL h s p.toNat q.toNat)).length ≤ 2000000 := onL_len fun e => by
  unfold udO at e
  rw [Bool.and_eq_true] at e
  have := (sigB_t e.2).1; omega


set_option maxHeartbeats 1000000 in
theorem rsGood_any (v : Value) (s : List Int) (p q : Int) (w : World) (hs : Sl w v s) :
    Calls Try.prog 35 #[v, .int .i64 p, .int .i64 q] w fun e w' => e = .returned (.bool (rsB s p q)) ∧ w = w' := by
  have HS := hid hs
  clear hs
  cases h0 : sigB s
  · have HB0 := hid h0
    clear h0
    go_enter Try.func35, Try.ntmps35
    go_wp2_with fail
    refine (wdSignal_is _ s false _ HS.out HB0.out).mono ?_
    rintro e w' ⟨rfl, rfl⟩
    go_wp2_with fail
    go_ret
    exact ⟨ret_b (and_n1 HB0.out).symm, rfl⟩
  · have HB0 := hid h0
    clear h0
    cases h1 : ratB p q
    · have HB1 := hid h1
      clear h1
      go_enter Try.func35, Try.ntmps35
      go_wp2_with fail
      refine (wdSignal_is _ s true _ HS.out HB0.out).mono ?_
      rintro e w' ⟨rfl, rfl⟩
      go_wp2_with fail
      refine (rsRatio_is _ _ false _ HB1.out).mono ?_
      rintro e w' ⟨rfl, rfl⟩
      go_wp2_with fail
      go_ret
      exact ⟨ret_b (and_n2 HB1.out).symm, rfl⟩
    · have HB1 := hid h1
      clear h1
      go_enter Try.func35, Try.ntmps35
      go_wp2_with fail
      refine (wdSignal_is _ s true _ HS.out HB0.out).mono ?_
      rintro e w' ⟨rfl, rfl⟩
      go_wp2_with fail
      refine (rsRatio_is _ _ true _ HB1.out).mono ?_
      rintro e w' ⟨rfl, rfl⟩
      go_wp2
      go_ret
      exact ⟨ret_b (rsB_y HB0.out HB1.out).symm, rfl⟩

theorem rsGood_is (v : Value) (s : List Int) (p q : Int) (b : Bool) (w : World) (hs : Sl w v s) (h : rsB s p q = b) :
    Calls Try.prog 35 #[v, .int .i64 p, .int .i64 q] w fun e w' => e = .returned (.bool (b)) ∧ w = w' := by subst h; exact rsGood_any v s p q w hs

theorem fits_l {s : List Int} {n : Nat} {p : Int} {b : Bool} (hn : n = s.length) (h : fits (n : Int) p = b) : fits (s.length : Int) p = b := by rw [← hn]; exact h


set_option maxHeartbeats 1000000 in
theorem rsAsked_any (u v : Value) (h s : List Int) (p q : Int) (w : World) (hu : Sl w u h) (hs : Sl w v s) :
    Calls Try.prog 19 #[u, v, .int .i64 p, .int .i64 q] w fun e w' => e = .returned (.bool (uaB h s p q)) ∧ w = w' := by
  have HU := hid hu
  have HS := hid hs
  clear hu hs
  obtain ⟨a, n, cap, rfl, hx1, hx2⟩ := HS.out.rd
  have Hn := hid hx1
  clear hx1 hx2
  obtain ⟨a2, n2, cap2, rfl, hx1, hx2⟩ := HU.out.rd
  have Hn2 := hid hx1
  clear hx1 hx2
  cases h0 : wgtB h
  · have HB0 := hid h0
    clear h0
    go_enter Try.func19, Try.ntmps19
    go_wp2_with fail
    refine (weGood_is _ h false _ HU.out HB0.out).mono ?_
    rintro e w' ⟨rfl, rfl⟩
    go_wp2_with fail
    go_ret
    exact ⟨ret_b (ua_n1 HB0.out).symm, rfl⟩
  · have HB0 := hid h0
    clear h0
    cases h1 : rsB s p q
    · have HB1 := hid h1
      clear h1
      go_enter Try.func19, Try.ntmps19
      go_wp2_with fail
      refine (weGood_is _ h true _ HU.out HB0.out).mono ?_
      rintro e w' ⟨rfl, rfl⟩
      go_wp2_with fail
      refine (rsGood_is _ s _ _ false _ HS.out HB1.out).mono ?_
      rintro e w' ⟨rfl, rfl⟩
      go_wp2_with fail
      go_ret
      exact ⟨ret_b (ua_n2 HB1.out).symm, rfl⟩
    · have HB1 := hid h1
      clear h1
      obtain ⟨p1, p8⟩ : 1 ≤ p ∧ p ≤ 8 := by have := (rsB_t HB1.out).2.1; omega
      have hn64 : n ≤ 64 := by rw [Hn.out]; exact (rsB_t HB1.out).1.1
      obtain ⟨P, rfl⟩ : ∃ P : Nat, p = P := ⟨p.toNat, by omega⟩
      obtain ⟨m, hm⟩ : ∃ m, m = n * P := ⟨_, rfl⟩
      have hm5 : m ≤ 512 := by rw [hm]; exact np_le hn64 (by omega)
      have hmi : (n : Int) * (P : Int) = (m : Int) := by rw [hm]; exact (Int.natCast_mul n P).symm
      have HM := hid hmi
      have b1 : -9223372036854775808 ≤ (m : Int) ∧ (m : Int) ≤ 9223372036854775807 := by clear hmi hm; omega
      have e1 : wrap64 ((n : Int) * (P : Int)) = (m : Int) := by rw [hmi]; exact IntWalk.wrap64_in _ b1
      have e2 : IntKind.i64.wrap ((n : Int) * (P : Int)) = (m : Int) := by rw [hmi]; exact IntWalk.i64_in _ b1
      clear hm hmi b1
      cases h2 : fits (n : Int) (P : Int)
      · have HB2 := hid h2
        clear h2
        have hle := Int.not_le.1 (of_decide_eq_false (fits_le HM.out HB2.out))
        go_enter Try.func19, Try.ntmps19
        go_wp2_with fail
        refine (weGood_is _ h true _ HU.out HB0.out).mono ?_
        rintro e w' ⟨rfl, rfl⟩
        go_wp2_with fail
        refine (rsGood_is _ s _ _ true _ HS.out HB1.out).mono ?_
        rintro e w' ⟨rfl, rfl⟩
        go_wp2_with fail
        go_ret
        first | exact ⟨ret_b (ua_n3 (fits_l Hn.out HB2.out)).symm, rfl⟩ | exact ⟨tails_b ((fits_le HM.out HB2.out).trans (ua_n3 (fits_l Hn.out HB2.out)).symm), rfl⟩
      · have HB2 := hid h2
        clear h2
        have hle := of_decide_eq_true (fits_le HM.out HB2.out)
        go_enter Try.func19, Try.ntmps19
        go_wp2_with fail
        refine (weGood_is _ h true _ HU.out HB0.out).mono ?_
        rintro e w' ⟨rfl, rfl⟩
        go_wp2_with fail
        refine (rsGood_is _ s _ _ true _ HS.out HB1.out).mono ?_
        rintro e w' ⟨rfl, rfl⟩
        go_wp2
        go_ret
        first | exact ⟨ret_b (ua_y HB0.out HB1.out (fits_l Hn.out HB2.out)).symm, rfl⟩ | exact ⟨tails_b ((fits_le HM.out HB2.out).trans (ua_y HB0.out HB1.out (fits_l Hn.out HB2.out)).symm), rfl⟩

theorem rsAsked_is (u v : Value) (h s : List Int) (p q : Int) (b : Bool) (w : World) (hu : Sl w u h) (hs : Sl w v s) (e : uaB h s p q = b) :
    Calls Try.prog 19 #[u, v, .int .i64 p, .int .i64 q] w fun e w' => e = .returned (.bool (b)) ∧ w = w' := by subst e; exact rsAsked_any u v h s p q w hu hs


set_option maxHeartbeats 1000000 in
theorem rsDirect_any (u v : Value) (h s : List Int) (P Q : Nat) (w : World) (hu : Sl w u h) (hs : Sl w v s) (hw : WgtP h) (hg : SigP s) (hnp : s.length * P ≤ 64) (P1 : 1 ≤ P) (P8 : P ≤ 8) (Q1 : 1 ≤ Q) (Q8 : Q ≤ 8) :
    Calls Try.prog 21 #[u, v, .int .i64 (P : Int), .int .i64 (Q : Int)] w (GivesL w (udL h s P Q)) := by
  have HU := hid hu
  have HS := hid hs
  have HW := hid hw
  have HG := hid hg
  have HG2 := hid (show SigP (stuffL P s) from ⟨by rw [stuffL_len]; exact hnp, stuff_in P1 hg.2⟩)
  clear hu hs hw hg hnp
  go_enter Try.func21, Try.ntmps21
  go_wp2_with fail
  refine (cbStuff_any _ s P _ HS.out HG.out.1 P1 P8).mono ?_
  rintro e w1 ⟨v1, rfl, R1, B1⟩
  obtain ⟨a3, m, cap3, rfl, hm, hr2⟩ := R1.sl.rd
  have Hm := hid hm
  have HR1 := hid R1
  clear hm hr2 R1
  go_wp2_with fail
  refine (weAnswer_any _ _ h (stuffL P s) _ (HU.out.kept B1) HR1.out.sl HW.out HG2.out.1 HG2.out.2).mono ?_
  rintro e wB ⟨v_R, rfl, R, hb⟩
  have RB := bel_step B1 hb
  clear hb
  have hsh := ans_cut h (stuffL P s) (fun e => by have := HW.out.1.1; rw [e] at this; simp at this)
  have hal : (stuffL P s).length ≤ (ans h (stuffL P s)).length := by
    by_cases hs0 : (stuffL P s) = []
    · simp [hs0]
    · rw [ans_len _ _ hs0]; have := HW.out.1.1; omega
  have haw : (ans h (stuffL P s)).length ≤ 92 := by
    by_cases hs0 : (stuffL P s) = []
    · simp [hs0, ans]
    · rw [ans_len _ _ hs0]; have := HW.out.1.2; have := HG2.out.1; omega
  have hml : m = (stuffL P s).length := Hm.out
  have hm6 : m ≤ 64 := by have := HG2.out.1; omega
  rcases Res.form R with ⟨he, rfl⟩ | ⟨g, L, cap, rfl, hL, hcap, hg⟩
  · have hs0 : (stuffL P s) = [] := List.length_eq_zero_iff.1 (by rw [he] at hal; simpa using hal)
    have hm0 : m = 0 := by rw [hml, hs0]; rfl
    have hsl : Sl wB (.slice none 0 0) (cvL h (stuffL P s)) := .inl ⟨by rw [hs0]; rfl, none, 0, rfl⟩
    have Hsl := hid hsl
    have HRB := hid RB
    subst hm0
    clear hsh hal haw hml hs0 he hsl R RB hm6
    go_wp2_with fail
    refine (cbDrop_any _ (cvL h (stuffL P s)) Q 0 _ Hsl.out (by rw [cvL_len]; exact HG2.out.1) Q1 Q8 (by omega)).mono ?_
    rintro e w3 ⟨v3, rfl, R3, hb3⟩
    have B3 := bel_step HRB.out hb3
    go_wp2_with fail
    go_ret
    exact ⟨_, rfl, R3.mono HRB.out.size, B3⟩
  · have hmL : m ≤ L := by omega
    have hsl : Sl wB (.slice (some ⟨g, 0, none⟩) m cap) (cvL h (stuffL P s)) := by
      rw [← hsh]
      by_cases h0 : m = 0
      · rw [← hml, h0]; exact .inl ⟨by simp, _, cap, rfl⟩
      · have := Sl.cut (R.sl) (lo := 0) (hi := m) (c2 := cap) (by omega) (by omega) (by omega)
        rw [← hml]; simpa using this
    have Hsl := hid hsl
    have HRB := hid RB
    clear hsh hml hL hsl hal haw R RB hg
    go_wp2_with fail
    refine (cbDrop_any _ (cvL h (stuffL P s)) Q 0 _ Hsl.out (by rw [cvL_len]; exact HG2.out.1) Q1 Q8 (by omega)).mono ?_
    rintro e w3 ⟨v3, rfl, R3, hb3⟩
    have B3 := bel_step HRB.out hb3
    go_wp2_with fail
    go_ret
    exact ⟨_, rfl, R3.mono HRB.out.size, B3⟩


set_option maxHeartbeats 1000000 in
theorem spec_UpFilterDown_any (u v : Value) (h s : List Int) (p q : Int) (w : World) (hu : Sl w u h) (hs : Sl w v s) :
    Calls Try.prog 7 #[u, v, .int .i64 p, .int .i64 q] w (Gives w (onL (udO h s p q) (udL h s p.toNat q.toNat)) (udO h s p q)) := by
  have HU := hid hu
  have HS := hid hs
  clear hu hs
  obtain ⟨a, n, cap, rfl, hx1, hx2⟩ := HS.out.rd
  have Hn := hid hx1
  clear hx1 hx2
  obtain ⟨a2, n2, cap2, rfl, hx1, hx2⟩ := HU.out.rd
  have Hn2 := hid hx1
  clear hx1 hx2
  cases h0 : uaB h s p q
  · have HB0 := hid h0
    clear h0
    go_enter Try.func7, Try.ntmps7
    go_wp2_with fail
    refine (rsAsked_is _ _ h s _ _ false _ HU.out HS.out HB0.out).mono ?_
    rintro e w' ⟨rfl, rfl⟩
    go_wp2_with fail
    go_ret2
    exact gives_no (ud_n HB0.out) (Below.refl _ _)
  · have HB0 := hid h0
    clear h0
    obtain ⟨HW0, HG0, hpq, hnp⟩ := ua_t HB0.out
    obtain ⟨p1, p8, q1, q8⟩ : 1 ≤ p ∧ p ≤ 8 ∧ 1 ≤ q ∧ q ≤ 8 := by omega
    obtain ⟨P, rfl⟩ : ∃ P : Nat, p = P := ⟨p.toNat, by omega⟩
    obtain ⟨Q, rfl⟩ : ∃ Q : Nat, q = Q := ⟨q.toNat, by omega⟩
    have P1 : 1 ≤ P := by omega
    have P8 : P ≤ 8 := by omega
    have Q1 : 1 ≤ Q := by omega
    have Q8 : Q ≤ 8 := by omega
    have HW := hid HW0
    have HG := hid HG0
    have HNP := hid (show s.length * P ≤ 64 from by exact_mod_cast hnp)
    clear HW0 HG0 hpq hnp p1 p8 q1 q8
    go_enter Try.func7, Try.ntmps7
    go_wp2_with fail
    refine (rsAsked_is _ _ h s _ _ true _ HU.out HS.out HB0.out).mono ?_
    rintro e w' ⟨rfl, rfl⟩
    go_wp2_with fail
    refine (rsDirect_any _ _ h s P Q _ HU.out HS.out HW.out HG.out HNP.out P1 P8 Q1 Q8).mono ?_
    rintro e w1 ⟨v_R, rfl, R, hb⟩
    have B1 := hb
    go_wp2_with fail
    refine (wdIf_is _ _ (sigB (udL h s P Q)) _ R.sl rfl).mono ?_
    rintro e w' ⟨rfl, rfl⟩
    go_wp2_with fail
    go_ret2
    exact gives_if (ud_y HB0.out) R B1


set_option maxHeartbeats 1000000 in
theorem spec_DownFilter_any (u v : Value) (h s : List Int) (q : Int) (w : World) (hu : Sl w u h) (hs : Sl w v s) :
    Calls Try.prog 13 #[u, v, .int .i64 q] w (Gives w (onL (udO h s 1 q) (udL h s (1 : Int).toNat (q : Int).toNat)) (udO h s 1 q)) := by
  have HU := hid hu
  have HS := hid hs
  clear hu hs
  obtain ⟨a, n, cap, rfl, hx1, hx2⟩ := HS.out.rd
  have Hn := hid hx1
  clear hx1 hx2
  obtain ⟨a2, n2, cap2, rfl, hx1, hx2⟩ := HU.out.rd
  have Hn2 := hid hx1
  clear hx1 hx2
  cases h0 : uaB h s 1 q
  · have HB0 := hid h0
    clear h0
    go_enter Try.func13, Try.ntmps13
    go_wp2_with fail
    refine (rsAsked_is _ _ h s _ _ false _ HU.out HS.out HB0.out).mono ?_
    rintro e w' ⟨rfl, rfl⟩
    go_wp2_with fail
    go_ret2
    exact gives_no (ud_n HB0.out) (Below.refl _ _)
  · have HB0 := hid h0
    clear h0
    obtain ⟨HW0, HG0, hpq, hnp⟩ := ua_t HB0.out
    obtain ⟨q1, q8⟩ : 1 ≤ q ∧ q ≤ 8 := by omega
    obtain ⟨Q, rfl⟩ : ∃ Q : Nat, q = Q := ⟨q.toNat, by omega⟩
    have P1 : 1 ≤ 1 := by omega
    have P8 : 1 ≤ 8 := by omega
    have Q1 : 1 ≤ Q := by omega
    have Q8 : Q ≤ 8 := by omega
    have HW := hid HW0
    have HG := hid HG0
    have HNP := hid (show s.length * 1 ≤ 64 from by exact_mod_cast hnp)
    clear HW0 HG0 hpq hnp q1 q8
    go_enter Try.func13, Try.ntmps13
    go_wp2_with fail
    refine (rsAsked_is _ _ h s _ _ true _ HU.out HS.out HB0.out).mono ?_
    rintro e w' ⟨rfl, rfl⟩
    go_wp2_with fail
    refine (rsDirect_any _ _ h s 1 Q _ HU.out HS.out HW.out HG.out HNP.out P1 P8 Q1 Q8).mono ?_
    rintro e w1 ⟨v_R, rfl, R, hb⟩
    have B1 := hb
    go_wp2_with fail
    refine (wdIf_is _ _ (sigB (udL h s 1 Q)) _ R.sl rfl).mono ?_
    rintro e w' ⟨rfl, rfl⟩
    go_wp2_with fail
    go_ret2
    exact gives_if (ud_y HB0.out) R B1


set_option maxHeartbeats 1000000 in
theorem spec_UpFilter_any (u v : Value) (h s : List Int) (p : Int) (w : World) (hu : Sl w u h) (hs : Sl w v s) :
    Calls Try.prog 15 #[u, v, .int .i64 p] w (Gives w (onL (udO h s p 1) (udL h s (p : Int).toNat (1 : Int).toNat)) (udO h s p 1)) := by
  have HU := hid hu
  have HS := hid hs
  clear hu hs
  obtain ⟨a, n, cap, rfl, hx1, hx2⟩ := HS.out.rd
  have Hn := hid hx1
  clear hx1 hx2
  obtain ⟨a2, n2, cap2, rfl, hx1, hx2⟩ := HU.out.rd
  have Hn2 := hid hx1
  clear hx1 hx2
  cases h0 : uaB h s p 1
  · have HB0 := hid h0
    clear h0
    go_enter Try.func15, Try.ntmps15
    go_wp2_with fail
    refine (rsAsked_is _ _ h s _ _ false _ HU.out HS.out HB0.out).mono ?_
    rintro e w' ⟨rfl, rfl⟩
    go_wp2_with fail
    go_ret2
    exact gives_no (ud_n HB0.out) (Below.refl _ _)
  · have HB0 := hid h0
    clear h0
    obtain ⟨HW0, HG0, hpq, hnp⟩ := ua_t HB0.out
    obtain ⟨p1, p8⟩ : 1 ≤ p ∧ p ≤ 8 := by omega
    obtain ⟨P, rfl⟩ : ∃ P : Nat, p = P := ⟨p.toNat, by omega⟩
    have P1 : 1 ≤ P := by omega
    have P8 : P ≤ 8 := by omega
    have Q1 : 1 ≤ 1 := by omega
    have Q8 : 1 ≤ 8 := by omega
    have HW := hid HW0
    have HG := hid HG0
    have HNP := hid (show s.length * P ≤ 64 from by exact_mod_cast hnp)
    clear HW0 HG0 hpq hnp p1 p8
    go_enter Try.func15, Try.ntmps15
    go_wp2_with fail
    refine (rsAsked_is _ _ h s _ _ true _ HU.out HS.out HB0.out).mono ?_
    rintro e w' ⟨rfl, rfl⟩
    go_wp2_with fail
    refine (rsDirect_any _ _ h s P 1 _ HU.out HS.out HW.out HG.out HNP.out P1 P8 Q1 Q8).mono ?_
    rintro e w1 ⟨v_R, rfl, R, hb⟩
    have B1 := hb
    go_wp2_with fail
    refine (wdIf_is _ _ (sigB (udL h s P 1)) _ R.sl rfl).mono ?_
    rintro e w' ⟨rfl, rfl⟩
    go_wp2_with fail
    go_ret2
    exact gives_if (ud_y HB0.out) R B1

/-- a variable of the call's own -/
def Var1x (E : TypeId) (w : World) (g : Nat) (v : Value) : Prop := w.heap[g]? = some (.cells #[v] E (0, 0))
theorem Var1x.lt {E : TypeId} {w : World} {g : Nat} {v : Value} (h : Var1x E w g v) : g < w.heap.size := lt_of_block h
theorem Var1x.cell {E : TypeId} {w : World} {g : Nat} {v : Value} (h : Var1x E w g v) : w.cell? ⟨g, 0, none⟩ = some v := by rw [cell_of_row w g 0 _ _ _ h]; rfl
theorem Var1x.kept {E : TypeId} {w w' : World} {g : Nat} {v : Value} {B : Nat} (h : Var1x E w g v) (hb : Below B w w') (hg : g < B) : Var1x E w' g v := by unfold Var1x; rw [hb.block g hg]; exact h
theorem Var1x.new (w : World) (v : Value) (E : TypeId) : Var1x E (w.alloc (.cells #[v] E)) w.heap.size v := by unfold Var1x; exact Array.getElem?_push_size
theorem ua_of {h s : List Int} {n : Nat} {p q : Int} {b : Bool} (hn : n = s.length) (h1 : sigB s = true) (h2 : cfB h (n : Int) p q = b) : uaB h s p q = b := by unfold uaB; rw [h1, ← hn, h2]; rfl


set_option maxHeartbeats 1000000 in
theorem impl_UpFilterDown_any (u v : Value) (h s : List Int) (p q : Int) (w : World) (hu : Sl w u h) (hs : Sl w v s) :
    Calls Try.prog 9 #[u, v, .int .i64 p, .int .i64 q] w (Gives w (onL (udO h s p q) (udL h s p.toNat q.toNat)) (udO h s p q)) := by
  have HU := hid hu
  have HS := hid hs
  clear hu hs
  obtain ⟨a, n, cap, rfl, hx1, hx2⟩ := HS.out.rd
  have Hn := hid hx1
  clear hx1 hx2
  obtain ⟨a2, n2, cap2, rfl, hx1, hx2⟩ := HU.out.rd
  have Hn2 := hid hx1
  clear hx1 hx2
  cases h0 : sigB s
  · have HB0 := hid h0
    clear h0
    go_enter Try.func9, Try.ntmps9
    go_wp2_with fail
    refine (impl_IsSignal_is _ s false _ HS.out HB0.out).mono ?_
    rintro e w' ⟨rfl, rfl⟩
    go_wp2_with fail
    go_ret2
    exact gives_no (ud_n (and_n1 HB0.out)) (Below.refl _ _)
  · have HB0 := hid h0
    clear h0
    cases h1 : cfB h (n : Int) p q
    · have HB1 := hid h1
      clear h1
      go_enter Try.func9, Try.ntmps9
      go_wp2_with fail
      refine (impl_IsSignal_is _ s true _ HS.out HB0.out).mono ?_
      rintro e w' ⟨rfl, rfl⟩
      go_wp2_with fail
      refine (canFilterUp_is _ h _ _ _ false _ HU.out HB1.out).mono ?_
      rintro e w' ⟨rfl, rfl⟩
      go_wp2_with fail
      go_ret2
      exact gives_no (ud_n (ua_of Hn.out HB0.out HB1.out)) (Below.refl _ _)
    · have HB1 := hid h1
      clear h1
      have HUA := hid (ua_of Hn.out HB0.out HB1.out)
      obtain ⟨HW0, HG0, hpq, hnp⟩ := ua_t HUA.out
      obtain ⟨p1, p8, q1, q8⟩ : 1 ≤ p ∧ p ≤ 8 ∧ 1 ≤ q ∧ q ≤ 8 := by omega
      obtain ⟨P, rfl⟩ : ∃ P : Nat, p = P := ⟨p.toNat, by omega⟩
      obtain ⟨Q, rfl⟩ : ∃ Q : Nat, q = Q := ⟨q.toNat, by omega⟩
      have P1 : 1 ≤ P := by omega
      have P8 : P ≤ 8 := by omega
      have Q1 : 1 ≤ Q := by omega
      have Q8 : Q ≤ 8 := by omega
      have HW := hid HW0
      have HG := hid HG0
      have HNP := hid (show s.length * P ≤ 64 from by exact_mod_cast hnp)
      clear HW0 HG0 hpq hnp p1 p8 q1 q8
      have HG2 := hid (show SigP (stuffL P s) from ⟨by rw [stuffL_len]; exact HNP.out, stuff_in P1 HG.out.2⟩)
      have hn1 : 1 ≤ n2 := by rw [Hn2.out]; exact HW.out.1.1
      have hn9 : n2 ≤ 9 := by rw [Hn2.out]; exact HW.out.1.2
      go_enter Try.func9, Try.ntmps9
      go_wp2_with fail
      refine (impl_IsSignal_is _ s true _ HS.out HB0.out).mono ?_
      rintro e w' ⟨rfl, rfl⟩
      go_wp2_with fail
      refine (canFilterUp_is _ h _ _ _ true _ HU.out HB1.out).mono ?_
      rintro e w' ⟨rfl, rfl⟩
      go_wp2_with fail
      refine (exactFilter_v _ _ _ _).mono ?_
      rintro e w1 ⟨rfl, rfl⟩
      have B1 := bel_alloc w (.cells #[.slice a2 n2 cap2] 22)
      go_wp2_with fail
      refine (stuffWithZeros_any _ s P _ (HS.out.kept B1) HG.out.1 P1 P8).mono ?_
      rintro e w2 ⟨v2, rfl, R2, hb⟩
      have B2 := bel_step B1 hb
      have hc0 := ((Var1x.new w (.slice a2 n2 cap2) 22).kept hb (Var1x.new w _ _).lt).cell
      have hfil := exact_fil (gh := w.heap.size) (hv := .slice a2 n2 cap2) (h := h) (s := stuffL P s) (w := w2) hc0 (HU.out.kept B2) HW.out HG2.out.2
      rw [← Hn2.out] at hfil
      have Hfil := hid hfil
      have HR2 := hid R2
      clear hfil hc0 R2 hb
      go_wp2_with fail
      refine (runFilter_any _ _ enterEx _ (stuffL P s) n2 (conv h (stuffL P s)) _ HR2.out.sl (Nat.le_trans HG2.out.1 (by omega)) hn1 (by omega) Hfil.out).mono ?_
      rintro e w3 ⟨v3, rfl, R3, hb⟩
      have B3 := bel_step B2 hb
      have HR3 := hid (show Res 3 w2.heap.size w3 v3 (cvL h (stuffL P s)) from R3)
      clear R3 hb
      go_wp2_with fail
      refine (dropFrom_any _ (cvL h (stuffL P s)) Q 0 _ HR3.out.sl (by rw [cvL_len]; exact HG2.out.1) Q1 Q8 (by omega)).mono ?_
      rintro e w4 ⟨v4, rfl, R4, hb⟩
      have B4 := bel_step B3 hb
      have HR4 := hid (R4.mono B3.size)
      clear R4 hb
      go_wp2_with fail
      refine (onlySignal_is _ (udL h s P Q) (sigB (udL h s P Q)) _ HR4.out.sl rfl).mono ?_
      rintro e w' ⟨rfl, rfl⟩
      go_wp2_with fail
      go_ret2
      exact gives_if (ud_y HUA.out) HR4.out B4


set_option maxHeartbeats 400000 in
theorem impl_DownFilter_any (u v : Value) (h s : List Int) (q : Int) (w : World) (hu : Sl w u h) (hs : Sl w v s) :
    Calls Try.prog 14 #[u, v, .int .i64 q] w (Gives w (onL (udO h s 1 q) (udL h s (1 : Int).toNat (q : Int).toNat)) (udO h s 1 q)) := by
  have HU := hid hu
  have HS := hid hs
  clear hu hs
  obtain ⟨a, n, cap, rfl, hx1, hx2⟩ := HS.out.rd
  have Hn := hid hx1
  clear hx1 hx2
  obtain ⟨a2, n2, cap2, rfl, hx1, hx2⟩ := HU.out.rd
  have Hn2 := hid hx1
  clear hx1 hx2
  go_enter Try.func14, Try.ntmps14
  go_wp2_with fail
  refine (impl_UpFilterDown_any _ _ h s 1 q _ HU.out HS.out).mono ?_
  rintro e w1 ⟨v1, rfl, R, hb⟩
  go_wp2_with fail
  go_ret2
  exact ⟨v1, rfl, R, hb⟩


set_option maxHeartbeats 400000 in
theorem impl_UpFilter_any (u v : Value) (h s : List Int) (p : Int) (w : World) (hu : Sl w u h) (hs : Sl w v s) :
    Calls Try.prog 16 #[u, v, .int .i64 p] w (Gives w (onL (udO h s p 1) (udL h s (p : Int).toNat (1 : Int).toNat)) (udO h s p 1)) := by
  have HU := hid hu
  have HS := hid hs
  clear hu hs
  obtain ⟨a, n, cap, rfl, hx1, hx2⟩ := HS.out.rd
  have Hn := hid hx1
  clear hx1 hx2
  obtain ⟨a2, n2, cap2, rfl, hx1, hx2⟩ := HU.out.rd
  have Hn2 := hid hx1
  clear hx1 hx2
  go_enter Try.func16, Try.ntmps16
  go_wp2_with fail
  refine (impl_UpFilterDown_any _ _ h s p 1 _ HU.out HS.out).mono ?_
  rintro e w1 ⟨v1, rfl, R, hb⟩
  go_wp2_with fail
  go_ret2
  exact ⟨v1, rfl, R, hb⟩


set_option maxHeartbeats 1600000 in
theorem gen_FnExactUpFilterDown (h : List Int) (s : List Int) (p : Int) (q : Int) (u_h : Option Addr) (l_h c_h : Nat) (u_s : Option Addr) (l_s c_s : Nat) (ys : List Int) (ok : Bool) (w : World) (hs_h : Sl w (.slice u_h l_h c_h) h) (ll_h : l_h ≤ 1048576) (hl_h : h.length ≤ 1048576) (hs_s : Sl w (.slice u_s l_s c_s) s) (ll_s : l_s ≤ 1048576) (hl_s : s.length ≤ 1048576) (hy : ys.length ≤ 2000000) (hspec : ∀ (w : World) (v_h : Value) (v_s : Value), Sl w v_h h → Sl w v_s s → Calls Try.prog 7 #[v_h, v_s, .int .i64 p, .int .i64 q] w (Gives w ys ok)) (himpl : ∀ (w : World) (v_h : Value) (v_s : Value), Sl w v_h h → Sl w v_s s → Calls Try.prog 9 #[v_h, v_s, .int .i64 p, .int .i64 q] w (Gives w ys ok)) :
    Calls Try.prog 3 #[.slice u_h l_h c_h, .slice u_s l_s c_s, .int .i64 p, .int .i64 q] w fun e w' => e = .returned (.bool true) ∧ Below w.heap.size w w' := by
  have HSh := hid hs_h
  clear hs_h
  have HSs := hid hs_s
  clear hs_s
  have HSP := hid hspec
  have HIM := hid himpl
  clear hspec himpl
  all_goals cases ok
  all_goals
    go_enter Try.func3, Try.ntmps3
    go_wp2_with fail
    refine (toIntS_any _ h _ HSh.out (by omega)).mono ?_
    rintro e w1 ⟨g_Ah0, hg_Ah0, rfl, K_Ah0, hb⟩
    have B1 := hb
    have hz1 : w.heap.size ≤ w1.heap.size := by first | exact hb.size | (have := hb.size; simp at this; omega)
    have Ah0 := K_Ah0.res hg_Ah0
    go_wp2_with fail
    refine (toIntS_any _ s _ (HSs.out.kept B1) (by omega)).mono ?_
    rintro e w2 ⟨g_As1, hg_As1, rfl, K_As1, hb⟩
    have B2 := bel_step B1 hb
    have hz2 : w1.heap.size ≤ w2.heap.size := hb.size
    have Ah0_2 := Ah0.kept hb
    have As1 := K_As1.res hg_As1
    go_wp2_with fail
    refine (HSP.out _ _ _ Ah0_2.sl As1.sl).mono ?_
    rintro e w3 ⟨v_R0, rfl, R0, hb⟩
    have B3 := bel_step B2 hb
    have hz3 : w2.heap.size ≤ w3.heap.size := hb.size
    have Ah0_3 := Ah0_2.kept hb
    have As1_3 := As1.kept hb
    have hlt0 : ∀ g, v_R0.ownBlock = some g → g < w3.heap.size := fun g hg => R0.lt hg
    have Hlt0 := hid hlt0
    clear hlt0
    go_wp2_with fail
    refine (toIntS_any _ h _ (HSh.out.kept B3) (by omega)).mono ?_
    rintro e w4 ⟨g_Xh, hg_Xh, rfl, K_Xh, hb⟩
    have B4 := bel_step B3 hb
    have hz4 : w3.heap.size ≤ w4.heap.size := hb.size
    have R0_4 := R0.kept hb
    have Xh := K_Xh.res hg_Xh
    have hlt_Xh := K_Xh.lt
    have hne_Xh : ∀ g, v_R0.ownBlock = some g → g ≠ g_Xh := fun g hg => by have a1 := Hlt0.out g hg; omega
    have Hne_Xh := hid hne_Xh
    clear hne_Xh
    go_wp2_with fail
    refine (toIntS_any _ s _ (HSs.out.kept B4) (by omega)).mono ?_
    rintro e w5 ⟨g_Xs, hg_Xs, rfl, K_Xs, hb⟩
    have B5 := bel_step B4 hb
    have hz5 : w4.heap.size ≤ w5.heap.size := hb.size
    have R0_5 := R0_4.kept hb
    have Xh_5 := Xh.kept hb
    have Xs := K_Xs.res hg_Xs
    have hlt_Xs := K_Xs.lt
    have hne_Xs : ∀ g, v_R0.ownBlock = some g → g ≠ g_Xs := fun g hg => by have a1 := Hlt0.out g hg; omega
    have Hne_Xs := hid hne_Xs
    clear hne_Xs
    have hxl_Xh : g_Xh < w5.heap.size := Xh_5.lt rfl
    have hxl_Xs : g_Xs < w5.heap.size := Xs.lt rfl
    go_wp2_with fail
    refine (HIM.out _ _ _ Xh_5.sl Xs.sl).mono ?_
    rintro e w6 ⟨v_R1, rfl, R1, hb⟩
    have B6 := bel_step B5 hb
    have hz6 : w5.heap.size ≤ w6.heap.size := hb.size
    have R0_6 := R0_5.kept hb
    have Xh_6 := Xh_5.kept hb
    have Xs_6 := Xs.kept hb
    have hne1_Xh : ∀ g, v_R1.ownBlock = some g → g ≠ g_Xh := fun g hg => by have a1 := R1.ge hg; omega
    have Hne1_Xh := hid hne1_Xh
    clear hne1_Xh
    have hne1_Xs : ∀ g, v_R1.ownBlock = some g → g ≠ g_Xs := fun g hg => by have a1 := R1.ge hg; omega
    have Hne1_Xs := hid hne1_Xs
    clear hne1_Xs
    have hne01 : ∀ g, v_R0.ownBlock = some g → v_R1.ownBlock ≠ some g := fun g hg e => by have a1 := R1.ge e; have a2 := Hlt0.out g hg; omega
    have Hne01 := hid hne01
    clear hne01
    have hge1 : ∀ g, v_R1.ownBlock = some g → w5.heap.size ≤ g := fun g hg => R1.ge hg
    have Hge1 := hid hge1
    clear hge1
    go_wp2_with fail
    refine (eqIntS_same _ _ ys _ R1.sl R0_6.sl hy).mono ?_
    rintro e w7 ⟨rfl, hb⟩
    have B7 := bel_step B6 hb
    have hz7 : w6.heap.size ≤ w7.heap.size := hb.size
    have R0_7 := R0_6.kept hb
    have Xh_7 := Xh_6.kept hb
    have Xs_7 := Xs_6.kept hb
    have R1_7 := R1.kept hb
    go_wp2_with fail
    refine (toIntS_any _ h _ (HSh.out.kept B7) (by omega)).mono ?_
    rintro e w8 ⟨g_TXh, hg_TXh, rfl, K_TXh, hb⟩
    have B8 := bel_step B7 hb
    have hz8 : w7.heap.size ≤ w8.heap.size := hb.size
    have R0_8 := R0_7.kept hb
    have Xh_8 := Xh_7.kept hb
    have Xs_8 := Xs_7.kept hb
    have R1_8 := R1_7.kept hb
    have TXh := K_TXh.res hg_TXh
    go_wp2_with fail
    refine (eqIntS_same _ _ h _ Xh_8.sl TXh.sl (by omega)).mono ?_
    rintro e w9 ⟨rfl, hb⟩
    have B9 := bel_step B8 hb
    have hz9 : w8.heap.size ≤ w9.heap.size := hb.size
    have R0_9 := R0_8.kept hb
    have Xh_9 := Xh_8.kept hb
    have Xs_9 := Xs_8.kept hb
    have R1_9 := R1_8.kept hb
    have TXh_9 := TXh.kept hb
    go_wp2_with fail
    refine (toIntS_any _ s _ (HSs.out.kept B9) (by omega)).mono ?_
    rintro e w10 ⟨g_TXs, hg_TXs, rfl, K_TXs, hb⟩
    have B10 := bel_step B9 hb
    have hz10 : w9.heap.size ≤ w10.heap.size := hb.size
    have R0_10 := R0_9.kept hb
    have Xh_10 := Xh_9.kept hb
    have Xs_10 := Xs_9.kept hb
    have R1_10 := R1_9.kept hb
    have TXs := K_TXs.res hg_TXs
    go_wp2_with fail
    refine (eqIntS_same _ _ s _ Xs_10.sl TXs.sl (by omega)).mono ?_
    rintro e w11 ⟨rfl, hb⟩
    have B11 := bel_step B10 hb
    have hz11 : w10.heap.size ≤ w11.heap.size := hb.size
    have R0_11 := R0_10.kept hb
    have Xh_11 := Xh_10.kept hb
    have Xs_11 := Xs_10.kept hb
    have R1_11 := R1_10.kept hb
    have TXs_11 := TXs.kept hb
    go_wp2_with fail
    refine (markIntS_one _ h _ _ Xh_11 (by omega)).mono ?_
    rintro e w12 ⟨rfl, ho, _⟩
    have B12 := B11.trans (ho.below fun g hg => by cases hg; exact Nat.le_trans B3.size hg_Xh)
    have hz12 : w11.heap.size ≤ w12.heap.size := Nat.le_of_eq ho.size.symm
    have R0_12 := R0_11.only ho fun g hg e => by cases e; exact Hne_Xh.out _ hg rfl
    have R1_12 := R1_11.only ho fun g hg e => by cases e; exact Hne1_Xh.out _ hg rfl
    have Xs_12 := Xs_11.only ho fun g hg e => by cases hg; cases e; omega
    go_wp2_with fail
    refine (markIntS_plus _ s h.length _ _ Xs_12 (by omega) (by omega)).mono ?_
    rintro e w13 ⟨rfl, ho, _⟩
    have B13 := B12.trans (ho.below fun g hg => by cases hg; exact Nat.le_trans B4.size hg_Xs)
    have hz13 : w12.heap.size ≤ w13.heap.size := Nat.le_of_eq ho.size.symm
    have R0_13 := R0_12.only ho fun g hg e => by cases e; exact Hne_Xs.out _ hg rfl
    have R1_13 := R1_12.only ho fun g hg e => by cases e; exact Hne1_Xs.out _ hg rfl
    go_wp2_with fail
    refine (eqIntS_same _ _ ys _ R1_13.sl R0_13.sl hy).mono ?_
    rintro e w14 ⟨rfl, hb⟩
    have B14 := bel_step B13 hb
    have hz14 : w13.heap.size ≤ w14.heap.size := hb.size
    have R0_14 := R0_13.kept hb
    have R1_14 := R1_13.kept hb
    go_wp2_with fail
    refine (markIntS_one _ ys _ _ R1_14 hy).mono ?_
    rintro e w15 ⟨rfl, ho, M⟩
    have B15 := B14.trans (ho.below fun g hg => Nat.le_trans B5.size (Hge1.out g hg))
    have hz15 : w14.heap.size ≤ w15.heap.size := Nat.le_of_eq ho.size.symm
    have R0_15 := R0_14.only ho Hne01.out
    go_wp2_with fail
    refine (heldIntS_one _ ys.length _ _ M hy).mono ?_
    rintro e w' ⟨rfl, rfl⟩
    go_wp2_with fail
    refine (toIntS_any _ h _ (HSh.out.kept B15) (by omega)).mono ?_
    rintro e w16 ⟨g_Ah15, hg_Ah15, rfl, K_Ah15, hb⟩
    have B16 := bel_step B15 hb
    have hz16 : w15.heap.size ≤ w16.heap.size := hb.size
    have R0_16 := R0_15.kept hb
    have M_16 := M.kept hb
    have Ah15 := K_Ah15.res hg_Ah15
    go_wp2_with fail
    refine (toIntS_any _ s _ (HSs.out.kept B16) (by omega)).mono ?_
    rintro e w17 ⟨g_As16, hg_As16, rfl, K_As16, hb⟩
    have B17 := bel_step B16 hb
    have hz17 : w16.heap.size ≤ w17.heap.size := hb.size
    have R0_17 := R0_16.kept hb
    have M_17 := M_16.kept hb
    have Ah15_17 := Ah15.kept hb
    have As16 := K_As16.res hg_As16
    go_wp2_with fail
    refine (HIM.out _ _ _ Ah15_17.sl As16.sl).mono ?_
    rintro e w18 ⟨v_R2, rfl, R2, hb⟩
    have B18 := bel_step B17 hb
    have hz18 : w17.heap.size ≤ w18.heap.size := hb.size
    have R0_18 := R0_17.kept hb
    have M_18 := M_17.kept hb
    have Ah15_18 := Ah15_17.kept hb
    have As16_18 := As16.kept hb
    go_wp2_with fail
    refine (eqIntS_same _ _ ys _ R2.sl R0_18.sl hy).mono ?_
    rintro e w19 ⟨rfl, hb⟩
    have B19 := bel_step B18 hb
    have hz19 : w18.heap.size ≤ w19.heap.size := hb.size
    have R0_19 := R0_18.kept hb
    have M_19 := M_18.kept hb
    have R2_19 := R2.kept hb
    go_wp2_with fail
    refine (heldIntS_one _ ys.length _ _ M_19 hy).mono ?_
    rintro e w' ⟨rfl, rfl⟩
    go_wp2_with fail
    go_ret
    exact ⟨rfl, B19⟩


set_option maxHeartbeats 1600000 in
theorem walk_FnExactUpFilterDown (w : World) (u_h : Option Addr) (l_h c_h : Nat) (z_h : List Int) (hr_h : IsRow .i64 w u_h l_h c_h z_h) (u_s : Option Addr) (l_s c_s : Nat) (z_s : List Int) (hr_s : IsRow .i64 w u_s l_s c_s z_s) (p : Int) (w_p : (Lit.int .i64 p).wf = true) (q : Int) (w_q : (Lit.int .i64 q).wf = true) :
    Calls Try.prog 3 #[.slice u_h l_h c_h, .slice u_s l_s c_s, .int .i64 p, .int .i64 q] w fun e w' => e = .returned (.bool true) ∧ Below w.heap.size w w' := by
  obtain ⟨hs_h, hlen_h, hin_h⟩ := hr_h.sl
  generalize z_h.take l_h = h at hs_h hlen_h hin_h
  clear hr_h
  obtain ⟨hs_s, hlen_s, hin_s⟩ := hr_s.sl
  generalize z_s.take l_s = s at hs_s hlen_s hin_s
  clear hr_s
  obtain ⟨p_1, p_2⟩ := bounds_i64 w_p
  obtain ⟨q_1, q_2⟩ := bounds_i64 w_q
  by_cases hbig_h : 1048576 < l_h
  · clear hs_h hlen_h hin_h hs_s hlen_s hin_s
    go_enter Try.func3, Try.ntmps3
    go_wp2
    go_ret
    exact ⟨rfl, Below.refl _ _⟩
  · have hq_h : l_h ≤ 1048576 := by omega
    by_cases hbig_s : 1048576 < l_s
    · clear hs_s hlen_s hin_s
      go_enter Try.func3, Try.ntmps3
      go_wp2
      go_ret
      exact ⟨rfl, Below.refl _ _⟩
    · have hq_s : l_s ≤ 1048576 := by omega
      exact gen_FnExactUpFilterDown h s p q _ _ _ _ _ _ _ _ w hs_h (by omega) (by omega) hs_s (by omega) (by omega) udO_len (fun w v_h v_s h_h h_s => spec_UpFilterDown_any v_h v_s h s p q w h_h h_s) (fun w v_h v_s h_h h_s => impl_UpFilterDown_any v_h v_s h s p q w h_h h_s)


set_option maxHeartbeats 1600000 in
theorem gen_FnExactDownFilter (h : List Int) (s : List Int) (q : Int) (u_h : Option Addr) (l_h c_h : Nat) (u_s : Option Addr) (l_s c_s : Nat) (ys : List Int) (ok : Bool) (w : World) (hs_h : Sl w (.slice u_h l_h c_h) h) (ll_h : l_h ≤ 1048576) (hl_h : h.length ≤ 1048576) (hs_s : Sl w (.slice u_s l_s c_s) s) (ll_s : l_s ≤ 1048576) (hl_s : s.length ≤ 1048576) (hy : ys.length ≤ 2000000) (hspec : ∀ (w : World) (v_h : Value) (v_s : Value), Sl w v_h h → Sl w v_s s → Calls Try.prog 13 #[v_h, v_s, .int .i64 q] w (Gives w ys ok)) (himpl : ∀ (w : World) (v_h : Value) (v_s : Value), Sl w v_h h → Sl w v_s s → Calls Try.prog 14 #[v_h, v_s, .int .i64 q] w (Gives w ys ok)) :
    Calls Try.prog 4 #[.slice u_h l_h c_h, .slice u_s l_s c_s, .int .i64 q] w fun e w' => e = .returned (.bool true) ∧ Below w.heap.size w w' := by
  have HSh := hid hs_h
  clear hs_h
  have HSs := hid hs_s
  clear hs_s
  have HSP := hid hspec
  have HIM := hid himpl
  clear hspec himpl
  all_goals cases ok
  all_goals
    go_enter Try.func4, Try.ntmps4
    go_wp2_with fail
    refine (toIntS_any _ h _ HSh.out (by omega)).mono ?_
    rintro e w1 ⟨g_Ah0, hg_Ah0, rfl, K_Ah0, hb⟩
    have B1 := hb
    have hz1 : w.heap.size ≤ w1.heap.size := by first | exact hb.size | (have := hb.size; simp at this; omega)
    have Ah0 := K_Ah0.res hg_Ah0
    go_wp2_with fail
    refine (toIntS_any _ s _ (HSs.out.kept B1) (by omega)).mono ?_
    rintro e w2 ⟨g_As1, hg_As1, rfl, K_As1, hb⟩
    have B2 := bel_step B1 hb
    have hz2 : w1.heap.size ≤ w2.heap.size := hb.size
    have Ah0_2 := Ah0.kept hb
    have As1 := K_As1.res hg_As1
    go_wp2_with fail
    refine (HSP.out _ _ _ Ah0_2.sl As1.sl).mono ?_
    rintro e w3 ⟨v_R0, rfl, R0, hb⟩
    have B3 := bel_step B2 hb
    have hz3 : w2.heap.size ≤ w3.heap.size := hb.size
    have Ah0_3 := Ah0_2.kept hb
    have As1_3 := As1.kept hb
    have hlt0 : ∀ g, v_R0.ownBlock = some g → g < w3.heap.size := fun g hg => R0.lt hg
    have Hlt0 := hid hlt0
    clear hlt0
    go_wp2_with fail
    refine (toIntS_any _ h _ (HSh.out.kept B3) (by omega)).mono ?_
    rintro e w4 ⟨g_Xh, hg_Xh, rfl, K_Xh, hb⟩
    have B4 := bel_step B3 hb
    have hz4 : w3.heap.size ≤ w4.heap.size := hb.size
    have R0_4 := R0.kept hb
    have Xh := K_Xh.res hg_Xh
    have hlt_Xh := K_Xh.lt
    have hne_Xh : ∀ g, v_R0.ownBlock = some g → g ≠ g_Xh := fun g hg => by have a1 := Hlt0.out g hg; omega
    have Hne_Xh := hid hne_Xh
    clear hne_Xh
    go_wp2_with fail
    refine (toIntS_any _ s _ (HSs.out.kept B4) (by omega)).mono ?_
    rintro e w5 ⟨g_Xs, hg_Xs, rfl, K_Xs, hb⟩
    have B5 := bel_step B4 hb
    have hz5 : w4.heap.size ≤ w5.heap.size := hb.size
    have R0_5 := R0_4.kept hb
    have Xh_5 := Xh.kept hb
    have Xs := K_Xs.res hg_Xs
    have hlt_Xs := K_Xs.lt
    have hne_Xs : ∀ g, v_R0.ownBlock = some g → g ≠ g_Xs := fun g hg => by have a1 := Hlt0.out g hg; omega
    have Hne_Xs := hid hne_Xs
    clear hne_Xs
    have hxl_Xh : g_Xh < w5.heap.size := Xh_5.lt rfl
    have hxl_Xs : g_Xs < w5.heap.size := Xs.lt rfl
    go_wp2_with fail
    refine (HIM.out _ _ _ Xh_5.sl Xs.sl).mono ?_
    rintro e w6 ⟨v_R1, rfl, R1, hb⟩
    have B6 := bel_step B5 hb
    have hz6 : w5.heap.size ≤ w6.heap.size := hb.size
    have R0_6 := R0_5.kept hb
    have Xh_6 := Xh_5.kept hb
    have Xs_6 := Xs.kept hb
    have hne1_Xh : ∀ g, v_R1.ownBlock = some g → g ≠ g_Xh := fun g hg => by have a1 := R1.ge hg; omega
    have Hne1_Xh := hid hne1_Xh
    clear hne1_Xh
    have hne1_Xs : ∀ g, v_R1.ownBlock = some g → g ≠ g_Xs := fun g hg => by have a1 := R1.ge hg; omega
    have Hne1_Xs := hid hne1_Xs
    clear hne1_Xs
    have hne01 : ∀ g, v_R0.ownBlock = some g → v_R1.ownBlock ≠ some g := fun g hg e => by have a1 := R1.ge e; have a2 := Hlt0.out g hg; omega
    have Hne01 := hid hne01
    clear hne01
    have hge1 : ∀ g, v_R1.ownBlock = some g → w5.heap.size ≤ g := fun g hg => R1.ge hg
    have Hge1 := hid hge1
    clear hge1
    go_wp2_with fail
    refine (eqIntS_same _ _ ys _ R1.sl R0_6.sl hy).mono ?_
    rintro e w7 ⟨rfl, hb⟩
    have B7 := bel_step B6 hb
    have hz7 : w6.heap.size ≤ w7.heap.size := hb.size
    have R0_7 := R0_6.kept hb
    have Xh_7 := Xh_6.kept hb
    have Xs_7 := Xs_6.kept hb
    have R1_7 := R1.kept hb
    go_wp2_with fail
    refine (toIntS_any _ h _ (HSh.out.kept B7) (by omega)).mono ?_
    rintro e w8 ⟨g_TXh, hg_TXh, rfl, K_TXh, hb⟩
    have B8 := bel_step B7 hb
    have hz8 : w7.heap.size ≤ w8.heap.size := hb.size
    have R0_8 := R0_7.kept hb
    have Xh_8 := Xh_7.kept hb
    have Xs_8 := Xs_7.kept hb
    have R1_8 := R1_7.kept hb
    have TXh := K_TXh.res hg_TXh
    go_wp2_with fail
    refine (eqIntS_same _ _ h _ Xh_8.sl TXh.sl (by omega)).mono ?_
    rintro e w9 ⟨rfl, hb⟩
    have B9 := bel_step B8 hb
    have hz9 : w8.heap.size ≤ w9.heap.size := hb.size
    have R0_9 := R0_8.kept hb
    have Xh_9 := Xh_8.kept hb
    have Xs_9 := Xs_8.kept hb
    have R1_9 := R1_8.kept hb
    have TXh_9 := TXh.kept hb
    go_wp2_with fail
    refine (toIntS_any _ s _ (HSs.out.kept B9) (by omega)).mono ?_
    rintro e w10 ⟨g_TXs, hg_TXs, rfl, K_TXs, hb⟩
    have B10 := bel_step B9 hb
    have hz10 : w9.heap.size ≤ w10.heap.size := hb.size
    have R0_10 := R0_9.kept hb
    have Xh_10 := Xh_9.kept hb
    have Xs_10 := Xs_9.kept hb
    have R1_10 := R1_9.kept hb
    have TXs := K_TXs.res hg_TXs
    go_wp2_with fail
    refine (eqIntS_same _ _ s _ Xs_10.sl TXs.sl (by omega)).mono ?_
    rintro e w11 ⟨rfl, hb⟩
    have B11 := bel_step B10 hb
    have hz11 : w10.heap.size ≤ w11.heap.size := hb.size
    have R0_11 := R0_10.kept hb
    have Xh_11 := Xh_10.kept hb
    have Xs_11 := Xs_10.kept hb
    have R1_11 := R1_10.kept hb
    have TXs_11 := TXs.kept hb
    go_wp2_with fail
    refine (markIntS_one _ h _ _ Xh_11 (by omega)).mono ?_
    rintro e w12 ⟨rfl, ho, _⟩
    have B12 := B11.trans (ho.below fun g hg => by cases hg; exact Nat.le_trans B3.size hg_Xh)
    have hz12 : w11.heap.size ≤ w12.heap.size := Nat.le_of_eq ho.size.symm
    have R0_12 := R0_11.only ho fun g hg e => by cases e; exact Hne_Xh.out _ hg rfl
    have R1_12 := R1_11.only ho fun g hg e => by cases e; exact Hne1_Xh.out _ hg rfl
    have Xs_12 := Xs_11.only ho fun g hg e => by cases hg; cases e; omega
    go_wp2_with fail
    refine (markIntS_plus _ s h.length _ _ Xs_12 (by omega) (by omega)).mono ?_
    rintro e w13 ⟨rfl, ho, _⟩
    have B13 := B12.trans (ho.below fun g hg => by cases hg; exact Nat.le_trans B4.size hg_Xs)
    have hz13 : w12.heap.size ≤ w13.heap.size := Nat.le_of_eq ho.size.symm
    have R0_13 := R0_12.only ho fun g hg e => by cases e; exact Hne_Xs.out _ hg rfl
    have R1_13 := R1_12.only ho fun g hg e => by cases e; exact Hne1_Xs.out _ hg rfl
    go_wp2_with fail
    refine (eqIntS_same _ _ ys _ R1_13.sl R0_13.sl hy).mono ?_
    rintro e w14 ⟨rfl, hb⟩
    have B14 := bel_step B13 hb
    have hz14 : w13.heap.size ≤ w14.heap.size := hb.size
    have R0_14 := R0_13.kept hb
    have R1_14 := R1_13.kept hb
    go_wp2_with fail
    refine (markIntS_one _ ys _ _ R1_14 hy).mono ?_
    rintro e w15 ⟨rfl, ho, M⟩
    have B15 := B14.trans (ho.below fun g hg => Nat.le_trans B5.size (Hge1.out g hg))
    have hz15 : w14.heap.size ≤ w15.heap.size := Nat.le_of_eq ho.size.symm
    have R0_15 := R0_14.only ho Hne01.out
    go_wp2_with fail
    refine (heldIntS_one _ ys.length _ _ M hy).mono ?_
    rintro e w' ⟨rfl, rfl⟩
    go_wp2_with fail
    refine (toIntS_any _ h _ (HSh.out.kept B15) (by omega)).mono ?_
    rintro e w16 ⟨g_Ah15, hg_Ah15, rfl, K_Ah15, hb⟩
    have B16 := bel_step B15 hb
    have hz16 : w15.heap.size ≤ w16.heap.size := hb.size
    have R0_16 := R0_15.kept hb
    have M_16 := M.kept hb
    have Ah15 := K_Ah15.res hg_Ah15
    go_wp2_with fail
    refine (toIntS_any _ s _ (HSs.out.kept B16) (by omega)).mono ?_
    rintro e w17 ⟨g_As16, hg_As16, rfl, K_As16, hb⟩
    have B17 := bel_step B16 hb
    have hz17 : w16.heap.size ≤ w17.heap.size := hb.size
    have R0_17 := R0_16.kept hb
    have M_17 := M_16.kept hb
    have Ah15_17 := Ah15.kept hb
    have As16 := K_As16.res hg_As16
    go_wp2_with fail
    refine (HIM.out _ _ _ Ah15_17.sl As16.sl).mono ?_
    rintro e w18 ⟨v_R2, rfl, R2, hb⟩
    have B18 := bel_step B17 hb
    have hz18 : w17.heap.size ≤ w18.heap.size := hb.size
    have R0_18 := R0_17.kept hb
    have M_18 := M_17.kept hb
    have Ah15_18 := Ah15_17.kept hb
    have As16_18 := As16.kept hb
    go_wp2_with fail
    refine (eqIntS_same _ _ ys _ R2.sl R0_18.sl hy).mono ?_
    rintro e w19 ⟨rfl, hb⟩
    have B19 := bel_step B18 hb
    have hz19 : w18.heap.size ≤ w19.heap.size := hb.size
    have R0_19 := R0_18.kept hb
    have M_19 := M_18.kept hb
    have R2_19 := R2.kept hb
    go_wp2_with fail
    refine (heldIntS_one _ ys.length _ _ M_19 hy).mono ?_
    rintro e w' ⟨rfl, rfl⟩
    go_wp2_with fail
    go_ret
    exact ⟨rfl, B19⟩


set_option maxHeartbeats 1600000 in
theorem walk_FnExactDownFilter (w : World) (u_h : Option Addr) (l_h c_h : Nat) (z_h : List Int) (hr_h : IsRow .i64 w u_h l_h c_h z_h) (u_s : Option Addr) (l_s c_s : Nat) (z_s : List Int) (hr_s : IsRow .i64 w u_s l_s c_s z_s) (q : Int) (w_q : (Lit.int .i64 q).wf = true) :
    Calls Try.prog 4 #[.slice u_h l_h c_h, .slice u_s l_s c_s, .int .i64 q] w fun e w' => e = .returned (.bool true) ∧ Below w.heap.size w w' := by
  obtain ⟨hs_h, hlen_h, hin_h⟩ := hr_h.sl
  generalize z_h.take l_h = h at hs_h hlen_h hin_h
  clear hr_h
  obtain ⟨hs_s, hlen_s, hin_s⟩ := hr_s.sl
  generalize z_s.take l_s = s at hs_s hlen_s hin_s
  clear hr_s
  obtain ⟨q_1, q_2⟩ := bounds_i64 w_q
  by_cases hbig_h : 1048576 < l_h
  · clear hs_h hlen_h hin_h hs_s hlen_s hin_s
    go_enter Try.func4, Try.ntmps4
    go_wp2
    go_ret
    exact ⟨rfl, Below.refl _ _⟩
  · have hq_h : l_h ≤ 1048576 := by omega
    by_cases hbig_s : 1048576 < l_s
    · clear hs_s hlen_s hin_s
      go_enter Try.func4, Try.ntmps4
      go_wp2
      go_ret
      exact ⟨rfl, Below.refl _ _⟩
    · have hq_s : l_s ≤ 1048576 := by omega
      exact gen_FnExactDownFilter h s q _ _ _ _ _ _ _ _ w hs_h (by omega) (by omega) hs_s (by omega) (by omega) udO_len (fun w v_h v_s h_h h_s => spec_DownFilter_any v_h v_s h s q w h_h h_s) (fun w v_h v_s h_h h_s => impl_DownFilter_any v_h v_s h s q w h_h h_s)


set_option maxHeartbeats 1600000 in
theorem gen_FnExactUpFilter (h : List Int) (s : List Int) (p : Int) (u_h : Option Addr) (l_h c_h : Nat) (u_s : Option Addr) (l_s c_s : Nat) (ys : List Int) (ok : Bool) (w : World) (hs_h : Sl w (.slice u_h l_h c_h) h) (ll_h : l_h ≤ 1048576) (hl_h : h.length ≤ 1048576) (hs_s : Sl w (.slice u_s l_s c_s) s) (ll_s : l_s ≤ 1048576) (hl_s : s.length ≤ 1048576) (hy : ys.length ≤ 2000000) (hspec : ∀ (w : World) (v_h : Value) (v_s : Value), Sl w v_h h → Sl w v_s s → Calls Try.prog 15 #[v_h, v_s, .int .i64 p] w (Gives w ys ok)) (himpl : ∀ (w : World) (v_h : Value) (v_s : Value), Sl w v_h h → Sl w v_s s → Calls Try.prog 16 #[v_h, v_s, .int .i64 p] w (Gives w ys ok)) :
    Calls Try.prog 5 #[.slice u_h l_h c_h, .slice u_s l_s c_s, .int .i64 p] w fun e w' => e = .returned (.bool true) ∧ Below w.heap.size w w' := by
  have HSh := hid hs_h
  clear hs_h
  have HSs := hid hs_s
  clear hs_s
  have HSP := hid hspec
  have HIM := hid himpl
  clear hspec himpl
  all_goals cases ok
  all_goals
    go_enter Try.func5, Try.ntmps5
    go_wp2_with fail
    refine (toIntS_any _ h _ HSh.out (by omega)).mono ?_
    rintro e w1 ⟨g_Ah0, hg_Ah0, rfl, K_Ah0, hb⟩
    have B1 := hb
    have hz1 : w.heap.size ≤ w1.heap.size := by first | exact hb.size | (have := hb.size; simp at this; omega)
    have Ah0 := K_Ah0.res hg_Ah0
    go_wp2_with fail
    refine (toIntS_any _ s _ (HSs.out.kept B1) (by omega)).mono ?_
    rintro e w2 ⟨g_As1, hg_As1, rfl, K_As1, hb⟩
    have B2 := bel_step B1 hb
    have hz2 : w1.heap.size ≤ w2.heap.size := hb.size
    have Ah0_2 := Ah0.kept hb
    have As1 := K_As1.res hg_As1
    go_wp2_with fail
    refine (HSP.out _ _ _ Ah0_2.sl As1.sl).mono ?_
    rintro e w3 ⟨v_R0, rfl, R0, hb⟩
    have B3 := bel_step B2 hb
    have hz3 : w2.heap.size ≤ w3.heap.size := hb.size
    have Ah0_3 := Ah0_2.kept hb
    have As1_3 := As1.kept hb
    have hlt0 : ∀ g, v_R0.ownBlock = some g → g < w3.heap.size := fun g hg => R0.lt hg
    have Hlt0 := hid hlt0
    clear hlt0
    go_wp2_with fail
    refine (toIntS_any _ h _ (HSh.out.kept B3) (by omega)).mono ?_
    rintro e w4 ⟨g_Xh, hg_Xh, rfl, K_Xh, hb⟩
    have B4 := bel_step B3 hb
    have hz4 : w3.heap.size ≤ w4.heap.size := hb.size
    have R0_4 := R0.kept hb
    have Xh := K_Xh.res hg_Xh
    have hlt_Xh := K_Xh.lt
    have hne_Xh : ∀ g, v_R0.ownBlock = some g → g ≠ g_Xh := fun g hg => by have a1 := Hlt0.out g hg; omega
    have Hne_Xh := hid hne_Xh
    clear hne_Xh
    go_wp2_with fail
    refine (toIntS_any _ s _ (HSs.out.kept B4) (by omega)).mono ?_
    rintro e w5 ⟨g_Xs, hg_Xs, rfl, K_Xs, hb⟩
    have B5 := bel_step B4 hb
    have hz5 : w4.heap.size ≤ w5.heap.size := hb.size
    have R0_5 := R0_4.kept hb
    have Xh_5 := Xh.kept hb
    have Xs := K_Xs.res hg_Xs
    have hlt_Xs := K_Xs.lt
    have hne_Xs : ∀ g, v_R0.ownBlock = some g → g ≠ g_Xs := fun g hg => by have a1 := Hlt0.out g hg; omega
    have Hne_Xs := hid hne_Xs
    clear hne_Xs
    have hxl_Xh : g_Xh < w5.heap.size := Xh_5.lt rfl
    have hxl_Xs : g_Xs < w5.heap.size := Xs.lt rfl
    go_wp2_with fail
    refine (HIM.out _ _ _ Xh_5.sl Xs.sl).mono ?_
    rintro e w6 ⟨v_R1, rfl, R1, hb⟩
    have B6 := bel_step B5 hb
    have hz6 : w5.heap.size ≤ w6.heap.size := hb.size
    have R0_6 := R0_5.kept hb
    have Xh_6 := Xh_5.kept hb
    have Xs_6 := Xs.kept hb
    have hne1_Xh : ∀ g, v_R1.ownBlock = some g → g ≠ g_Xh := fun g hg => by have a1 := R1.ge hg; omega
    have Hne1_Xh := hid hne1_Xh
    clear hne1_Xh
    have hne1_Xs : ∀ g, v_R1.ownBlock = some g → g ≠ g_Xs := fun g hg => by have a1 := R1.ge hg; omega
    have Hne1_Xs := hid hne1_Xs
    clear hne1_Xs
    have hne01 : ∀ g, v_R0.ownBlock = some g → v_R1.ownBlock ≠ some g := fun g hg e => by have a1 := R1.ge e; have a2 := Hlt0.out g hg; omega
    have Hne01 := hid hne01
    clear hne01
    have hge1 : ∀ g, v_R1.ownBlock = some g → w5.heap.size ≤ g := fun g hg => R1.ge hg
    have Hge1 := hid hge1
    clear hge1
    go_wp2_with fail
    refine (eqIntS_same _ _ ys _ R1.sl R0_6.sl hy).mono ?_
    rintro e w7 ⟨rfl, hb⟩
    have B7 := bel_step B6 hb
    have hz7 : w6.heap.size ≤ w7.heap.size := hb.size
    have R0_7 := R0_6.kept hb
    have Xh_7 := Xh_6.kept hb
    have Xs_7 := Xs_6.kept hb
    have R1_7 := R1.kept hb
    go_wp2_with fail
    refine (toIntS_any _ h _ (HSh.out.kept B7) (by omega)).mono ?_
    rintro e w8 ⟨g_TXh, hg_TXh, rfl, K_TXh, hb⟩
    have B8 := bel_step B7 hb
    have hz8 : w7.heap.size ≤ w8.heap.size := hb.size
    have R0_8 := R0_7.kept hb
    have Xh_8 := Xh_7.kept hb
    have Xs_8 := Xs_7.kept hb
    have R1_8 := R1_7.kept hb
    have TXh := K_TXh.res hg_TXh
    go_wp2_with fail
    refine (eqIntS_same _ _ h _ Xh_8.sl TXh.sl (by omega)).mono ?_
    rintro e w9 ⟨rfl, hb⟩
    have B9 := bel_step B8 hb
    have hz9 : w8.heap.size ≤ w9.heap.size := hb.size
    have R0_9 := R0_8.kept hb
    have Xh_9 := Xh_8.kept hb
    have Xs_9 := Xs_8.kept hb
    have R1_9 := R1_8.kept hb
    have TXh_9 := TXh.kept hb
    go_wp2_with fail
    refine (toIntS_any _ s _ (HSs.out.kept B9) (by omega)).mono ?_
    rintro e w10 ⟨g_TXs, hg_TXs, rfl, K_TXs, hb⟩
    have B10 := bel_step B9 hb
    have hz10 : w9.heap.size ≤ w10.heap.size := hb.size
    have R0_10 := R0_9.kept hb
    have Xh_10 := Xh_9.kept hb
    have Xs_10 := Xs_9.kept hb
    have R1_10 := R1_9.kept hb
    have TXs := K_TXs.res hg_TXs
    go_wp2_with fail
    refine (eqIntS_same _ _ s _ Xs_10.sl TXs.sl (by omega)).mono ?_
    rintro e w11 ⟨rfl, hb⟩
    have B11 := bel_step B10 hb
    have hz11 : w10.heap.size ≤ w11.heap.size := hb.size
    have R0_11 := R0_10.kept hb
    have Xh_11 := Xh_10.kept hb
    have Xs_11 := Xs_10.kept hb
    have R1_11 := R1_10.kept hb
    have TXs_11 := TXs.kept hb
    go_wp2_with fail
    refine (markIntS_one _ h _ _ Xh_11 (by omega)).mono ?_
    rintro e w12 ⟨rfl, ho, _⟩
    have B12 := B11.trans (ho.below fun g hg => by cases hg; exact Nat.le_trans B3.size hg_Xh)
    have hz12 : w11.heap.size ≤ w12.heap.size := Nat.le_of_eq ho.size.symm
    have R0_12 := R0_11.only ho fun g hg e => by cases e; exact Hne_Xh.out _ hg rfl
    have R1_12 := R1_11.only ho fun g hg e => by cases e; exact Hne1_Xh.out _ hg rfl
    have Xs_12 := Xs_11.only ho fun g hg e => by cases hg; cases e; omega
    go_wp2_with fail
    refine (markIntS_plus _ s h.length _ _ Xs_12 (by omega) (by omega)).mono ?_
    rintro e w13 ⟨rfl, ho, _⟩
    have B13 := B12.trans (ho.below fun g hg => by cases hg; exact Nat.le_trans B4.size hg_Xs)
    have hz13 : w12.heap.size ≤ w13.heap.size := Nat.le_of_eq ho.size.symm
    have R0_13 := R0_12.only ho fun g hg e => by cases e; exact Hne_Xs.out _ hg rfl
    have R1_13 := R1_12.only ho fun g hg e => by cases e; exact Hne1_Xs.out _ hg rfl
    go_wp2_with fail
    refine (eqIntS_same _ _ ys _ R1_13.sl R0_13.sl hy).mono ?_
    rintro e w14 ⟨rfl, hb⟩
    have B14 := bel_step B13 hb
    have hz14 : w13.heap.size ≤ w14.heap.size := hb.size
    have R0_14 := R0_13.kept hb
    have R1_14 := R1_13.kept hb
    go_wp2_with fail
    refine (markIntS_one _ ys _ _ R1_14 hy).mono ?_
    rintro e w15 ⟨rfl, ho, M⟩
    have B15 := B14.trans (ho.below fun g hg => Nat.le_trans B5.size (Hge1.out g hg))
    have hz15 : w14.heap.size ≤ w15.heap.size := Nat.le_of_eq ho.size.symm
    have R0_15 := R0_14.only ho Hne01.out
    go_wp2_with fail
    refine (heldIntS_one _ ys.length _ _ M hy).mono ?_
    rintro e w' ⟨rfl, rfl⟩
    go_wp2_with fail
    refine (toIntS_any _ h _ (HSh.out.kept B15) (by omega)).mono ?_
    rintro e w16 ⟨g_Ah15, hg_Ah15, rfl, K_Ah15, hb⟩
    have B16 := bel_step B15 hb
    have hz16 : w15.heap.size ≤ w16.heap.size := hb.size
    have R0_16 := R0_15.kept hb
    have M_16 := M.kept hb
    have Ah15 := K_Ah15.res hg_Ah15
    go_wp2_with fail
    refine (toIntS_any _ s _ (HSs.out.kept B16) (by omega)).mono ?_
    rintro e w17 ⟨g_As16, hg_As16, rfl, K_As16, hb⟩
    have B17 := bel_step B16 hb
    have hz17 : w16.heap.size ≤ w17.heap.size := hb.size
    have R0_17 := R0_16.kept hb
    have M_17 := M_16.kept hb
    have Ah15_17 := Ah15.kept hb
    have As16 := K_As16.res hg_As16
    go_wp2_with fail
    refine (HIM.out _ _ _ Ah15_17.sl As16.sl).mono ?_
    rintro e w18 ⟨v_R2, rfl, R2, hb⟩
    have B18 := bel_step B17 hb
    have hz18 : w17.heap.size ≤ w18.heap.size := hb.size
    have R0_18 := R0_17.kept hb
    have M_18 := M_17.kept hb
    have Ah15_18 := Ah15_17.kept hb
    have As16_18 := As16.kept hb
    go_wp2_with fail
    refine (eqIntS_same _ _ ys _ R2.sl R0_18.sl hy).mono ?_
    rintro e w19 ⟨rfl, hb⟩
    have B19 := bel_step B18 hb
    have hz19 : w18.heap.size ≤ w19.heap.size := hb.size
    have R0_19 := R0_18.kept hb
    have M_19 := M_18.kept hb
    have R2_19 := R2.kept hb
    go_wp2_with fail
    refine (heldIntS_one _ ys.length _ _ M_19 hy).mono ?_
    rintro e w' ⟨rfl, rfl⟩
    go_wp2_with fail
    go_ret
    exact ⟨rfl, B19⟩


set_option maxHeartbeats 1600000 in
theorem walk_FnExactUpFilter (w : World) (u_h : Option Addr) (l_h c_h : Nat) (z_h : List Int) (hr_h : IsRow .i64 w u_h l_h c_h z_h) (u_s : Option Addr) (l_s c_s : Nat) (z_s : List Int) (hr_s : IsRow .i64 w u_s l_s c_s z_s) (p : Int) (w_p : (Lit.int .i64 p).wf = true) :
    Calls Try.prog 5 #[.slice u_h l_h c_h, .slice u_s l_s c_s, .int .i64 p] w fun e w' => e = .returned (.bool true) ∧ Below w.heap.size w w' := by
  obtain ⟨hs_h, hlen_h, hin_h⟩ := hr_h.sl
  generalize z_h.take l_h = h at hs_h hlen_h hin_h
  clear hr_h
  obtain ⟨hs_s, hlen_s, hin_s⟩ := hr_s.sl
  generalize z_s.take l_s = s at hs_s hlen_s hin_s
  clear hr_s
  obtain ⟨p_1, p_2⟩ := bounds_i64 w_p
  by_cases hbig_h : 1048576 < l_h
  · clear hs_h hlen_h hin_h hs_s hlen_s hin_s
    go_enter Try.func5, Try.ntmps5
    go_wp2
    go_ret
    exact ⟨rfl, Below.refl _ _⟩
  · have hq_h : l_h ≤ 1048576 := by omega
    by_cases hbig_s : 1048576 < l_s
    · clear hs_s hlen_s hin_s
      go_enter Try.func5, Try.ntmps5
      go_wp2
      go_ret
      exact ⟨rfl, Below.refl _ _⟩
    · have hq_s : l_s ≤ 1048576 := by omega
      exact gen_FnExactUpFilter h s p _ _ _ _ _ _ _ _ w hs_h (by omega) (by omega) hs_s (by omega) (by omega) udO_len (fun w v_h v_s h_h h_s => spec_UpFilter_any v_h v_s h s p w h_h h_s) (fun w v_h v_s h_h h_s => impl_UpFilter_any v_h v_s h s p w h_h h_s)

end Go.Proofs.Ytjbpfphfajohnaa
