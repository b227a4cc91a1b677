
import Derived.Test.YtogffkgihjdbkaaFo
namespace Go.Proofs.Ytogffkgihjdbkaa
open Go.RowKit BitX Go.MemX
set_option linter.unusedVariables false


theorem and_t {a b : Bool} (h : (a && b) = true) : a = true ∧ b = true := by simpa using h
def filB (h s : List Int) : Bool := (wgtB h && sigB s) && sigB (ans h s)
def shoB (h s : List Int) : Bool := (wgtB h && sigB s) && sigB (tab s.length (conv h s))
def timB (h s : List Int) : Bool := (wgtB h && wgtB s) && wgtB (ans h s)
theorem filB_len {h s : List Int} (hb : filB h s = true) : (ans h s).length ≤ 2000000 := Nat.le_trans (sigB_t (and_t hb).2).1 (by omega)
theorem shoB_len {h s : List Int} (hb : shoB h s = true) : (tab s.length (conv h s)).length ≤ 2000000 := Nat.le_trans (sigB_t (and_t hb).2).1 (by omega)
theorem timB_len {h s : List Int} (hb : timB h s = true) : (ans h s).length ≤ 2000000 := Nat.le_trans (wgtB_t (and_t hb).2).1.2 (by omega)
theorem Res.form {E : TypeId} {B : Nat} {w : World} {v : Value} {xs : List Int} (h : Res E B w v xs) : (xs = [] ∧ v = .slice none 0 0) ∨ ∃ g L cap, v = .slice (some ⟨g, 0, none⟩) L cap ∧ L = xs.length ∧ L ≤ cap ∧ B ≤ g := by
  rcases h with h | ⟨g, cap, hv, hB, hr⟩
  · exact .inl h
  · exact .inr ⟨g, xs.length, cap, hv, rfl, by obtain ⟨_, _, _, h3, _⟩ := hr; exact h3, hB⟩
theorem wgt_sig {s : List Int} (h : WgtP s) : s.length ≤ 64 ∧ InP (-100000) 100000 s := ⟨Nat.le_trans h.1.2 (by omega), fun x hx => by have := h.2 x hx; omega⟩


set_option maxHeartbeats 400000 in
theorem spec_FilterSignal_in (u v : Value) (h s : List Int) (w : World) (hu : Sl w u h) (hv : Sl w v s) :
    Calls Try.prog 7 #[u, v] w (Gives w (onB ((wgtB h && sigB s) && sigB (ans h s)) (ans h s) []) ((wgtB h && sigB s) && sigB (ans h s))) := by
  have HU := hid hu
  have HV := hid hv
  clear hu hv
  cases h0 : wgtB h && sigB s
  · have HB0 := hid h0
    clear h0
    go_enter Try.func7, Try.ntmps7
    go_wp2_with fail
    refine (weAsked_in _ _ h s _ _ HU.out HV.out HB0.out).mono ?_
    rintro e w' ⟨rfl, rfl⟩
    go_wp2_with fail
    go_ret2
    exact ⟨_, rfl, .inl ⟨rfl, rfl⟩, Below.refl _ _⟩
  · have HB0 := hid h0
    clear h0
    go_enter Try.func7, Try.ntmps7
    go_wp2_with fail
    refine (weAsked_in _ _ h s _ _ HU.out HV.out HB0.out).mono ?_
    rintro e w' ⟨rfl, rfl⟩
    go_wp2_with fail
    refine (weAnswer_any _ _ h s _ HU.out HV.out (wgtB_t (and_t HB0.out).1) (sigB_t (and_t HB0.out).2).1 (sigB_t (and_t HB0.out).2).2).mono ?_
    rintro e w1 ⟨v_R, rfl, R, hb⟩
    have B1 := hb
    go_wp2_with fail
    refine (wdIf_is _ (ans h s) (sigB (ans h s)) _ R.sl rfl).mono ?_
    rintro e w' ⟨rfl, rfl⟩
    go_wp2_with fail
    go_ret2
    exact ⟨_, rfl, res_onB _ R, B1⟩


set_option maxHeartbeats 400000 in
theorem impl_FilterSignal_in (u v : Value) (h s : List Int) (w : World) (hu : Sl w u h) (hv : Sl w v s) :
    Calls Try.prog 9 #[u, v] w (Gives w (onB ((wgtB h && sigB s) && sigB (ans h s)) (ans h s) []) ((wgtB h && sigB s) && sigB (ans h s))) := by
  have HU := hid hu
  have HV := hid hv
  clear hu hv
  cases h0 : wgtB h
  · have HB0 := hid h0
    clear h0
    go_enter Try.func9, Try.ntmps9
    go_wp2_with fail
    refine (impl_IsWeights_is _ h _ _ HU.out HB0.out).mono ?_
    rintro e w' ⟨rfl, rfl⟩
    go_wp2_with fail
    go_ret2
    exact ⟨_, rfl, .inl ⟨rfl, rfl⟩, Below.refl _ _⟩
  · have HB0 := hid h0
    clear h0
    cases h1 : sigB s
    · have HB1 := hid h1
      clear h1
      go_enter Try.func9, Try.ntmps9
      go_wp2_with fail
      refine (impl_IsWeights_is _ h _ _ HU.out HB0.out).mono ?_
      rintro e w' ⟨rfl, rfl⟩
      go_wp2_with fail
      refine (impl_IsSignal_is _ s _ _ HV.out HB1.out).mono ?_
      rintro e w' ⟨rfl, rfl⟩
      go_wp2_with fail
      go_ret2
      exact ⟨_, rfl, .inl ⟨rfl, rfl⟩, Below.refl _ _⟩
    · have HB1 := hid h1
      clear h1
      go_enter Try.func9, Try.ntmps9
      go_wp2_with fail
      refine (impl_IsWeights_is _ h _ _ HU.out HB0.out).mono ?_
      rintro e w' ⟨rfl, rfl⟩
      go_wp2_with fail
      refine (impl_IsSignal_is _ s _ _ HV.out HB1.out).mono ?_
      rintro e w' ⟨rfl, rfl⟩
      go_wp2_with fail
      refine (wholeAnswer_any _ _ h s _ HU.out HV.out (wgtB_t HB0.out) (sigB_t HB1.out).1 (sigB_t HB1.out).2).mono ?_
      rintro e w1 ⟨v_R, rfl, R, hb⟩
      have B1 := hb
      go_wp2_with fail
      refine (onlySignal_is _ (ans h s) (sigB (ans h s)) _ R.sl rfl).mono ?_
      rintro e w' ⟨rfl, rfl⟩
      go_wp2_with fail
      go_ret2
      exact ⟨_, rfl, res_onB _ R, B1⟩


set_option maxHeartbeats 1000000 in
theorem spec_FilterShort_in (u v : Value) (h s : List Int) (w : World) (hu : Sl w u h) (hv : Sl w v s) :
    Calls Try.prog 13 #[u, v] w (Gives w (onB ((wgtB h && sigB s) && sigB (tab s.length (conv h s))) (tab s.length (conv h s)) []) ((wgtB h && sigB s) && sigB (tab s.length (conv h s)))) := by
  have HU := hid hu
  have HV := hid hv
  obtain ⟨a2, m, cap2, rfl, hm, hr2⟩ := hv.rd
  have Hm := hid hm
  clear hm hr2
  clear hu hv
  cases h0 : wgtB h && sigB s
  · have HB0 := hid h0
    clear h0
    go_enter Try.func13, Try.ntmps13
    go_wp2_with fail
    refine (weAsked_in _ _ h s _ _ HU.out HV.out HB0.out).mono ?_
    rintro e w' ⟨rfl, rfl⟩
    go_wp2_with fail
    go_ret2
    exact ⟨_, rfl, .inl ⟨rfl, rfl⟩, Below.refl _ _⟩
  · have HB0 := hid h0
    clear h0
    go_enter Try.func13, Try.ntmps13
    go_wp2_with fail
    refine (weAsked_in _ _ h s _ _ HU.out HV.out HB0.out).mono ?_
    rintro e w' ⟨rfl, rfl⟩
    go_wp2_with fail
    refine (weAnswer_any _ _ h s _ HU.out HV.out (wgtB_t (and_t HB0.out).1) (sigB_t (and_t HB0.out).2).1 (sigB_t (and_t HB0.out).2).2).mono ?_
    rintro e w1 ⟨v_R, rfl, R, hb⟩
    have B1 := hb
    have hsh := ans_short h s (fun e => by have := (wgtB_t (and_t HB0.out).1).1.1; rw [e] at this; simp at this)
    have hal : s.length ≤ (ans h s).length := by
      by_cases hs0 : s = []
      · simp [hs0]
      · rw [ans_len h s hs0]; have := (wgtB_t (and_t HB0.out).1).1.1; omega
    have hm64 := (sigB_t (and_t HB0.out).2).1
    have haw : (ans h s).length ≤ 72 := by
      by_cases hs0 : s = []
      · simp [hs0, ans]
      · rw [ans_len h s hs0]; have := (wgtB_t (and_t HB0.out).1).1.2; omega
    have Hsh := hid hsh
    have hml : m = s.length := Hm.out
    have hR := R
    rcases Res.form R with ⟨he, rfl⟩ | ⟨g, L, cap, rfl, hL, hcap, hg⟩
    · have hs0 : s = [] := List.length_eq_zero_iff.1 (by rw [he] at hal; simpa using hal)
      have hm0 : m = 0 := by rw [hml, hs0]; rfl
      subst hm0
      have hy : tab s.length (conv h s) = [] := by rw [hs0]; rfl
      have Hy := hid hy
      clear hsh hal hm64 haw hml hs0 he hy hR R
      go_wp2_with fail
      refine (l1Own_nil _).mono ?_
      rintro e w2 ⟨v2, rfl, R2, hb⟩
      have B2 := bel_step B1 hb
      rw [← Hy.out] at R2
      go_wp2_with fail
      refine (wdIf_is _ (tab s.length (conv h s)) (sigB (tab s.length (conv h s))) _ R2.sl rfl).mono ?_
      rintro e w' ⟨rfl, rfl⟩
      go_wp2_with fail
      go_ret2
      exact ⟨_, rfl, res_onB _ (R2.mono B1.size), B2⟩
    · have hmL : m ≤ L := by omega
      have hm6 : m ≤ 64 := by omega
      have hsl : Sl w1 (.slice (some ⟨g, 0, none⟩) m cap) (tab s.length (conv h s)) := by
        rw [← hsh]
        by_cases h0 : m = 0
        · rw [← hml, h0]; exact .inl ⟨by simp, _, cap, rfl⟩
        · have := Sl.cut (hR.sl) (lo := 0) (hi := m) (c2 := cap) (by omega) (by omega) (by omega)
          rw [← hml]; simpa using this
      have Hsl := hid hsl
      have hlen : (tab s.length (conv h s)).length ≤ 1000000 := by rw [tab_len]; omega
      have Hlen := hid hlen
      clear hsh hml hL hsl hR hlen hal haw R hm64
      go_wp2_with fail
      refine (l1Own_some g 0 m cap _ _ Hsl.out Hlen.out).mono ?_
      rintro e w2 ⟨v2, rfl, R2, hb⟩
      have B2 := bel_step B1 hb
      go_wp2_with fail
      refine (wdIf_is _ _ (sigB (tab s.length (conv h s))) _ R2.sl rfl).mono ?_
      rintro e w' ⟨rfl, rfl⟩
      go_wp2_with fail
      go_ret2
      exact ⟨_, rfl, res_onB _ (R2.mono B1.size), B2⟩


set_option maxHeartbeats 1000000 in
theorem impl_FilterShort_in (u v : Value) (h s : List Int) (w : World) (hu : Sl w u h) (hv : Sl w v s) :
    Calls Try.prog 14 #[u, v] w (Gives w (onB ((wgtB h && sigB s) && sigB (tab s.length (conv h s))) (tab s.length (conv h s)) []) ((wgtB h && sigB s) && sigB (tab s.length (conv h s)))) := by
  have HU := hid hu
  have HV := hid hv
  obtain ⟨a, n, cap, rfl, hn, hr⟩ := hu.rd
  have Hn := hid hn
  clear hu hv hn hr
  cases h0 : wgtB h
  · have HB0 := hid h0
    clear h0
    go_enter Try.func14, Try.ntmps14
    go_wp2_with fail
    refine (impl_IsWeights_is _ h _ _ HU.out HB0.out).mono ?_
    rintro e w' ⟨rfl, rfl⟩
    go_wp2_with fail
    go_ret2
    exact ⟨_, rfl, .inl ⟨rfl, rfl⟩, Below.refl _ _⟩
  · have HB0 := hid h0
    clear h0
    cases h1 : sigB s
    · have HB1 := hid h1
      clear h1
      go_enter Try.func14, Try.ntmps14
      go_wp2_with fail
      refine (impl_IsWeights_is _ h _ _ HU.out HB0.out).mono ?_
      rintro e w' ⟨rfl, rfl⟩
      go_wp2_with fail
      refine (impl_IsSignal_is _ s _ _ HV.out HB1.out).mono ?_
      rintro e w' ⟨rfl, rfl⟩
      go_wp2_with fail
      go_ret2
      exact ⟨_, rfl, .inl ⟨rfl, rfl⟩, Below.refl _ _⟩
    · have HB1 := hid h1
      clear h1
      go_enter Try.func14, Try.ntmps14
      go_wp2_with fail
      refine (impl_IsWeights_is _ h _ _ HU.out HB0.out).mono ?_
      rintro e w' ⟨rfl, rfl⟩
      go_wp2_with fail
      refine (impl_IsSignal_is _ s _ _ HV.out HB1.out).mono ?_
      rintro e w' ⟨rfl, rfl⟩
      have hw := wgtB_t HB0.out
      have hsg := sigB_t HB1.out
      have hn1 : 1 ≤ n := by rw [Hn.out]; exact hw.1.1
      have hn9 : n ≤ 9 := by rw [Hn.out]; exact hw.1.2
      have Hw := hid hw
      have Hsg := hid hsg
      clear hw hsg
      go_wp2_with fail
      refine (exactFilter_v _ _ _ _).mono ?_
      rintro e w1 ⟨rfl, rfl⟩
      have B1 := bel_alloc w (.cells #[.slice a n cap] 22)
      have hfil := exact_fil (gh := w.heap.size) (hv := .slice a n cap) (h := h) (s := s) (w := w.alloc (.cells #[.slice a n cap] 22)) (by rw [World.cell?_alloc_at _ _ _ _ rfl]; rfl) (HU.out.kept B1) Hw.out Hsg.out.2
      rw [← Hn.out] at hfil
      have Hfil := hid hfil
      have hsv := HV.out.kept B1
      have Hsv := hid hsv
      clear hfil hsv
      go_wp2_with fail
      refine (runFilter_any _ _ enterEx _ s n (conv h s) _ Hsv.out (Nat.le_trans Hsg.out.1 (by omega)) hn1 (by omega) Hfil.out).mono ?_
      rintro e w2 ⟨v2, rfl, R2, hb⟩
      have B2 := bel_step B1 hb
      go_wp2_with fail
      refine (onlySignal_is _ (tab s.length (conv h s)) (sigB (tab s.length (conv h s))) _ R2.sl rfl).mono ?_
      rintro e w' ⟨rfl, rfl⟩
      go_wp2_with fail
      go_ret2
      exact ⟨_, rfl, res_onB _ (R2.mono B1.size), B2⟩

end Go.Proofs.Ytogffkgihjdbkaa
