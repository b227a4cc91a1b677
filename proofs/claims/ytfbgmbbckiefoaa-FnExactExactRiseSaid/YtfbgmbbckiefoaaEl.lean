
import Derived.Test.YtfbgmbbckiefoaaEj
import Derived.Test.YtfbgmbbckiefoaaEh
import Derived.Laws.AppendOwnNone
namespace Go.Proofs.Ytfbgmbbckiefoaa
open Go.RowKit BitX Go.MemX Go.Ch6
set_option linter.unusedVariables false

set_option maxHeartbeats 1000000 in
theorem l1Own_nil (w : World) : Calls Try.prog 43 #[.slice none 0 0] w (GivesL w []) := by
  obtain ⟨i0, hi0, hz0, hz1, hz2⟩ := info_parts iint
  have hown : (w.alloc (.cells #[] 3)).ownsRow w.heap.size 3 1 (.slice (some ⟨w.heap.size, 0, none⟩) 0 0) 0 [] := ⟨rfl, .inr ⟨w.heap.size, 0, #[], rfl, Nat.le_refl _, heap_alloc_new _ _, Nat.le_refl _, Nat.zero_le _, rfl, rfl⟩⟩
  have Hown := hid hown
  clear hown
  go_enter Try.func43, Try.ntmps43
  go_wp2_with (at_builtin; refine wpList_append_own_none rfl _ _ 22 rfl w.heap.size 3 i0 1 uslice hi0 _ 0 [] rfl Hown.out rfl ?_)
  go_ret
  exact ⟨_, rfl, Res.owns (xs := []) Hown.out, bel_alloc _ _⟩

set_option maxHeartbeats 1000000 in
theorem l1Own_some (b off n cap : Nat) (xs : List Int) (w : World) (hs : Sl w (.slice (some ⟨b, off, none⟩) n cap) xs) (hl : xs.length ≤ 1000000) : Calls Try.prog 43 #[.slice (some ⟨b, off, none⟩) n cap] w (GivesL w xs) := by
  have hn : n = xs.length := by
    obtain ⟨a2, n2, cap2, h1, h2, _⟩ := hs.rd
    cases h1; exact h2
  have hnews : ∀ (j : Nat) (u : Value), (xs.map (Value.int .i64))[j]? = some u → (w.alloc (.cells #[] 3)).cell? ((⟨b, off, none⟩ : Addr).add j) = some u := by
    rcases hs with ⟨rfl, _⟩ | ⟨b2, o2, n2, cap2, hv, _, _, _, hlt, hx⟩
    · intro j u hu; simp at hu
    · cases hv
      exact news_of (n := n) (cap := cap) fun i x hi => by rw [World.cell?_alloc_lt _ _ _ (by exact hlt)]; exact hx i x hi
  have Hn := hid hn
  have Hnews := hid hnews
  have hl' : n ≤ 1000000 := by omega
  obtain ⟨i0, hi0, hz0, hz1, hz2⟩ := info_parts iint
  have hown : (w.alloc (.cells #[] 3)).ownsRow w.heap.size 3 1 (.slice (some ⟨w.heap.size, 0, none⟩) 0 0) 0 [] := ⟨rfl, .inr ⟨w.heap.size, 0, #[], rfl, Nat.le_refl _, heap_alloc_new _ _, Nat.le_refl _, Nat.zero_le _, rfl, rfl⟩⟩
  have Hown := hid hown
  clear hown
  clear hs hn hnews hl
  go_enter Try.func43, Try.ntmps43
  go_wp2_with (at_builtin; refine wpList_append_own _ rfl _ _ 22 rfl w.heap.size 3 i0 (.int .i64 0) 1 8 uslice hi0 hz0 hz1 hz2 rfl (by decide) _ 0 [] rfl Hown.out ⟨b, off, none⟩ n cap (xs.map (Value.int .i64)) rfl ?c0 ?c1 ?c2 ?c3 ?c4 ?c5 ?_)
  case c0 => simp; exact Hn.out.symm
  case c1 => exact Hnews.out
  case c2 => exact one_of _
  case c3 => unfold maxLen; omega
  case c4 => omega
  case c5 => simp
  · intro v' w3 hown3 hgrow _
    have hb3 : Below w.heap.size w w3 := (bel_alloc w _).grown hgrow (by simp) (fun j hj => by cases hj; exact Nat.le_refl _)
    try simp only [Nat.zero_add, List.nil_append] at hown3
    have Hown3 := hid hown3
    clear hown3 hgrow
    go_wp2
    go_ret
    refine ⟨_, rfl, Res.owns ?_, hb3⟩
    have h := Hown3.out
    rw [Hn.out] at h
    exact h



theorem Res.form {E : TypeId} {B : Nat} {w : World} {v : Value} {xs : List Int} (h : Res E B w v xs) : (xs = [] ∧ v = .slice none 0 0) ∨ ∃ g L cap, v = .slice (some ⟨g, 0, none⟩) L cap ∧ L = xs.length ∧ L ≤ cap ∧ B ≤ g := by
  rcases h with h | ⟨g, cap, hv, hB, hr⟩
  · exact .inl h
  · exact .inr ⟨g, xs.length, cap, hv, rfl, by obtain ⟨_, _, _, h3, _⟩ := hr; exact h3, hB⟩


/-- the comb's answer, as long as the signal -/
def caL (r st : Nat) (s : List Int) : List Int := tab s.length (conv (cbW r st) s)
theorem caL_len (r st : Nat) (s : List Int) : (caL r st s).length = s.length := tab_len _ _
def ecL (s : List Int) (st r : Int) : List Int := dropL r.toNat (r.toNat - 1) (caL r.toNat st.toNat s)
def ecB (s : List Int) (st r : Int) : Bool := (sigB s && askB st r) && sigB (ecL s st r)
theorem ecB_g {s : List Int} {st r : Int} (h : (sigB s && askB st r) = true) : ecB s st r = sigB (ecL s st r) := by unfold ecB; rw [h]; rfl
theorem ecB_n {s : List Int} {st r : Int} (h : (sigB s && askB st r) = false) : ecB s st r = false := by unfold ecB; rw [h]; rfl
theorem sa_n1 {s : List Int} {st r : Int} (h : sigB s = false) : (sigB s && askB st r) = false := by rw [h]; rfl
theorem sa_n2 {s : List Int} {st r : Int} (h : askB st r = false) : (sigB s && askB st r) = false := by rw [h]; cases sigB s <;> rfl
theorem sa_g {s : List Int} {st r : Int} (h : sigB s = true) (h2 : askB st r = true) : (sigB s && askB st r) = true := by rw [h, h2]; rfl
theorem sa_t {s : List Int} {st r : Int} (h : (sigB s && askB st r) = true) : SigP s ∧ (1 ≤ st ∧ st ≤ 4) ∧ (1 ≤ r ∧ r ≤ 8) := by
  simp only [Bool.and_eq_true] at h
  exact ⟨sigB_t h.1, askB_t h.2⟩
def erL (s : List Int) (st r : Int) : List Int := caL r.toNat st.toNat (stuffL r.toNat s)
def erB (s : List Int) (st r : Int) : Bool := ((sigB s && askB st r) && sigB (stuffL r.toNat s)) && sigB (erL s st r)
theorem erB_n0 {s : List Int} {st r : Int} (h : (sigB s && askB st r) = false) : erB s st r = false := by unfold erB; rw [h]; rfl
theorem erB_n1 {s : List Int} {st r : Int} (h : sigB (stuffL r.toNat s) = false) : erB s st r = false := by unfold erB; rw [h]; cases (sigB s && askB st r) <;> rfl
theorem erB_g {s : List Int} {st r : Int} (h : (sigB s && askB st r) = true) (h2 : sigB (stuffL r.toNat s) = true) : erB s st r = sigB (erL s st r) := by unfold erB; rw [h, h2]; rfl
theorem erB_n2 {s : List Int} {st r : Int} (h : szB s r = false) : erB s st r = false := by
  unfold szB raB at h
  unfold erB askB
  cases h1 : sigB s
  · rfl
  · rw [h1] at h
    cases h2 : decide (1 ≤ r ∧ r ≤ 8)
    · simp
    · rw [h2] at h
      have : sigB (stuffL r.toNat s) = false := by simpa using h
      rw [this]; simp
theorem erB_n3 {s : List Int} {st r : Int} (h : decide (1 ≤ st ∧ st ≤ 4) = false) : erB s st r = false := by unfold erB askB; rw [h]; simp
theorem sz_ask {s : List Int} {st r : Int} (h : szB s r = true) (h2 : decide (1 ≤ st ∧ st ≤ 4) = true) : (sigB s && askB st r) = true ∧ sigB (stuffL r.toNat s) = true := by
  unfold szB raB at h
  simp only [Bool.and_eq_true] at h
  refine ⟨?_, h.2⟩
  unfold askB; rw [h.1.1, h.1.2, h2]; rfl


set_option maxHeartbeats 1000000 in
theorem combAnswer_any (v : Value) (s : List Int) (st r : Nat) (w : World) (hs : Sl w v s) (hg : SigP s) (s1 : 1 ≤ st) (s2 : st ≤ 4) (r1 : 1 ≤ r) (r2 : r ≤ 8) :
    Calls Try.prog 42 #[v, .int .i64 (st : Int), .int .i64 (r : Int)] w (GivesL w (caL r st s)) := by
  have HS := hid hs
  have HG := hid hg
  clear hs hg
  go_enter Try.func42, Try.ntmps42
  go_wp2_with fail
  refine (combWeights_any st r _ s1 s2 r1 r2).mono ?_
  rintro e w1 ⟨v1, rfl, hr1, B1⟩
  obtain ⟨a, n, cap, rfl, hn, hrd⟩ := hr1.sl.rd
  have hq := cbW_q r1 r2 s2
  have hn1 : 1 ≤ n := by rw [hn]; exact hq.1.1
  have hn9 : n ≤ 29 := by rw [hn]; exact hq.1.2
  have Hr1 := hid hr1
  have Hn := hid hn
  have Hq := hid hq
  clear hr1 hn hrd hq
  go_wp2_with fail
  refine (exactFilter_v _ _ _ _).mono ?_
  rintro e w2 ⟨rfl, rfl⟩
  have B2 := bel_step B1 (bel_alloc w1 (.cells #[.slice a n cap] 22))
  have hfil := exact_filQ (gh := w1.heap.size) (hv := .slice a n cap) (h := cbW r st) (s := s) (w := w1.alloc (.cells #[.slice a n cap] 22)) (by rw [World.cell?_alloc_at _ _ _ _ rfl]; rfl) (Hr1.out.sl.kept (bel_alloc _ _)) Hq.out HG.out.2
  rw [← Hn.out] at hfil
  have Hfil := hid hfil
  have hsv := HS.out.kept B2
  have Hsv := hid hsv
  clear hfil hsv
  go_wp2_with fail
  refine (runFilter_any _ _ enterEx _ s n (conv (cbW r st) s) _ Hsv.out (Nat.le_trans HG.out.1 (by omega)) hn1 (by omega) Hfil.out).mono ?_
  rintro e w3 ⟨v3, rfl, R3, hb⟩
  have B3 := bel_step B2 hb
  have R4 := R3.mono B2.size
  have HR4 := hid R4
  clear R3 R4
  go_wp2_with fail
  go_ret
  exact ⟨_, rfl, HR4.out, B3⟩


set_option maxHeartbeats 1000000 in
theorem cbExact_any (v : Value) (s : List Int) (st r : Nat) (w : World) (hs : Sl w v s) (hg : SigP s) (s1 : 1 ≤ st) (s2 : st ≤ 4) (r1 : 1 ≤ r) (r2 : r ≤ 8) :
    Calls Try.prog 40 #[v, .int .i64 (st : Int), .int .i64 (r : Int)] w (GivesL w (dropL r (r - 1) (caL r st s))) := by
  have HS := hid hs
  have HG := hid hg
  have HQ := hid (cbW_q r1 r2 s2)
  obtain ⟨a2, m, cap2, rfl, hm, hr2⟩ := hs.rd
  have Hm := hid hm
  have hrz : (r : Int) - 1 = ((r - 1 : Nat) : Int) := by omega
  have e1 : IntKind.i64.wrap ((r : Int) - 1) = ((r - 1 : Nat) : Int) := by rw [hrz]; exact IntWalk.i64_in _ (by omega)
  have e2 : wrap64 ((r : Int) - 1) = ((r - 1 : Nat) : Int) := by rw [hrz]; exact IntWalk.wrap64_in _ (by omega)
  clear hs hg hm hr2
  go_enter Try.func40, Try.ntmps40
  go_wp2_with fail
  refine (cbBox_any st r _ s1 s2 r1 r2).mono ?_
  rintro e wA ⟨v1, rfl, R1, B1⟩
  have Hr1 := hid R1
  clear R1
  go_wp2_with fail
  refine (weAnswerQ_any _ _ (cbW r st) s _ Hr1.out.sl (HS.out.kept B1) HQ.out HG.out.1 HG.out.2).mono ?_
  rintro e wB ⟨v_R, rfl, R, hb⟩
  have RB := bel_step B1 hb
  have hsh := ans_short (cbW r st) s (fun e => by have := HQ.out.1.1; rw [e] at this; simp at this)
  have hal : s.length ≤ (ans (cbW r st) s).length := by
    by_cases hs0 : s = []
    · simp [hs0]
    · rw [ans_len _ _ hs0]; have := HQ.out.1.1; omega
  have haw : (ans (cbW r st) s).length ≤ 92 := by
    by_cases hs0 : s = []
    · simp [hs0, ans]
    · rw [ans_len _ _ hs0]; have := HQ.out.1.2; have := HG.out.1; omega
  have hml : m = s.length := Hm.out
  have hm6 : m ≤ 64 := by have := HG.out.1; omega
  rcases Res.form R with ⟨he, rfl⟩ | ⟨g, L, cap, rfl, hL, hcap, hg⟩
  · have hs0 : s = [] := List.length_eq_zero_iff.1 (by rw [he] at hal; simpa using hal)
    have hm0 : m = 0 := by rw [hml, hs0]; rfl
    have hsl : Sl wB (.slice none 0 0) (caL r st s) := .inl ⟨by rw [hs0]; rfl, none, 0, rfl⟩
    have Hsl := hid hsl
    have HRB := hid RB
    subst hm0
    clear hsh hal haw hml hs0 he hsl R RB hm6
    go_wp2_with fail
    refine (cbDrop_any _ (caL r st s) r (r - 1) _ Hsl.out (by rw [caL_len]; exact HG.out.1) r1 r2 (by omega)).mono ?_
    rintro e w3 ⟨v3, rfl, R3, hb3⟩
    have B3 := bel_step HRB.out hb3
    go_wp2_with fail
    go_ret
    exact ⟨_, rfl, R3.mono HRB.out.size, B3⟩
  · have hmL : m ≤ L := by omega
    have hsl : Sl wB (.slice (some ⟨g, 0, none⟩) m cap) (caL r st s) := by
      unfold caL
      rw [← hsh]
      by_cases h0 : m = 0
      · rw [← hml, h0]; exact .inl ⟨by simp, _, cap, rfl⟩
      · have := Sl.cut (R.sl) (lo := 0) (hi := m) (c2 := cap) (by omega) (by omega) (by omega)
        rw [← hml]; simpa using this
    have Hsl := hid hsl
    have HRB := hid RB
    clear hsh hml hL hsl hal haw R RB hg
    go_wp2_with fail
    refine (cbDrop_any _ (caL r st s) r (r - 1) _ Hsl.out (by rw [caL_len]; exact HG.out.1) r1 r2 (by omega)).mono ?_
    rintro e w3 ⟨v3, rfl, R3, hb3⟩
    have B3 := bel_step HRB.out hb3
    go_wp2_with fail
    go_ret
    exact ⟨_, rfl, R3.mono HRB.out.size, B3⟩


theorem wdIf_t (v : Value) (ys : List Int) (w : World) (hs : Sl w v ys) (h : sigB ys = true) :
    Calls Try.prog 28 #[v] w fun e w' => e = .returned (.tuple #[v, .bool true]) ∧ w = w' := wdIf_is v ys true w hs h
theorem wdIf_f (v : Value) (ys : List Int) (w : World) (hs : Sl w v ys) (h : sigB ys = false) :
    Calls Try.prog 28 #[v] w fun e w' => e = .returned (.tuple #[.slice none 0 0, .bool false]) ∧ w = w' := wdIf_is v ys false w hs h
theorem l1Own_res (E : TypeId) (B : Nat) (v : Value) (xs : List Int) (w : World) (hs : Res E B w v xs) (hl : xs.length ≤ 1000000) : Calls Try.prog 43 #[v] w (GivesL w xs) := by
  have hsl := hs.sl
  rcases Res.form hs with ⟨rfl, rfl⟩ | ⟨g, L, cap, rfl, _, _, _⟩
  · exact l1Own_nil w
  · exact l1Own_some g 0 L cap xs w hsl hl
theorem stuff_t {w w' : World} {ys : List Int} {b : Bool} {e : Ending} (h : Gives w (onL b ys) b e w') (hb : b = true) : Gives w ys true e w' := by subst hb; exact h
theorem stuff_f {w w' : World} {ys : List Int} {b : Bool} {e : Ending} (h : Gives w (onL b ys) b e w') (hb : b = false) : Gives w [] false e w' := by subst hb; exact h


set_option maxHeartbeats 1000000 in
theorem spec_ExactComb_any (v : Value) (s : List Int) (st r : Int) (w : World) (hs : Sl w v s) :
    Calls Try.prog 18 #[v, .int .i64 st, .int .i64 r] w (Gives w (onL (ecB s st r) (ecL s st r)) (ecB s st r)) := by
  have HS := hid hs
  clear hs
  cases h0 : (sigB s && askB st r)
  · have HB0 := hid h0
    clear h0
    go_enter Try.func18, Try.ntmps18
    go_wp2_with fail
    refine (cbGood_is _ s _ _ false _ HS.out HB0.out).mono ?_
    rintro e w' ⟨rfl, rfl⟩
    go_wp2_with fail
    go_ret2
    exact gives_no (ecB_n HB0.out) (Below.refl _ _)
  · have HB0 := hid h0
    clear h0
    have HA := hid HB0.out
    obtain ⟨HG0, ⟨a1, a2⟩, ⟨a3, a4⟩⟩ := sa_t HA.out
    obtain ⟨t, rfl⟩ : ∃ t : Nat, st = t := ⟨st.toNat, by omega⟩
    obtain ⟨q, rfl⟩ : ∃ q : Nat, r = q := ⟨r.toNat, by omega⟩
    have s1 : 1 ≤ t := by omega
    have s2 : t ≤ 4 := by omega
    have r1 : 1 ≤ q := by omega
    have r2 : q ≤ 8 := by omega
    have HG := hid HG0
    have hrz : (q : Int) - 1 = ((q - 1 : Nat) : Int) := by omega
    have e1 : IntKind.i64.wrap ((q : Int) - 1) = ((q - 1 : Nat) : Int) := by rw [hrz]; exact IntWalk.i64_in _ (by omega)
    have e2 : wrap64 ((q : Int) - 1) = ((q - 1 : Nat) : Int) := by rw [hrz]; exact IntWalk.wrap64_in _ (by omega)
    clear a1 a2 a3 a4 HG0
    go_enter Try.func18, Try.ntmps18
    go_wp2_with fail
    refine (cbGood_is _ s _ _ true _ HS.out HB0.out).mono ?_
    rintro e w' ⟨rfl, rfl⟩
    go_wp2_with fail
    refine (cbExact_any _ s t q _ HS.out HG.out s1 s2 r1 r2).mono ?_
    rintro e w1 ⟨v_R, rfl, R, hb⟩
    have B1 := hb
    go_wp2_with fail
    refine (wdIf_is _ (ecL s (t : Int) (q : Int)) (sigB (ecL s (t : Int) (q : Int))) _ R.sl rfl).mono ?_
    rintro e w' ⟨rfl, rfl⟩
    go_wp2_with fail
    go_ret2
    exact gives_if (ecB_g HA.out) R B1


set_option maxHeartbeats 1000000 in
theorem impl_ExactComb_any (v : Value) (s : List Int) (st r : Int) (w : World) (hs : Sl w v s) :
    Calls Try.prog 19 #[v, .int .i64 st, .int .i64 r] w (Gives w (onL (ecB s st r) (ecL s st r)) (ecB s st r)) := by
  have HS := hid hs
  clear hs
  cases h0 : sigB s
  · have HB0 := hid h0
    clear h0
    go_enter Try.func19, Try.ntmps19
    go_wp2_with fail
    refine (impl_IsSignal_is _ s false _ HS.out HB0.out).mono ?_
    rintro e w' ⟨rfl, rfl⟩
    go_wp2_with fail
    go_ret2
    exact gives_no (ecB_n (sa_n1 HB0.out)) (Below.refl _ _)
  · have HB0 := hid h0
    clear h0
    cases h1 : askB st r
    · have HB1 := hid h1
      clear h1
      go_enter Try.func19, Try.ntmps19
      go_wp2_with fail
      refine (impl_IsSignal_is _ s true _ HS.out HB0.out).mono ?_
      rintro e w' ⟨rfl, rfl⟩
      go_wp2_with fail
      refine (isComb_is _ _ false _ HB1.out).mono ?_
      rintro e w' ⟨rfl, rfl⟩
      go_wp2_with fail
      go_ret2
      exact gives_no (ecB_n (sa_n2 HB1.out)) (Below.refl _ _)
    · have HB1 := hid h1
      clear h1
      have HA := hid (sa_g HB0.out HB1.out)
      obtain ⟨HG0, ⟨a1, a2⟩, ⟨a3, a4⟩⟩ := sa_t HA.out
      obtain ⟨t, rfl⟩ : ∃ t : Nat, st = t := ⟨st.toNat, by omega⟩
      obtain ⟨q, rfl⟩ : ∃ q : Nat, r = q := ⟨r.toNat, by omega⟩
      have s1 : 1 ≤ t := by omega
      have s2 : t ≤ 4 := by omega
      have r1 : 1 ≤ q := by omega
      have r2 : q ≤ 8 := by omega
      have HG := hid HG0
      have hrz : (q : Int) - 1 = ((q - 1 : Nat) : Int) := by omega
      have e1 : IntKind.i64.wrap ((q : Int) - 1) = ((q - 1 : Nat) : Int) := by rw [hrz]; exact IntWalk.i64_in _ (by omega)
      have e2 : wrap64 ((q : Int) - 1) = ((q - 1 : Nat) : Int) := by rw [hrz]; exact IntWalk.wrap64_in _ (by omega)
      clear a1 a2 a3 a4 HG0
      go_enter Try.func19, Try.ntmps19
      go_wp2_with fail
      refine (impl_IsSignal_is _ s true _ HS.out HB0.out).mono ?_
      rintro e w' ⟨rfl, rfl⟩
      go_wp2_with fail
      refine (isComb_is _ _ true _ HB1.out).mono ?_
      rintro e w' ⟨rfl, rfl⟩
      go_wp2_with fail
      refine (combAnswer_any _ s t q _ HS.out HG.out s1 s2 r1 r2).mono ?_
      rintro e w1 ⟨v_R, rfl, R, hb⟩
      have B1 := hb
      go_wp2_with fail
      refine (dropFrom_any _ (caL q t s) q (q - 1) _ R.sl (by rw [caL_len]; exact HG.out.1) r1 r2 (by omega)).mono ?_
      rintro e w2 ⟨v_T, rfl, T, hb⟩
      have B2 := bel_step B1 hb
      have R_2 := R.kept hb
      go_wp2_with fail
      refine (onlySignal_is _ (ecL s (t : Int) (q : Int)) (sigB (ecL s (t : Int) (q : Int))) _ T.sl rfl).mono ?_
      rintro e w' ⟨rfl, rfl⟩
      go_wp2_with fail
      go_ret2
      exact gives_if (ecB_g HA.out) (T.mono B1.size) B2


theorem ec_len {s : List Int} {st r : Int} : (onL (ecB s st r) (ecL s st r)).length ≤ 2000000 := onL_len fun h => by
  unfold ecB at h
  simp only [Bool.and_eq_true] at h
  have := (sigB_t h.2).1; omega
theorem er_len {s : List Int} {st r : Int} : (onL (erB s st r) (erL s st r)).length ≤ 2000000 := onL_len fun h => by
  unfold erB at h
  simp only [Bool.and_eq_true] at h
  have := (sigB_t h.2).1; omega


set_option maxHeartbeats 1000000 in
theorem spec_ExactRise_in (v : Value) (s : List Int) (t q : Nat) (w : World) (hs : Sl w v s) (hg : SigP s) (ha : (sigB s && askB (t : Int) (q : Int)) = true) (s1 : 1 ≤ t) (s2 : t ≤ 4) (r1 : 1 ≤ q) (r2 : q ≤ 8) :
    Calls Try.prog 20 #[v, .int .i64 (t : Int), .int .i64 (q : Int)] w (Gives w (onL (erB s t q) (erL s t q)) (erB s t q)) := by
  have HS := hid hs
  have HG := hid hg
  have HA := hid ha
  clear hs hg ha
  cases h1 : sigB (stuffL q s)
  · have H1 := hid h1
    clear h1
    go_enter Try.func20, Try.ntmps20
    go_wp2_with fail
    refine (cbGood_is _ s _ _ true _ HS.out HA.out).mono ?_
    rintro e w' ⟨rfl, rfl⟩
    go_wp2_with fail
    refine (cbStuff_any _ s q _ HS.out HG.out.1 r1 r2).mono ?_
    rintro e w1 ⟨v1, rfl, R1, B1⟩
    go_wp2_with fail
    refine (wdIf_f _ _ _ R1.sl H1.out).mono ?_
    rintro e w' ⟨rfl, rfl⟩
    go_wp2_with fail
    go_ret2
    exact gives_no (erB_n1 H1.out) B1
  · have H1 := hid h1
    have HG2 := hid (sigB_t h1)
    have HE := hid (erB_g HA.out h1)
    have HQ := hid (cbW_q r1 r2 s2)
    clear h1
    go_enter Try.func20, Try.ntmps20
    go_wp2_with fail
    refine (cbGood_is _ s _ _ true _ HS.out HA.out).mono ?_
    rintro e w' ⟨rfl, rfl⟩
    go_wp2_with fail
    refine (cbStuff_any _ s q _ HS.out HG.out.1 r1 r2).mono ?_
    rintro e w1 ⟨v1, rfl, R1, B1⟩
    obtain ⟨a2, m, cap2, rfl, hm, hr2⟩ := R1.sl.rd
    have Hm := hid hm
    have HR1 := hid R1
    clear hm hr2 R1
    go_wp2_with fail
    refine (wdIf_t _ (stuffL q s) _ HR1.out.sl H1.out).mono ?_
    rintro e w' ⟨rfl, rfl⟩
    go_wp2_with fail
    refine (cbBox_any t q _ s1 s2 r1 r2).mono ?_
    rintro e wA ⟨v2, rfl, R2, hb2⟩
    have B2 := bel_step B1 hb2
    have HR2 := hid R2
    clear R2
    go_wp2_with fail
    refine (weAnswerQ_any _ _ (cbW q t) (stuffL q s) _ HR2.out.sl (HR1.out.sl.kept hb2) HQ.out HG2.out.1 HG2.out.2).mono ?_
    rintro e wB ⟨v_R, rfl, R, hb⟩
    have RB := bel_step B2 hb
    clear hb hb2
    have hsh := ans_short (cbW q t) (stuffL q s) (fun e => by have := HQ.out.1.1; rw [e] at this; simp at this)
    have hal : (stuffL q s).length ≤ (ans (cbW q t) (stuffL q s)).length := by
      by_cases hs0 : (stuffL q s) = []
      · simp [hs0]
      · rw [ans_len _ _ hs0]; have := HQ.out.1.1; omega
    have haw : (ans (cbW q t) (stuffL q s)).length ≤ 92 := by
      by_cases hs0 : (stuffL q s) = []
      · simp [hs0, ans]
      · rw [ans_len _ _ hs0]; have := HQ.out.1.2; have := HG2.out.1; omega
    have hml : m = (stuffL q s).length := Hm.out
    have hm6 : m ≤ 64 := by have := HG2.out.1; omega
    rcases Res.form R with ⟨he, rfl⟩ | ⟨g, L, cap, rfl, hL, hcap, hg⟩
    · have hs0 : (stuffL q s) = [] := List.length_eq_zero_iff.1 (by rw [he] at hal; simpa using hal)
      have hm0 : m = 0 := by rw [hml, hs0]; rfl
      have hsl : Sl wB (.slice none 0 0) (caL q t (stuffL q s)) := .inl ⟨by rw [hs0]; rfl, none, 0, rfl⟩
      have Hsl := hid hsl
      have HRB := hid RB
      have HY := hid (show caL q t (stuffL q s) = [] from by unfold caL; rw [hs0]; rfl)
      subst hm0
      clear hsh hal haw hml hs0 he hsl R RB hm6
      go_wp2_with fail
      refine (l1Own_nil _).mono ?_
      rintro e wC ⟨v3, rfl, R3, hb3⟩
      rw [← HY.out] at R3
      have B3 := bel_step HRB.out hb3
      have R4 := R3.mono HRB.out.size
      have HR4 := hid R4
      have HR3 := hid R3
      clear R3 R4
      go_wp2_with fail
      refine (wdIf_is _ (erL s (t : Int) (q : Int)) (sigB (erL s (t : Int) (q : Int))) _ HR3.out.sl rfl).mono ?_
      rintro e w' ⟨rfl, rfl⟩
      go_wp2_with fail
      go_ret2
      exact gives_if HE.out HR4.out B3
    · have hmL : m ≤ L := by omega
      have hsl : Sl wB (.slice (some ⟨g, 0, none⟩) m cap) (caL q t (stuffL q s)) := by
        unfold caL
        rw [← hsh]
        by_cases h0 : m = 0
        · rw [← hml, h0]; exact .inl ⟨by simp, _, cap, rfl⟩
        · have := Sl.cut (R.sl) (lo := 0) (hi := m) (c2 := cap) (by omega) (by omega) (by omega)
          rw [← hml]; simpa using this
      have Hsl := hid hsl
      have HRB := hid RB
      clear hsh hml hL hsl hal haw R RB hg
      go_wp2_with fail
      refine (l1Own_some g 0 m cap (caL q t (stuffL q s)) _ Hsl.out (by rw [caL_len]; have := HG2.out.1; omega)).mono ?_
      rintro e wC ⟨v3, rfl, R3, hb3⟩
      have B3 := bel_step HRB.out hb3
      have R4 := R3.mono HRB.out.size
      have HR4 := hid R4
      have HR3 := hid R3
      clear R3 R4
      go_wp2_with fail
      refine (wdIf_is _ (erL s (t : Int) (q : Int)) (sigB (erL s (t : Int) (q : Int))) _ HR3.out.sl rfl).mono ?_
      rintro e w' ⟨rfl, rfl⟩
      go_wp2_with fail
      go_ret2
      exact gives_if HE.out HR4.out B3


set_option maxHeartbeats 1000000 in
theorem spec_ExactRise_any (v : Value) (s : List Int) (st r : Int) (w : World) (hs : Sl w v s) :
    Calls Try.prog 20 #[v, .int .i64 st, .int .i64 r] w (Gives w (onL (erB s st r) (erL s st r)) (erB s st r)) := by
  have HS := hid hs
  clear hs
  cases h0 : (sigB s && askB st r)
  · have HB0 := hid h0
    clear h0
    go_enter Try.func20, Try.ntmps20
    go_wp2_with fail
    refine (cbGood_is _ s _ _ false _ HS.out HB0.out).mono ?_
    rintro e w' ⟨rfl, rfl⟩
    go_wp2_with fail
    go_ret2
    exact gives_no (erB_n0 HB0.out) (Below.refl _ _)
  · have HB0 := hid h0
    clear h0
    have HA := hid HB0.out
    obtain ⟨HG0, ⟨a1, a2⟩, ⟨a3, a4⟩⟩ := sa_t HA.out
    obtain ⟨t, rfl⟩ : ∃ t : Nat, st = t := ⟨st.toNat, by omega⟩
    obtain ⟨q, rfl⟩ : ∃ q : Nat, r = q := ⟨r.toNat, by omega⟩
    have s1 : 1 ≤ t := by omega
    have s2 : t ≤ 4 := by omega
    have r1 : 1 ≤ q := by omega
    have r2 : q ≤ 8 := by omega
    have HG := hid HG0
    have hrz : (q : Int) - 1 = ((q - 1 : Nat) : Int) := by omega
    have e1 : IntKind.i64.wrap ((q : Int) - 1) = ((q - 1 : Nat) : Int) := by rw [hrz]; exact IntWalk.i64_in _ (by omega)
    have e2 : wrap64 ((q : Int) - 1) = ((q - 1 : Nat) : Int) := by rw [hrz]; exact IntWalk.wrap64_in _ (by omega)
    clear a1 a2 a3 a4 HG0
    exact spec_ExactRise_in v s t q w HS.out HG.out HA.out s1 s2 r1 r2


set_option maxHeartbeats 1000000 in
theorem impl_ExactRise_any (v : Value) (s : List Int) (st r : Int) (w : World) (hs : Sl w v s) :
    Calls Try.prog 21 #[v, .int .i64 st, .int .i64 r] w (Gives w (onL (erB s st r) (erL s st r)) (erB s st r)) := by
  have HS := hid hs
  clear hs
  cases h0 : szB s r
  · have H0 := hid h0
    clear h0
    go_enter Try.func21, Try.ntmps21
    go_wp2_with fail
    refine (impl_StuffZeros_any _ s r _ HS.out).mono ?_
    intro e w1 hG
    obtain ⟨v1, rfl, R1, B1⟩ := stuff_f hG H0.out
    clear hG
    go_wp2_with fail
    go_ret2
    exact gives_no (erB_n2 H0.out) B1
  · have H0 := hid h0
    clear h0
    cases h1 : decide (1 ≤ st ∧ st ≤ 4)
    · have H1 := hid h1
      clear h1
      go_enter Try.func21, Try.ntmps21
      go_wp2_with fail
      refine (impl_StuffZeros_any _ s r _ HS.out).mono ?_
      intro e w1 hG
      obtain ⟨v1, rfl, R1, B1⟩ := stuff_t hG H0.out
      clear hG
      go_wp2_with fail
      refine (areStages_is _ false _ H1.out).mono ?_
      rintro e w' ⟨rfl, rfl⟩
      go_wp2_with fail
      go_ret2
      exact gives_no (erB_n3 H1.out) B1
    · have H1 := hid h1
      have HA := hid (sz_ask H0.out h1).1
      have H2 := hid (sz_ask H0.out h1).2
      clear h1
      obtain ⟨HG0, ⟨a1, a2⟩, ⟨a3, a4⟩⟩ := sa_t HA.out
      obtain ⟨t, rfl⟩ : ∃ t : Nat, st = t := ⟨st.toNat, by omega⟩
      obtain ⟨q, rfl⟩ : ∃ q : Nat, r = q := ⟨r.toNat, by omega⟩
      have s1 : 1 ≤ t := by omega
      have s2 : t ≤ 4 := by omega
      have r1 : 1 ≤ q := by omega
      have r2 : q ≤ 8 := by omega
      have HG := hid HG0
      have hrz : (q : Int) - 1 = ((q - 1 : Nat) : Int) := by omega
      have e1 : IntKind.i64.wrap ((q : Int) - 1) = ((q - 1 : Nat) : Int) := by rw [hrz]; exact IntWalk.i64_in _ (by omega)
      have e2 : wrap64 ((q : Int) - 1) = ((q - 1 : Nat) : Int) := by rw [hrz]; exact IntWalk.wrap64_in _ (by omega)
      clear a1 a2 a3 a4 HG0
      have HG2 := hid (show SigP (stuffL q s) from sigB_t H2.out)
      have HE := hid (erB_g HA.out H2.out)
      go_enter Try.func21, Try.ntmps21
      go_wp2_with fail
      refine (impl_StuffZeros_any _ s _ _ HS.out).mono ?_
      intro e w1 hG
      obtain ⟨v1, rfl, R1, B1⟩ := stuff_t hG H0.out
      have HR1 := hid (show Res 3 w.heap.size w1 v1 (stuffL q s) from R1)
      clear hG R1
      go_wp2_with fail
      refine (areStages_is _ true _ H1.out).mono ?_
      rintro e w' ⟨rfl, rfl⟩
      go_wp2_with fail
      refine (combAnswer_any _ (stuffL q s) t q _ HR1.out.sl HG2.out s1 s2 r1 r2).mono ?_
      rintro e w2 ⟨v2, rfl, R2, hb⟩
      have B2 := bel_step B1 hb
      have R3 := R2.mono B1.size
      have HR2 := hid R2
      have HR3 := hid R3
      clear R2 R3
      go_wp2_with fail
      refine (onlySignal_is _ (erL s (t : Int) (q : Int)) (sigB (erL s (t : Int) (q : Int))) _ HR2.out.sl rfl).mono ?_
      rintro e w' ⟨rfl, rfl⟩
      go_wp2_with fail
      go_ret2
      exact gives_if HE.out HR3.out B2


set_option maxHeartbeats 1600000 in
theorem gen_FnExactExactComb (s : List Int) (st : Int) (r : Int) (u_s : Option Addr) (l_s c_s : Nat) (ys : List Int) (ok : Bool) (w : World) (hs_s : Sl w (.slice u_s l_s c_s) s) (ll_s : l_s ≤ 1048576) (hl_s : s.length ≤ 1048576) (hy : ys.length ≤ 2000000) (hspec : ∀ (w : World) (v_s : Value), Sl w v_s s → Calls Try.prog 18 #[v_s, .int .i64 st, .int .i64 r] w (Gives w ys ok)) (himpl : ∀ (w : World) (v_s : Value), Sl w v_s s → Calls Try.prog 19 #[v_s, .int .i64 st, .int .i64 r] w (Gives w ys ok)) :
    Calls Try.prog 6 #[.slice u_s l_s c_s, .int .i64 st, .int .i64 r] w fun e w' => e = .returned (.bool true) ∧ Below w.heap.size w w' := by
  have HSs := hid hs_s
  clear hs_s
  have HSP := hid hspec
  have HIM := hid himpl
  clear hspec himpl
  all_goals cases ok
  all_goals
    go_enter Try.func6, Try.ntmps6
    go_wp2_with fail
    refine (toIntS_any _ s _ HSs.out (by omega)).mono ?_
    rintro e w1 ⟨g_As0, hg_As0, rfl, K_As0, hb⟩
    have B1 := hb
    have hz1 : w.heap.size ≤ w1.heap.size := by first | exact hb.size | (have := hb.size; simp at this; omega)
    have As0 := K_As0.res hg_As0
    go_wp2_with fail
    refine (HSP.out _ _ As0.sl).mono ?_
    rintro e w2 ⟨v_R0, rfl, R0, hb⟩
    have B2 := bel_step B1 hb
    have hz2 : w1.heap.size ≤ w2.heap.size := hb.size
    have As0_2 := As0.kept hb
    have hlt0 : ∀ g, v_R0.ownBlock = some g → g < w2.heap.size := fun g hg => R0.lt hg
    have Hlt0 := hid hlt0
    clear hlt0
    go_wp2_with fail
    refine (toIntS_any _ s _ (HSs.out.kept B2) (by omega)).mono ?_
    rintro e w3 ⟨g_Xs, hg_Xs, rfl, K_Xs, hb⟩
    have B3 := bel_step B2 hb
    have hz3 : w2.heap.size ≤ w3.heap.size := hb.size
    have R0_3 := R0.kept hb
    have Xs := K_Xs.res hg_Xs
    have hlt_Xs := K_Xs.lt
    have hne_Xs : ∀ g, v_R0.ownBlock = some g → g ≠ g_Xs := fun g hg => by have a1 := Hlt0.out g hg; omega
    have Hne_Xs := hid hne_Xs
    clear hne_Xs
    have hxl_Xs : g_Xs < w3.heap.size := Xs.lt rfl
    go_wp2_with fail
    refine (HIM.out _ _ Xs.sl).mono ?_
    rintro e w4 ⟨v_R1, rfl, R1, hb⟩
    have B4 := bel_step B3 hb
    have hz4 : w3.heap.size ≤ w4.heap.size := hb.size
    have R0_4 := R0_3.kept hb
    have Xs_4 := Xs.kept hb
    have hne1_Xs : ∀ g, v_R1.ownBlock = some g → g ≠ g_Xs := fun g hg => by have a1 := R1.ge hg; omega
    have Hne1_Xs := hid hne1_Xs
    clear hne1_Xs
    have hne01 : ∀ g, v_R0.ownBlock = some g → v_R1.ownBlock ≠ some g := fun g hg e => by have a1 := R1.ge e; have a2 := Hlt0.out g hg; omega
    have Hne01 := hid hne01
    clear hne01
    have hge1 : ∀ g, v_R1.ownBlock = some g → w3.heap.size ≤ g := fun g hg => R1.ge hg
    have Hge1 := hid hge1
    clear hge1
    go_wp2_with fail
    refine (eqIntS_same _ _ ys _ R1.sl R0_4.sl hy).mono ?_
    rintro e w5 ⟨rfl, hb⟩
    have B5 := bel_step B4 hb
    have hz5 : w4.heap.size ≤ w5.heap.size := hb.size
    have R0_5 := R0_4.kept hb
    have Xs_5 := Xs_4.kept hb
    have R1_5 := R1.kept hb
    go_wp2_with fail
    refine (toIntS_any _ s _ (HSs.out.kept B5) (by omega)).mono ?_
    rintro e w6 ⟨g_TXs, hg_TXs, rfl, K_TXs, hb⟩
    have B6 := bel_step B5 hb
    have hz6 : w5.heap.size ≤ w6.heap.size := hb.size
    have R0_6 := R0_5.kept hb
    have Xs_6 := Xs_5.kept hb
    have R1_6 := R1_5.kept hb
    have TXs := K_TXs.res hg_TXs
    go_wp2_with fail
    refine (eqIntS_same _ _ s _ Xs_6.sl TXs.sl (by omega)).mono ?_
    rintro e w7 ⟨rfl, hb⟩
    have B7 := bel_step B6 hb
    have hz7 : w6.heap.size ≤ w7.heap.size := hb.size
    have R0_7 := R0_6.kept hb
    have Xs_7 := Xs_6.kept hb
    have R1_7 := R1_6.kept hb
    have TXs_7 := TXs.kept hb
    go_wp2_with fail
    refine (markIntS_one _ s _ _ Xs_7 (by omega)).mono ?_
    rintro e w8 ⟨rfl, ho, _⟩
    have B8 := B7.trans (ho.below fun g hg => by cases hg; exact Nat.le_trans B2.size hg_Xs)
    have hz8 : w7.heap.size ≤ w8.heap.size := Nat.le_of_eq ho.size.symm
    have R0_8 := R0_7.only ho fun g hg e => by cases e; exact Hne_Xs.out _ hg rfl
    have R1_8 := R1_7.only ho fun g hg e => by cases e; exact Hne1_Xs.out _ hg rfl
    go_wp2_with fail
    refine (eqIntS_same _ _ ys _ R1_8.sl R0_8.sl hy).mono ?_
    rintro e w9 ⟨rfl, hb⟩
    have B9 := bel_step B8 hb
    have hz9 : w8.heap.size ≤ w9.heap.size := hb.size
    have R0_9 := R0_8.kept hb
    have R1_9 := R1_8.kept hb
    go_wp2_with fail
    refine (markIntS_one _ ys _ _ R1_9 hy).mono ?_
    rintro e w10 ⟨rfl, ho, M⟩
    have B10 := B9.trans (ho.below fun g hg => Nat.le_trans B3.size (Hge1.out g hg))
    have hz10 : w9.heap.size ≤ w10.heap.size := Nat.le_of_eq ho.size.symm
    have R0_10 := R0_9.only ho Hne01.out
    go_wp2_with fail
    refine (heldIntS_one _ ys.length _ _ M hy).mono ?_
    rintro e w' ⟨rfl, rfl⟩
    go_wp2_with fail
    refine (toIntS_any _ s _ (HSs.out.kept B10) (by omega)).mono ?_
    rintro e w11 ⟨g_As10, hg_As10, rfl, K_As10, hb⟩
    have B11 := bel_step B10 hb
    have hz11 : w10.heap.size ≤ w11.heap.size := hb.size
    have R0_11 := R0_10.kept hb
    have M_11 := M.kept hb
    have As10 := K_As10.res hg_As10
    go_wp2_with fail
    refine (HIM.out _ _ As10.sl).mono ?_
    rintro e w12 ⟨v_R2, rfl, R2, hb⟩
    have B12 := bel_step B11 hb
    have hz12 : w11.heap.size ≤ w12.heap.size := hb.size
    have R0_12 := R0_11.kept hb
    have M_12 := M_11.kept hb
    have As10_12 := As10.kept hb
    go_wp2_with fail
    refine (eqIntS_same _ _ ys _ R2.sl R0_12.sl hy).mono ?_
    rintro e w13 ⟨rfl, hb⟩
    have B13 := bel_step B12 hb
    have hz13 : w12.heap.size ≤ w13.heap.size := hb.size
    have R0_13 := R0_12.kept hb
    have M_13 := M_12.kept hb
    have R2_13 := R2.kept hb
    go_wp2_with fail
    refine (heldIntS_one _ ys.length _ _ M_13 hy).mono ?_
    rintro e w' ⟨rfl, rfl⟩
    go_wp2_with fail
    go_ret
    exact ⟨rfl, B13⟩


set_option maxHeartbeats 1600000 in
theorem walk_FnExactExactComb (w : World) (u_s : Option Addr) (l_s c_s : Nat) (z_s : List Int) (hr_s : IsRow .i64 w u_s l_s c_s z_s) (st : Int) (w_st : (Lit.int .i64 st).wf = true) (r : Int) (w_r : (Lit.int .i64 r).wf = true) :
    Calls Try.prog 6 #[.slice u_s l_s c_s, .int .i64 st, .int .i64 r] w fun e w' => e = .returned (.bool true) ∧ Below w.heap.size w w' := by
  obtain ⟨hs_s, hlen_s, hin_s⟩ := hr_s.sl
  generalize z_s.take l_s = s at hs_s hlen_s hin_s
  clear hr_s
  obtain ⟨st_1, st_2⟩ := bounds_i64 w_st
  obtain ⟨r_1, r_2⟩ := bounds_i64 w_r
  by_cases hbig_s : 1048576 < l_s
  · clear hs_s hlen_s hin_s
    go_enter Try.func6, Try.ntmps6
    go_wp2
    go_ret
    exact ⟨rfl, Below.refl _ _⟩
  · have hq_s : l_s ≤ 1048576 := by omega
    exact gen_FnExactExactComb s st r _ _ _ _ _ w hs_s (by omega) (by omega) ec_len (fun w v_s h_s => spec_ExactComb_any v_s s st r w h_s) (fun w v_s h_s => impl_ExactComb_any v_s s st r w h_s)


set_option maxHeartbeats 1600000 in
theorem gen_FnExactExactRise (s : List Int) (st : Int) (r : Int) (u_s : Option Addr) (l_s c_s : Nat) (ys : List Int) (ok : Bool) (w : World) (hs_s : Sl w (.slice u_s l_s c_s) s) (ll_s : l_s ≤ 1048576) (hl_s : s.length ≤ 1048576) (hy : ys.length ≤ 2000000) (hspec : ∀ (w : World) (v_s : Value), Sl w v_s s → Calls Try.prog 20 #[v_s, .int .i64 st, .int .i64 r] w (Gives w ys ok)) (himpl : ∀ (w : World) (v_s : Value), Sl w v_s s → Calls Try.prog 21 #[v_s, .int .i64 st, .int .i64 r] w (Gives w ys ok)) :
    Calls Try.prog 7 #[.slice u_s l_s c_s, .int .i64 st, .int .i64 r] w fun e w' => e = .returned (.bool true) ∧ Below w.heap.size w w' := by
  have HSs := hid hs_s
  clear hs_s
  have HSP := hid hspec
  have HIM := hid himpl
  clear hspec himpl
  all_goals cases ok
  all_goals
    go_enter Try.func7, Try.ntmps7
    go_wp2_with fail
    refine (toIntS_any _ s _ HSs.out (by omega)).mono ?_
    rintro e w1 ⟨g_As0, hg_As0, rfl, K_As0, hb⟩
    have B1 := hb
    have hz1 : w.heap.size ≤ w1.heap.size := by first | exact hb.size | (have := hb.size; simp at this; omega)
    have As0 := K_As0.res hg_As0
    go_wp2_with fail
    refine (HSP.out _ _ As0.sl).mono ?_
    rintro e w2 ⟨v_R0, rfl, R0, hb⟩
    have B2 := bel_step B1 hb
    have hz2 : w1.heap.size ≤ w2.heap.size := hb.size
    have As0_2 := As0.kept hb
    have hlt0 : ∀ g, v_R0.ownBlock = some g → g < w2.heap.size := fun g hg => R0.lt hg
    have Hlt0 := hid hlt0
    clear hlt0
    go_wp2_with fail
    refine (toIntS_any _ s _ (HSs.out.kept B2) (by omega)).mono ?_
    rintro e w3 ⟨g_Xs, hg_Xs, rfl, K_Xs, hb⟩
    have B3 := bel_step B2 hb
    have hz3 : w2.heap.size ≤ w3.heap.size := hb.size
    have R0_3 := R0.kept hb
    have Xs := K_Xs.res hg_Xs
    have hlt_Xs := K_Xs.lt
    have hne_Xs : ∀ g, v_R0.ownBlock = some g → g ≠ g_Xs := fun g hg => by have a1 := Hlt0.out g hg; omega
    have Hne_Xs := hid hne_Xs
    clear hne_Xs
    have hxl_Xs : g_Xs < w3.heap.size := Xs.lt rfl
    go_wp2_with fail
    refine (HIM.out _ _ Xs.sl).mono ?_
    rintro e w4 ⟨v_R1, rfl, R1, hb⟩
    have B4 := bel_step B3 hb
    have hz4 : w3.heap.size ≤ w4.heap.size := hb.size
    have R0_4 := R0_3.kept hb
    have Xs_4 := Xs.kept hb
    have hne1_Xs : ∀ g, v_R1.ownBlock = some g → g ≠ g_Xs := fun g hg => by have a1 := R1.ge hg; omega
    have Hne1_Xs := hid hne1_Xs
    clear hne1_Xs
    have hne01 : ∀ g, v_R0.ownBlock = some g → v_R1.ownBlock ≠ some g := fun g hg e => by have a1 := R1.ge e; have a2 := Hlt0.out g hg; omega
    have Hne01 := hid hne01
    clear hne01
    have hge1 : ∀ g, v_R1.ownBlock = some g → w3.heap.size ≤ g := fun g hg => R1.ge hg
    have Hge1 := hid hge1
    clear hge1
    go_wp2_with fail
    refine (eqIntS_same _ _ ys _ R1.sl R0_4.sl hy).mono ?_
    rintro e w5 ⟨rfl, hb⟩
    have B5 := bel_step B4 hb
    have hz5 : w4.heap.size ≤ w5.heap.size := hb.size
    have R0_5 := R0_4.kept hb
    have Xs_5 := Xs_4.kept hb
    have R1_5 := R1.kept hb
    go_wp2_with fail
    refine (toIntS_any _ s _ (HSs.out.kept B5) (by omega)).mono ?_
    rintro e w6 ⟨g_TXs, hg_TXs, rfl, K_TXs, hb⟩
    have B6 := bel_step B5 hb
    have hz6 : w5.heap.size ≤ w6.heap.size := hb.size
    have R0_6 := R0_5.kept hb
    have Xs_6 := Xs_5.kept hb
    have R1_6 := R1_5.kept hb
    have TXs := K_TXs.res hg_TXs
    go_wp2_with fail
    refine (eqIntS_same _ _ s _ Xs_6.sl TXs.sl (by omega)).mono ?_
    rintro e w7 ⟨rfl, hb⟩
    have B7 := bel_step B6 hb
    have hz7 : w6.heap.size ≤ w7.heap.size := hb.size
    have R0_7 := R0_6.kept hb
    have Xs_7 := Xs_6.kept hb
    have R1_7 := R1_6.kept hb
    have TXs_7 := TXs.kept hb
    go_wp2_with fail
    refine (markIntS_one _ s _ _ Xs_7 (by omega)).mono ?_
    rintro e w8 ⟨rfl, ho, _⟩
    have B8 := B7.trans (ho.below fun g hg => by cases hg; exact Nat.le_trans B2.size hg_Xs)
    have hz8 : w7.heap.size ≤ w8.heap.size := Nat.le_of_eq ho.size.symm
    have R0_8 := R0_7.only ho fun g hg e => by cases e; exact Hne_Xs.out _ hg rfl
    have R1_8 := R1_7.only ho fun g hg e => by cases e; exact Hne1_Xs.out _ hg rfl
    go_wp2_with fail
    refine (eqIntS_same _ _ ys _ R1_8.sl R0_8.sl hy).mono ?_
    rintro e w9 ⟨rfl, hb⟩
    have B9 := bel_step B8 hb
    have hz9 : w8.heap.size ≤ w9.heap.size := hb.size
    have R0_9 := R0_8.kept hb
    have R1_9 := R1_8.kept hb
    go_wp2_with fail
    refine (markIntS_one _ ys _ _ R1_9 hy).mono ?_
    rintro e w10 ⟨rfl, ho, M⟩
    have B10 := B9.trans (ho.below fun g hg => Nat.le_trans B3.size (Hge1.out g hg))
    have hz10 : w9.heap.size ≤ w10.heap.size := Nat.le_of_eq ho.size.symm
    have R0_10 := R0_9.only ho Hne01.out
    go_wp2_with fail
    refine (heldIntS_one _ ys.length _ _ M hy).mono ?_
    rintro e w' ⟨rfl, rfl⟩
    go_wp2_with fail
    refine (toIntS_any _ s _ (HSs.out.kept B10) (by omega)).mono ?_
    rintro e w11 ⟨g_As10, hg_As10, rfl, K_As10, hb⟩
    have B11 := bel_step B10 hb
    have hz11 : w10.heap.size ≤ w11.heap.size := hb.size
    have R0_11 := R0_10.kept hb
    have M_11 := M.kept hb
    have As10 := K_As10.res hg_As10
    go_wp2_with fail
    refine (HIM.out _ _ As10.sl).mono ?_
    rintro e w12 ⟨v_R2, rfl, R2, hb⟩
    have B12 := bel_step B11 hb
    have hz12 : w11.heap.size ≤ w12.heap.size := hb.size
    have R0_12 := R0_11.kept hb
    have M_12 := M_11.kept hb
    have As10_12 := As10.kept hb
    go_wp2_with fail
    refine (eqIntS_same _ _ ys _ R2.sl R0_12.sl hy).mono ?_
    rintro e w13 ⟨rfl, hb⟩
    have B13 := bel_step B12 hb
    have hz13 : w12.heap.size ≤ w13.heap.size := hb.size
    have R0_13 := R0_12.kept hb
    have M_13 := M_12.kept hb
    have R2_13 := R2.kept hb
    go_wp2_with fail
    refine (heldIntS_one _ ys.length _ _ M_13 hy).mono ?_
    rintro e w' ⟨rfl, rfl⟩
    go_wp2_with fail
    go_ret
    exact ⟨rfl, B13⟩


set_option maxHeartbeats 1600000 in
theorem walk_FnExactExactRise (w : World) (u_s : Option Addr) (l_s c_s : Nat) (z_s : List Int) (hr_s : IsRow .i64 w u_s l_s c_s z_s) (st : Int) (w_st : (Lit.int .i64 st).wf = true) (r : Int) (w_r : (Lit.int .i64 r).wf = true) :
    Calls Try.prog 7 #[.slice u_s l_s c_s, .int .i64 st, .int .i64 r] w fun e w' => e = .returned (.bool true) ∧ Below w.heap.size w w' := by
  obtain ⟨hs_s, hlen_s, hin_s⟩ := hr_s.sl
  generalize z_s.take l_s = s at hs_s hlen_s hin_s
  clear hr_s
  obtain ⟨st_1, st_2⟩ := bounds_i64 w_st
  obtain ⟨r_1, r_2⟩ := bounds_i64 w_r
  by_cases hbig_s : 1048576 < l_s
  · clear hs_s hlen_s hin_s
    go_enter Try.func7, Try.ntmps7
    go_wp2
    go_ret
    exact ⟨rfl, Below.refl _ _⟩
  · have hq_s : l_s ≤ 1048576 := by omega
    exact gen_FnExactExactRise s st r _ _ _ _ _ w hs_s (by omega) (by omega) er_len (fun w v_s h_s => spec_ExactRise_any v_s s st r w h_s) (fun w v_s h_s => impl_ExactRise_any v_s s st r w h_s)

end Go.Proofs.Ytfbgmbbckiefoaa
