
import Derived.Test.YtfbgmbbckiefoaaEg
namespace Go.Proofs.Ytfbgmbbckiefoaa
open Go.RowKit BitX Go.MemX Go.Ch6
set_option linter.unusedVariables false

def onB {α : Type} (b : Bool) (x y : α) : α := match b with | true => x | false => y

set_option maxHeartbeats 400000 in
theorem wdIf_is (v : Value) (ys : List Int) (b : Bool) (w : World) (hs : Sl w v ys) (h : sigB ys = b) :
    Calls Try.prog 28 #[v] w fun e w' => e = .returned (.tuple #[onB b v (.slice none 0 0), .bool b]) ∧ w = w' := by
  have H := hid h
  clear h
  have HS := hid hs
  clear hs
  cases b
  · go_enter Try.func28, Try.ntmps28
    go_wp2_with fail
    refine (wdSignal_is _ ys false _ HS.out H.out).mono ?_
    rintro e w' ⟨rfl, rfl⟩
    go_wp2
    go_ret2
    exact ⟨rfl, rfl⟩
  · go_enter Try.func28, Try.ntmps28
    go_wp2_with fail
    refine (wdSignal_is _ ys true _ HS.out H.out).mono ?_
    rintro e w' ⟨rfl, rfl⟩
    go_wp2
    go_ret2
    exact ⟨rfl, rfl⟩


set_option maxHeartbeats 400000 in
theorem onlySignal_is (v : Value) (ys : List Int) (b : Bool) (w : World) (hs : Sl w v ys) (h : sigB ys = b) :
    Calls Try.prog 30 #[v] w fun e w' => e = .returned (.tuple #[onB b v (.slice none 0 0), .bool b]) ∧ w = w' := by
  have H := hid h
  clear h
  have HS := hid hs
  clear hs
  cases b
  · go_enter Try.func30, Try.ntmps30
    go_wp2_with fail
    refine (impl_IsSignal_is _ ys false _ HS.out H.out).mono ?_
    rintro e w' ⟨rfl, rfl⟩
    go_wp2
    go_ret2
    exact ⟨rfl, rfl⟩
  · go_enter Try.func30, Try.ntmps30
    go_wp2_with fail
    refine (impl_IsSignal_is _ ys true _ HS.out H.out).mono ?_
    rintro e w' ⟨rfl, rfl⟩
    go_wp2
    go_ret2
    exact ⟨rfl, rfl⟩




theorem gives_if {w w' : World} {v : Value} {ys : List Int} {b q : Bool} (h : b = q) (hv : Res 3 w.heap.size w' v ys) (hb : Below w.heap.size w w') : Gives w (onL b ys) b (.returned (.tuple #[onB q v (.slice none 0 0), .bool q])) w' := by
  subst h
  cases b
  · exact ⟨_, rfl, .inl ⟨rfl, rfl⟩, hb⟩
  · exact ⟨_, rfl, hv, hb⟩
theorem and3_f1 {b c : Bool} : (false && (b && c)) = false := rfl
def raB (r : Int) : Bool := decide (1 ≤ r ∧ r ≤ 8)
def dsB (s : List Int) (r f : Int) : Bool := sigB s && (raB r && decide (0 ≤ f ∧ f ≤ r - 1))
def szB (s : List Int) (r : Int) : Bool := (sigB s && raB r) && sigB (stuffL r.toNat s)
theorem raB_t {r : Int} (h : raB r = true) : 1 ≤ r ∧ r ≤ 8 := of_decide_eq_true h
theorem szB_n1 {s : List Int} {r : Int} (h : sigB s = false) : szB s r = false := by unfold szB; rw [h]; rfl
theorem szB_n2 {s : List Int} {r : Int} (h : raB r = false) : szB s r = false := by unfold szB; rw [h]; cases sigB s <;> rfl
theorem szB_g {s : List Int} {r : Int} (h1 : sigB s = true) (h2 : raB r = true) : szB s r = sigB (stuffL r.toNat s) := by unfold szB; rw [h1, h2]; rfl
theorem dsB_n1 {s : List Int} {r f : Int} (h : sigB s = false) : dsB s r f = false := by unfold dsB; rw [h]; rfl
theorem dsB_n2 {s : List Int} {r f : Int} (h : raB r = false) : dsB s r f = false := by unfold dsB; rw [h]; cases sigB s <;> rfl
theorem dsB_n3 {s : List Int} {r f : Int} (h : decide (0 ≤ f ∧ f ≤ r - 1) = false) : dsB s r f = false := by unfold dsB; rw [h]; cases sigB s <;> cases raB r <;> rfl
theorem dsB_g {s : List Int} {r f : Int} (h1 : sigB s = true) (h2 : raB r = true) (h3 : decide (0 ≤ f ∧ f ≤ r - 1) = true) : dsB s r f = true := by unfold dsB; rw [h1, h2, h3]; rfl


set_option maxHeartbeats 1000000 in
theorem spec_DropSamples_any (v : Value) (s : List Int) (r f : Int) (w : World) (hs : Sl w v s) :
    Calls Try.prog 8 #[v, .int .i64 r, .int .i64 f] w (Gives w (onL (dsB s r f) (dropL r.toNat f.toNat s)) (dsB s r f)) := by
  have HS := hid hs
  clear hs
  cases h0 : sigB s
  · have HB0 := hid h0
    clear h0
    go_enter Try.func8, Try.ntmps8
    go_wp2_with fail
    refine (wdSignal_is _ s false _ HS.out HB0.out).mono ?_
    rintro e w' ⟨rfl, rfl⟩
    go_wp2_with fail
    go_ret2
    exact gives_no (dsB_n1 HB0.out) (Below.refl _ _)
  · have HB0 := hid h0
    clear h0
    cases h1 : raB r
    · have HB1 := hid h1
      clear h1
      go_enter Try.func8, Try.ntmps8
      go_wp2_with fail
      refine (wdSignal_is _ s true _ HS.out HB0.out).mono ?_
      rintro e w' ⟨rfl, rfl⟩
      go_wp2_with fail
      refine (l1In_is _ _ _ false _ HB1.out).mono ?_
      rintro e w' ⟨rfl, rfl⟩
      go_wp2_with fail
      go_ret2
      exact gives_no (dsB_n2 HB1.out) (Below.refl _ _)
    · have HB1 := hid h1
      clear h1
      obtain ⟨r1, r2⟩ := raB_t HB1.out
      cases h2 : decide (0 ≤ f ∧ f ≤ r - 1)
      · have HB2 := hid h2
        clear h2
        go_enter Try.func8, Try.ntmps8
        go_wp2_with fail
        refine (wdSignal_is _ s true _ HS.out HB0.out).mono ?_
        rintro e w' ⟨rfl, rfl⟩
        go_wp2_with fail
        refine (l1In_is _ _ _ true _ HB1.out).mono ?_
        rintro e w' ⟨rfl, rfl⟩
        go_wp2_with fail
        refine (l1In_is _ _ _ false _ HB2.out).mono ?_
        rintro e w' ⟨rfl, rfl⟩
        go_wp2_with fail
        go_ret2
        exact gives_no (dsB_n3 HB2.out) (Below.refl _ _)
      · have HB2 := hid h2
        clear h2
        have HT := hid (dsB_g HB0.out HB1.out HB2.out)
        obtain ⟨r1, r2⟩ := raB_t HB1.out
        obtain ⟨q, rfl⟩ : ∃ q : Nat, r = q := ⟨r.toNat, by omega⟩
        have q1 : 1 ≤ q := by omega
        have q2 : q ≤ 8 := by omega
        have HL := hid (sigB_t HB0.out).1
        obtain ⟨f1, f2⟩ := of_decide_eq_true HB2.out
        obtain ⟨g, rfl⟩ : ∃ g : Nat, f = g := ⟨f.toNat, by omega⟩
        have g1 : g ≤ 8 := by omega
        go_enter Try.func8, Try.ntmps8
        go_wp2_with fail
        refine (wdSignal_is _ s true _ HS.out HB0.out).mono ?_
        rintro e w' ⟨rfl, rfl⟩
        go_wp2_with fail
        refine (l1In_is _ _ _ true _ HB1.out).mono ?_
        rintro e w' ⟨rfl, rfl⟩
        go_wp2_with fail
        refine (l1In_is _ _ _ true _ HB2.out).mono ?_
        rintro e w' ⟨rfl, rfl⟩
        go_wp2_with fail
        refine (cbDrop_any _ s q g _ HS.out HL.out q1 q2 g1).mono ?_
        rintro e w1 ⟨v_R, rfl, R, hb⟩
        have B1 := hb
        go_wp2_with fail
        go_ret2
        exact gives_yes HT.out R B1


set_option maxHeartbeats 1000000 in
theorem impl_DropSamples_any (v : Value) (s : List Int) (r f : Int) (w : World) (hs : Sl w v s) :
    Calls Try.prog 10 #[v, .int .i64 r, .int .i64 f] w (Gives w (onL (dsB s r f) (dropL r.toNat f.toNat s)) (dsB s r f)) := by
  have HS := hid hs
  clear hs
  cases h0 : sigB s
  · have HB0 := hid h0
    clear h0
    go_enter Try.func10, Try.ntmps10
    go_wp2_with fail
    refine (impl_IsSignal_is _ s false _ HS.out HB0.out).mono ?_
    rintro e w' ⟨rfl, rfl⟩
    go_wp2_with fail
    go_ret2
    exact gives_no (dsB_n1 HB0.out) (Below.refl _ _)
  · have HB0 := hid h0
    clear h0
    cases h1 : raB r
    · have HB1 := hid h1
      clear h1
      go_enter Try.func10, Try.ntmps10
      go_wp2_with fail
      refine (impl_IsSignal_is _ s true _ HS.out HB0.out).mono ?_
      rintro e w' ⟨rfl, rfl⟩
      go_wp2_with fail
      refine (isRate_is _ false _ HB1.out).mono ?_
      rintro e w' ⟨rfl, rfl⟩
      go_wp2_with fail
      go_ret2
      exact gives_no (dsB_n2 HB1.out) (Below.refl _ _)
    · have HB1 := hid h1
      clear h1
      by_cases hlo : f < 0
      · have HN := hid (show dsB s r f = false from dsB_n3 (decide_eq_false (by omega)))
        go_enter Try.func10, Try.ntmps10
        go_wp2_with fail
        refine (impl_IsSignal_is _ s true _ HS.out HB0.out).mono ?_
        rintro e w' ⟨rfl, rfl⟩
        go_wp2_with fail
        refine (isRate_is _ true _ HB1.out).mono ?_
        rintro e w' ⟨rfl, rfl⟩
        go_wp2_with fail
        go_ret2
        exact gives_no HN.out (Below.refl _ _)
      · by_cases hhi : r ≤ f
        · have HN := hid (show dsB s r f = false from dsB_n3 (decide_eq_false (by omega)))
          have hlo2 : 0 ≤ f := by omega
          clear hlo
          go_enter Try.func10, Try.ntmps10
          go_wp2_with fail
          refine (impl_IsSignal_is _ s true _ HS.out HB0.out).mono ?_
          rintro e w' ⟨rfl, rfl⟩
          go_wp2_with fail
          refine (isRate_is _ true _ HB1.out).mono ?_
          rintro e w' ⟨rfl, rfl⟩
          go_wp2_with fail
          go_ret2
          exact gives_no HN.out (Below.refl _ _)
        · have HB2 := hid (show decide (0 ≤ f ∧ f ≤ r - 1) = true from decide_eq_true (by omega))
          have hlo2 : 0 ≤ f := by omega
          have hhi2 : f < r := by omega
          clear hlo hhi
          have HT := hid (dsB_g HB0.out HB1.out HB2.out)
          obtain ⟨r1, r2⟩ := raB_t HB1.out
          obtain ⟨q, rfl⟩ : ∃ q : Nat, r = q := ⟨r.toNat, by omega⟩
          have q1 : 1 ≤ q := by omega
          have q2 : q ≤ 8 := by omega
          have HL := hid (sigB_t HB0.out).1
          obtain ⟨f1, f2⟩ := of_decide_eq_true HB2.out
          obtain ⟨g, rfl⟩ : ∃ g : Nat, f = g := ⟨f.toNat, by omega⟩
          have g1 : g ≤ 8 := by omega
          go_enter Try.func10, Try.ntmps10
          go_wp2_with fail
          refine (impl_IsSignal_is _ s true _ HS.out HB0.out).mono ?_
          rintro e w' ⟨rfl, rfl⟩
          go_wp2_with fail
          refine (isRate_is _ true _ HB1.out).mono ?_
          rintro e w' ⟨rfl, rfl⟩
          go_wp2_with fail
          refine (dropFrom_any _ s q g _ HS.out HL.out q1 q2 g1).mono ?_
          rintro e w1 ⟨v_R, rfl, R, hb⟩
          have B1 := hb
          go_wp2_with fail
          go_ret2
          exact gives_yes HT.out R B1


set_option maxHeartbeats 1000000 in
theorem spec_StuffZeros_any (v : Value) (s : List Int) (r : Int) (w : World) (hs : Sl w v s) :
    Calls Try.prog 14 #[v, .int .i64 r] w (Gives w (onL (szB s r) (stuffL r.toNat s)) (szB s r)) := by
  have HS := hid hs
  clear hs
  cases h0 : sigB s
  · have HB0 := hid h0
    clear h0
    go_enter Try.func14, Try.ntmps14
    go_wp2_with fail
    refine (wdSignal_is _ s false _ HS.out HB0.out).mono ?_
    rintro e w' ⟨rfl, rfl⟩
    go_wp2_with fail
    go_ret2
    exact gives_no (szB_n1 HB0.out) (Below.refl _ _)
  · have HB0 := hid h0
    clear h0
    cases h1 : raB r
    · have HB1 := hid h1
      clear h1
      go_enter Try.func14, Try.ntmps14
      go_wp2_with fail
      refine (wdSignal_is _ s true _ HS.out HB0.out).mono ?_
      rintro e w' ⟨rfl, rfl⟩
      go_wp2_with fail
      refine (l1In_is _ _ _ false _ HB1.out).mono ?_
      rintro e w' ⟨rfl, rfl⟩
      go_wp2_with fail
      go_ret2
      exact gives_no (szB_n2 HB1.out) (Below.refl _ _)
    · have HB1 := hid h1
      clear h1
      have HT := hid (szB_g HB0.out HB1.out)
      obtain ⟨r1, r2⟩ := raB_t HB1.out
      obtain ⟨q, rfl⟩ : ∃ q : Nat, r = q := ⟨r.toNat, by omega⟩
      have q1 : 1 ≤ q := by omega
      have q2 : q ≤ 8 := by omega
      have HL := hid (sigB_t HB0.out).1
      go_enter Try.func14, Try.ntmps14
      go_wp2_with fail
      refine (wdSignal_is _ s true _ HS.out HB0.out).mono ?_
      rintro e w' ⟨rfl, rfl⟩
      go_wp2_with fail
      refine (l1In_is _ _ _ true _ HB1.out).mono ?_
      rintro e w' ⟨rfl, rfl⟩
      go_wp2_with fail
      refine (cbStuff_any _ s q _ HS.out HL.out q1 q2).mono ?_
      rintro e w1 ⟨v_R, rfl, R, hb⟩
      have B1 := hb
      go_wp2_with fail
      refine (wdIf_is _ (stuffL q s) (sigB (stuffL q s)) _ R.sl rfl).mono ?_
      rintro e w' ⟨rfl, rfl⟩
      go_wp2_with fail
      go_ret2
      exact gives_if HT.out R B1


set_option maxHeartbeats 1000000 in
theorem impl_StuffZeros_any (v : Value) (s : List Int) (r : Int) (w : World) (hs : Sl w v s) :
    Calls Try.prog 15 #[v, .int .i64 r] w (Gives w (onL (szB s r) (stuffL r.toNat s)) (szB s r)) := by
  have HS := hid hs
  clear hs
  cases h0 : sigB s
  · have HB0 := hid h0
    clear h0
    go_enter Try.func15, Try.ntmps15
    go_wp2_with fail
    refine (impl_IsSignal_is _ s false _ HS.out HB0.out).mono ?_
    rintro e w' ⟨rfl, rfl⟩
    go_wp2_with fail
    go_ret2
    exact gives_no (szB_n1 HB0.out) (Below.refl _ _)
  · have HB0 := hid h0
    clear h0
    cases h1 : raB r
    · have HB1 := hid h1
      clear h1
      go_enter Try.func15, Try.ntmps15
      go_wp2_with fail
      refine (impl_IsSignal_is _ s true _ HS.out HB0.out).mono ?_
      rintro e w' ⟨rfl, rfl⟩
      go_wp2_with fail
      refine (isRate_is _ false _ HB1.out).mono ?_
      rintro e w' ⟨rfl, rfl⟩
      go_wp2_with fail
      go_ret2
      exact gives_no (szB_n2 HB1.out) (Below.refl _ _)
    · have HB1 := hid h1
      clear h1
      have HT := hid (szB_g HB0.out HB1.out)
      obtain ⟨r1, r2⟩ := raB_t HB1.out
      obtain ⟨q, rfl⟩ : ∃ q : Nat, r = q := ⟨r.toNat, by omega⟩
      have q1 : 1 ≤ q := by omega
      have q2 : q ≤ 8 := by omega
      have HL := hid (sigB_t HB0.out).1
      go_enter Try.func15, Try.ntmps15
      go_wp2_with fail
      refine (impl_IsSignal_is _ s true _ HS.out HB0.out).mono ?_
      rintro e w' ⟨rfl, rfl⟩
      go_wp2_with fail
      refine (isRate_is _ true _ HB1.out).mono ?_
      rintro e w' ⟨rfl, rfl⟩
      go_wp2_with fail
      refine (stuffWithZeros_any _ s q _ HS.out HL.out q1 q2).mono ?_
      rintro e w1 ⟨v_R, rfl, R, hb⟩
      have B1 := hb
      go_wp2_with fail
      refine (onlySignal_is _ (stuffL q s) (sigB (stuffL q s)) _ R.sl rfl).mono ?_
      rintro e w' ⟨rfl, rfl⟩
      go_wp2_with fail
      go_ret2
      exact gives_if HT.out R B1


theorem ds_len {s : List Int} {r f : Int} (hl : s.length ≤ 1048576) : (onL (dsB s r f) (dropL r.toNat f.toNat s)).length ≤ 2000000 := onL_len fun h => by
  have hr : 1 ≤ r.toNat := by
    unfold dsB at h
    simp only [Bool.and_eq_true] at h
    have := raB_t h.2.1; omega
  have := dropL_le r.toNat f.toNat s hr
  omega
theorem sz_len {s : List Int} {r : Int} : (onL (szB s r) (stuffL r.toNat s)).length ≤ 2000000 := onL_len fun h => by
  unfold szB at h
  simp only [Bool.and_eq_true] at h
  have := (sigB_t h.2).1; omega


set_option maxHeartbeats 1600000 in
theorem gen_FnExactDropSamples (s : List Int) (r : Int) (f : Int) (u_s : Option Addr) (l_s c_s : Nat) (ys : List Int) (ok : Bool) (w : World) (hs_s : Sl w (.slice u_s l_s c_s) s) (ll_s : l_s ≤ 1048576) (hl_s : s.length ≤ 1048576) (hy : ys.length ≤ 2000000) (hspec : ∀ (w : World) (v_s : Value), Sl w v_s s → Calls Try.prog 8 #[v_s, .int .i64 r, .int .i64 f] w (Gives w ys ok)) (himpl : ∀ (w : World) (v_s : Value), Sl w v_s s → Calls Try.prog 10 #[v_s, .int .i64 r, .int .i64 f] w (Gives w ys ok)) :
    Calls Try.prog 3 #[.slice u_s l_s c_s, .int .i64 r, .int .i64 f] w fun e w' => e = .returned (.bool true) ∧ Below w.heap.size w w' := by
  have HSs := hid hs_s
  clear hs_s
  have HSP := hid hspec
  have HIM := hid himpl
  clear hspec himpl
  all_goals cases ok
  all_goals
    go_enter Try.func3, Try.ntmps3
    go_wp2_with fail
    refine (toIntS_any _ s _ HSs.out (by omega)).mono ?_
    rintro e w1 ⟨g_As0, hg_As0, rfl, K_As0, hb⟩
    have B1 := hb
    have hz1 : w.heap.size ≤ w1.heap.size := by first | exact hb.size | (have := hb.size; simp at this; omega)
    have As0 := K_As0.res hg_As0
    go_wp2_with fail
    refine (HSP.out _ _ As0.sl).mono ?_
    rintro e w2 ⟨v_R0, rfl, R0, hb⟩
    have B2 := bel_step B1 hb
    have hz2 : w1.heap.size ≤ w2.heap.size := hb.size
    have As0_2 := As0.kept hb
    have hlt0 : ∀ g, v_R0.ownBlock = some g → g < w2.heap.size := fun g hg => R0.lt hg
    have Hlt0 := hid hlt0
    clear hlt0
    go_wp2_with fail
    refine (toIntS_any _ s _ (HSs.out.kept B2) (by omega)).mono ?_
    rintro e w3 ⟨g_Xs, hg_Xs, rfl, K_Xs, hb⟩
    have B3 := bel_step B2 hb
    have hz3 : w2.heap.size ≤ w3.heap.size := hb.size
    have R0_3 := R0.kept hb
    have Xs := K_Xs.res hg_Xs
    have hlt_Xs := K_Xs.lt
    have hne_Xs : ∀ g, v_R0.ownBlock = some g → g ≠ g_Xs := fun g hg => by have a1 := Hlt0.out g hg; omega
    have Hne_Xs := hid hne_Xs
    clear hne_Xs
    have hxl_Xs : g_Xs < w3.heap.size := Xs.lt rfl
    go_wp2_with fail
    refine (HIM.out _ _ Xs.sl).mono ?_
    rintro e w4 ⟨v_R1, rfl, R1, hb⟩
    have B4 := bel_step B3 hb
    have hz4 : w3.heap.size ≤ w4.heap.size := hb.size
    have R0_4 := R0_3.kept hb
    have Xs_4 := Xs.kept hb
    have hne1_Xs : ∀ g, v_R1.ownBlock = some g → g ≠ g_Xs := fun g hg => by have a1 := R1.ge hg; omega
    have Hne1_Xs := hid hne1_Xs
    clear hne1_Xs
    have hne01 : ∀ g, v_R0.ownBlock = some g → v_R1.ownBlock ≠ some g := fun g hg e => by have a1 := R1.ge e; have a2 := Hlt0.out g hg; omega
    have Hne01 := hid hne01
    clear hne01
    have hge1 : ∀ g, v_R1.ownBlock = some g → w3.heap.size ≤ g := fun g hg => R1.ge hg
    have Hge1 := hid hge1
    clear hge1
    go_wp2_with fail
    refine (eqIntS_same _ _ ys _ R1.sl R0_4.sl hy).mono ?_
    rintro e w5 ⟨rfl, hb⟩
    have B5 := bel_step B4 hb
    have hz5 : w4.heap.size ≤ w5.heap.size := hb.size
    have R0_5 := R0_4.kept hb
    have Xs_5 := Xs_4.kept hb
    have R1_5 := R1.kept hb
    go_wp2_with fail
    refine (toIntS_any _ s _ (HSs.out.kept B5) (by omega)).mono ?_
    rintro e w6 ⟨g_TXs, hg_TXs, rfl, K_TXs, hb⟩
    have B6 := bel_step B5 hb
    have hz6 : w5.heap.size ≤ w6.heap.size := hb.size
    have R0_6 := R0_5.kept hb
    have Xs_6 := Xs_5.kept hb
    have R1_6 := R1_5.kept hb
    have TXs := K_TXs.res hg_TXs
    go_wp2_with fail
    refine (eqIntS_same _ _ s _ Xs_6.sl TXs.sl (by omega)).mono ?_
    rintro e w7 ⟨rfl, hb⟩
    have B7 := bel_step B6 hb
    have hz7 : w6.heap.size ≤ w7.heap.size := hb.size
    have R0_7 := R0_6.kept hb
    have Xs_7 := Xs_6.kept hb
    have R1_7 := R1_6.kept hb
    have TXs_7 := TXs.kept hb
    go_wp2_with fail
    refine (markIntS_one _ s _ _ Xs_7 (by omega)).mono ?_
    rintro e w8 ⟨rfl, ho, _⟩
    have B8 := B7.trans (ho.below fun g hg => by cases hg; exact Nat.le_trans B2.size hg_Xs)
    have hz8 : w7.heap.size ≤ w8.heap.size := Nat.le_of_eq ho.size.symm
    have R0_8 := R0_7.only ho fun g hg e => by cases e; exact Hne_Xs.out _ hg rfl
    have R1_8 := R1_7.only ho fun g hg e => by cases e; exact Hne1_Xs.out _ hg rfl
    go_wp2_with fail
    refine (eqIntS_same _ _ ys _ R1_8.sl R0_8.sl hy).mono ?_
    rintro e w9 ⟨rfl, hb⟩
    have B9 := bel_step B8 hb
    have hz9 : w8.heap.size ≤ w9.heap.size := hb.size
    have R0_9 := R0_8.kept hb
    have R1_9 := R1_8.kept hb
    go_wp2_with fail
    refine (markIntS_one _ ys _ _ R1_9 hy).mono ?_
    rintro e w10 ⟨rfl, ho, M⟩
    have B10 := B9.trans (ho.below fun g hg => Nat.le_trans B3.size (Hge1.out g hg))
    have hz10 : w9.heap.size ≤ w10.heap.size := Nat.le_of_eq ho.size.symm
    have R0_10 := R0_9.only ho Hne01.out
    go_wp2_with fail
    refine (heldIntS_one _ ys.length _ _ M hy).mono ?_
    rintro e w' ⟨rfl, rfl⟩
    go_wp2_with fail
    refine (toIntS_any _ s _ (HSs.out.kept B10) (by omega)).mono ?_
    rintro e w11 ⟨g_As10, hg_As10, rfl, K_As10, hb⟩
    have B11 := bel_step B10 hb
    have hz11 : w10.heap.size ≤ w11.heap.size := hb.size
    have R0_11 := R0_10.kept hb
    have M_11 := M.kept hb
    have As10 := K_As10.res hg_As10
    go_wp2_with fail
    refine (HIM.out _ _ As10.sl).mono ?_
    rintro e w12 ⟨v_R2, rfl, R2, hb⟩
    have B12 := bel_step B11 hb
    have hz12 : w11.heap.size ≤ w12.heap.size := hb.size
    have R0_12 := R0_11.kept hb
    have M_12 := M_11.kept hb
    have As10_12 := As10.kept hb
    go_wp2_with fail
    refine (eqIntS_same _ _ ys _ R2.sl R0_12.sl hy).mono ?_
    rintro e w13 ⟨rfl, hb⟩
    have B13 := bel_step B12 hb
    have hz13 : w12.heap.size ≤ w13.heap.size := hb.size
    have R0_13 := R0_12.kept hb
    have M_13 := M_12.kept hb
    have R2_13 := R2.kept hb
    go_wp2_with fail
    refine (heldIntS_one _ ys.length _ _ M_13 hy).mono ?_
    rintro e w' ⟨rfl, rfl⟩
    go_wp2_with fail
    go_ret
    exact ⟨rfl, B13⟩


set_option maxHeartbeats 1600000 in
theorem walk_FnExactDropSamples (w : World) (u_s : Option Addr) (l_s c_s : Nat) (z_s : List Int) (hr_s : IsRow .i64 w u_s l_s c_s z_s) (r : Int) (w_r : (Lit.int .i64 r).wf = true) (f : Int) (w_f : (Lit.int .i64 f).wf = true) :
    Calls Try.prog 3 #[.slice u_s l_s c_s, .int .i64 r, .int .i64 f] w fun e w' => e = .returned (.bool true) ∧ Below w.heap.size w w' := by
  obtain ⟨hs_s, hlen_s, hin_s⟩ := hr_s.sl
  generalize z_s.take l_s = s at hs_s hlen_s hin_s
  clear hr_s
  obtain ⟨r_1, r_2⟩ := bounds_i64 w_r
  obtain ⟨f_1, f_2⟩ := bounds_i64 w_f
  by_cases hbig_s : 1048576 < l_s
  · clear hs_s hlen_s hin_s
    go_enter Try.func3, Try.ntmps3
    go_wp2
    go_ret
    exact ⟨rfl, Below.refl _ _⟩
  · have hq_s : l_s ≤ 1048576 := by omega
    exact gen_FnExactDropSamples s r f _ _ _ _ _ w hs_s (by omega) (by omega) (ds_len (by omega)) (fun w v_s h_s => spec_DropSamples_any v_s s r f w h_s) (fun w v_s h_s => impl_DropSamples_any v_s s r f w h_s)


set_option maxHeartbeats 1600000 in
theorem gen_FnExactStuffZeros (s : List Int) (r : Int) (u_s : Option Addr) (l_s c_s : Nat) (ys : List Int) (ok : Bool) (w : World) (hs_s : Sl w (.slice u_s l_s c_s) s) (ll_s : l_s ≤ 1048576) (hl_s : s.length ≤ 1048576) (hy : ys.length ≤ 2000000) (hspec : ∀ (w : World) (v_s : Value), Sl w v_s s → Calls Try.prog 14 #[v_s, .int .i64 r] w (Gives w ys ok)) (himpl : ∀ (w : World) (v_s : Value), Sl w v_s s → Calls Try.prog 15 #[v_s, .int .i64 r] w (Gives w ys ok)) :
    Calls Try.prog 4 #[.slice u_s l_s c_s, .int .i64 r] w fun e w' => e = .returned (.bool true) ∧ Below w.heap.size w w' := by
  have HSs := hid hs_s
  clear hs_s
  have HSP := hid hspec
  have HIM := hid himpl
  clear hspec himpl
  all_goals cases ok
  all_goals
    go_enter Try.func4, Try.ntmps4
    go_wp2_with fail
    refine (toIntS_any _ s _ HSs.out (by omega)).mono ?_
    rintro e w1 ⟨g_As0, hg_As0, rfl, K_As0, hb⟩
    have B1 := hb
    have hz1 : w.heap.size ≤ w1.heap.size := by first | exact hb.size | (have := hb.size; simp at this; omega)
    have As0 := K_As0.res hg_As0
    go_wp2_with fail
    refine (HSP.out _ _ As0.sl).mono ?_
    rintro e w2 ⟨v_R0, rfl, R0, hb⟩
    have B2 := bel_step B1 hb
    have hz2 : w1.heap.size ≤ w2.heap.size := hb.size
    have As0_2 := As0.kept hb
    have hlt0 : ∀ g, v_R0.ownBlock = some g → g < w2.heap.size := fun g hg => R0.lt hg
    have Hlt0 := hid hlt0
    clear hlt0
    go_wp2_with fail
    refine (toIntS_any _ s _ (HSs.out.kept B2) (by omega)).mono ?_
    rintro e w3 ⟨g_Xs, hg_Xs, rfl, K_Xs, hb⟩
    have B3 := bel_step B2 hb
    have hz3 : w2.heap.size ≤ w3.heap.size := hb.size
    have R0_3 := R0.kept hb
    have Xs := K_Xs.res hg_Xs
    have hlt_Xs := K_Xs.lt
    have hne_Xs : ∀ g, v_R0.ownBlock = some g → g ≠ g_Xs := fun g hg => by have a1 := Hlt0.out g hg; omega
    have Hne_Xs := hid hne_Xs
    clear hne_Xs
    have hxl_Xs : g_Xs < w3.heap.size := Xs.lt rfl
    go_wp2_with fail
    refine (HIM.out _ _ Xs.sl).mono ?_
    rintro e w4 ⟨v_R1, rfl, R1, hb⟩
    have B4 := bel_step B3 hb
    have hz4 : w3.heap.size ≤ w4.heap.size := hb.size
    have R0_4 := R0_3.kept hb
    have Xs_4 := Xs.kept hb
    have hne1_Xs : ∀ g, v_R1.ownBlock = some g → g ≠ g_Xs := fun g hg => by have a1 := R1.ge hg; omega
    have Hne1_Xs := hid hne1_Xs
    clear hne1_Xs
    have hne01 : ∀ g, v_R0.ownBlock = some g → v_R1.ownBlock ≠ some g := fun g hg e => by have a1 := R1.ge e; have a2 := Hlt0.out g hg; omega
    have Hne01 := hid hne01
    clear hne01
    have hge1 : ∀ g, v_R1.ownBlock = some g → w3.heap.size ≤ g := fun g hg => R1.ge hg
    have Hge1 := hid hge1
    clear hge1
    go_wp2_with fail
    refine (eqIntS_same _ _ ys _ R1.sl R0_4.sl hy).mono ?_
    rintro e w5 ⟨rfl, hb⟩
    have B5 := bel_step B4 hb
    have hz5 : w4.heap.size ≤ w5.heap.size := hb.size
    have R0_5 := R0_4.kept hb
    have Xs_5 := Xs_4.kept hb
    have R1_5 := R1.kept hb
    go_wp2_with fail
    refine (toIntS_any _ s _ (HSs.out.kept B5) (by omega)).mono ?_
    rintro e w6 ⟨g_TXs, hg_TXs, rfl, K_TXs, hb⟩
    have B6 := bel_step B5 hb
    have hz6 : w5.heap.size ≤ w6.heap.size := hb.size
    have R0_6 := R0_5.kept hb
    have Xs_6 := Xs_5.kept hb
    have R1_6 := R1_5.kept hb
    have TXs := K_TXs.res hg_TXs
    go_wp2_with fail
    refine (eqIntS_same _ _ s _ Xs_6.sl TXs.sl (by omega)).mono ?_
    rintro e w7 ⟨rfl, hb⟩
    have B7 := bel_step B6 hb
    have hz7 : w6.heap.size ≤ w7.heap.size := hb.size
    have R0_7 := R0_6.kept hb
    have Xs_7 := Xs_6.kept hb
    have R1_7 := R1_6.kept hb
    have TXs_7 := TXs.kept hb
    go_wp2_with fail
    refine (markIntS_one _ s _ _ Xs_7 (by omega)).mono ?_
    rintro e w8 ⟨rfl, ho, _⟩
    have B8 := B7.trans (ho.below fun g hg => by cases hg; exact Nat.le_trans B2.size hg_Xs)
    have hz8 : w7.heap.size ≤ w8.heap.size := Nat.le_of_eq ho.size.symm
    have R0_8 := R0_7.only ho fun g hg e => by cases e; exact Hne_Xs.out _ hg rfl
    have R1_8 := R1_7.only ho fun g hg e => by cases e; exact Hne1_Xs.out _ hg rfl
    go_wp2_with fail
    refine (eqIntS_same _ _ ys _ R1_8.sl R0_8.sl hy).mono ?_
    rintro e w9 ⟨rfl, hb⟩
    have B9 := bel_step B8 hb
    have hz9 : w8.heap.size ≤ w9.heap.size := hb.size
    have R0_9 := R0_8.kept hb
    have R1_9 := R1_8.kept hb
    go_wp2_with fail
    refine (markIntS_one _ ys _ _ R1_9 hy).mono ?_
    rintro e w10 ⟨rfl, ho, M⟩
    have B10 := B9.trans (ho.below fun g hg => Nat.le_trans B3.size (Hge1.out g hg))
    have hz10 : w9.heap.size ≤ w10.heap.size := Nat.le_of_eq ho.size.symm
    have R0_10 := R0_9.only ho Hne01.out
    go_wp2_with fail
    refine (heldIntS_one _ ys.length _ _ M hy).mono ?_
    rintro e w' ⟨rfl, rfl⟩
    go_wp2_with fail
    refine (toIntS_any _ s _ (HSs.out.kept B10) (by omega)).mono ?_
    rintro e w11 ⟨g_As10, hg_As10, rfl, K_As10, hb⟩
    have B11 := bel_step B10 hb
    have hz11 : w10.heap.size ≤ w11.heap.size := hb.size
    have R0_11 := R0_10.kept hb
    have M_11 := M.kept hb
    have As10 := K_As10.res hg_As10
    go_wp2_with fail
    refine (HIM.out _ _ As10.sl).mono ?_
    rintro e w12 ⟨v_R2, rfl, R2, hb⟩
    have B12 := bel_step B11 hb
    have hz12 : w11.heap.size ≤ w12.heap.size := hb.size
    have R0_12 := R0_11.kept hb
    have M_12 := M_11.kept hb
    have As10_12 := As10.kept hb
    go_wp2_with fail
    refine (eqIntS_same _ _ ys _ R2.sl R0_12.sl hy).mono ?_
    rintro e w13 ⟨rfl, hb⟩
    have B13 := bel_step B12 hb
    have hz13 : w12.heap.size ≤ w13.heap.size := hb.size
    have R0_13 := R0_12.kept hb
    have M_13 := M_12.kept hb
    have R2_13 := R2.kept hb
    go_wp2_with fail
    refine (heldIntS_one _ ys.length _ _ M_13 hy).mono ?_
    rintro e w' ⟨rfl, rfl⟩
    go_wp2_with fail
    go_ret
    exact ⟨rfl, B13⟩


set_option maxHeartbeats 1600000 in
theorem walk_FnExactStuffZeros (w : World) (u_s : Option Addr) (l_s c_s : Nat) (z_s : List Int) (hr_s : IsRow .i64 w u_s l_s c_s z_s) (r : Int) (w_r : (Lit.int .i64 r).wf = true) :
    Calls Try.prog 4 #[.slice u_s l_s c_s, .int .i64 r] w fun e w' => e = .returned (.bool true) ∧ Below w.heap.size w w' := by
  obtain ⟨hs_s, hlen_s, hin_s⟩ := hr_s.sl
  generalize z_s.take l_s = s at hs_s hlen_s hin_s
  clear hr_s
  obtain ⟨r_1, r_2⟩ := bounds_i64 w_r
  by_cases hbig_s : 1048576 < l_s
  · clear hs_s hlen_s hin_s
    go_enter Try.func4, Try.ntmps4
    go_wp2
    go_ret
    exact ⟨rfl, Below.refl _ _⟩
  · have hq_s : l_s ≤ 1048576 := by omega
    exact gen_FnExactStuffZeros s r _ _ _ _ _ w hs_s (by omega) (by omega) sz_len (fun w v_s h_s => spec_StuffZeros_any v_s s r w h_s) (fun w v_s h_s => impl_StuffZeros_any v_s s r w h_s)

end Go.Proofs.Ytfbgmbbckiefoaa
