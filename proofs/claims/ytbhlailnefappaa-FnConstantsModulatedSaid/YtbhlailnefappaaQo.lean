
import Derived.Test.YtbhlailnefappaaQl
import Derived.Deep.QuietTactic
import Derived.BigQuiet
namespace Go.Proofs.Ytbhlailnefappaa
open Go.RowKit BitX Go.MemX Go.ChV
set_option linter.unusedVariables false
/-- the bits 1 in a window, the most and the least of the first windows -/
def wiO (bs : List Int) (k t : Nat) : Int := onS bs (t + k) - onS bs t
def mxO (bs : List Int) (k : Nat) : Nat → Int
  | 0 => 0
  | t + 1 => mostI (mxO bs k t) (wiO bs k t)
def mnO (bs : List Int) (k : Nat) : Nat → Int
  | 0 => (k : Int)
  | t + 1 => leastI (mnO bs k t) (wiO bs k t)
theorem mxO_succ (bs : List Int) (k t : Nat) : mxO bs k (t + 1) = mostI (mxO bs k t) (wiO bs k t) := rfl
theorem mnO_succ (bs : List Int) (k t : Nat) : mnO bs k (t + 1) = leastI (mnO bs k t) (wiO bs k t) := rfl
theorem wi_in {bs : List Int} (h : BitP bs) {k t : Nat} (ht : t + k ≤ bs.length) : 0 ≤ wiO bs k t ∧ wiO bs k t ≤ k := onS_mono h t k ht
theorem mm_in {bs : List Int} (h : BitP bs) {k : Nat} (t : Nat) (ht : t + k ≤ bs.length + 1) : (0 ≤ mxO bs k t ∧ mxO bs k t ≤ k) ∧ (0 ≤ mnO bs k t ∧ mnO bs k t ≤ k) := by
  induction t with
  | zero => simp [mxO, mnO]
  | succ t ih =>
    have ih := ih (by omega)
    have hw := wi_in h (show t + k ≤ bs.length by omega)
    rw [mxO_succ, mnO_succ]
    unfold mostI leastI
    split <;> split <;> omega
def gapO (bs : List Int) (k : Nat) : Int := mxO bs k (bs.length + 1 - k) - mnO bs k (bs.length + 1 - k)
def balB (bs : List Int) : Bool := decide (∀ k, k < bs.length → gapO bs (k + 1) ≤ 1)
def isB (bs : List Int) : Bool := bitB bs && balB bs
theorem wn_wi {bs : List Int} (h : BitP bs) {k i : Nat} (hi : i + k ≤ bs.length) : wnI bs k i = 2 * wiO bs k i - k := wn_on h hi
theorem ret_bb' {a b c d : Bool} (h1 : a = b) (h2 : c = d) : Ending.returned (.tuple #[.bool a, .bool c]) = .returned (.tuple #[.bool b, .bool d]) := by rw [h1, h2]


set_option maxHeartbeats 1000000 in
theorem slMax_any (v : Value) (bs : List Int) (q : Nat) (w : World) (hs : Sl w v (wnL bs q)) (hb : BitP bs) (q1 : 1 ≤ q) (q2 : q ≤ bs.length) :
    Calls Try.prog 66 #[v] w fun e w' => e = .returned (.int .i64 (2 * mxO bs q (bs.length + 1 - q) - q)) ∧ w = w' := by
  obtain ⟨aa, m, cap, rfl, hm, hrd⟩ := hs.rd
  rw [wnL, tab_len] at hm
  have hl' : m ≤ 200 := by have := hb.1; omega
  have hm1 : 1 ≤ m := by omega
  have hq2 : q ≤ 200 := by have := hb.1; omega
  have hmn : m + q = bs.length + 1 := by omega
  have Hmn := hid hmn
  have Hrd := hid hrd
  have HB := hid hb
  have Hm := hid hm
  have hk0 : (wnL bs q)[0]? = some (wnI bs q 0) := tab_get _ _ _ (by omega)
  obtain ⟨b0, o0, hix0, hbb0, hce0⟩ := Hrd.out.at (P := Try.prog) (T := 24) m cap uslice sone hk0 (by omega)
  rw [show ((0 : Nat) : Int) = 0 from rfl] at hix0
  have hw0 := wi_in hb (k := q) (t := 0) (by omega)
  have hst0 : wnI bs q 0 = 2 * mxO bs q 1 - q := by
    rw [wn_wi hb (by omega)]
    show _ = 2 * mostI 0 (wiO bs q 0) - (q : Int)
    unfold mostI
    split <;> omega
  rw [hst0] at hce0
  clear hs hrd hb hm hmn hw0 hst0 hk0
  go_enter Try.func66, Try.ntmps66
  go_wp2_with fail
  go_loop [3, 4] (fun mm i => ∃ c : Nat, 1 ≤ c ∧ c ≤ m ∧ mm = .int .i64 (2 * mxO bs q c - q) ∧ i = .int .i64 c)
    (fun _ i => m - (intOf i).toNat)
  case atStart => exact ⟨1, by omega, by omega, rfl, rfl⟩
  case round =>
    clear hix0 hbb0 hce0
    obtain ⟨c, hc1, hc, rfl, rfl⟩ := hrel
    by_cases hlk : c < m
    · have hkx : (wnL bs q)[c]? = some (wnI bs q c) := tab_get _ _ _ (by rw [← Hm.out]; exact hlk)
      obtain ⟨bb, oo, hix, hbb, hce⟩ := Hrd.out.at (P := Try.prog) (T := 24) m cap uslice sone hkx hlk
      rw [wn_wi HB.out (by have := Hmn.out; omega)] at hce
      have hmm := mm_in HB.out (k := q) c (by have := Hmn.out; omega)
      have hwi := wi_in HB.out (k := q) (t := c) (by have := Hmn.out; omega)
      have hst := mxO_succ bs q c
      unfold mostI at hst
      generalize mxO bs q c = z at *
      generalize wiO bs q c = y at *
      have Hst := hid hst
      have z12 : 0 ≤ z ∧ z ≤ 200 := by omega
      have y12 : 0 ≤ y ∧ y ≤ 200 := by omega
      obtain ⟨z1, z2⟩ := z12
      obtain ⟨y1, y2⟩ := y12
      clear hst hkx hmm hwi
      go_wp2
      go_round
      case rel => exact ⟨c + 1, by omega, by omega, by rw [Hst.out]; exact congrArg _ (by split <;> split <;> omega), by go_num⟩
      case measure => simp [intOf]; omega
    · have hge : (m : Int) ≤ (c : Int) := by omega
      have hkn : c = bs.length + 1 - q := by have := Hmn.out; omega
      have Hk := hid hkn
      clear hkn hlk
      go_wp2
      go_ret
      exact ⟨ret_i (by rw [Hk.out]), rfl⟩


set_option maxHeartbeats 1000000 in
theorem slMin_any (v : Value) (bs : List Int) (q : Nat) (w : World) (hs : Sl w v (wnL bs q)) (hb : BitP bs) (q1 : 1 ≤ q) (q2 : q ≤ bs.length) :
    Calls Try.prog 67 #[v] w fun e w' => e = .returned (.int .i64 (2 * mnO bs q (bs.length + 1 - q) - q)) ∧ w = w' := by
  obtain ⟨aa, m, cap, rfl, hm, hrd⟩ := hs.rd
  rw [wnL, tab_len] at hm
  have hl' : m ≤ 200 := by have := hb.1; omega
  have hm1 : 1 ≤ m := by omega
  have hq2 : q ≤ 200 := by have := hb.1; omega
  have hmn : m + q = bs.length + 1 := by omega
  have Hmn := hid hmn
  have Hrd := hid hrd
  have HB := hid hb
  have Hm := hid hm
  have hk0 : (wnL bs q)[0]? = some (wnI bs q 0) := tab_get _ _ _ (by omega)
  obtain ⟨b0, o0, hix0, hbb0, hce0⟩ := Hrd.out.at (P := Try.prog) (T := 24) m cap uslice sone hk0 (by omega)
  rw [show ((0 : Nat) : Int) = 0 from rfl] at hix0
  have hw0 := wi_in hb (k := q) (t := 0) (by omega)
  have hst0 : wnI bs q 0 = 2 * mnO bs q 1 - q := by
    rw [wn_wi hb (by omega)]
    show _ = 2 * leastI (q : Int) (wiO bs q 0) - (q : Int)
    unfold leastI
    split <;> omega
  rw [hst0] at hce0
  clear hs hrd hb hm hmn hw0 hst0 hk0
  go_enter Try.func67, Try.ntmps67
  go_wp2_with fail
  go_loop [3, 4] (fun mm i => ∃ c : Nat, 1 ≤ c ∧ c ≤ m ∧ mm = .int .i64 (2 * mnO bs q c - q) ∧ i = .int .i64 c)
    (fun _ i => m - (intOf i).toNat)
  case atStart => exact ⟨1, by omega, by omega, rfl, rfl⟩
  case round =>
    clear hix0 hbb0 hce0
    obtain ⟨c, hc1, hc, rfl, rfl⟩ := hrel
    by_cases hlk : c < m
    · have hkx : (wnL bs q)[c]? = some (wnI bs q c) := tab_get _ _ _ (by rw [← Hm.out]; exact hlk)
      obtain ⟨bb, oo, hix, hbb, hce⟩ := Hrd.out.at (P := Try.prog) (T := 24) m cap uslice sone hkx hlk
      rw [wn_wi HB.out (by have := Hmn.out; omega)] at hce
      have hmm := mm_in HB.out (k := q) c (by have := Hmn.out; omega)
      have hwi := wi_in HB.out (k := q) (t := c) (by have := Hmn.out; omega)
      have hst := mnO_succ bs q c
      unfold leastI at hst
      generalize mnO bs q c = z at *
      generalize wiO bs q c = y at *
      have Hst := hid hst
      have z12 : 0 ≤ z ∧ z ≤ 200 := by omega
      have y12 : 0 ≤ y ∧ y ≤ 200 := by omega
      obtain ⟨z1, z2⟩ := z12
      obtain ⟨y1, y2⟩ := y12
      clear hst hkx hmm hwi
      go_wp2
      go_round
      case rel => exact ⟨c + 1, by omega, by omega, by rw [Hst.out]; exact congrArg _ (by split <;> split <;> omega), by go_num⟩
      case measure => simp [intOf]; omega
    · have hge : (m : Int) ≤ (c : Int) := by omega
      have hkn : c = bs.length + 1 - q := by have := Hmn.out; omega
      have Hk := hid hkn
      clear hkn hlk
      go_wp2
      go_ret
      exact ⟨ret_i (by rw [Hk.out]), rfl⟩


set_option maxHeartbeats 2000000 in
theorem impl_IsBalancedList_is (v : Value) (bs : List Int) (w : World) (hs : Sl w v bs) :
    Calls Try.prog 28 #[v] w fun e w' => e = .returned (.tuple #[.bool (isB bs), .bool (bitB bs)]) ∧ Below w.heap.size w w' := by
  cases hq : bitB bs
  · have HR := hid (show isB bs = false from by unfold isB; rw [hq]; rfl)
    have HQ := hid hq
    have HS := hid hs
    clear hq hs
    go_enter Try.func28, Try.ntmps28
    go_wp2_with fail
    refine (areBits_q v bs false _ HS.out HQ.out).mono ?_
    rintro e w' ⟨rfl, rfl⟩
    go_wp2_with fail
    go_ret2
    exact ⟨ret_bb' HR.out.symm rfl, Below.refl _ _⟩
  · have hb := bitB_t hq
    have HB := hid hb
    obtain ⟨aa, n, cap, rfl, hn, hrd⟩ := id hs.rd
    have hl' : n ≤ 200 := by rw [hn]; exact hb.1
    have Hn := hid hn
    have HS := hid hs
    have HQ := hid hq
    clear hq hs hn hrd hb
    go_enter Try.func28, Try.ntmps28
    go_wp2_with fail
    refine (areBits_q _ bs true _ HS.out HQ.out).mono ?_
    rintro e w' ⟨rfl, rfl⟩
    go_wp2_with fail
    go_loopw [4] (fun k wr => ∃ c : Nat, c ≤ n ∧ k = .int .i64 ((c : Int) + 1) ∧ Hid (∀ j, j < c → gapO bs (j + 1) ≤ 1) ∧ Below w.heap.size w wr)
      (fun k _ => (n + 1 - intOf k).toNat)
    case atStart => exact ⟨0, by omega, by simp, hid fun j hj => by omega, Below.refl _ _⟩
    case round =>
      obtain ⟨c, hc, rfl, HG, hb⟩ := hrel
      have hsz : w.heap.size ≤ wr.heap.size := hb.size
      by_cases hlk : c < n
      · have hcl : c + 1 ≤ bs.length := by rw [← Hn.out]; exact hlk
        have Hcl := hid hcl
        have hms := fun (W : World) (h : Sl W (.slice aa n cap) bs) => movingSums_any (.slice aa n cap) bs (c + 1) W h HB.out (by omega) hcl
        rw [show ((c + 1 : Nat) : Int) = (c : Int) + 1 from by omega] at hms
        have Hms := hid hms
        have hmm := mm_in HB.out (k := c + 1) (bs.length + 1 - (c + 1)) (by omega)
        obtain ⟨⟨x1, x2⟩, y1, y2⟩ := hmm
        obtain ⟨X, hX⟩ : ∃ X, X = mxO bs (c + 1) (bs.length + 1 - (c + 1)) := ⟨_, rfl⟩
        obtain ⟨Y, hY⟩ : ∃ Y, Y = mnO bs (c + 1) (bs.length + 1 - (c + 1)) := ⟨_, rfl⟩
        have hgp : gapO bs (c + 1) = X - Y := by rw [hX, hY]; rfl
        rw [← hX] at x1 x2
        rw [← hY] at y1 y2
        have HX := hid hX.symm
        have HY := hid hY.symm
        have HGp := hid hgp
        clear hcl hms hX hY hgp
        by_cases hgap : X - Y ≤ 1
        · go_wp2_with fail
          refine (Hms.out _ (HS.out.kept hb)).mono ?_
          rintro e w3 ⟨u3, rfl, hr3, hb3⟩
          have hB3 := hb.trans (hb3.mono hsz)
          have Hr3 := hid hr3
          clear hr3
          go_wp2_with fail
          refine (slMax_any _ bs (c + 1) _ Hr3.out.sl HB.out (by omega) Hcl.out).mono ?_
          rintro e w' ⟨rfl, rfl⟩
          rw [HX.out]
          go_wp2_with fail
          refine (slMin_any _ bs (c + 1) _ Hr3.out.sl HB.out (by omega) Hcl.out).mono ?_
          rintro e w' ⟨rfl, rfl⟩
          rw [HY.out]
          go_wp2
          go_roundw
          case rel => exact ⟨c + 1, by omega, by go_num, hid fun j hj => by
            by_cases he : j = c
            · subst he; rw [HGp.out]; exact hgap
            · exact HG.out j (by omega), hB3⟩
          case measure => simp [intOf]; omega
        · have HR := hid (show isB bs = false from by unfold isB balB; rw [HQ.out]; exact decide_eq_false fun h => hgap (by have := h c (by have := Hcl.out; omega); rw [HGp.out] at this; exact this))
          have hgap2 : 2 ≤ X - Y := by omega
          clear hgap
          go_wp2_with fail
          refine (Hms.out _ (HS.out.kept hb)).mono ?_
          rintro e w3 ⟨u3, rfl, hr3, hb3⟩
          have hB3 := hb.trans (hb3.mono hsz)
          have Hr3 := hid hr3
          clear hr3
          go_wp2_with fail
          refine (slMax_any _ bs (c + 1) _ Hr3.out.sl HB.out (by omega) Hcl.out).mono ?_
          rintro e w' ⟨rfl, rfl⟩
          rw [HX.out]
          go_wp2_with fail
          refine (slMin_any _ bs (c + 1) _ Hr3.out.sl HB.out (by omega) Hcl.out).mono ?_
          rintro e w' ⟨rfl, rfl⟩
          rw [HY.out]
          go_wp2
          go_ret2
          exact ⟨ret_bb' HR.out.symm rfl, hB3⟩
      · have hge : (n : Int) < (c : Int) + 1 := by omega
        have hkn : c = bs.length := by rw [← Hn.out]; omega
        have HR := hid (show isB bs = true from by unfold isB balB; rw [HQ.out]; exact decide_eq_true (by rw [← hkn]; exact HG.out))
        clear hkn hlk
        go_wp2
        go_ret2
        exact ⟨ret_bb' HR.out.symm rfl, hb⟩

end Go.Proofs.Ytbhlailnefappaa
