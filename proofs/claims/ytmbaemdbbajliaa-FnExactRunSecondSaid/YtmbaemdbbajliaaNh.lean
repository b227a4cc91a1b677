
import Derived.Test.YtmbaemdbbajliaaNc
import Derived.Test.YtmbaemdbbajliaaOf
namespace Go.Proofs.Ytmbaemdbbajliaa
open Go.RowKit BitX Go.MemX Go.ShX
set_option linter.unusedVariables false


/-- the pair of a run behind so many samples -/
def runS (a d : Int) (k : Nat) (mode : Int) (n : Nat) (wd : Bool) (s : List Int) (y z : Int) : Nat → Int × Int
  | 0 => (y, z)
  | i + 1 => (stepS a d k mode n wd (at0 s i) (runS a d k mode n wd s y z i).1 (runS a d k mode n wd s y z i).2, (runS a d k mode n wd s y z i).1)
def rY (a d : Int) (k : Nat) (mode : Int) (n : Nat) (wd : Bool) (s : List Int) (y z : Int) (i : Nat) : Int := (runS a d k mode n wd s y z i).1
def rZ (a d : Int) (k : Nat) (mode : Int) (n : Nat) (wd : Bool) (s : List Int) (y z : Int) (i : Nat) : Int := (runS a d k mode n wd s y z i).2
theorem rY_zero (a d : Int) (k : Nat) (mode : Int) (n : Nat) (wd : Bool) (s : List Int) (y z : Int) : rY a d k mode n wd s y z 0 = y := rfl
theorem rZ_zero (a d : Int) (k : Nat) (mode : Int) (n : Nat) (wd : Bool) (s : List Int) (y z : Int) : rZ a d k mode n wd s y z 0 = z := rfl
theorem rY_succ (a d : Int) (k : Nat) (mode : Int) (n : Nat) (wd : Bool) (s : List Int) (y z : Int) (i : Nat) : rY a d k mode n wd s y z (i + 1) = stepS a d k mode n wd (at0 s i) (rY a d k mode n wd s y z i) (rZ a d k mode n wd s y z i) := rfl
theorem rZ_succ (a d : Int) (k : Nat) (mode : Int) (n : Nat) (wd : Bool) (s : List Int) (y z : Int) (i : Nat) : rZ a d k mode n wd s y z (i + 1) = rY a d k mode n wd s y z i := rfl
def fitS (a d : Int) (k : Nat) (mode : Int) (n : Nat) (wd : Bool) (s : List Int) (y z : Int) : Nat → Int
  | 0 => 0
  | i + 1 => fitS a d k mode n wd s y z i + neI (fitI n wd (rawS a d k mode (rY a d k mode n wd s y z i) (rZ a d k mode n wd s y z i) (at0 s i))) (rawS a d k mode (rY a d k mode n wd s y z i) (rZ a d k mode n wd s y z i) (at0 s i))
theorem fitS_succ (a d : Int) (k : Nat) (mode : Int) (n : Nat) (wd : Bool) (s : List Int) (y z : Int) (i : Nat) : fitS a d k mode n wd s y z (i + 1) = fitS a d k mode n wd s y z i + neI (fitI n wd (rawS a d k mode (rY a d k mode n wd s y z i) (rZ a d k mode n wd s y z i) (at0 s i))) (rawS a d k mode (rY a d k mode n wd s y z i) (rZ a d k mode n wd s y z i) (at0 s i)) := rfl
theorem fitS_in (a d : Int) (k : Nat) (mode : Int) (n : Nat) (wd : Bool) (s : List Int) (y z : Int) (i : Nat) : 0 ≤ fitS a d k mode n wd s y z i ∧ fitS a d k mode n wd s y z i ≤ i := by
  induction i with
  | zero => simp [fitS]
  | succ i ih => rw [fitS_succ]; unfold neI; split <;> omega
theorem runS_in {a d : Int} {k : Nat} {mode : Int} {n : Nat} {wd : Bool} {s : List Int} {y z : Int} (h : SoOk a d k mode n) (y1 : -100000 ≤ y) (y2 : y ≤ 100000) (z1 : -100000 ≤ z) (z2 : z ≤ 100000) (i : Nat) : (-100000 ≤ rY a d k mode n wd s y z i ∧ rY a d k mode n wd s y z i ≤ 100000) ∧ (-100000 ≤ rZ a d k mode n wd s y z i ∧ rZ a d k mode n wd s y z i ≤ 100000) := by
  induction i with
  | zero => exact ⟨⟨y1, y2⟩, z1, z2⟩
  | succ i ih => exact ⟨stepS_in h, ih.1⟩
def runLS (a d : Int) (k : Nat) (mode : Int) (n : Nat) (wd : Bool) (s : List Int) (y z : Int) : List Int := tab s.length fun i => rY a d k mode n wd s y z (i + 1)
theorem runLS_len (a d : Int) (k : Nat) (mode : Int) (n : Nat) (wd : Bool) (s : List Int) (y z : Int) : (runLS a d k mode n wd s y z).length = s.length := tab_len _ _
theorem rtB_as (a d k mode b y z : Int) (s : List Int) : rtB a d k mode b y z s = (atB a d k mode b y z 0 && sigB s) := by
  have h0 : smB 0 = true := by decide
  simp [rtB, atB, h0, Bool.and_assoc]
theorem rtB_n {a d k mode b y z : Int} {s : List Int} (h : rtB a d k mode b y z s = true) : ∃ kk n : Nat, k = kk ∧ b = n ∧ SoOk a d kk mode n ∧ (inW n y = true ∧ -32768 ≤ y ∧ y ≤ 32767) ∧ (inW n z = true ∧ -32768 ≤ z ∧ z ≤ 32767) ∧ SigP s := by
  rw [rtB_as, Bool.and_eq_true] at h
  obtain ⟨kk, n, rfl, rfl, ho, hy, hz, _⟩ := atB_n h.1
  exact ⟨kk, n, rfl, rfl, ho, hy, hz, of_decide_eq_true h.2⟩
def cpR (a d k mode b : Int) (wd : Bool) (y z : Int) (s : List Int) : Int := onB (rtB a d k mode b y z s) (fitS a d k.toNat mode b.toNat wd s y z s.length) 0
def r2L (a d k mode b : Int) (wd : Bool) (y z : Int) (s : List Int) : List Int := onB (rtB a d k mode b y z s) (runLS a d k.toNat mode b.toNat wd s y z) []
theorem r2L_len (a d k mode b : Int) (wd : Bool) (y z : Int) (s : List Int) (h : s.length ≤ 1048576) : (r2L a d k mode b wd y z s).length ≤ 2000000 := by
  unfold r2L onB; split
  · rw [runLS_len]; omega
  · simp


set_option maxHeartbeats 4000000 in
theorem sdRun_any (a d : Int) (k : Nat) (mode : Int) (n : Nat) (wd : Bool) (y z : Int) (v : Value) (s : List Int) (w : World) (hs : Sl w v s) (hl : s.length ≤ 64) (hi : InP (-100000) 100000 s) (h : SoOk a d k mode n) (y1 : -100000 ≤ y) (y2 : y ≤ 100000) (z1 : -100000 ≤ z) (z2 : z ≤ 100000) :
    Calls Try.prog 25 #[.agg #[.int .i64 a, .int .i64 d, .int .i64 (k : Int), .int .i64 mode, .int .i64 (n : Int), .bool wd], .int .i64 y, .int .i64 z, v] w (GivesC w (runLS a d k mode n wd s y z) (fitS a d k mode n wd s y z s.length)) := by
  obtain ⟨aa, m, cap, rfl, hn, hrd⟩ := id hs.rd
  have Hn := hid hn
  have Hrd := hid hrd
  have HO := hid h
  have HJ := hid hi
  have n1 := h.1.2.2.2.1
  have n2 := h.1.2.2.2.2
  have hl' : m ≤ 64 := by omega
  obtain ⟨i0, hi0, hz0, hz1, hz2⟩ := info_parts iint
  clear hs hn hrd h hi hl
  go_enter Try.func25, Try.ntmps25
  go_wp2_with fail
  have B0 := bel_alloc w (.cells #[.int .i64 a, .int .i64 d, .int .i64 (k : Int), .int .i64 mode, .int .i64 (n : Int), .bool wd] 31)
  have hq := box6_cells (Below.refl (w.alloc (.cells #[.int .i64 a, .int .i64 d, .int .i64 (k : Int), .int .i64 mode, .int .i64 (n : Int), .bool wd] 31)).heap.size (w.alloc (.cells #[.int .i64 a, .int .i64 d, .int .i64 (k : Int), .int .i64 mode, .int .i64 (n : Int), .bool wd] 31)))
  generalize w.alloc (.cells #[.int .i64 a, .int .i64 d, .int .i64 (k : Int), .int .i64 mode, .int .i64 (n : Int), .bool wd] 31) = w1 at *
  have Hq := hid hq
  have HB0 := hid B0
  clear hq B0
  go_loopw [1, 2, 10, 11, 17] (fun yv zv v fc i wr => ∃ c : Nat, c ≤ m ∧ yv = .int .i64 (rY a d k mode n wd s y z c) ∧ zv = .int .i64 (rZ a d k mode n wd s y z c) ∧ fc = .int .i64 (fitS a d k mode n wd s y z c) ∧ i = .int .i64 c ∧ wr.ownsRow w1.heap.size 3 1 v c ((tab c (fun i => rY a d k mode n wd s y z (i + 1))).map (Value.int .i64)) ∧ Below w1.heap.size w1 wr)
    (fun _ _ _ _ i _ => m - (intOf i).toNat)
  case atStart => exact ⟨0, by omega, rfl, rfl, rfl, rfl, World.ownsRow_nil _ _ _ _, Below.refl _ _⟩
  case round =>
    obtain ⟨c, hc, rfl, rfl, rfl, rfl, hown, hb⟩ := hrel
    have hsz : w1.heap.size ≤ wr.heap.size := hb.size
    by_cases hlk : c < m
    · have hst := tab_step c (fun i => rY a d k mode n wd s y z (i + 1))
      generalize hys : tab c (fun i => rY a d k mode n wd s y z (i + 1)) = ys at hst hown
      have Hob := hid (ownsRow_base hown)
      have Hown := hid hown
      obtain ⟨bb, oo, hix, hbb, hce⟩ : ∃ b off, (∀ w : World, (Instr.indexAt 26 (.slice aa m cap) (.int .i64 (c : Int))).run Try.prog w = .ok (.pointer (some ⟨b, off, none⟩)) w) ∧ b < wr.heap.size ∧ wr.cell? ⟨b, off, none⟩ = some (.int .i64 (at0 s c)) := by
        obtain ⟨x, hkx⟩ := get_lt s c (by rw [← Hn.out]; exact hlk)
        rw [at0_of hkx]
        exact (Hrd.out.kept (bel_step HB0.out hb)).at (P := Try.prog) (T := 26) m cap uslice sone hkx hlk
      obtain ⟨x, hkx⟩ := get_lt s c (by rw [← Hn.out]; exact hlk)
      have hax := at0_of hkx
      obtain ⟨x1, x2⟩ := HJ.out.at hkx
      obtain ⟨⟨u1, u2⟩, v1, v2⟩ := runS_in (wd := wd) (s := s) HO.out y1 y2 z1 z2 c
      have hsr := rY_succ a d k mode n wd s y z c
      have hsz2 := rZ_succ a d k mode n wd s y z c
      have hsc := fitS_succ a d k mode n wd s y z c
      obtain ⟨f1, f2⟩ := fitS_in a d k mode n wd s y z c
      have hraw := rawS_in HO.out u1 u2 v1 v2 x1 x2
      rw [hax] at hsr hsc
      rw [hax] at hce
      have Hst := hid hst
      clear hown hys hst hkx hax
      generalize hyy : rY a d k mode n wd s y z c = yy at *
      generalize hzz : rZ a d k mode n wd s y z c = zz at *
      generalize hcc : fitS a d k mode n wd s y z c = fc at *
      have hfr0 := fitI_s2 n wd (rawS a d k mode yy zz x) (by omega) n2
      have Hz : Hid (stepS a d k mode n wd x yy zz = fitI n wd (rawS a d k mode yy zz x)) := rfl
      have hst2 := Hst.out
      have hst2 : tab (c + 1) (fun i => rY a d k mode n wd s y z (i + 1)) = ys ++ [rY a d k mode n wd s y z (c + 1)] := hst2
      rw [hsr] at hst2
      have Hst2 := hid hst2
      have Hsr := hid hsr
      have Hsz := hid hsz2
      have Hsc := hid hsc
      obtain ⟨q0, q1, q2, q3, q4, q5⟩ := hb.cells6q Hq.out
      clear hst2 hsr hsc hsz2 hyy hzz hcc Hst
      have hrw := fun (W : World) => sdRaw_any a d k mode n wd yy zz x W HO.out u1 u2 v1 v2 x1 x2
      have Hrw := hid hrw
      clear hrw
      rw [Hz.out] at Hst2 Hsr
      generalize hr0 : rawS a d k mode yy zz x = r at *
      have hft := fun (W : World) => wdFit_any n wd r W (by omega) n2
      have Hft := hid hft
      clear hft hr0 Hz
      generalize hf0 : fitI n wd r = f at *
      clear hf0
      rcases Int.lt_trichotomy f r with hfr | hfr | hfr
      · have hnc := neI_lt hfr
        have hne : (f != r) = true := bne_iff_ne.2 (by omega)
        rw [hnc] at Hsc
        clear hnc
        go_wp2_with (first | (go_at_call 45; refine (Hrw.out _).mono ?_; rintro e w2 ⟨rfl, hb2⟩; have hB2 := hb.trans (hb2.mono hsz); have hS2 := hB2.cells6q Hq.out; obtain ⟨t0, t1, t2, t3, t4, t5⟩ := hS2) | (go_at_call 46; refine (Hft.out _).mono ?_; rintro e w3 ⟨rfl, hb3⟩; have hB3 := hB2.trans (hb3.mono hB2.size); have hs3 : w1.heap.size ≤ w3.heap.size := hB3.size) | (at_builtin; refine wpList_append_own _ rfl _ _ 26 rfl w1.heap.size 3 i0 (.int .i64 0) 1 8 uslice hi0 hz0 hz1 hz2 rfl (by decide) _ _ _ rfl ((ownsRow_below (ownsRow_below Hown.out hb2) hb3).alloc _) ⟨w3.heap.size, 0, none⟩ 1 1 [.int .i64 (f)] rfl rfl ?c1 ?c2 ?c3 ?c4 ?c5 ?_))
        case c1 => exact cell_one_new _ _ _
        case c2 => intro u hu; simp at hu; subst hu; rfl
        case c3 => unfold maxLen; omega
        case c4 => omega
        case c5 => simp; omega
        intro v' w4 hown4 hgrow _
        have hb4 : Below w1.heap.size w1 w4 := (hB3.alloc hB3.size _).grown hgrow (by simp; omega) (fun j hj => Hob.out j hj)
        have Hown4 := hid hown4
        clear hown4 hgrow
        go_wp2
        go_roundw
        case rel => exact ⟨c + 1, by omega, by rw [Hsr.out], by rw [Hsz.out], by first | (rw [Hsc.out, Int.add_zero]; done) | (rw [Hsc.out]; done), by go_num, by rw [Hst2.out, List.map_append]; exact Hown4.out, hb4⟩
        case measure => simp [intOf]; omega
      · have hf1 : f ≤ r := by omega
        have hf2 : r ≤ f := by omega
        clear hfr
        have hnc := neI_eq hf1 hf2
        have hne : (f != r) = false := bne_eq_false_iff_eq.2 (by omega)
        rw [hnc] at Hsc
        clear hnc
        go_wp2_with (first | (go_at_call 45; refine (Hrw.out _).mono ?_; rintro e w2 ⟨rfl, hb2⟩; have hB2 := hb.trans (hb2.mono hsz); have hS2 := hB2.cells6q Hq.out; obtain ⟨t0, t1, t2, t3, t4, t5⟩ := hS2) | (go_at_call 46; refine (Hft.out _).mono ?_; rintro e w3 ⟨rfl, hb3⟩; have hB3 := hB2.trans (hb3.mono hB2.size); have hs3 : w1.heap.size ≤ w3.heap.size := hB3.size) | (at_builtin; refine wpList_append_own _ rfl _ _ 26 rfl w1.heap.size 3 i0 (.int .i64 0) 1 8 uslice hi0 hz0 hz1 hz2 rfl (by decide) _ _ _ rfl ((ownsRow_below (ownsRow_below Hown.out hb2) hb3).alloc _) ⟨w3.heap.size, 0, none⟩ 1 1 [.int .i64 (f)] rfl rfl ?c1 ?c2 ?c3 ?c4 ?c5 ?_))
        case c1 => exact cell_one_new _ _ _
        case c2 => intro u hu; simp at hu; subst hu; rfl
        case c3 => unfold maxLen; omega
        case c4 => omega
        case c5 => simp; omega
        intro v' w4 hown4 hgrow _
        have hb4 : Below w1.heap.size w1 w4 := (hB3.alloc hB3.size _).grown hgrow (by simp; omega) (fun j hj => Hob.out j hj)
        have Hown4 := hid hown4
        clear hown4 hgrow
        go_wp2
        go_roundw
        case rel => exact ⟨c + 1, by omega, by rw [Hsr.out], by rw [Hsz.out], by first | (rw [Hsc.out, Int.add_zero]; done) | (rw [Hsc.out]; done), by go_num, by rw [Hst2.out, List.map_append]; exact Hown4.out, hb4⟩
        case measure => simp [intOf]; omega
      · have hnc := neI_gt hfr
        have hne : (f != r) = true := bne_iff_ne.2 (by omega)
        rw [hnc] at Hsc
        clear hnc
        go_wp2_with (first | (go_at_call 45; refine (Hrw.out _).mono ?_; rintro e w2 ⟨rfl, hb2⟩; have hB2 := hb.trans (hb2.mono hsz); have hS2 := hB2.cells6q Hq.out; obtain ⟨t0, t1, t2, t3, t4, t5⟩ := hS2) | (go_at_call 46; refine (Hft.out _).mono ?_; rintro e w3 ⟨rfl, hb3⟩; have hB3 := hB2.trans (hb3.mono hB2.size); have hs3 : w1.heap.size ≤ w3.heap.size := hB3.size) | (at_builtin; refine wpList_append_own _ rfl _ _ 26 rfl w1.heap.size 3 i0 (.int .i64 0) 1 8 uslice hi0 hz0 hz1 hz2 rfl (by decide) _ _ _ rfl ((ownsRow_below (ownsRow_below Hown.out hb2) hb3).alloc _) ⟨w3.heap.size, 0, none⟩ 1 1 [.int .i64 (f)] rfl rfl ?c1 ?c2 ?c3 ?c4 ?c5 ?_))
        case c1 => exact cell_one_new _ _ _
        case c2 => intro u hu; simp at hu; subst hu; rfl
        case c3 => unfold maxLen; omega
        case c4 => omega
        case c5 => simp; omega
        intro v' w4 hown4 hgrow _
        have hb4 : Below w1.heap.size w1 w4 := (hB3.alloc hB3.size _).grown hgrow (by simp; omega) (fun j hj => Hob.out j hj)
        have Hown4 := hid hown4
        clear hown4 hgrow
        go_wp2
        go_roundw
        case rel => exact ⟨c + 1, by omega, by rw [Hsr.out], by rw [Hsz.out], by first | (rw [Hsc.out, Int.add_zero]; done) | (rw [Hsc.out]; done), by go_num, by rw [Hst2.out, List.map_append]; exact Hown4.out, hb4⟩
        case measure => simp [intOf]; omega
    · have hge : (m : Int) ≤ (c : Int) := by omega
      have hkn : c = s.length := by rw [← Hn.out]; omega
      have Hk := hid hkn
      have Hown := hid hown
      clear hkn hlk hown
      go_wp2
      go_ret2
      have ho := Hown.out
      rw [Hk.out] at ho
      exact ⟨_, ret_vc (by rw [Hk.out]), (Res.owns (by rw [runLS, tab_len]; exact ho)).mono HB0.out.size, bel_step HB0.out hb⟩


set_option maxHeartbeats 1000000 in
theorem spec_CountPairFits_is (a d k mode b : Int) (wd : Bool) (y z : Int) (v : Value) (s : List Int) (w : World) (hs : Sl w v s) (y1 : -9223372036854775808 ≤ y) (y2 : y ≤ 9223372036854775807) (z1 : -9223372036854775808 ≤ z) (z2 : z ≤ 9223372036854775807) :
    Calls Try.prog 15 #[.agg #[.int .i64 a, .int .i64 d, .int .i64 k, .int .i64 mode, .int .i64 b, .bool wd], .int .i64 y, .int .i64 z, v] w fun e w' => e = .returned (.tuple #[.int .i64 (cpR a d k mode b wd y z s), .bool (rtB a d k mode b y z s)]) ∧ Below w.heap.size w w' := by
  cases h0 : atB a d k mode b y z 0
  · have hq : rtB a d k mode b y z s = false := by rw [rtB_as, h0]; rfl
    obtain ⟨aa, m, cap, rfl, hn, _⟩ := id hs.rd
    have HS := hid hs
    have HR := hid (show cpR a d k mode b wd y z s = 0 from by unfold cpR; rw [hq]; rfl)
    have HQ := hid hq
    clear hq
    have H0 := hid h0
    clear h0 hs hn
    go_enter Try.func15, Try.ntmps15
    go_wp2_with fail
    refine (sdAsked_q _ _ _ _ _ _ _ _ _ false _ H0.out).mono ?_
    rintro e w1 ⟨rfl, hb⟩
    have B1 := hb
    obtain ⟨c0, c1, c2, c3, c4, c5⟩ := box6_cells B1
    go_wp2_with fail
    go_ret2
    exact ⟨ret_ib2 HR.out.symm HQ.out.symm, bel_step (bel_alloc _ _) B1⟩
  · cases h1 : sigB s
    · have hq : rtB a d k mode b y z s = false := by rw [rtB_as, h0, h1]; rfl
      obtain ⟨aa, m, cap, rfl, hn, _⟩ := id hs.rd
      have HS := hid hs
      have HR := hid (show cpR a d k mode b wd y z s = 0 from by unfold cpR; rw [hq]; rfl)
      have HQ := hid hq
      clear hq
      have H0 := hid h0
      have H1 := hid h1
      clear h0 h1 hs hn
      go_enter Try.func15, Try.ntmps15
      go_wp2_with fail
      refine (sdAsked_q _ _ _ _ _ _ _ _ _ true _ H0.out).mono ?_
      rintro e w1 ⟨rfl, hb⟩
      have B1 := hb
      obtain ⟨c0, c1, c2, c3, c4, c5⟩ := box6_cells B1
      go_wp2_with fail
      refine (wdSignal_is _ s false _ (HS.out.kept (bel_step (bel_alloc _ _) B1)) H1.out).mono ?_
      rintro e w' ⟨rfl, rfl⟩
      go_wp2_with fail
      go_ret2
      exact ⟨ret_ib2 HR.out.symm HQ.out.symm, bel_step (bel_alloc _ _) B1⟩
    · have hq : rtB a d k mode b y z s = true := by rw [rtB_as, h0, h1]; rfl
      obtain ⟨k, n, rfl, rfl, ho, ⟨_, yy1, yy2⟩, ⟨_, zz1, zz2⟩, hsg⟩ := rtB_n hq
      obtain ⟨aa, m, cap, rfl, hn, _⟩ := id hs.rd
      have HS := hid hs
      have HQ := hid hq
      have H0 := hid h0
      have H1 := hid h1
      have HO := hid ho
      have HG := hid hsg
      clear h0 h1 hs hn ho hsg hq
      go_enter Try.func15, Try.ntmps15
      go_wp2_with fail
      refine (sdAsked_q _ _ _ _ _ _ _ _ _ true _ H0.out).mono ?_
      rintro e w1 ⟨rfl, hb⟩
      have B1 := hb
      obtain ⟨c0, c1, c2, c3, c4, c5⟩ := box6_cells B1
      go_wp2_with fail
      refine (wdSignal_is _ s true _ (HS.out.kept (bel_step (bel_alloc _ _) B1)) H1.out).mono ?_
      rintro e w' ⟨rfl, rfl⟩
      go_wp2_with fail
      refine (sdRun_any a d k mode n wd y z _ s _ (HS.out.kept (bel_step (bel_alloc _ _) B1)) HG.out.1 HG.out.2 HO.out (by omega) (by omega) (by omega) (by omega)).mono ?_
      rintro e w2 ⟨u, rfl, hr, hb⟩
      have B2 := bel_step B1 hb
      clear hr hb
      go_wp2_with fail
      go_ret2
      exact ⟨ret_ib2 (by unfold cpR; rw [HQ.out]; rfl) HQ.out.symm, bel_step (bel_alloc _ _) B2⟩


set_option maxHeartbeats 1000000 in
theorem spec_RunSecond_is (a d k mode b : Int) (wd : Bool) (y z : Int) (v : Value) (s : List Int) (w : World) (hs : Sl w v s) (y1 : -9223372036854775808 ≤ y) (y2 : y ≤ 9223372036854775807) (z1 : -9223372036854775808 ≤ z) (z2 : z ≤ 9223372036854775807) :
    Calls Try.prog 8 #[.agg #[.int .i64 a, .int .i64 d, .int .i64 k, .int .i64 mode, .int .i64 b, .bool wd], .int .i64 y, .int .i64 z, v] w (Gives w (r2L a d k mode b wd y z s) (rtB a d k mode b y z s)) := by
  cases h0 : atB a d k mode b y z 0
  · have hq : rtB a d k mode b y z s = false := by rw [rtB_as, h0]; rfl
    obtain ⟨aa, m, cap, rfl, hn, _⟩ := id hs.rd
    have HS := hid hs
    have HR := hid (show r2L a d k mode b wd y z s = [] from by unfold r2L; rw [hq]; rfl)
    have HQ := hid hq
    clear hq
    have H0 := hid h0
    clear h0 hs hn
    go_enter Try.func8, Try.ntmps8
    go_wp2_with fail
    refine (sdAsked_q _ _ _ _ _ _ _ _ _ false _ H0.out).mono ?_
    rintro e w1 ⟨rfl, hb⟩
    have B1 := hb
    obtain ⟨c0, c1, c2, c3, c4, c5⟩ := box6_cells B1
    go_wp2_with fail
    go_ret2
    exact gives_of HQ.out HR.out ⟨_, rfl, .inl ⟨rfl, rfl⟩, bel_step (bel_alloc _ _) B1⟩
  · cases h1 : sigB s
    · have hq : rtB a d k mode b y z s = false := by rw [rtB_as, h0, h1]; rfl
      obtain ⟨aa, m, cap, rfl, hn, _⟩ := id hs.rd
      have HS := hid hs
      have HR := hid (show r2L a d k mode b wd y z s = [] from by unfold r2L; rw [hq]; rfl)
      have HQ := hid hq
      clear hq
      have H0 := hid h0
      have H1 := hid h1
      clear h0 h1 hs hn
      go_enter Try.func8, Try.ntmps8
      go_wp2_with fail
      refine (sdAsked_q _ _ _ _ _ _ _ _ _ true _ H0.out).mono ?_
      rintro e w1 ⟨rfl, hb⟩
      have B1 := hb
      obtain ⟨c0, c1, c2, c3, c4, c5⟩ := box6_cells B1
      go_wp2_with fail
      refine (wdSignal_is _ s false _ (HS.out.kept (bel_step (bel_alloc _ _) B1)) H1.out).mono ?_
      rintro e w' ⟨rfl, rfl⟩
      go_wp2_with fail
      go_ret2
      exact gives_of HQ.out HR.out ⟨_, rfl, .inl ⟨rfl, rfl⟩, bel_step (bel_alloc _ _) B1⟩
    · have hq : rtB a d k mode b y z s = true := by rw [rtB_as, h0, h1]; rfl
      obtain ⟨k, n, rfl, rfl, ho, ⟨_, yy1, yy2⟩, ⟨_, zz1, zz2⟩, hsg⟩ := rtB_n hq
      obtain ⟨aa, m, cap, rfl, hn, _⟩ := id hs.rd
      have HS := hid hs
      have HQ := hid hq
      have H0 := hid h0
      have H1 := hid h1
      have HO := hid ho
      have HG := hid hsg
      clear h0 h1 hs hn ho hsg hq
      go_enter Try.func8, Try.ntmps8
      go_wp2_with fail
      refine (sdAsked_q _ _ _ _ _ _ _ _ _ true _ H0.out).mono ?_
      rintro e w1 ⟨rfl, hb⟩
      have B1 := hb
      obtain ⟨c0, c1, c2, c3, c4, c5⟩ := box6_cells B1
      go_wp2_with fail
      refine (wdSignal_is _ s true _ (HS.out.kept (bel_step (bel_alloc _ _) B1)) H1.out).mono ?_
      rintro e w' ⟨rfl, rfl⟩
      go_wp2_with fail
      refine (sdRun_any a d k mode n wd y z _ s _ (HS.out.kept (bel_step (bel_alloc _ _) B1)) HG.out.1 HG.out.2 HO.out (by omega) (by omega) (by omega) (by omega)).mono ?_
      rintro e w2 ⟨u, rfl, hr, hb⟩
      have B2 := bel_step B1 hb
      have Hr := hid hr
      clear hr hb
      go_wp2_with fail
      go_ret2
      exact gives_of HQ.out (show r2L a d k mode n wd y z s = runLS a d k mode n wd s y z from by unfold r2L; rw [HQ.out]; rfl) ⟨_, rfl, Hr.out.mono (bel_step (bel_alloc _ _) B1).size, bel_step (bel_alloc _ _) B2⟩


set_option maxHeartbeats 4000000 in
theorem impl_CountPairFits_is (a d k mode b : Int) (wd : Bool) (y z : Int) (v : Value) (s : List Int) (w : World) (hs : Sl w v s) (y1 : -9223372036854775808 ≤ y) (y2 : y ≤ 9223372036854775807) (z1 : -9223372036854775808 ≤ z) (z2 : z ≤ 9223372036854775807) :
    Calls Try.prog 16 #[.agg #[.int .i64 a, .int .i64 d, .int .i64 k, .int .i64 mode, .int .i64 b, .bool wd], .int .i64 y, .int .i64 z, v] w fun e w' => e = .returned (.tuple #[.int .i64 (cpR a d k mode b wd y z s), .bool (rtB a d k mode b y z s)]) ∧ Below w.heap.size w w' := by
  cases hq : rtB a d k mode b y z s
  · obtain ⟨aa, m, cap, rfl, hn, _⟩ := id hs.rd
    have HS := hid hs
    have HR := hid (show cpR a d k mode b wd y z s = 0 from by unfold cpR; rw [hq]; rfl)
    have HQ := hid hq
    clear hq hs hn
    go_enter Try.func16, Try.ntmps16
    go_wp2_with fail
    refine (canRunPair_q _ _ _ _ _ _ _ _ _ s false _ (HS.out.kept (bel_alloc _ _)) y1 y2 z1 z2 HQ.out).mono ?_
    rintro e w1 ⟨rfl, hb⟩
    have B1 := hb
    go_wp2_with fail
    go_ret2
    exact ⟨ret_ib2 HR.out.symm rfl, bel_step (bel_alloc _ _) B1⟩
  · obtain ⟨k, n, rfl, rfl, ho, ⟨_, yy1, yy2⟩, ⟨_, zz1, zz2⟩, hsg⟩ := rtB_n hq
    obtain ⟨aa, m, cap, rfl, hn, hrd⟩ := id hs.rd
    have HS := hid hs
    have HQ := hid hq
    have HO := hid ho
    have HJ := hid hsg.2
    have n1 := ho.1.2.2.2.1
    have n2 := ho.1.2.2.2.2
    have hl' : m ≤ 64 := by rw [hn]; exact hsg.1
    have Hn := hid hn
    have Hrd := hid hrd
    clear hq hs hn hrd ho hsg
    go_enter Try.func16, Try.ntmps16
    go_wp2_with fail
    refine (canRunPair_q _ _ _ _ _ _ _ _ _ s true _ (HS.out.kept (bel_alloc _ _)) y1 y2 z1 z2 HQ.out).mono ?_
    rintro e w1 ⟨rfl, hb⟩
    have B1 := hb
    obtain ⟨c0, c1, c2, c3, c4, c5⟩ := box6_cells B1
    clear hb
    go_wp2_with fail
    refine (unfittedS_any a d k mode n wd _ HO.out).mono ?_
    rintro e w2 ⟨⟨lb, rfl, hr⟩, hb⟩
    have B2 := bel_step B1 hb
    have Hq := hid (box6_cells B2)
    have HB2 := hid (bel_step (bel_alloc _ _) B2)
    have Hr := hid hr
    have eg : ∀ (args : Array Value) (w : World), (callFunc 52 args).run Try.prog w = .ok (.enter 52 args) w := enterU2
    clear hr hb B1 B2 c0 c1 c2 c3 c4 c5
    go_wp2_with fail
    go_loopw [1, 2, 11, 25] (fun yv zv fc i wr => ∃ c : Nat, c ≤ m ∧ yv = .int .i64 (rY a d k mode n wd s y z c) ∧ zv = .int .i64 (rZ a d k mode n wd s y z c) ∧ fc = .int .i64 (fitS a d k mode n wd s y z c) ∧ i = .int .i64 c ∧ Below w2.heap.size w2 wr)
      (fun _ _ _ i _ => m - (intOf i).toNat)
    case atStart => exact ⟨0, by omega, rfl, rfl, rfl, rfl, Below.refl _ _⟩
    case round =>
      obtain ⟨c, hc, rfl, rfl, rfl, rfl, hb⟩ := hrel
      have hsz : w2.heap.size ≤ wr.heap.size := hb.size
      by_cases hlk : c < m
      · obtain ⟨x, hkx⟩ := get_lt s c (by rw [← Hn.out]; exact hlk)
        obtain ⟨bb, oo, hix, hbb, hce⟩ := (Hrd.out.kept (bel_step HB2.out hb)).at (P := Try.prog) (T := 26) m cap uslice sone hkx hlk
        have hax := at0_of hkx
        obtain ⟨x1, x2⟩ := HJ.out.at hkx
        obtain ⟨⟨u1, u2⟩, v1, v2⟩ := runS_in (wd := wd) (s := s) (y := y) (z := z) HO.out (by omega) (by omega) (by omega) (by omega) c
        have hsr := rY_succ a d k mode n wd s y z c
        have hsz2 := rZ_succ a d k mode n wd s y z c
        have hsc := fitS_succ a d k mode n wd s y z c
        obtain ⟨f1, f2⟩ := fitS_in a d k mode n wd s y z c
        have hraw := rawS_in HO.out u1 u2 v1 v2 x1 x2
        rw [hax] at hsr hsc
        generalize hyy : rY a d k mode n wd s y z c = yy at *
        generalize hzz : rZ a d k mode n wd s y z c = zz at *
        generalize hcc : fitS a d k mode n wd s y z c = fc at *
        have hfr0 := fitI_s2 n wd (rawS a d k mode yy zz x) (by omega) n2
        have Hz : Hid (stepS a d k mode n wd x yy zz = fitI n wd (rawS a d k mode yy zz x)) := rfl
        have Hsr := hid hsr
        have Hsz := hid hsz2
        have Hsc := hid hsc
        obtain ⟨q0, q1, q2, q3, q4, q5⟩ := hb.cells6q Hq.out
        clear hsr hsz2 hsc hyy hzz hcc hkx hax
        have hrw := (Hr.out.later hb) wr yy zz x (Below.refl _ _) u1 u2 v1 v2 x1 x2
        have Hrw := hid hrw
        clear hrw
        rw [Hz.out] at Hsr
        generalize hr0 : rawS a d k mode yy zz x = r at *
        have hft := fun (W : World) => fit_any n wd r W (by omega) n2 (by omega) (by omega)
        have Hft := hid hft
        clear hft hr0 Hz
        generalize hf0 : fitI n wd r = f at *
        clear hf0
        rcases Int.lt_trichotomy f r with hfr | hfr | hfr
        · have hnc := neI_lt hfr
          have hne : (f != r) = true := bne_iff_ne.2 (by omega)
          rw [hnc] at Hsc
          clear hnc
          go_wp2_with (first | (go_at_fn 52; refine Hrw.out.mono ?_; rintro e w3 ⟨rfl, hb3⟩; have hB3 := hb.trans (hb3.mono hsz); obtain ⟨t0, t1, t2, t3, t4, t5⟩ := hB3.cells6q Hq.out) | (go_at_call 30; refine (Hft.out _).mono ?_; rintro e w4 ⟨rfl, hb4⟩; have hB4 := hB3.trans (hb4.mono hB3.size)))
          go_roundw
          case rel => exact ⟨c + 1, by omega, by rw [Hsr.out], by rw [Hsz.out], by first | (rw [Hsc.out, Int.add_zero]; done) | (rw [Hsc.out]; done), by go_num, hB4⟩
          case measure => simp [intOf]; omega
        · have hf1 : f ≤ r := by omega
          have hf2 : r ≤ f := by omega
          clear hfr
          have hnc := neI_eq hf1 hf2
          have hne : (f != r) = false := bne_eq_false_iff_eq.2 (by omega)
          rw [hnc] at Hsc
          clear hnc
          go_wp2_with (first | (go_at_fn 52; refine Hrw.out.mono ?_; rintro e w3 ⟨rfl, hb3⟩; have hB3 := hb.trans (hb3.mono hsz); obtain ⟨t0, t1, t2, t3, t4, t5⟩ := hB3.cells6q Hq.out) | (go_at_call 30; refine (Hft.out _).mono ?_; rintro e w4 ⟨rfl, hb4⟩; have hB4 := hB3.trans (hb4.mono hB3.size)))
          go_roundw
          case rel => exact ⟨c + 1, by omega, by rw [Hsr.out], by rw [Hsz.out], by first | (rw [Hsc.out, Int.add_zero]; done) | (rw [Hsc.out]; done), by go_num, hB4⟩
          case measure => simp [intOf]; omega
        · have hnc := neI_gt hfr
          have hne : (f != r) = true := bne_iff_ne.2 (by omega)
          rw [hnc] at Hsc
          clear hnc
          go_wp2_with (first | (go_at_fn 52; refine Hrw.out.mono ?_; rintro e w3 ⟨rfl, hb3⟩; have hB3 := hb.trans (hb3.mono hsz); obtain ⟨t0, t1, t2, t3, t4, t5⟩ := hB3.cells6q Hq.out) | (go_at_call 30; refine (Hft.out _).mono ?_; rintro e w4 ⟨rfl, hb4⟩; have hB4 := hB3.trans (hb4.mono hB3.size)))
          go_roundw
          case rel => exact ⟨c + 1, by omega, by rw [Hsr.out], by rw [Hsz.out], by first | (rw [Hsc.out, Int.add_zero]; done) | (rw [Hsc.out]; done), by go_num, hB4⟩
          case measure => simp [intOf]; omega
      · have hge : (m : Int) ≤ (c : Int) := by omega
        have hkn : c = s.length := by rw [← Hn.out]; omega
        have Hk := hid hkn
        clear hkn hlk
        go_wp2
        go_ret2
        exact ⟨ret_ib2 (by unfold cpR; rw [HQ.out, Hk.out]; rfl) rfl, bel_step HB2.out hb⟩


set_option maxHeartbeats 1600000 in
theorem gen_FnExactCountPairFits (a d k mode b : Int) (wr : Bool) (y : Int) (z : Int) (s : List Int) (u_s : Option Addr) (l_s c_s : Nat) (r0 : Int) (r1 : Bool) (w : World) (hs_s : Sl w (.slice u_s l_s c_s) s) (ll_s : l_s ≤ 1048576) (hl_s : s.length ≤ 1048576) (hspec : ∀ (w : World) (v_s : Value), Sl w v_s s → Calls Try.prog 15 #[.agg #[.int .i64 a, .int .i64 d, .int .i64 k, .int .i64 mode, .int .i64 b, .bool wr], .int .i64 y, .int .i64 z, v_s] w fun e w' => e = .returned (.tuple #[.int .i64 r0, .bool r1]) ∧ Below w.heap.size w w') (himpl : ∀ (w : World) (v_s : Value), Sl w v_s s → Calls Try.prog 16 #[.agg #[.int .i64 a, .int .i64 d, .int .i64 k, .int .i64 mode, .int .i64 b, .bool wr], .int .i64 y, .int .i64 z, v_s] w fun e w' => e = .returned (.tuple #[.int .i64 r0, .bool r1]) ∧ Below w.heap.size w w') :
    Calls Try.prog 4 #[.agg #[.int .i64 a, .int .i64 d, .int .i64 k, .int .i64 mode, .int .i64 b, .bool wr], .int .i64 y, .int .i64 z, .slice u_s l_s c_s] w fun e w' => e = .returned (.bool true) ∧ Below w.heap.size w w' := by
  have HSs := hid hs_s
  clear hs_s
  have HSP := hid hspec
  have HIM := hid himpl
  clear hspec himpl
  all_goals cases r1
  all_goals
    go_enter Try.func4, Try.ntmps4
    go_wp2_with fail
    refine (toSecond_any _ _ _ _ _ _ _).mono ?_
    rintro e w1 ⟨rfl, hb⟩
    have B1 := hb
    have hz1 : w.heap.size ≤ w1.heap.size := by first | exact hb.size | (have := hb.size; simp at this; omega)
    obtain ⟨ca1, cb1, cc1, cd1, ce1, cf1⟩ := box6_cells B1
    go_wp2_with fail
    refine (toIntS_any _ s _ (HSs.out.kept (bel_step (bel_alloc w _) B1)) (by omega)).mono ?_
    rintro e w2 ⟨g_As1, hg_As1, rfl, K_As1, hb⟩
    have B2 := bel_step B1 hb
    have hz2 : w1.heap.size ≤ w2.heap.size := hb.size
    have As1 := K_As1.res hg_As1
    obtain ⟨ca2, cb2, cc2, cd2, ce2, cf2⟩ := box6_cells B2
    go_wp2_with fail
    refine (HSP.out _ _ As1.sl).mono ?_
    rintro e w3 ⟨rfl, hb⟩
    have B3 := bel_step B2 hb
    have hz3 : w2.heap.size ≤ w3.heap.size := hb.size
    have As1_3 := As1.kept hb
    obtain ⟨ca3, cb3, cc3, cd3, ce3, cf3⟩ := box6_cells B3
    go_wp2_with fail
    refine (toIntS_any _ s _ (HSs.out.kept (bel_step (bel_alloc w _) B3)) (by omega)).mono ?_
    rintro e w4 ⟨g_Xs, hg_Xs, rfl, K_Xs, hb⟩
    have B4 := bel_step B3 hb
    have hz4 : w3.heap.size ≤ w4.heap.size := hb.size
    have Xs := K_Xs.res hg_Xs
    obtain ⟨ca4, cb4, cc4, cd4, ce4, cf4⟩ := box6_cells B4
    have hlt_Xs := K_Xs.lt
    go_wp2_with fail
    refine (toSecond_any _ _ _ _ _ _ _).mono ?_
    rintro e w5 ⟨rfl, hb⟩
    have B5 := bel_step B4 hb
    have hz5 : w4.heap.size ≤ w5.heap.size := hb.size
    have Xs_5 := Xs.kept hb
    obtain ⟨ca5, cb5, cc5, cd5, ce5, cf5⟩ := box6_cells B5
    have hxl_Xs : g_Xs < w5.heap.size := Xs_5.lt rfl
    go_wp2_with fail
    refine (HIM.out _ _ Xs_5.sl).mono ?_
    rintro e w6 ⟨rfl, hb⟩
    have B6 := bel_step B5 hb
    have hz6 : w5.heap.size ≤ w6.heap.size := hb.size
    have Xs_6 := Xs_5.kept hb
    obtain ⟨ca6, cb6, cc6, cd6, ce6, cf6⟩ := box6_cells B6
    go_wp2_with fail
    refine (toIntS_any _ s _ (HSs.out.kept (bel_step (bel_alloc w _) B6)) (by omega)).mono ?_
    rintro e w7 ⟨g_TXs, hg_TXs, rfl, K_TXs, hb⟩
    have B7 := bel_step B6 hb
    have hz7 : w6.heap.size ≤ w7.heap.size := hb.size
    have Xs_7 := Xs_6.kept hb
    have TXs := K_TXs.res hg_TXs
    obtain ⟨ca7, cb7, cc7, cd7, ce7, cf7⟩ := box6_cells B7
    go_wp2_with fail
    refine (eqIntS_same _ _ s _ Xs_7.sl TXs.sl (by omega)).mono ?_
    rintro e w8 ⟨rfl, hb⟩
    have B8 := bel_step B7 hb
    have hz8 : w7.heap.size ≤ w8.heap.size := hb.size
    have Xs_8 := Xs_7.kept hb
    have TXs_8 := TXs.kept hb
    obtain ⟨ca8, cb8, cc8, cd8, ce8, cf8⟩ := box6_cells B8
    go_wp2_with fail
    go_ret
    exact ⟨rfl, bel_step (bel_alloc _ _) B8⟩


set_option maxHeartbeats 1600000 in
theorem walk_FnExactCountPairFits (w : World) (a d k mode b : Int) (wr : Bool) (wa : (Lit.int .i64 a).wf = true) (wd : (Lit.int .i64 d).wf = true) (wk : (Lit.int .i64 k).wf = true) (wm : (Lit.int .i64 mode).wf = true) (wb : (Lit.int .i64 b).wf = true) (y : Int) (w_y : (Lit.int .i64 y).wf = true) (z : Int) (w_z : (Lit.int .i64 z).wf = true) (u_s : Option Addr) (l_s c_s : Nat) (z_s : List Int) (hr_s : IsRow .i64 w u_s l_s c_s z_s) :
    Calls Try.prog 4 #[.agg #[.int .i64 a, .int .i64 d, .int .i64 k, .int .i64 mode, .int .i64 b, .bool wr], .int .i64 y, .int .i64 z, .slice u_s l_s c_s] w fun e w' => e = .returned (.bool true) ∧ Below w.heap.size w w' := by
  obtain ⟨hs_s, hlen_s, hin_s⟩ := hr_s.sl
  generalize z_s.take l_s = s at hs_s hlen_s hin_s
  clear hr_s
  obtain ⟨y_1, y_2⟩ := bounds_i64 w_y
  obtain ⟨z_1, z_2⟩ := bounds_i64 w_z
  by_cases hbig_s : 1048576 < l_s
  · clear hs_s hlen_s hin_s
    go_enter Try.func4, Try.ntmps4
    go_wp2
    go_ret
    exact ⟨rfl, bel_alloc _ _⟩
  · have hq_s : l_s ≤ 1048576 := by omega
    exact gen_FnExactCountPairFits a d k mode b wr y z s _ _ _ (cpR a d k mode b wr y z s) (rtB a d k mode b y z s) w hs_s (by omega) (by omega)  (fun w v_s h_s => spec_CountPairFits_is _ _ _ _ _ _ _ _ v_s s w h_s y_1 y_2 z_1 z_2) (fun w v_s h_s => impl_CountPairFits_is _ _ _ _ _ _ _ _ v_s s w h_s y_1 y_2 z_1 z_2)

end Go.Proofs.Ytmbaemdbbajliaa
