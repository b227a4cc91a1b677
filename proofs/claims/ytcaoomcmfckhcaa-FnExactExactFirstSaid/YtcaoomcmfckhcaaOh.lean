
import Derived.Test.YtcaoomcmfckhcaaOg
namespace Go.Proofs.Ytcaoomcmfckhcaa
open Go.RowKit BitX Go.MemX Go.ShX
set_option linter.unusedVariables false


theorem pow10 (k : Nat) (h : k ≤ 10) : (1 : Int) ≤ 2 ^ k ∧ (2 : Int) ^ k ≤ 1024 := by
  have h1 : (2 : Nat) ^ k ≤ 2 ^ 10 := Nat.pow_le_pow_right (by decide) h
  have h2 : (2 : Int) ^ k ≤ 2 ^ 10 := by exact_mod_cast h1
  have h3 : (0 : Int) < 2 ^ k := Int.pow_pos (by decide)
  omega
def scI (k c : Nat) : Int := 2 ^ (k * c)
theorem scI_zero (k : Nat) : scI k 0 = 1 := rfl
theorem scI_succ (k c : Nat) : scI k (c + 1) = scI k c * 2 ^ k := by unfold scI; rw [Nat.mul_succ, Int.pow_add]
def exY (a : Int) (k : Nat) (s : List Int) (y : Int) : Nat → Int
  | 0 => y
  | i + 1 => a * exY a k s y i + scI k (i + 1) * at0 s i
theorem exY_succ (a : Int) (k : Nat) (s : List Int) (y : Int) (i : Nat) : exY a k s y (i + 1) = a * exY a k s y i + scI k (i + 1) * at0 s i := rfl
def nuB (x : Int) : Bool := decide (-1000000000000 ≤ x ∧ x ≤ 1000000000000)
def exOk (a : Int) (k : Nat) (s : List Int) (y : Int) : Nat → Bool
  | 0 => true
  | i + 1 => exOk a k s y i && (decide (scI k (i + 1) ≤ 1000000000000) && nuB (exY a k s y (i + 1)))
theorem exOk_succ (a : Int) (k : Nat) (s : List Int) (y : Int) (i : Nat) : exOk a k s y (i + 1) = (exOk a k s y i && (decide (scI k (i + 1) ≤ 1000000000000) && nuB (exY a k s y (i + 1)))) := rfl
theorem scI_pos (k c : Nat) : 1 ≤ scI k c := by
  have : (0 : Int) < 2 ^ (k * c) := Int.pow_pos (by decide)
  unfold scI; omega
theorem exOk_sc {a : Int} {k : Nat} {s : List Int} {y : Int} {c : Nat} (h : exOk a k s y c = true) : scI k c ≤ 1000000000000 := by
  cases c with
  | zero => rw [scI_zero]; omega
  | succ c =>
    rw [exOk_succ, Bool.and_eq_true, Bool.and_eq_true] at h
    exact of_decide_eq_true h.2.1
theorem exOk_y {a : Int} {k : Nat} {s : List Int} {y : Int} {c : Nat} (h : exOk a k s y c = true) (y1 : -32768 ≤ y) (y2 : y ≤ 32767) : -1000000000000 ≤ exY a k s y c ∧ exY a k s y c ≤ 1000000000000 := by
  cases c with
  | zero => show _ ≤ y ∧ y ≤ _; omega
  | succ c =>
    rw [exOk_succ, Bool.and_eq_true, Bool.and_eq_true] at h
    exact of_decide_eq_true h.2.2
theorem exOk_stop {a : Int} {k : Nat} {s : List Int} {y : Int} {c m : Nat} (h : exOk a k s y c = false) (hm : c ≤ m) : exOk a k s y m = false := by
  induction m with
  | zero => have : c = 0 := by omega
            subst this; exact h
  | succ m ih =>
    by_cases hc : c = m + 1
    · subst hc; exact h
    · rw [exOk_succ, ih (by omega)]; rfl
theorem exOk_big {a : Int} {k : Nat} {s : List Int} {y : Int} {c m : Nat} (h : 1000000000000 < scI k (c + 1)) (hm : c < m) : exOk a k s y m = false := by
  refine exOk_stop (c := c + 1) ?_ hm
  rw [exOk_succ, decide_eq_false (by omega)]; simp
theorem exOk_out {a : Int} {k : Nat} {s : List Int} {y : Int} {c m : Nat} (h : ¬ (-1000000000000 ≤ exY a k s y (c + 1) ∧ exY a k s y (c + 1) ≤ 1000000000000)) (hm : c < m) : exOk a k s y m = false := by
  refine exOk_stop (c := c + 1) ?_ hm
  rw [exOk_succ, show nuB (exY a k s y (c + 1)) = false from decide_eq_false h]; simp
theorem exOk_yes {a : Int} {k : Nat} {s : List Int} {y : Int} {c : Nat} (h : exOk a k s y c = true) (h1 : scI k (c + 1) ≤ 1000000000000) (h2 : -1000000000000 ≤ exY a k s y (c + 1) ∧ exY a k s y (c + 1) ≤ 1000000000000) : exOk a k s y (c + 1) = true := by
  rw [exOk_succ, h, decide_eq_true h1, show nuB (exY a k s y (c + 1)) = true from decide_eq_true h2]; rfl
theorem num_q (x : Int) (q : Bool) (w : World) (h : nuB x = q) : Calls Try.prog 60 #[.int .i64 x] w fun e w' => e = .returned (.bool q) ∧ w = w' := by
  cases q
  · exact spec_num_no x w (of_decide_eq_false h)
  · exact spec_num_yes x w (of_decide_eq_true h).1 (of_decide_eq_true h).2
theorem inum_q (x : Int) (q : Bool) (w : World) (h : nuB x = q) : Calls Try.prog 44 #[.int .i64 x] w fun e w' => e = .returned (.bool q) ∧ w = w' := by
  cases q
  · exact impl_num_no x w (of_decide_eq_false h)
  · exact impl_num_yes x w (of_decide_eq_true h).1 (of_decide_eq_true h).2
/-- products of a step -/
theorem ex_step {a z q x : Int} (a1 : -1024 ≤ a) (a2 : a ≤ 1024) (z1 : -1000000000000 ≤ z) (z2 : z ≤ 1000000000000) (q1 : 1 ≤ q) (q2 : q ≤ 1000000000000) (x1 : -100000 ≤ x) (x2 : x ≤ 100000) :
    (-1024000000000000 ≤ a * z ∧ a * z ≤ 1024000000000000) ∧ (-100000000000000000 ≤ q * x ∧ q * x ≤ 100000000000000000) := by
  have m1 := mul_in a1 a2 z1 z2 (by omega)
  have m2 := mul_in (show -1000000000000 ≤ q by omega) q2 x1 x2 (by omega)
  omega
def exR (a k mode b y : Int) (s : List Int) : Bool := crB a k mode b y s && exOk a k.toNat s y s.length
def exL (a k mode b y : Int) (s : List Int) : List Int := onB (exR a k mode b y s) (tab s.length fun i => exY a k.toNat s y (i + 1)) []

def exF (a : Int) (k : Nat) (s : List Int) (y : Int) : List Int := onB (exOk a k s y s.length) (tab s.length (fun i => exY a k s y (i + 1))) []

set_option maxHeartbeats 4000000 in
theorem foExact_any (a : Int) (k : Nat) (mode : Int) (n : Nat) (wd : Bool) (y : Int) (v : Value) (s : List Int) (w : World) (hs : Sl w v s) (hl : s.length ≤ 64) (hi : InP (-100000) 100000 s) (h : FoOk a k mode n) (yy1 : -32768 ≤ y) (yy2 : y ≤ 32767) :
    Calls Try.prog 42 #[.agg #[.int .i64 a, .int .i64 (k : Int), .int .i64 mode, .int .i64 (n : Int), .bool wd], .int .i64 y, v] w (Gives w (exF a k s y) (exOk a k s y s.length)) := by
  obtain ⟨aa, m, cap, rfl, hn, hrd⟩ := id hs.rd
  have Hn := hid hn
  have Hrd := hid hrd
  have HJ := hid hi
  obtain ⟨⟨a1, a2⟩, k1, _⟩ := h
  have HK := hid k1
  have hl' : m ≤ 64 := by omega
  obtain ⟨i0, hi0, hz0, hz1, hz2⟩ := info_parts iint
  clear hs hn hrd hi hl
  go_enter Try.func42, Try.ntmps42
  go_wp2_with fail
  have B0 := bel_alloc w (.cells #[.int .i64 a, .int .i64 (k : Int), .int .i64 mode, .int .i64 (n : Int), .bool wd] 29)
  have hq := box5_cells (Below.refl (w.alloc (.cells #[.int .i64 a, .int .i64 (k : Int), .int .i64 mode, .int .i64 (n : Int), .bool wd] 29)).heap.size (w.alloc (.cells #[.int .i64 a, .int .i64 (k : Int), .int .i64 mode, .int .i64 (n : Int), .bool wd] 29)))
  generalize w.alloc (.cells #[.int .i64 a, .int .i64 (k : Int), .int .i64 mode, .int .i64 (n : Int), .bool wd] 29) = w1 at *
  have Hqq := hid hq
  have HB := hid B0
  clear hq B0
  go_loopw [1, 8, 9, 14] (fun yy v sc i wr => ∃ c : Nat, c ≤ m ∧ yy = .int .i64 (exY a k s y c) ∧ sc = .int .i64 (scI k c) ∧ i = .int .i64 c ∧ wr.ownsRow w1.heap.size 3 1 v c ((tab c (fun i => exY a k s y (i + 1))).map (Value.int .i64)) ∧ exOk a k s y c = true ∧ Below w1.heap.size w1 wr)
    (fun _ _ _ i _ => m - (intOf i).toNat)
  case atStart => exact ⟨0, by omega, rfl, rfl, rfl, World.ownsRow_nil _ _ _ _, rfl, Below.refl _ _⟩
  case round =>
    obtain ⟨c, hc, rfl, rfl, rfl, hown, hok, hb⟩ := hrel
    have Hok := hid hok
    have hsz : w1.heap.size ≤ wr.heap.size := hb.size
    by_cases hlk : c < m
    · have hst := tab_step c (fun i => exY a k s y (i + 1))
      generalize hys : tab c (fun i => exY a k s y (i + 1)) = ys at hst hown
      have Hob := hid (ownsRow_base hown)
      have Hown := hid hown
      have Hst := hid hst
      obtain ⟨x, hkx⟩ := get_lt s c (by rw [← Hn.out]; exact hlk)
      obtain ⟨bb, oo, hix, hbb, hce⟩ := (Hrd.out.kept (bel_step HB.out hb)).at (P := Try.prog) (T := 39) m cap uslice sone hkx hlk
      obtain ⟨x1, x2⟩ := HJ.out.at hkx
      obtain ⟨t0, t1, t2, t3, t4⟩ := hb.cells5q Hqq.out
      clear hown hst hys hok
      obtain ⟨p1, p2⟩ := pow10 k HK.out
      have hs0 := scI_pos k c
      have hs1 := exOk_sc Hok.out
      have hz := exOk_y Hok.out yy1 yy2
      have hsn := scI_succ k c
      have hyn := exY_succ a k s y c
      have hbig : 1000000000000 < scI k (c + 1) → exOk a k s y s.length = false := fun h => exOk_big h (by rw [← Hn.out]; exact hlk)
      have hout : ¬ (-1000000000000 ≤ exY a k s y (c + 1) ∧ exY a k s y (c + 1) ≤ 1000000000000) → exOk a k s y s.length = false := fun h => exOk_out h (by rw [← Hn.out]; exact hlk)
      have hyes : scI k (c + 1) ≤ 1000000000000 → (-1000000000000 ≤ exY a k s y (c + 1) ∧ exY a k s y (c + 1) ≤ 1000000000000) → exOk a k s y (c + 1) = true := fun h1 h2 => exOk_yes Hok.out h1 h2
      rw [at0_of hkx] at hyn
      generalize hsc0 : scI k c = sc at *
      generalize hzz : exY a k s y c = z at *
      clear hsc0 hzz
      have hq0 := mul_in (show -1000000000000 ≤ sc by omega) hs1 (show -1024 ≤ (2 : Int) ^ k by omega) p2 (by omega)
      have hq1 : (1 : Int) ≤ sc * 2 ^ k := by rw [← hsn]; exact scI_pos k (c + 1)
      have hq2 : sc * 2 ^ k ≤ 1024000000000000 := by omega
      generalize hq : scI k (c + 1) = q at *
      rw [← hsn] at hq1 hq2
      have hw : wrap64 (sc * 2 ^ min k 64) = q := by rw [Nat.min_eq_left (by have := HK.out; omega), hsn]; exact IntWalk.wrap64_in _ (by rw [← hsn]; omega)
      have hw0 : wrap64 (sc * 2 ^ k) = q := by rw [hsn]; exact IntWalk.wrap64_in _ (by rw [← hsn]; omega)
      have Hq := hid hq
      have Hyn := hid hyn
      have Hbig := hid hbig
      have Hout := hid hout
      have Hyes := hid hyes
      obtain ⟨z1, z2⟩ := hz
      clear hq hyn hbig hout hyes hsn hq0 p1 p2
      by_cases hqm : q ≤ 1000000000000
      · obtain ⟨⟨r1, r2⟩, r3, r4⟩ := ex_step a1 a2 z1 z2 hq1 hqm x1 x2
        have HNq := hid (show nuB q = true from decide_eq_true (by omega))
        rw [Int.mul_comm q x] at r3 r4
        have e1 : IntKind.i64.wrap (a * z) = a * z := IntWalk.i64_in _ (by omega)
        have e2 : IntKind.i64.wrap (x * q) = x * q := IntWalk.i64_in _ (by omega)
        obtain ⟨yn, hyn⟩ : ∃ yn, yn = a * z + x * q := ⟨_, rfl⟩
        have e3 : IntKind.i64.wrap (a * z + x * q) = yn := by rw [hyn]; exact IntWalk.i64_in _ (by omega)
        have e4 : wrap64 (a * z + x * q) = yn := by rw [hyn]; exact IntWalk.wrap64_in _ (by omega)
        have hy2 : exY a k s y (c + 1) = yn := by rw [Hyn.out, hyn, Int.mul_comm q x]
        have Hyn := hid hy2
        have Hout' := Hout.out
        have Hyes' := Hyes.out hqm
        rw [hy2] at Hout' Hyes'
        have hst2 := Hst.out
        have hst2 : tab (c + 1) (fun i => exY a k s y (i + 1)) = ys ++ [exY a k s y (c + 1)] := hst2
        rw [hy2] at hst2
        have Hst := hid hst2
        have Hout := hid Hout'
        have Hyes := hid Hyes'
        clear hy2 hyn Hout' Hyes' hst2
        by_cases hnm : -1000000000000 ≤ yn ∧ yn ≤ 1000000000000
        · have HN := hid (show nuB yn = true from decide_eq_true hnm)
          have Hok2 := hid (Hyes.out hnm)
          obtain ⟨n3, n4⟩ := hnm
          go_wp2_with (first | (go_at_call 60; refine (num_q _ true _ HN.out).mono ?_; rintro e w' ⟨rfl, rfl⟩) | (at_builtin; refine wpList_append_own _ rfl _ _ 39 rfl w1.heap.size 3 i0 (.int .i64 0) 1 8 uslice hi0 hz0 hz1 hz2 rfl (by decide) _ _ _ rfl (Hown.out.alloc _) ⟨wr.heap.size, 0, none⟩ 1 1 [.int .i64 (yn)] rfl rfl ?c1 ?c2 ?c3 ?c4 ?c5 ?_))
          case c1 => exact cell_one_new _ _ _
          case c2 => intro u hu; simp at hu; subst hu; rfl
          case c3 => unfold maxLen; omega
          case c4 => omega
          case c5 => simp; omega
          intro v' w4 hown4 hgrow _
          have hb4 : Below w1.heap.size w1 w4 := (hb.alloc hsz _).grown hgrow (by simp; omega) (fun j hj => Hob.out j hj)
          have Hown4 := hid hown4
          clear hown4 hgrow
          go_wp2
          go_roundw
          case rel => exact ⟨c + 1, by omega, by rw [Hyn.out], by rw [Hq.out], by go_num, by rw [Hst.out, List.map_append]; exact Hown4.out, Hok2.out, hb4⟩
          case measure => simp [intOf]; omega
        · have HN := hid (show nuB yn = false from decide_eq_false hnm)
          have HF := hid (Hout.out hnm)
          clear hnm
          go_wp2_with (go_at_call 60; refine (num_q _ false _ HN.out).mono ?_; rintro e w' ⟨rfl, rfl⟩)
          go_ret2
          exact gives_of HF.out (show exF a k s y = [] from by unfold exF; rw [HF.out]; rfl) ⟨_, rfl, .inl ⟨rfl, rfl⟩, bel_step HB.out hb⟩
      · have hqg : 1000000000000 < q := by omega
        have HF := hid (Hbig.out hqg)
        have HNq := hid (show nuB q = false from decide_eq_false (by omega))
        clear hqm
        go_wp2_with (fail)
        go_ret2
        exact gives_of HF.out (show exF a k s y = [] from by unfold exF; rw [HF.out]; rfl) ⟨_, rfl, .inl ⟨rfl, rfl⟩, bel_step HB.out hb⟩
    · have hge : (m : Int) ≤ (c : Int) := by omega
      have hkn : c = s.length := by rw [← Hn.out]; omega
      have Hk := hid hkn
      have Hown := hid hown
      clear hkn hlk hown hok
      go_wp2
      go_ret2
      have ho := Hown.out
      have hk2 := Hok.out
      rw [Hk.out] at ho hk2
      exact gives_of (show exOk a k s y s.length = true from hk2) (show exF a k s y = tab s.length (fun i => exY a k s y (i + 1)) from by unfold exF; rw [hk2]; rfl) ⟨_, rfl, (Res.owns (by rw [tab_len]; exact ho)).mono HB.out.size, bel_step HB.out hb⟩


set_option maxHeartbeats 1000000 in
theorem spec_ExactFirst_is (a k mode b : Int) (wd : Bool) (y : Int) (v : Value) (s : List Int) (w : World) (hs : Sl w v s) (y1 : -9223372036854775808 ≤ y) (y2 : y ≤ 9223372036854775807) :
    Calls Try.prog 21 #[.agg #[.int .i64 a, .int .i64 k, .int .i64 mode, .int .i64 b, .bool wd], .int .i64 y, v] w (Gives w (exL a k mode b y s) (exR a k mode b y s)) := by
  cases h0 : asB a k mode b y 0
  · have hq : crB a k mode b y s = false := by rw [crB_as, h0]; rfl
    obtain ⟨aa, m, cap, rfl, hn, _⟩ := id hs.rd
    have HS := hid hs
    have HR := hid (show exR a k mode b y s = false from by unfold exR; rw [hq]; rfl)
    have HL := hid (show exL a k mode b y s = [] from by unfold exL exR; rw [hq]; rfl)
    clear hq
    have H0 := hid h0
    clear h0 hs hn
    go_enter Try.func21, Try.ntmps21
    go_wp2_with fail
    refine (foAsked_q _ _ _ _ _ _ _ false _ H0.out).mono ?_
    rintro e w1 ⟨rfl, hb⟩
    have B1 := hb
    obtain ⟨c0, c1, c2, c3, c4⟩ := box5_cells B1
    go_wp2_with fail
    go_ret2
    exact gives_of HR.out HL.out ⟨_, rfl, .inl ⟨rfl, rfl⟩, bel_step (bel_alloc _ _) B1⟩
  · cases h1 : sigB s
    · have hq : crB a k mode b y s = false := by rw [crB_as, h0, h1]; rfl
      obtain ⟨aa, m, cap, rfl, hn, _⟩ := id hs.rd
      have HS := hid hs
      have HR := hid (show exR a k mode b y s = false from by unfold exR; rw [hq]; rfl)
      have HL := hid (show exL a k mode b y s = [] from by unfold exL exR; rw [hq]; rfl)
      clear hq
      have H0 := hid h0
      have H1 := hid h1
      clear h0 h1 hs hn
      go_enter Try.func21, Try.ntmps21
      go_wp2_with fail
      refine (foAsked_q _ _ _ _ _ _ _ true _ H0.out).mono ?_
      rintro e w1 ⟨rfl, hb⟩
      have B1 := hb
      obtain ⟨c0, c1, c2, c3, c4⟩ := box5_cells B1
      go_wp2_with fail
      refine (wdSignal_is _ s false _ (HS.out.kept (bel_step (bel_alloc _ _) B1)) H1.out).mono ?_
      rintro e w' ⟨rfl, rfl⟩
      go_wp2_with fail
      go_ret2
      exact gives_of HR.out HL.out ⟨_, rfl, .inl ⟨rfl, rfl⟩, bel_step (bel_alloc _ _) B1⟩
    · have hq : crB a k mode b y s = true := by rw [crB_as, h0, h1]; rfl
      obtain ⟨k, n, rfl, rfl, ho, ⟨_, yy1, yy2⟩, hsg⟩ := crB_n hq
      obtain ⟨aa, m, cap, rfl, hn, _⟩ := id hs.rd
      have HS := hid hs
      have HQ := hid hq
      have H0 := hid h0
      have H1 := hid h1
      have HO := hid ho
      have HG := hid hsg
      clear h0 h1 hs hn ho hsg hq
      go_enter Try.func21, Try.ntmps21
      go_wp2_with fail
      refine (foAsked_q _ _ _ _ _ _ _ true _ H0.out).mono ?_
      rintro e w1 ⟨rfl, hb⟩
      have B1 := hb
      obtain ⟨c0, c1, c2, c3, c4⟩ := box5_cells B1
      go_wp2_with fail
      refine (wdSignal_is _ s true _ (HS.out.kept (bel_step (bel_alloc _ _) B1)) H1.out).mono ?_
      rintro e w' ⟨rfl, rfl⟩
      go_wp2_with fail
      refine (foExact_any a k mode n wd y _ s _ (HS.out.kept (bel_step (bel_alloc _ _) B1)) HG.out.1 HG.out.2 HO.out yy1 yy2).mono ?_
      rintro e w2 ⟨u, rfl, hr, hb⟩
      have B2 := bel_step B1 hb
      have Hr := hid hr
      clear hr hb
      go_wp2_with fail
      go_ret2
      have hR : exR a k mode n y s = exOk a k s y s.length := by unfold exR; rw [HQ.out]; rfl
      exact gives_of hR (show exL a k mode n y s = exF a k s y from by unfold exL; rw [hR]; rfl) ⟨_, rfl, Hr.out.mono (bel_step (bel_alloc _ _) B1).size, bel_step (bel_alloc _ _) B2⟩


set_option maxHeartbeats 4000000 in
theorem impl_ExactFirst_is (a k mode b : Int) (wd : Bool) (y : Int) (v : Value) (s : List Int) (w : World) (hs : Sl w v s) (y1 : -9223372036854775808 ≤ y) (y2 : y ≤ 9223372036854775807) :
    Calls Try.prog 23 #[.agg #[.int .i64 a, .int .i64 k, .int .i64 mode, .int .i64 b, .bool wd], .int .i64 y, v] w (Gives w (exL a k mode b y s) (exR a k mode b y s)) := by
  cases hq : crB a k mode b y s
  · obtain ⟨aa, m, cap, rfl, hn, _⟩ := id hs.rd
    have HS := hid hs
    have HR := hid (show exR a k mode b y s = false from by unfold exR; rw [hq]; rfl)
    have HL := hid (show exL a k mode b y s = [] from by unfold exL exR; rw [hq]; rfl)
    have HQ := hid hq
    clear hq hs hn
    go_enter Try.func23, Try.ntmps23
    go_wp2_with fail
    refine (canRun_q _ _ _ _ _ _ _ s false _ (HS.out.kept (bel_alloc _ _)) y1 y2 HQ.out).mono ?_
    rintro e w1 ⟨rfl, hb⟩
    have B1 := hb
    obtain ⟨c0, c1, c2, c3, c4⟩ := box5_cells B1
    go_wp2_with fail
    go_ret2
    exact gives_of HR.out HL.out ⟨_, rfl, .inl ⟨rfl, rfl⟩, bel_step (bel_alloc _ _) B1⟩
  · obtain ⟨k, n, rfl, rfl, ho, ⟨_, yy1, yy2⟩, hsg⟩ := crB_n hq
    obtain ⟨aa, m, cap, rfl, hn, hrd⟩ := id hs.rd
    have HS := hid hs
    have HQ := hid hq
    have HJ := hid hsg.2
    obtain ⟨⟨a1, a2⟩, k1, _⟩ := ho
    have HK := hid k1
    have hl' : m ≤ 64 := by rw [hn]; exact hsg.1
    have Hn := hid hn
    have Hrd := hid hrd
    have hmk := run_make_ints (P := Try.prog) 39 3 uslice iint m (by omega)
    clear hq hs hn hrd hsg k1
    go_enter Try.func23, Try.ntmps23
    go_wp2_with fail
    refine (canRun_q _ _ _ _ _ _ _ s true _ (HS.out.kept (bel_alloc _ _)) y1 y2 HQ.out).mono ?_
    rintro e w1 ⟨rfl, hb⟩
    have B1 := hb
    have Hqq := hid (box5_cells B1)
    have HB := hid (bel_step (bel_alloc _ _) B1)
    obtain ⟨c0, c1, c2, c3, c4⟩ := box5_cells B1
    clear hb B1
    go_wp2_with fail
    clear c0 c1 c2 c3 c4
    go_loopw [1, 9, 22] (fun yy sc i wr => ∃ c : Nat, c ≤ m ∧ yy = .int .i64 (exY a k s y c) ∧ sc = .int .i64 (scI k c) ∧ i = .int .i64 c ∧ Blk 3 wr w1.heap.size (upTo (tab m (fun i => exY a k s y (i + 1))) c) ∧ exOk a k s y c = true ∧ Below w1.heap.size w1 wr)
      (fun _ _ i _ => m - (intOf i).toNat)
    case atStart => exact ⟨0, by omega, rfl, rfl, rfl, by rw [upTo_zero, tab_len]; exact heap_alloc_new _ _, rfl, bel_alloc _ _⟩
    case round =>
      obtain ⟨c, hc, rfl, rfl, rfl, hblk, hok, hb⟩ := hrel
      have Hok := hid hok
      have hsz : w1.heap.size ≤ wr.heap.size := hb.size
      by_cases hlk : c < m
      · obtain ⟨x, hkx⟩ := get_lt s c (by rw [← Hn.out]; exact hlk)
        obtain ⟨bb, oo, hix, hbb, hce⟩ := (Hrd.out.kept (bel_step HB.out hb)).at (P := Try.prog) (T := 39) m cap uslice sone hkx hlk
        obtain ⟨x1, x2⟩ := HJ.out.at hkx
        obtain ⟨t0, t1, t2, t3, t4⟩ := hb.cells5q Hqq.out
        have hcd : wr.cell? ⟨w1.heap.size, c, none⟩ = some (.int .i64 0) := hblk.cell (upTo_get (tab m (fun i => exY a k s y (i + 1))) c (by rw [tab_len]; exact hlk))
        have hfd := hblk.free c
        have Hblk := hid hblk
        clear hblk hok
        obtain ⟨p1, p2⟩ := pow10 k HK.out
        have hs0 := scI_pos k c
        have hs1 := exOk_sc Hok.out
        have hz := exOk_y Hok.out yy1 yy2
        have hsn := scI_succ k c
        have hyn := exY_succ a k s y c
        have hbig : 1000000000000 < scI k (c + 1) → exOk a k s y s.length = false := fun h => exOk_big h (by rw [← Hn.out]; exact hlk)
        have hout : ¬ (-1000000000000 ≤ exY a k s y (c + 1) ∧ exY a k s y (c + 1) ≤ 1000000000000) → exOk a k s y s.length = false := fun h => exOk_out h (by rw [← Hn.out]; exact hlk)
        have hyes : scI k (c + 1) ≤ 1000000000000 → (-1000000000000 ≤ exY a k s y (c + 1) ∧ exY a k s y (c + 1) ≤ 1000000000000) → exOk a k s y (c + 1) = true := fun h1 h2 => exOk_yes Hok.out h1 h2
        rw [at0_of hkx] at hyn
        generalize hsc0 : scI k c = sc at *
        generalize hzz : exY a k s y c = z at *
        clear hsc0 hzz
        have hq0 := mul_in (show -1000000000000 ≤ sc by omega) hs1 (show -1024 ≤ (2 : Int) ^ k by omega) p2 (by omega)
        have hq1 : (1 : Int) ≤ sc * 2 ^ k := by rw [← hsn]; exact scI_pos k (c + 1)
        have hq2 : sc * 2 ^ k ≤ 1024000000000000 := by omega
        generalize hq : scI k (c + 1) = q at *
        rw [← hsn] at hq1 hq2
        have hw : wrap64 (sc * 2 ^ min k 64) = q := by rw [Nat.min_eq_left (by have := HK.out; omega), hsn]; exact IntWalk.wrap64_in _ (by rw [← hsn]; omega)
        have hw0 : wrap64 (sc * 2 ^ k) = q := by rw [hsn]; exact IntWalk.wrap64_in _ (by rw [← hsn]; omega)
        have Hq := hid hq
        have Hyn := hid hyn
        have Hbig := hid hbig
        have Hout := hid hout
        have Hyes := hid hyes
        obtain ⟨z1, z2⟩ := hz
        clear hq hyn hbig hout hyes hsn hq0 p1 p2
        by_cases hqm : q ≤ 1000000000000
        · obtain ⟨⟨r1, r2⟩, r3, r4⟩ := ex_step a1 a2 z1 z2 hq1 hqm x1 x2
          have HNq := hid (show nuB q = true from decide_eq_true (by omega))
          skip
          have e1 : IntKind.i64.wrap (a * z) = a * z := IntWalk.i64_in _ (by omega)
          have e2 : IntKind.i64.wrap (q * x) = q * x := IntWalk.i64_in _ (by omega)
          obtain ⟨yn, hyn⟩ : ∃ yn, yn = a * z + q * x := ⟨_, rfl⟩
          have e3 : IntKind.i64.wrap (a * z + q * x) = yn := by rw [hyn]; exact IntWalk.i64_in _ (by omega)
          have e4 : wrap64 (a * z + q * x) = yn := by rw [hyn]; exact IntWalk.wrap64_in _ (by omega)
          have hy2 : exY a k s y (c + 1) = yn := by rw [Hyn.out, hyn]
          have Hyn := hid hy2
          have Hout' := Hout.out
          have Hyes' := Hyes.out hqm
          rw [hy2] at Hout' Hyes'
          have hkt := tab_get m (fun i => exY a k s y (i + 1)) c hlk
          have hkt : (tab m (fun i => exY a k s y (i + 1)))[c]? = some (exY a k s y (c + 1)) := hkt
          rw [hy2] at hkt
          have Hkt := hid hkt
          have Hout := hid Hout'
          have Hyes := hid Hyes'
          clear hy2 hyn Hout' Hyes' hkt
          by_cases hnm : -1000000000000 ≤ yn ∧ yn ≤ 1000000000000
          · have HN := hid (show nuB yn = true from decide_eq_true hnm)
            have Hok2 := hid (Hyes.out hnm)
            obtain ⟨n3, n4⟩ := hnm
            go_wp2_with (first | (go_at_call 44; (first | (refine (inum_q yn true _ HN.out).mono ?_) | (refine (inum_q q true _ HNq.out).mono ?_)); rintro e w' ⟨rfl, rfl⟩))
            go_roundw
            case rel => exact ⟨c + 1, by omega, by rw [Hyn.out], by rw [Hq.out], by go_num, by rw [← upTo_step (tab m (fun i => exY a k s y (i + 1))) c yn Hkt.out]; exact Hblk.out.set c _, Hok2.out, hb.setCell (by simp) _⟩
            case measure => simp [intOf]; omega
          · have HN := hid (show nuB yn = false from decide_eq_false hnm)
            have HF := hid (Hout.out hnm)
            clear hnm
            go_wp2_with (go_at_call 44; (first | (refine (inum_q yn false _ HN.out).mono ?_) | (refine (inum_q q true _ HNq.out).mono ?_)); rintro e w' ⟨rfl, rfl⟩)
            go_ret2
            exact gives_of (show exR a k mode n y s = false from by unfold exR; rw [show exOk a (k : Int).toNat s y s.length = false from HF.out, Bool.and_false]) (show exL a k mode n y s = [] from by unfold exL exR; rw [show exOk a (k : Int).toNat s y s.length = false from HF.out, Bool.and_false]; rfl) ⟨_, rfl, .inl ⟨rfl, rfl⟩, bel_step HB.out hb⟩
        · have hqg : 1000000000000 < q := by omega
          have HF := hid (Hbig.out hqg)
          have HNq := hid (show nuB q = false from decide_eq_false (by omega))
          clear hqm
          go_wp2_with (go_at_call 44; refine (inum_q q false _ HNq.out).mono ?_; rintro e w' ⟨rfl, rfl⟩)
          go_ret2
          exact gives_of (show exR a k mode n y s = false from by unfold exR; rw [show exOk a (k : Int).toNat s y s.length = false from HF.out, Bool.and_false]) (show exL a k mode n y s = [] from by unfold exL exR; rw [show exOk a (k : Int).toNat s y s.length = false from HF.out, Bool.and_false]; rfl) ⟨_, rfl, .inl ⟨rfl, rfl⟩, bel_step HB.out hb⟩
      · have hge : (m : Int) ≤ (c : Int) := by omega
        have hkn : c = m := by omega
        have Hk := hid hkn
        have Hblk := hid hblk
        clear hkn hlk hblk hok
        go_wp2
        go_ret2
        have hk2 := Hok.out
        have hbk := Hblk.out
        rw [Hk.out] at hk2
        rw [Hk.out, show upTo (tab m (fun i => exY a k s y (i + 1))) m = tab m (fun i => exY a k s y (i + 1)) from by have := upTo_full (tab m (fun i => exY a k s y (i + 1))); rwa [tab_len] at this] at hbk
        have h2 := hbk.res (Nat.le_refl _)
        rw [tab_len, Hn.out] at h2
        rw [Hn.out] at hk2
        have hR : exR a k mode n y s = true := by unfold exR; rw [HQ.out, show exOk a (k : Int).toNat s y s.length = true from hk2]; rfl
        refine gives_of hR (show exL a k mode n y s = tab s.length (fun i => exY a k s y (i + 1)) from by unfold exL; rw [hR]; rfl) ⟨_, rfl, ?_, bel_step HB.out hb⟩
        rw [Hn.out]; exact h2.mono HB.out.size


set_option maxHeartbeats 1600000 in
theorem gen_FnExactExactFirst (a k mode b : Int) (wr : Bool) (y : Int) (s : List Int) (u_s : Option Addr) (l_s c_s : Nat) (ys : List Int) (ok : Bool) (w : World) (hs_s : Sl w (.slice u_s l_s c_s) s) (ll_s : l_s ≤ 1048576) (hl_s : s.length ≤ 1048576) (hy : ys.length ≤ 2000000) (hspec : ∀ (w : World) (v_s : Value), Sl w v_s s → Calls Try.prog 21 #[.agg #[.int .i64 a, .int .i64 k, .int .i64 mode, .int .i64 b, .bool wr], .int .i64 y, v_s] w (Gives w ys ok)) (himpl : ∀ (w : World) (v_s : Value), Sl w v_s s → Calls Try.prog 23 #[.agg #[.int .i64 a, .int .i64 k, .int .i64 mode, .int .i64 b, .bool wr], .int .i64 y, v_s] w (Gives w ys ok)) :
    Calls Try.prog 8 #[.agg #[.int .i64 a, .int .i64 k, .int .i64 mode, .int .i64 b, .bool wr], .int .i64 y, .slice u_s l_s c_s] w fun e w' => e = .returned (.bool true) ∧ Below w.heap.size w w' := by
  have HSs := hid hs_s
  clear hs_s
  have HSP := hid hspec
  have HIM := hid himpl
  clear hspec himpl
  all_goals cases ok
  all_goals
    go_enter Try.func8, Try.ntmps8
    go_wp2_with fail
    refine (toFirst_any _ _ _ _ _ _).mono ?_
    rintro e w1 ⟨rfl, hb⟩
    have B1 := hb
    have hz1 : w.heap.size ≤ w1.heap.size := by first | exact hb.size | (have := hb.size; simp at this; omega)
    obtain ⟨ca1, cb1, cc1, cd1, ce1⟩ := box5_cells B1
    go_wp2_with fail
    refine (toIntS_any _ s _ (HSs.out.kept (bel_step (bel_alloc w _) B1)) (by omega)).mono ?_
    rintro e w2 ⟨g_As1, hg_As1, rfl, K_As1, hb⟩
    have B2 := bel_step B1 hb
    have hz2 : w1.heap.size ≤ w2.heap.size := hb.size
    have As1 := K_As1.res hg_As1
    obtain ⟨ca2, cb2, cc2, cd2, ce2⟩ := box5_cells B2
    go_wp2_with fail
    refine (HSP.out _ _ As1.sl).mono ?_
    rintro e w3 ⟨v_R0, rfl, R0, hb⟩
    have B3 := bel_step B2 hb
    have hz3 : w2.heap.size ≤ w3.heap.size := hb.size
    have As1_3 := As1.kept hb
    obtain ⟨ca3, cb3, cc3, cd3, ce3⟩ := box5_cells B3
    have hlt0 : ∀ g, v_R0.ownBlock = some g → g < w3.heap.size := fun g hg => R0.lt hg
    have Hlt0 := hid hlt0
    clear hlt0
    go_wp2_with fail
    refine (toIntS_any _ s _ (HSs.out.kept (bel_step (bel_alloc w _) B3)) (by omega)).mono ?_
    rintro e w4 ⟨g_Xs, hg_Xs, rfl, K_Xs, hb⟩
    have B4 := bel_step B3 hb
    have hz4 : w3.heap.size ≤ w4.heap.size := hb.size
    have R0_4 := R0.kept hb
    have Xs := K_Xs.res hg_Xs
    obtain ⟨ca4, cb4, cc4, cd4, ce4⟩ := box5_cells B4
    have hlt_Xs := K_Xs.lt
    have hne_Xs : ∀ g, v_R0.ownBlock = some g → g ≠ g_Xs := fun g hg => by have a1 := Hlt0.out g hg; omega
    have Hne_Xs := hid hne_Xs
    clear hne_Xs
    go_wp2_with fail
    refine (toFirst_any _ _ _ _ _ _).mono ?_
    rintro e w5 ⟨rfl, hb⟩
    have B5 := bel_step B4 hb
    have hz5 : w4.heap.size ≤ w5.heap.size := hb.size
    have R0_5 := R0_4.kept hb
    have Xs_5 := Xs.kept hb
    obtain ⟨ca5, cb5, cc5, cd5, ce5⟩ := box5_cells B5
    have hxl_Xs : g_Xs < w5.heap.size := Xs_5.lt rfl
    go_wp2_with fail
    refine (HIM.out _ _ Xs_5.sl).mono ?_
    rintro e w6 ⟨v_R1, rfl, R1, hb⟩
    have B6 := bel_step B5 hb
    have hz6 : w5.heap.size ≤ w6.heap.size := hb.size
    have R0_6 := R0_5.kept hb
    have Xs_6 := Xs_5.kept hb
    obtain ⟨ca6, cb6, cc6, cd6, ce6⟩ := box5_cells B6
    have hne1_Xs : ∀ g, v_R1.ownBlock = some g → g ≠ g_Xs := fun g hg => by have a1 := R1.ge hg; omega
    have Hne1_Xs := hid hne1_Xs
    clear hne1_Xs
    have hne01 : ∀ g, v_R0.ownBlock = some g → v_R1.ownBlock ≠ some g := fun g hg e => by have a1 := R1.ge e; have a2 := Hlt0.out g hg; omega
    have Hne01 := hid hne01
    clear hne01
    have hge1 : ∀ g, v_R1.ownBlock = some g → w5.heap.size ≤ g := fun g hg => R1.ge hg
    have Hge1 := hid hge1
    clear hge1
    go_wp2_with fail
    refine (eqIntS_same _ _ ys _ R1.sl R0_6.sl hy).mono ?_
    rintro e w7 ⟨rfl, hb⟩
    have B7 := bel_step B6 hb
    have hz7 : w6.heap.size ≤ w7.heap.size := hb.size
    have R0_7 := R0_6.kept hb
    have Xs_7 := Xs_6.kept hb
    have R1_7 := R1.kept hb
    obtain ⟨ca7, cb7, cc7, cd7, ce7⟩ := box5_cells B7
    go_wp2_with fail
    refine (toIntS_any _ s _ (HSs.out.kept (bel_step (bel_alloc w _) B7)) (by omega)).mono ?_
    rintro e w8 ⟨g_TXs, hg_TXs, rfl, K_TXs, hb⟩
    have B8 := bel_step B7 hb
    have hz8 : w7.heap.size ≤ w8.heap.size := hb.size
    have R0_8 := R0_7.kept hb
    have Xs_8 := Xs_7.kept hb
    have R1_8 := R1_7.kept hb
    have TXs := K_TXs.res hg_TXs
    obtain ⟨ca8, cb8, cc8, cd8, ce8⟩ := box5_cells B8
    go_wp2_with fail
    refine (eqIntS_same _ _ s _ Xs_8.sl TXs.sl (by omega)).mono ?_
    rintro e w9 ⟨rfl, hb⟩
    have B9 := bel_step B8 hb
    have hz9 : w8.heap.size ≤ w9.heap.size := hb.size
    have R0_9 := R0_8.kept hb
    have Xs_9 := Xs_8.kept hb
    have R1_9 := R1_8.kept hb
    have TXs_9 := TXs.kept hb
    obtain ⟨ca9, cb9, cc9, cd9, ce9⟩ := box5_cells B9
    go_wp2_with fail
    refine (markIntS_one _ s _ _ Xs_9 (by omega)).mono ?_
    rintro e w10 ⟨rfl, ho, _⟩
    have B10 := B9.trans (ho.below fun g hg => by cases hg; exact Nat.le_trans B3.size hg_Xs)
    have hz10 : w9.heap.size ≤ w10.heap.size := Nat.le_of_eq ho.size.symm
    have R0_10 := R0_9.only ho fun g hg e => by cases e; exact Hne_Xs.out _ hg rfl
    have R1_10 := R1_9.only ho fun g hg e => by cases e; exact Hne1_Xs.out _ hg rfl
    obtain ⟨ca10, cb10, cc10, cd10, ce10⟩ := box5_cells B10
    go_wp2_with fail
    refine (eqIntS_same _ _ ys _ R1_10.sl R0_10.sl hy).mono ?_
    rintro e w11 ⟨rfl, hb⟩
    have B11 := bel_step B10 hb
    have hz11 : w10.heap.size ≤ w11.heap.size := hb.size
    have R0_11 := R0_10.kept hb
    have R1_11 := R1_10.kept hb
    obtain ⟨ca11, cb11, cc11, cd11, ce11⟩ := box5_cells B11
    go_wp2_with fail
    refine (markIntS_one _ ys _ _ R1_11 hy).mono ?_
    rintro e w12 ⟨rfl, ho, M⟩
    have B12 := B11.trans (ho.below fun g hg => Nat.le_trans B5.size (Hge1.out g hg))
    have hz12 : w11.heap.size ≤ w12.heap.size := Nat.le_of_eq ho.size.symm
    have R0_12 := R0_11.only ho Hne01.out
    obtain ⟨ca12, cb12, cc12, cd12, ce12⟩ := box5_cells B12
    go_wp2_with fail
    refine (heldIntS_one _ ys.length _ _ M hy).mono ?_
    rintro e w' ⟨rfl, rfl⟩
    go_wp2_with fail
    refine (toFirst_any _ _ _ _ _ _).mono ?_
    rintro e w13 ⟨rfl, hb⟩
    have B13 := bel_step B12 hb
    have hz13 : w12.heap.size ≤ w13.heap.size := hb.size
    have R0_13 := R0_12.kept hb
    have M_13 := M.kept hb
    obtain ⟨ca13, cb13, cc13, cd13, ce13⟩ := box5_cells B13
    go_wp2_with fail
    refine (toIntS_any _ s _ (HSs.out.kept (bel_step (bel_alloc w _) B13)) (by omega)).mono ?_
    rintro e w14 ⟨g_As13, hg_As13, rfl, K_As13, hb⟩
    have B14 := bel_step B13 hb
    have hz14 : w13.heap.size ≤ w14.heap.size := hb.size
    have R0_14 := R0_13.kept hb
    have M_14 := M_13.kept hb
    have As13 := K_As13.res hg_As13
    obtain ⟨ca14, cb14, cc14, cd14, ce14⟩ := box5_cells B14
    go_wp2_with fail
    refine (HIM.out _ _ As13.sl).mono ?_
    rintro e w15 ⟨v_R2, rfl, R2, hb⟩
    have B15 := bel_step B14 hb
    have hz15 : w14.heap.size ≤ w15.heap.size := hb.size
    have R0_15 := R0_14.kept hb
    have M_15 := M_14.kept hb
    have As13_15 := As13.kept hb
    obtain ⟨ca15, cb15, cc15, cd15, ce15⟩ := box5_cells B15
    go_wp2_with fail
    refine (eqIntS_same _ _ ys _ R2.sl R0_15.sl hy).mono ?_
    rintro e w16 ⟨rfl, hb⟩
    have B16 := bel_step B15 hb
    have hz16 : w15.heap.size ≤ w16.heap.size := hb.size
    have R0_16 := R0_15.kept hb
    have M_16 := M_15.kept hb
    have R2_16 := R2.kept hb
    obtain ⟨ca16, cb16, cc16, cd16, ce16⟩ := box5_cells B16
    go_wp2_with fail
    refine (heldIntS_one _ ys.length _ _ M_16 hy).mono ?_
    rintro e w' ⟨rfl, rfl⟩
    go_wp2_with fail
    go_ret
    exact ⟨rfl, bel_step (bel_alloc _ _) B16⟩

theorem exL_len (a k mode b y : Int) (s : List Int) (h : s.length ≤ 1048576) : (exL a k mode b y s).length ≤ 2000000 := by
  unfold exL onB; split
  · rw [tab_len]; omega
  · simp
end Go.Proofs.Ytcaoomcmfckhcaa
