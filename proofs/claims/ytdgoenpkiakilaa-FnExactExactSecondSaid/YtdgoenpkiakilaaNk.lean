
import Derived.Test.YtdgoenpkiakilaaNh
import Derived.Test.YtdgoenpkiakilaaOh
namespace Go.Proofs.Ytdgoenpkiakilaa
open Go.RowKit BitX Go.MemX Go.ShX
set_option linter.unusedVariables false

theorem ownsRow_form {w : World} {base : Nat} {e : TypeId} {size : Nat} {v : Value} {n : Nat} {xs : List Value} (h : w.ownsRow base e size v n xs) : ∃ a cap, v = .slice a n cap := by
  obtain ⟨_, ⟨rfl, rfl⟩ | ⟨g, cap, cur, hv, _⟩⟩ := h
  · exact ⟨none, 0, rfl⟩
  · exact ⟨_, cap, hv⟩



def exU (a d : Int) (k : Nat) (s : List Int) (y z : Int) : Nat → Int × Int
  | 0 => (y, z)
  | i + 1 => (a * (exU a d k s y z i).1 + d * (exU a d k s y z i).2 + scI k (i + 1) * at0 s i, (exU a d k s y z i).1 * 2 ^ k)
def eY (a d : Int) (k : Nat) (s : List Int) (y z : Int) (i : Nat) : Int := (exU a d k s y z i).1
def eZ (a d : Int) (k : Nat) (s : List Int) (y z : Int) (i : Nat) : Int := (exU a d k s y z i).2
def sZ (a d : Int) (k : Nat) (s : List Int) (y z : Int) : Nat → Int
  | 0 => z
  | i + 1 => eY a d k s y z i
theorem eY_succ (a d : Int) (k : Nat) (s : List Int) (y z : Int) (i : Nat) : eY a d k s y z (i + 1) = a * eY a d k s y z i + d * eZ a d k s y z i + scI k (i + 1) * at0 s i := rfl
theorem eZ_succ (a d : Int) (k : Nat) (s : List Int) (y z : Int) (i : Nat) : eZ a d k s y z (i + 1) = eY a d k s y z i * 2 ^ k := rfl
theorem eZ_zero (a d : Int) (k : Nat) (s : List Int) (y z : Int) : eZ a d k s y z 0 = z := rfl
theorem sZ_zero (a d : Int) (k : Nat) (s : List Int) (y z : Int) : sZ a d k s y z 0 = z := rfl
theorem sZ_succ (a d : Int) (k : Nat) (s : List Int) (y z : Int) (i : Nat) : sZ a d k s y z (i + 1) = eY a d k s y z i := rfl
theorem eZ_sZ (a d : Int) (k : Nat) (s : List Int) (y z : Int) (i : Nat) (h : 0 < i) : eZ a d k s y z i = sZ a d k s y z i * 2 ^ k := by
  cases i with
  | zero => omega
  | succ i => rfl
def ex2Ok (a d : Int) (k : Nat) (s : List Int) (y z : Int) : Nat → Bool
  | 0 => true
  | i + 1 => ex2Ok a d k s y z i && (decide (scI k (i + 1) ≤ 1000000000000) && nuB (eY a d k s y z (i + 1)))
theorem ex2Ok_succ (a d : Int) (k : Nat) (s : List Int) (y z : Int) (i : Nat) : ex2Ok a d k s y z (i + 1) = (ex2Ok a d k s y z i && (decide (scI k (i + 1) ≤ 1000000000000) && nuB (eY a d k s y z (i + 1)))) := rfl
section
variable {a d : Int} {k : Nat} {s : List Int} {y z : Int}
theorem ex2Ok_sc {c : Nat} (h : ex2Ok a d k s y z c = true) : scI k c ≤ 1000000000000 := by
  cases c with
  | zero => rw [scI_zero]; omega
  | succ c =>
    rw [ex2Ok_succ, Bool.and_eq_true, Bool.and_eq_true] at h
    exact of_decide_eq_true h.2.1
theorem ex2Ok_y {c : Nat} (h : ex2Ok a d k s y z c = true) (y1 : -32768 ≤ y) (y2 : y ≤ 32767) : -1000000000000 ≤ eY a d k s y z c ∧ eY a d k s y z c ≤ 1000000000000 := by
  cases c with
  | zero => show _ ≤ y ∧ y ≤ _; omega
  | succ c =>
    rw [ex2Ok_succ, Bool.and_eq_true, Bool.and_eq_true] at h
    exact of_decide_eq_true h.2.2
theorem ex2Ok_sz {c : Nat} (h : ex2Ok a d k s y z c = true) (y1 : -32768 ≤ y) (y2 : y ≤ 32767) (z1 : -32768 ≤ z) (z2 : z ≤ 32767) : -1000000000000 ≤ sZ a d k s y z c ∧ sZ a d k s y z c ≤ 1000000000000 := by
  cases c with
  | zero => show _ ≤ z ∧ z ≤ _; omega
  | succ c =>
    rw [ex2Ok_succ, Bool.and_eq_true] at h
    exact ex2Ok_y h.1 y1 y2
theorem mulP {x : Int} {k : Nat} (hk : k ≤ 10) (h1 : -1000000000000 ≤ x) (h2 : x ≤ 1000000000000) : -1024000000000000 ≤ x * 2 ^ k ∧ x * 2 ^ k ≤ 1024000000000000 := by
  obtain ⟨p1, p2⟩ := pow10 k hk
  have := mul_in h1 h2 (show -1024 ≤ (2 : Int) ^ k by omega) p2 (by omega)
  omega
theorem ex2Ok_z {c : Nat} (hk : k ≤ 10) (h : ex2Ok a d k s y z c = true) (y1 : -32768 ≤ y) (y2 : y ≤ 32767) (z1 : -32768 ≤ z) (z2 : z ≤ 32767) : -1024000000000000 ≤ eZ a d k s y z c ∧ eZ a d k s y z c ≤ 1024000000000000 := by
  cases c with
  | zero => show _ ≤ z ∧ z ≤ _; omega
  | succ c =>
    rw [eZ_succ]
    rw [ex2Ok_succ, Bool.and_eq_true] at h
    have := ex2Ok_y h.1 y1 y2
    exact mulP hk this.1 this.2
theorem ex2Ok_stop {c m : Nat} (h : ex2Ok a d k s y z c = false) (hm : c ≤ m) : ex2Ok a d k s y z m = false := by
  induction m with
  | zero => have : c = 0 := by omega
            subst this; exact h
  | succ m ih =>
    by_cases hc : c = m + 1
    · subst hc; exact h
    · rw [ex2Ok_succ, ih (by omega)]; rfl
theorem ex2Ok_big {c m : Nat} (h : 1000000000000 < scI k (c + 1)) (hm : c < m) : ex2Ok a d k s y z m = false := by
  refine ex2Ok_stop (c := c + 1) ?_ hm
  rw [ex2Ok_succ, decide_eq_false (by omega)]; simp
theorem ex2Ok_out {c m : Nat} (h : ¬ (-1000000000000 ≤ eY a d k s y z (c + 1) ∧ eY a d k s y z (c + 1) ≤ 1000000000000)) (hm : c < m) : ex2Ok a d k s y z m = false := by
  refine ex2Ok_stop (c := c + 1) ?_ hm
  rw [ex2Ok_succ, show nuB (eY a d k s y z (c + 1)) = false from decide_eq_false h]; simp
theorem ex2Ok_yes {c : Nat} (h : ex2Ok a d k s y z c = true) (h1 : scI k (c + 1) ≤ 1000000000000) (h2 : -1000000000000 ≤ eY a d k s y z (c + 1) ∧ eY a d k s y z (c + 1) ≤ 1000000000000) : ex2Ok a d k s y z (c + 1) = true := by
  rw [ex2Ok_succ, h, decide_eq_true h1, show nuB (eY a d k s y z (c + 1)) = true from decide_eq_true h2]; rfl
end
/-- products of a step -/
theorem ex2_step {a d yy zz q x : Int} (a1 : -1024 ≤ a) (a2 : a ≤ 1024) (d1 : -1024 ≤ d) (d2 : d ≤ 1024) (u1 : -1000000000000 ≤ yy) (u2 : yy ≤ 1000000000000) (v1 : -1024000000000000 ≤ zz) (v2 : zz ≤ 1024000000000000) (q1 : 1 ≤ q) (q2 : q ≤ 1000000000000) (x1 : -100000 ≤ x) (x2 : x ≤ 100000) :
    (-1024000000000000 ≤ a * yy ∧ a * yy ≤ 1024000000000000) ∧ (-1048576000000000000 ≤ d * zz ∧ d * zz ≤ 1048576000000000000) ∧ (-100000000000000000 ≤ q * x ∧ q * x ≤ 100000000000000000) := by
  have m1 := mul_in a1 a2 u1 u2 (by omega)
  have m2 := mul_in d1 d2 v1 v2 (by omega)
  have m3 := mul_in (show -1000000000000 ≤ q by omega) q2 x1 x2 (by omega)
  omega
def ex2R (a d k mode b y z : Int) (s : List Int) : Bool := rtB a d k mode b y z s && ex2Ok a d k.toNat s y z s.length
def ex2L (a d k mode b y z : Int) (s : List Int) : List Int := onB (ex2R a d k mode b y z s) (tab s.length fun i => eY a d k.toNat s y z (i + 1)) []
theorem ex2L_len (a d k mode b y z : Int) (s : List Int) (h : s.length ≤ 1048576) : (ex2L a d k mode b y z s).length ≤ 2000000 := by
  unfold ex2L onB; split
  · rw [tab_len]; omega
  · simp
theorem w64i {x : Int} (h1 : -4000000000000000000 ≤ x) (h2 : x ≤ 4000000000000000000) : IntKind.i64.wrap x = x ∧ wrap64 x = x := ⟨IntWalk.i64_in _ (by omega), IntWalk.wrap64_in _ (by omega)⟩
theorem minle10 {k : Nat} (h : k ≤ 10) : min k 64 = k := Nat.min_eq_left (by omega)
/-- the scale's step -/
theorem sc_step {k c : Nat} (hk : k ≤ 10) (h : scI k c ≤ 1000000000000) : 1 ≤ scI k (c + 1) ∧ scI k (c + 1) ≤ 1024000000000000 ∧ wrap64 (scI k c * 2 ^ k) = scI k (c + 1) ∧ wrap64 (scI k c * 2 ^ min k 64) = scI k (c + 1) := by
  have h0 := scI_pos k c
  have h1 := scI_pos k (c + 1)
  have hs := scI_succ k c
  have h2 := mulP hk (show -1000000000000 ≤ scI k c by omega) h
  rw [← hs] at h2
  rw [minle10 hk, ← hs]
  exact ⟨h1, h2.2, (w64i (by omega) (by omega)).2, (w64i (by omega) (by omega)).2⟩

theorem ex2_in1 {d sz : Int} (d1 : -1024 ≤ d) (d2 : d ≤ 1024) (s1 : -1000000000000 ≤ sz) (s2 : sz ≤ 1000000000000) : -1024000000000000 ≤ d * sz ∧ d * sz ≤ 1024000000000000 := by
  have := mul_in d1 d2 s1 s2 (by omega); omega
theorem mulP16 {x : Int} {k : Nat} (hk : k ≤ 10) (h1 : -1024000000000000 ≤ x) (h2 : x ≤ 1024000000000000) : -1048576000000000000 ≤ x * 2 ^ k ∧ x * 2 ^ k ≤ 1048576000000000000 := by
  obtain ⟨p1, p2⟩ := pow10 k hk
  have := mul_in h1 h2 (show -1024 ≤ (2 : Int) ^ k by omega) p2 (by omega)
  omega


set_option maxHeartbeats 4000000 in
theorem impl_ExactSecond_is (a d k mode b : Int) (wd : Bool) (y z : Int) (v : Value) (s : List Int) (w : World) (hs : Sl w v s) (y1 : -9223372036854775808 ≤ y) (y2 : y ≤ 9223372036854775807) (z1 : -9223372036854775808 ≤ z) (z2 : z ≤ 9223372036854775807) :
    Calls Try.prog 24 #[.agg #[.int .i64 a, .int .i64 d, .int .i64 k, .int .i64 mode, .int .i64 b, .bool wd], .int .i64 y, .int .i64 z, v] w (Gives w (ex2L a d k mode b y z s) (ex2R a d k mode b y z s)) := by
  cases hq : rtB a d k mode b y z s
  · obtain ⟨aa, m, cap, rfl, hn, _⟩ := id hs.rd
    have HS := hid hs
    have HR := hid (show ex2R a d k mode b y z s = false from by unfold ex2R; rw [hq]; rfl)
    have HL := hid (show ex2L a d k mode b y z s = [] from by unfold ex2L ex2R; rw [hq]; rfl)
    have HQ := hid hq
    clear hq hs hn
    go_enter Try.func24, Try.ntmps24
    go_wp2_with fail
    refine (canRunPair_q _ _ _ _ _ _ _ _ _ s false _ (HS.out.kept (bel_alloc _ _)) y1 y2 z1 z2 HQ.out).mono ?_
    rintro e w1 ⟨rfl, hb⟩
    have B1 := hb
    go_wp2_with fail
    go_ret2
    exact gives_of HR.out HL.out ⟨_, rfl, .inl ⟨rfl, rfl⟩, bel_step (bel_alloc _ _) B1⟩
  · obtain ⟨k, n, rfl, rfl, ho, ⟨_, yy1, yy2⟩, ⟨_, zz1, zz2⟩, hsg⟩ := rtB_n hq
    obtain ⟨aa, m, cap, rfl, hn, hrd⟩ := id hs.rd
    have HS := hid hs
    have HQ := hid hq
    have HO := hid ho
    have HJ := hid hsg.2
    obtain ⟨⟨⟨a1, a2⟩, k1, _⟩, d1, d2⟩ := id ho
    have HK := hid k1
    have n1 := ho.1.2.2.2.1
    have n2 := ho.1.2.2.2.2
    have hl' : m ≤ 64 := by rw [hn]; exact hsg.1
    have Hn := hid hn
    have Hrd := hid hrd
    clear hq hs hn hrd ho hsg
    go_enter Try.func24, Try.ntmps24
    go_wp2_with fail
    refine (canRunPair_q _ _ _ _ _ _ _ _ _ s true _ (HS.out.kept (bel_alloc _ _)) y1 y2 z1 z2 HQ.out).mono ?_
    rintro e w1 ⟨rfl, hb⟩
    have B1 := hb
    have hmk := run_make_ints (P := Try.prog) 48 3 uslice iint m (by omega)
    obtain ⟨c0, c1, c2, c3, c4, c5⟩ := box6_cells B1
    clear hb
    go_wp2_with fail
    have Hqq := hid (box6_cells B1)
    have HB := hid (bel_step (bel_alloc _ _) B1)
    clear c0 c1 c2 c3 c4 c5 B1
    go_loopw [1, 2, 11, 25] (fun yv zv sc i wr => ∃ c : Nat, c ≤ m ∧ yv = .int .i64 (eY a d k s y z c) ∧ zv = .int .i64 (eZ a d k s y z c) ∧ sc = .int .i64 (scI k c) ∧ i = .int .i64 c ∧ Blk 3 wr w1.heap.size (upTo (tab m (fun i => eY a d k s y z (i + 1))) c) ∧ ex2Ok a d k s y z c = true ∧ Below w1.heap.size w1 wr)
      (fun _ _ _ i _ => m - (intOf i).toNat)
    case atStart => exact ⟨0, by omega, rfl, rfl, rfl, rfl, by rw [upTo_zero, tab_len]; exact heap_alloc_new _ _, rfl, bel_alloc _ _⟩
    case round =>
      obtain ⟨c, hc, rfl, rfl, rfl, rfl, hblk, hok, hb⟩ := hrel
      have Hok := hid hok
      have hsz : w1.heap.size ≤ wr.heap.size := hb.size
      by_cases hlk : c < m
      · obtain ⟨x, hkx⟩ := get_lt s c (by rw [← Hn.out]; exact hlk)
        obtain ⟨bb, oo, hix, hbb, hce⟩ := (Hrd.out.kept (bel_step HB.out hb)).at (P := Try.prog) (T := 48) m cap uslice sone hkx hlk
        obtain ⟨x1, x2⟩ := HJ.out.at hkx
        obtain ⟨t0, t1, t2, t3, t4, t5⟩ := hb.cells6q Hqq.out
        have hcd : wr.cell? ⟨w1.heap.size, c, none⟩ = some (.int .i64 0) := hblk.cell (upTo_get (tab m (fun i => eY a d k s y z (i + 1))) c (by rw [tab_len]; exact hlk))
        have hfd := hblk.free c
        have Hblk := hid hblk
        clear hblk hok
        have hsc := sc_step HK.out (ex2Ok_sc Hok.out)
        have hyy0 := ex2Ok_y Hok.out yy1 yy2
        have hzz0 := ex2Ok_z HK.out Hok.out yy1 yy2 zz1 zz2
        have hsz0 := ex2Ok_sz Hok.out yy1 yy2 zz1 zz2
        have hyn := eY_succ a d k s y z c
        have hzn := eZ_succ a d k s y z c
        have hsn := sZ_succ a d k s y z c
        have hpz := mulP HK.out hyy0.1 hyy0.2
        have hbig : 1000000000000 < scI k (c + 1) → ex2Ok a d k s y z s.length = false := fun h => ex2Ok_big h (by rw [← Hn.out]; exact hlk)
        have hout : ¬ (-1000000000000 ≤ eY a d k s y z (c + 1) ∧ eY a d k s y z (c + 1) ≤ 1000000000000) → ex2Ok a d k s y z s.length = false := fun h => ex2Ok_out h (by rw [← Hn.out]; exact hlk)
        have hyes : scI k (c + 1) ≤ 1000000000000 → (-1000000000000 ≤ eY a d k s y z (c + 1) ∧ eY a d k s y z (c + 1) ≤ 1000000000000) → ex2Ok a d k s y z (c + 1) = true := fun h1 h2 => ex2Ok_yes Hok.out h1 h2
        rw [at0_of hkx] at hyn
        clear hsz0
        generalize hq : scI k (c + 1) = q at *
        generalize hscc : scI k c = sc at *
        generalize hyy : eY a d k s y z c = yy at *
        generalize hzz : eZ a d k s y z c = zz at *
        obtain ⟨q1, q2, hw0, hw⟩ := hsc
        obtain ⟨u1, u2⟩ := hyy0
        obtain ⟨v1, v2⟩ := hzz0
        obtain ⟨zn, hznn⟩ : ∃ zn, zn = yy * 2 ^ k := ⟨_, rfl⟩
        have hyk : wrap64 (yy * 2 ^ k) = zn := by rw [hznn]; exact (w64i (by omega) (by omega)).2
        have hyk0 : wrap64 (yy * 2 ^ min k 64) = zn := by rw [minle10 HK.out]; exact hyk
        have hyk1 : IntKind.i64.wrap (yy * 2 ^ k) = zn := by rw [hznn]; exact (w64i (by omega) (by omega)).1
        rw [← hznn] at hzn
        have Hq := hid hq
        have Hyn := hid hyn
        have Hzn := hid hzn
        have Hsn := hid hsn
        have Hbig := hid hbig
        have Hout := hid hout
        have Hyes := hid hyes
        clear hq hyn hzn hsn hbig hout hyes hscc hyy hzz hznn hpz
        by_cases hqm : q ≤ 1000000000000
        · obtain ⟨⟨r1, r2⟩, ⟨r3, r4⟩, r5, r6⟩ := ex2_step a1 a2 d1 d2 u1 u2 v1 v2 q1 hqm x1 x2
          have HNq := hid (show nuB q = true from decide_eq_true (by omega))
          have e1 := (w64i (show -4000000000000000000 ≤ a * yy by omega) (by omega)).1
          have e2 := (w64i (show -4000000000000000000 ≤ d * zz by omega) (by omega)).1
          have e3 := (w64i (show -4000000000000000000 ≤ q * x by omega) (by omega)).1
          have e4 := (w64i (show -4000000000000000000 ≤ a * yy + d * zz by omega) (by omega)).1
          obtain ⟨yn, hyn0⟩ : ∃ yn, yn = a * yy + d * zz + q * x := ⟨_, rfl⟩
          have e5 : IntKind.i64.wrap (a * yy + d * zz + q * x) = yn := by rw [hyn0]; exact (w64i (by omega) (by omega)).1
          have e6 : wrap64 (a * yy + d * zz + q * x) = yn := by rw [hyn0]; exact (w64i (by omega) (by omega)).2
          have hy2 : eY a d k s y z (c + 1) = yn := by rw [Hyn.out, hyn0]
          have Hyn := hid hy2
          have Hout' := Hout.out
          have Hyes' := Hyes.out hqm
          rw [hy2] at Hout' Hyes'
          have hkt := tab_get m (fun i => eY a d k s y z (i + 1)) c hlk
          have hkt : (tab m (fun i => eY a d k s y z (i + 1)))[c]? = some (eY a d k s y z (c + 1)) := hkt
          rw [hy2] at hkt
          have Hkt := hid hkt
          have Hout := hid Hout'
          have Hyes := hid Hyes'
          clear hy2 hyn0 Hout' Hyes' hkt
          by_cases hnm : -1000000000000 ≤ yn ∧ yn ≤ 1000000000000
          · have HN := hid (show nuB yn = true from decide_eq_true hnm)
            have Hok2 := hid (Hyes.out hnm)
            obtain ⟨n3, n4⟩ := hnm
            have hS := And.intro t0 (And.intro t1 t2)
            go_wp2_with (go_at_call 43; (refine (inum_q q true _ HNq.out).mono ?_); rintro e w' ⟨rfl, rfl⟩)
            go_region_held3 (fun W => W.cell? ⟨w.heap.size, 0, none⟩ = some (.int .i64 a) ∧ W.cell? ⟨w.heap.size, 1, none⟩ = some (.int .i64 d) ∧ W.cell? ⟨w.heap.size, 2, none⟩ = some (.int .i64 (k : Int))) (first | exact hS | assumption | go_keep) (first | fail)
            go_wp2_with (go_at_call 43; (first | (refine (inum_q yn true _ HN.out).mono ?_) | (refine (inum_q q true _ HNq.out).mono ?_)); rintro e w' ⟨rfl, rfl⟩)
            go_roundw
            case rel => exact ⟨c + 1, by omega, by rw [Hyn.out], by rw [Hzn.out], by rw [Hq.out], by go_num, by rw [← upTo_step (tab m (fun i => eY a d k s y z (i + 1))) c yn Hkt.out]; exact Hblk.out.set c _, Hok2.out, by first | exact (hb.setCell (by exact Nat.le_refl _) _).drew | exact hb.setCell (by exact Nat.le_refl _) _ | exact hb.drew.setCell (by exact Nat.le_refl _) _⟩
            case measure => simp [intOf]; omega
          · have HN := hid (show nuB yn = false from decide_eq_false hnm)
            have HF := hid (Hout.out hnm)
            clear hnm
            have hS := And.intro t0 (And.intro t1 t2)
            go_wp2_with (go_at_call 43; (refine (inum_q q true _ HNq.out).mono ?_); rintro e w' ⟨rfl, rfl⟩)
            go_region_held3 (fun W => W.cell? ⟨w.heap.size, 0, none⟩ = some (.int .i64 a) ∧ W.cell? ⟨w.heap.size, 1, none⟩ = some (.int .i64 d) ∧ W.cell? ⟨w.heap.size, 2, none⟩ = some (.int .i64 (k : Int))) (first | exact hS | assumption | go_keep) (first | fail)
            go_wp2_with (go_at_call 43; (first | (refine (inum_q yn false _ HN.out).mono ?_) | (refine (inum_q q true _ HNq.out).mono ?_)); rintro e w' ⟨rfl, rfl⟩)
            go_ret2
            exact gives_of (show ex2R a d k mode n y z s = false from by unfold ex2R; rw [show ex2Ok a d (k : Int).toNat s y z s.length = false from HF.out, Bool.and_false]) (show ex2L a d k mode n y z s = [] from by unfold ex2L ex2R; rw [show ex2Ok a d (k : Int).toNat s y z s.length = false from HF.out, Bool.and_false]; rfl) ⟨_, rfl, .inl ⟨rfl, rfl⟩, by first | exact bel_step HB.out hb | exact (bel_step HB.out hb).drew⟩
        · have hqg : 1000000000000 < q := by omega
          have HF := hid (Hbig.out hqg)
          have HNq := hid (show nuB q = false from decide_eq_false (by omega))
          clear hqm
          go_wp2_with (go_at_call 43; refine (inum_q q false _ HNq.out).mono ?_; rintro e w' ⟨rfl, rfl⟩)
          go_ret2
          exact gives_of (show ex2R a d k mode n y z s = false from by unfold ex2R; rw [show ex2Ok a d (k : Int).toNat s y z s.length = false from HF.out, Bool.and_false]) (show ex2L a d k mode n y z s = [] from by unfold ex2L ex2R; rw [show ex2Ok a d (k : Int).toNat s y z s.length = false from HF.out, Bool.and_false]; rfl) ⟨_, rfl, .inl ⟨rfl, rfl⟩, by first | exact bel_step HB.out hb | exact (bel_step HB.out hb).drew⟩
      · have hge : (m : Int) ≤ (c : Int) := by omega
        have hkn : c = m := by omega
        have Hk := hid hkn
        have Hblk := hid hblk
        clear hkn hlk hblk hok
        go_wp2
        go_ret2
        have hk2 := Hok.out
        have hbk := Hblk.out
        rw [Hk.out] at hk2
        rw [Hk.out, show upTo (tab m (fun i => eY a d k s y z (i + 1))) m = tab m (fun i => eY a d k s y z (i + 1)) from by have := upTo_full (tab m (fun i => eY a d k s y z (i + 1))); rwa [tab_len] at this] at hbk
        have h2 := hbk.res (Nat.le_refl _)
        rw [tab_len, Hn.out] at h2
        rw [Hn.out] at hk2
        have hR : ex2R a d k mode n y z s = true := by unfold ex2R; rw [HQ.out, show ex2Ok a d (k : Int).toNat s y z s.length = true from hk2]; rfl
        refine gives_of hR (show ex2L a d k mode n y z s = tab s.length (fun i => eY a d k s y z (i + 1)) from by unfold ex2L; rw [hR]; rfl) ⟨_, rfl, ?_, bel_step HB.out hb⟩
        rw [Hn.out]; exact h2.mono HB.out.size


set_option maxHeartbeats 4000000 in
theorem spec_ExactSecond_is (a d k mode b : Int) (wd : Bool) (y z : Int) (v : Value) (s : List Int) (w : World) (hs : Sl w v s) (y1 : -9223372036854775808 ≤ y) (y2 : y ≤ 9223372036854775807) (z1 : -9223372036854775808 ≤ z) (z2 : z ≤ 9223372036854775807) :
    Calls Try.prog 22 #[.agg #[.int .i64 a, .int .i64 d, .int .i64 k, .int .i64 mode, .int .i64 b, .bool wd], .int .i64 y, .int .i64 z, v] w (Gives w (ex2L a d k mode b y z s) (ex2R a d k mode b y z s)) := by
  cases h0 : atB a d k mode b y z 0
  · have hq : rtB a d k mode b y z s = false := by rw [rtB_as, h0]; rfl
    obtain ⟨aa, m, cap, rfl, hn, _⟩ := id hs.rd
    have HS := hid hs
    have HR := hid (show ex2R a d k mode b y z s = false from by unfold ex2R; rw [hq]; rfl)
    have HL := hid (show ex2L a d k mode b y z s = [] from by unfold ex2L ex2R; rw [hq]; rfl)
    clear hq
    have H0 := hid h0
    clear h0 hs hn
    go_enter Try.func22, Try.ntmps22
    go_wp2_with fail
    refine (sdAsked_q _ _ _ _ _ _ _ _ _ false _ H0.out).mono ?_
    rintro e w1 ⟨rfl, hb⟩
    have B1 := hb
    obtain ⟨c0, c1, c2, c3, c4, c5⟩ := box6_cells B1
    go_wp2_with fail
    go_ret2
    exact gives_of HR.out HL.out ⟨_, rfl, .inl ⟨rfl, rfl⟩, bel_step (bel_alloc _ _) B1⟩
  · cases h1 : sigB s
    · have hq : rtB a d k mode b y z s = false := by rw [rtB_as, h0, h1]; rfl
      obtain ⟨aa, m, cap, rfl, hn, _⟩ := id hs.rd
      have HS := hid hs
      have HR := hid (show ex2R a d k mode b y z s = false from by unfold ex2R; rw [hq]; rfl)
      have HL := hid (show ex2L a d k mode b y z s = [] from by unfold ex2L ex2R; rw [hq]; rfl)
      clear hq
      have H0 := hid h0
      have H1 := hid h1
      clear h0 h1 hs hn
      go_enter Try.func22, Try.ntmps22
      go_wp2_with fail
      refine (sdAsked_q _ _ _ _ _ _ _ _ _ true _ H0.out).mono ?_
      rintro e w1 ⟨rfl, hb⟩
      have B1 := hb
      obtain ⟨c0, c1, c2, c3, c4, c5⟩ := box6_cells B1
      go_wp2_with fail
      refine (wdSignal_is _ s false _ (HS.out.kept (bel_step (bel_alloc _ _) B1)) H1.out).mono ?_
      rintro e w' ⟨rfl, rfl⟩
      go_wp2_with fail
      go_ret2
      exact gives_of HR.out HL.out ⟨_, rfl, .inl ⟨rfl, rfl⟩, bel_step (bel_alloc _ _) B1⟩
    · have hq : rtB a d k mode b y z s = true := by rw [rtB_as, h0, h1]; rfl
      obtain ⟨k, n, rfl, rfl, ho, ⟨_, yy1, yy2⟩, ⟨_, zz1, zz2⟩, hsg⟩ := rtB_n hq
      obtain ⟨aa, m, cap, rfl, hn, hrd⟩ := id hs.rd
      have Hn := hid hn
      have Hrd := hid hrd
      have HS := hid hs
      have HQ := hid hq
      have H0 := hid h0
      have H1 := hid h1
      have HO := hid ho
      have HG := hid hsg
      clear h0 h1 hs hn hrd ho hsg hq
      go_enter Try.func22, Try.ntmps22
      go_wp2_with fail
      refine (sdAsked_q _ _ _ _ _ _ _ _ _ true _ H0.out).mono ?_
      rintro e w1 ⟨rfl, hb⟩
      have B1 := hb
      obtain ⟨c0, c1, c2, c3, c4, c5⟩ := box6_cells B1
      go_wp2_with fail
      refine (wdSignal_is _ s true _ (HS.out.kept (bel_step (bel_alloc _ _) B1)) H1.out).mono ?_
      rintro e w' ⟨rfl, rfl⟩
      go_wp2_with fail
      have Hqq := hid (box6_cells B1)
      have HB := hid (bel_step (bel_alloc _ _) B1)
      have HJ := hid HG.out.2
      obtain ⟨⟨⟨a1, a2⟩, k1, _⟩, d1, d2⟩ := id HO.out
      have HK := hid k1
      have hl' : m ≤ 64 := by rw [Hn.out]; exact HG.out.1
      obtain ⟨i0, hi0, hz0, hz1, hz2⟩ := info_parts iint
      clear c0 c1 c2 c3 c4 c5 B1 hb k1
      go_loopw [1, 2, 10, 11, 27] (fun yv zv v sc i wr => ∃ c : Nat, c ≤ m ∧ yv = .int .i64 (eY a d k s y z c) ∧ zv = .int .i64 (sZ a d k s y z c) ∧ sc = .int .i64 (scI k c) ∧ i = .int .i64 c ∧ wr.ownsRow w1.heap.size 3 1 v c ((tab c (fun i => eY a d k s y z (i + 1))).map (Value.int .i64)) ∧ ex2Ok a d k s y z c = true ∧ Below w1.heap.size w1 wr)
        (fun _ _ _ _ i _ => m - (intOf i).toNat)
      case atStart => exact ⟨0, by omega, rfl, rfl, rfl, rfl, World.ownsRow_nil _ _ _ _, rfl, Below.refl _ _⟩
      case round =>
        obtain ⟨c, hc, rfl, rfl, rfl, rfl, hown, hok, hb⟩ := hrel
        have Hok := hid hok
        have hsz : w1.heap.size ≤ wr.heap.size := hb.size
        by_cases hlk : c < m
        · obtain ⟨av, capv, rfl⟩ := ownsRow_form hown
          have hst := tab_step c (fun i => eY a d k s y z (i + 1))
          generalize hys : tab c (fun i => eY a d k s y z (i + 1)) = ys at hst hown
          have Hob := hid (ownsRow_base hown)
          have Hown := hid hown
          have Hst := hid hst
          obtain ⟨x, hkx⟩ := get_lt s c (by rw [← Hn.out]; exact hlk)
          obtain ⟨bb, oo, hix, hbb, hce⟩ := (Hrd.out.kept (bel_step HB.out hb)).at (P := Try.prog) (T := 48) m cap uslice sone hkx hlk
          obtain ⟨x1, x2⟩ := HJ.out.at hkx
          obtain ⟨t0, t1, t2, t3, t4, t5⟩ := hb.cells6q Hqq.out
          clear hown hst hys hok
          by_cases hc0 : c = 0
          · have hez : eZ a d k s y z c = sZ a d k s y z c := by rw [hc0]; rfl
            have hci : ((c : Int) == 0) = true := beq_iff_eq.2 (by omega)
            have hcz : (c : Int) = 0 := by omega
            have Hcz := hid hcz
            have hix0 : ∀ w : World, (Instr.indexAt 48 (.slice aa m cap) (.int .i64 0)).run Try.prog w = .ok (.pointer (some ⟨bb, oo, none⟩)) w := by have h := hix; rw [hcz] at h; exact h
            have hsc := sc_step HK.out (ex2Ok_sc Hok.out)
            have hyy0 := ex2Ok_y Hok.out yy1 yy2
            have hzz0 := ex2Ok_z HK.out Hok.out yy1 yy2 zz1 zz2
            have hsz0 := ex2Ok_sz Hok.out yy1 yy2 zz1 zz2
            have hyn := eY_succ a d k s y z c
            have hzn := eZ_succ a d k s y z c
            have hsn := sZ_succ a d k s y z c
            have hpz := mulP HK.out hyy0.1 hyy0.2
            have hbig : 1000000000000 < scI k (c + 1) → ex2Ok a d k s y z s.length = false := fun h => ex2Ok_big h (by rw [← Hn.out]; exact hlk)
            have hout : ¬ (-1000000000000 ≤ eY a d k s y z (c + 1) ∧ eY a d k s y z (c + 1) ≤ 1000000000000) → ex2Ok a d k s y z s.length = false := fun h => ex2Ok_out h (by rw [← Hn.out]; exact hlk)
            have hyes : scI k (c + 1) ≤ 1000000000000 → (-1000000000000 ≤ eY a d k s y z (c + 1) ∧ eY a d k s y z (c + 1) ≤ 1000000000000) → ex2Ok a d k s y z (c + 1) = true := fun h1 h2 => ex2Ok_yes Hok.out h1 h2
            rw [at0_of hkx] at hyn
            generalize hszz : sZ a d k s y z c = sz at *
            obtain ⟨s1, s2⟩ := hsz0
            have Hez := hid hez
            clear hez hc0
            generalize hq : scI k (c + 1) = q at *
            generalize hscc : scI k c = sc at *
            generalize hyy : eY a d k s y z c = yy at *
            generalize hzz : eZ a d k s y z c = zz at *
            obtain ⟨q1, q2, hw0, hw⟩ := hsc
            obtain ⟨u1, u2⟩ := hyy0
            obtain ⟨v1, v2⟩ := hzz0
            obtain ⟨zn, hznn⟩ : ∃ zn, zn = yy * 2 ^ k := ⟨_, rfl⟩
            have hyk : wrap64 (yy * 2 ^ k) = zn := by rw [hznn]; exact (w64i (by omega) (by omega)).2
            have hyk0 : wrap64 (yy * 2 ^ min k 64) = zn := by rw [minle10 HK.out]; exact hyk
            have hyk1 : IntKind.i64.wrap (yy * 2 ^ k) = zn := by rw [hznn]; exact (w64i (by omega) (by omega)).1
            rw [← hznn] at hzn
            have Hq := hid hq
            have Hyn := hid hyn
            have Hzn := hid hzn
            have Hsn := hid hsn
            have Hbig := hid hbig
            have Hout := hid hout
            have Hyes := hid hyes
            clear hq hyn hzn hsn hbig hout hyes hscc hyy hzz hznn hpz
            by_cases hqm : q ≤ 1000000000000
            · obtain ⟨⟨r1, r2⟩, ⟨r3, r4⟩, r5, r6⟩ := ex2_step a1 a2 d1 d2 u1 u2 v1 v2 q1 hqm x1 x2
              have HNq := hid (show nuB q = true from decide_eq_true (by omega))
              have e1 := (w64i (show -4000000000000000000 ≤ a * yy by omega) (by omega)).1
              rw [Int.mul_comm q x] at r5 r6
              have e3 := (w64i (show -4000000000000000000 ≤ x * q by omega) (by omega)).1
              have hzz2 : zz = sz := Hez.out
              rw [hzz2] at r3 r4
              have f1 := (w64i (show -4000000000000000000 ≤ d * sz by omega) (by omega)).1
              have g0 := ex2_in1 d1 d2 s1 s2
              have g1 := mulP16 HK.out g0.1 g0.2
              have f2 := (w64i (show -4000000000000000000 ≤ d * sz * 2 ^ k by omega) (by omega)).1
              have f3 := (w64i (show -4000000000000000000 ≤ d * sz * 2 ^ k by omega) (by omega)).2
              have f4 : wrap64 (d * sz * 2 ^ min k 64) = d * sz * 2 ^ k := by rw [minle10 HK.out]; exact f3
              have f7 : IntKind.i64.wrap (d * sz * 2 ^ min k 64) = d * sz * 2 ^ k := by rw [minle10 HK.out]; exact f2
              have f5 := (w64i (show -4000000000000000000 ≤ a * yy + d * sz * 2 ^ k by omega) (by omega)).1
              have f6 := (w64i (show -4000000000000000000 ≤ a * yy + d * sz * 2 ^ k + x * q by omega) (by omega)).1
              have e4 := (w64i (show -4000000000000000000 ≤ a * yy + d * sz by omega) (by omega)).1
              obtain ⟨yn, hyn0⟩ : ∃ yn, yn = a * yy + d * sz + x * q := ⟨_, rfl⟩
              have e5 : IntKind.i64.wrap (a * yy + d * sz + x * q) = yn := by rw [hyn0]; exact (w64i (by omega) (by omega)).1
              have e6 : wrap64 (a * yy + d * sz + x * q) = yn := by rw [hyn0]; exact (w64i (by omega) (by omega)).2
              have hy2 : eY a d k s y z (c + 1) = yn := by rw [Hyn.out, hyn0, hzz2, Int.mul_comm q x]
              have Hyn := hid hy2
              have Hout' := Hout.out
              have Hyes' := Hyes.out hqm
              rw [hy2] at Hout' Hyes'
              have hst2 := Hst.out
              have hst2 : tab (c + 1) (fun i => eY a d k s y z (i + 1)) = ys ++ [eY a d k s y z (c + 1)] := hst2
              rw [hy2] at hst2
              have Hst := hid hst2
              have Hout := hid Hout'
              have Hyes := hid Hyes'
              clear hy2 hyn0 Hout' Hyes' hst2
              by_cases hnm : -1000000000000 ≤ yn ∧ yn ≤ 1000000000000
              · have HN := hid (show nuB yn = true from decide_eq_true hnm)
                have Hok2 := hid (Hyes.out hnm)
                obtain ⟨n3, n4⟩ := hnm
                have hS := And.intro t0 (And.intro t1 t2)
                go_wp2_with (fail)
                go_region_held3 (fun W => W.cell? ⟨w.heap.size, 0, none⟩ = some (.int .i64 a) ∧ W.cell? ⟨w.heap.size, 1, none⟩ = some (.int .i64 d) ∧ W.cell? ⟨w.heap.size, 2, none⟩ = some (.int .i64 (k : Int))) (first | exact hS | assumption | go_keep) (first | fail)
                go_wp2_with (first | (go_at_call 41; refine (num_q _ true _ HN.out).mono ?_; rintro e w' ⟨rfl, rfl⟩) | (at_builtin; refine wpList_append_own _ rfl _ _ 48 rfl w1.heap.size 3 i0 (.int .i64 0) 1 8 uslice hi0 hz0 hz1 hz2 rfl (by decide) _ _ _ rfl (Hown.out.alloc _) ⟨wr.heap.size, 0, none⟩ 1 1 [.int .i64 (yn)] rfl rfl ?c1 ?c2 ?c3 ?c4 ?c5 ?_))
                case c1 => exact cell_one_new _ _ _
                case c2 => intro u hu; simp at hu; subst hu; rfl
                case c3 => unfold maxLen; omega
                case c4 => omega
                case c5 => simp; omega
                intro v' w4 hown4 hgrow _
                have hb4 : Below w1.heap.size w1 w4 := by first | exact (hb.alloc hsz _).drew.grown hgrow (by simp; omega) (fun j hj => Hob.out j hj) | exact (hb.alloc hsz _).grown hgrow (by simp; omega) (fun j hj => Hob.out j hj)
                have Hown4 := hid hown4
                clear hown4 hgrow
                go_wp2
                go_roundw
                case rel => exact ⟨c + 1, by omega, by rw [Hyn.out], by rw [Hsn.out], by rw [Hq.out], by first | go_num | (have h0 := Hcz.out; congr 1; omega), by rw [Hst.out, List.map_append]; exact Hown4.out, Hok2.out, hb4⟩
                case measure => simp [intOf]; omega
              · have HN := hid (show nuB yn = false from decide_eq_false hnm)
                have HF := hid (Hout.out hnm)
                clear hnm
                have hS := And.intro t0 (And.intro t1 t2)
                go_wp2_with (fail)
                go_region_held3 (fun W => W.cell? ⟨w.heap.size, 0, none⟩ = some (.int .i64 a) ∧ W.cell? ⟨w.heap.size, 1, none⟩ = some (.int .i64 d) ∧ W.cell? ⟨w.heap.size, 2, none⟩ = some (.int .i64 (k : Int))) (first | exact hS | assumption | go_keep) (first | fail)
                go_wp2_with (go_at_call 41; refine (num_q _ false _ HN.out).mono ?_; rintro e w' ⟨rfl, rfl⟩)
                go_ret2
                exact gives_of (show ex2R a d k mode n y z s = false from by unfold ex2R; rw [show ex2Ok a d (k : Int).toNat s y z s.length = false from HF.out, Bool.and_false]) (show ex2L a d k mode n y z s = [] from by unfold ex2L ex2R; rw [show ex2Ok a d (k : Int).toNat s y z s.length = false from HF.out, Bool.and_false]; rfl) ⟨_, rfl, .inl ⟨rfl, rfl⟩, by first | exact bel_step HB.out hb | exact (bel_step HB.out hb).drew⟩
            · have hqg : 1000000000000 < q := by omega
              have HF := hid (Hbig.out hqg)
              have HNq := hid (show nuB q = false from decide_eq_false (by omega))
              clear hqm
              go_wp2_with (fail)
              go_ret2
              exact gives_of (show ex2R a d k mode n y z s = false from by unfold ex2R; rw [show ex2Ok a d (k : Int).toNat s y z s.length = false from HF.out, Bool.and_false]) (show ex2L a d k mode n y z s = [] from by unfold ex2L ex2R; rw [show ex2Ok a d (k : Int).toNat s y z s.length = false from HF.out, Bool.and_false]; rfl) ⟨_, rfl, .inl ⟨rfl, rfl⟩, by first | exact bel_step HB.out hb | exact (bel_step HB.out hb).drew⟩
          · have hez : eZ a d k s y z c = sZ a d k s y z c * 2 ^ k := eZ_sZ a d k s y z c (by omega)
            have hci : ((c : Int) == 0) = false := beq_eq_false_iff_ne.2 (by omega)
            have hcz : (c : Int) ≠ 0 := by omega
            have hsc := sc_step HK.out (ex2Ok_sc Hok.out)
            have hyy0 := ex2Ok_y Hok.out yy1 yy2
            have hzz0 := ex2Ok_z HK.out Hok.out yy1 yy2 zz1 zz2
            have hsz0 := ex2Ok_sz Hok.out yy1 yy2 zz1 zz2
            have hyn := eY_succ a d k s y z c
            have hzn := eZ_succ a d k s y z c
            have hsn := sZ_succ a d k s y z c
            have hpz := mulP HK.out hyy0.1 hyy0.2
            have hbig : 1000000000000 < scI k (c + 1) → ex2Ok a d k s y z s.length = false := fun h => ex2Ok_big h (by rw [← Hn.out]; exact hlk)
            have hout : ¬ (-1000000000000 ≤ eY a d k s y z (c + 1) ∧ eY a d k s y z (c + 1) ≤ 1000000000000) → ex2Ok a d k s y z s.length = false := fun h => ex2Ok_out h (by rw [← Hn.out]; exact hlk)
            have hyes : scI k (c + 1) ≤ 1000000000000 → (-1000000000000 ≤ eY a d k s y z (c + 1) ∧ eY a d k s y z (c + 1) ≤ 1000000000000) → ex2Ok a d k s y z (c + 1) = true := fun h1 h2 => ex2Ok_yes Hok.out h1 h2
            rw [at0_of hkx] at hyn
            generalize hszz : sZ a d k s y z c = sz at *
            obtain ⟨s1, s2⟩ := hsz0
            have Hez := hid hez
            clear hez hc0
            generalize hq : scI k (c + 1) = q at *
            generalize hscc : scI k c = sc at *
            generalize hyy : eY a d k s y z c = yy at *
            generalize hzz : eZ a d k s y z c = zz at *
            obtain ⟨q1, q2, hw0, hw⟩ := hsc
            obtain ⟨u1, u2⟩ := hyy0
            obtain ⟨v1, v2⟩ := hzz0
            obtain ⟨zn, hznn⟩ : ∃ zn, zn = yy * 2 ^ k := ⟨_, rfl⟩
            have hyk : wrap64 (yy * 2 ^ k) = zn := by rw [hznn]; exact (w64i (by omega) (by omega)).2
            have hyk0 : wrap64 (yy * 2 ^ min k 64) = zn := by rw [minle10 HK.out]; exact hyk
            have hyk1 : IntKind.i64.wrap (yy * 2 ^ k) = zn := by rw [hznn]; exact (w64i (by omega) (by omega)).1
            rw [← hznn] at hzn
            have Hq := hid hq
            have Hyn := hid hyn
            have Hzn := hid hzn
            have Hsn := hid hsn
            have Hbig := hid hbig
            have Hout := hid hout
            have Hyes := hid hyes
            clear hq hyn hzn hsn hbig hout hyes hscc hyy hzz hznn hpz
            by_cases hqm : q ≤ 1000000000000
            · obtain ⟨⟨r1, r2⟩, ⟨r3, r4⟩, r5, r6⟩ := ex2_step a1 a2 d1 d2 u1 u2 v1 v2 q1 hqm x1 x2
              have HNq := hid (show nuB q = true from decide_eq_true (by omega))
              have e1 := (w64i (show -4000000000000000000 ≤ a * yy by omega) (by omega)).1
              rw [Int.mul_comm q x] at r5 r6
              have e3 := (w64i (show -4000000000000000000 ≤ x * q by omega) (by omega)).1
              have hzz2 : d * zz = d * sz * 2 ^ k := by rw [show zz = sz * 2 ^ k from Hez.out, Int.mul_assoc]
              rw [hzz2] at r3 r4
              have g0 := ex2_in1 d1 d2 s1 s2
              have f1 := (w64i (show -4000000000000000000 ≤ d * sz by omega) (by omega)).1
              have f2 := (w64i (show -4000000000000000000 ≤ d * sz * 2 ^ k by omega) (by omega)).1
              have f3 := (w64i (show -4000000000000000000 ≤ d * sz * 2 ^ k by omega) (by omega)).2
              have f4 : wrap64 (d * sz * 2 ^ min k 64) = d * sz * 2 ^ k := by rw [minle10 HK.out]; exact f3
              have f7 : IntKind.i64.wrap (d * sz * 2 ^ min k 64) = d * sz * 2 ^ k := by rw [minle10 HK.out]; exact f2
              have e4 := (w64i (show -4000000000000000000 ≤ a * yy + d * sz * 2 ^ k by omega) (by omega)).1
              obtain ⟨yn, hyn0⟩ : ∃ yn, yn = a * yy + d * sz * 2 ^ k + x * q := ⟨_, rfl⟩
              have e5 : IntKind.i64.wrap (a * yy + d * sz * 2 ^ k + x * q) = yn := by rw [hyn0]; exact (w64i (by omega) (by omega)).1
              have e6 : wrap64 (a * yy + d * sz * 2 ^ k + x * q) = yn := by rw [hyn0]; exact (w64i (by omega) (by omega)).2
              have hy2 : eY a d k s y z (c + 1) = yn := by rw [Hyn.out, hyn0, hzz2, Int.mul_comm q x]
              have Hyn := hid hy2
              have Hout' := Hout.out
              have Hyes' := Hyes.out hqm
              rw [hy2] at Hout' Hyes'
              have hst2 := Hst.out
              have hst2 : tab (c + 1) (fun i => eY a d k s y z (i + 1)) = ys ++ [eY a d k s y z (c + 1)] := hst2
              rw [hy2] at hst2
              have Hst := hid hst2
              have Hout := hid Hout'
              have Hyes := hid Hyes'
              clear hy2 hyn0 Hout' Hyes' hst2
              by_cases hnm : -1000000000000 ≤ yn ∧ yn ≤ 1000000000000
              · have HN := hid (show nuB yn = true from decide_eq_true hnm)
                have Hok2 := hid (Hyes.out hnm)
                obtain ⟨n3, n4⟩ := hnm
                have hS := And.intro t0 (And.intro t1 t2)
                go_wp2_with (fail)
                go_region_held3 (fun W => W.cell? ⟨w.heap.size, 0, none⟩ = some (.int .i64 a) ∧ W.cell? ⟨w.heap.size, 1, none⟩ = some (.int .i64 d) ∧ W.cell? ⟨w.heap.size, 2, none⟩ = some (.int .i64 (k : Int))) (first | exact hS | assumption | go_keep) (first | fail)
                all_goals simp only [hw]
                go_wp2_with (first | (go_at_call 41; refine (num_q _ true _ HN.out).mono ?_; rintro e w' ⟨rfl, rfl⟩) | (at_builtin; refine wpList_append_own _ rfl _ _ 48 rfl w1.heap.size 3 i0 (.int .i64 0) 1 8 uslice hi0 hz0 hz1 hz2 rfl (by decide) _ _ _ rfl (Hown.out.alloc _) ⟨wr.heap.size, 0, none⟩ 1 1 [.int .i64 (yn)] rfl rfl ?c1 ?c2 ?c3 ?c4 ?c5 ?_))
                case c1 => exact cell_one_new _ _ _
                case c2 => intro u hu; simp at hu; subst hu; rfl
                case c3 => unfold maxLen; omega
                case c4 => omega
                case c5 => simp; omega
                intro v' w4 hown4 hgrow _
                have hb4 : Below w1.heap.size w1 w4 := by first | exact (hb.alloc hsz _).drew.grown hgrow (by simp; omega) (fun j hj => Hob.out j hj) | exact (hb.alloc hsz _).grown hgrow (by simp; omega) (fun j hj => Hob.out j hj)
                have Hown4 := hid hown4
                clear hown4 hgrow
                go_wp2
                go_roundw
                case rel => exact ⟨c + 1, by omega, by rw [Hyn.out], by rw [Hsn.out], by rw [Hq.out], by first | go_num | (have h0 := Hcz.out; congr 1; omega), by rw [Hst.out, List.map_append]; exact Hown4.out, Hok2.out, hb4⟩
                case measure => simp [intOf]; omega
              · have HN := hid (show nuB yn = false from decide_eq_false hnm)
                have HF := hid (Hout.out hnm)
                clear hnm
                have hS := And.intro t0 (And.intro t1 t2)
                go_wp2_with (fail)
                go_region_held3 (fun W => W.cell? ⟨w.heap.size, 0, none⟩ = some (.int .i64 a) ∧ W.cell? ⟨w.heap.size, 1, none⟩ = some (.int .i64 d) ∧ W.cell? ⟨w.heap.size, 2, none⟩ = some (.int .i64 (k : Int))) (first | exact hS | assumption | go_keep) (first | fail)
                all_goals simp only [hw]
                go_wp2_with (go_at_call 41; refine (num_q _ false _ HN.out).mono ?_; rintro e w' ⟨rfl, rfl⟩)
                go_ret2
                exact gives_of (show ex2R a d k mode n y z s = false from by unfold ex2R; rw [show ex2Ok a d (k : Int).toNat s y z s.length = false from HF.out, Bool.and_false]) (show ex2L a d k mode n y z s = [] from by unfold ex2L ex2R; rw [show ex2Ok a d (k : Int).toNat s y z s.length = false from HF.out, Bool.and_false]; rfl) ⟨_, rfl, .inl ⟨rfl, rfl⟩, by first | exact bel_step HB.out hb | exact (bel_step HB.out hb).drew⟩
            · have hqg : 1000000000000 < q := by omega
              have HF := hid (Hbig.out hqg)
              have HNq := hid (show nuB q = false from decide_eq_false (by omega))
              clear hqm
              go_wp2_with (fail)
              go_ret2
              exact gives_of (show ex2R a d k mode n y z s = false from by unfold ex2R; rw [show ex2Ok a d (k : Int).toNat s y z s.length = false from HF.out, Bool.and_false]) (show ex2L a d k mode n y z s = [] from by unfold ex2L ex2R; rw [show ex2Ok a d (k : Int).toNat s y z s.length = false from HF.out, Bool.and_false]; rfl) ⟨_, rfl, .inl ⟨rfl, rfl⟩, by first | exact bel_step HB.out hb | exact (bel_step HB.out hb).drew⟩
        · have hge : (m : Int) ≤ (c : Int) := by omega
          have hkn : c = s.length := by rw [← Hn.out]; omega
          have Hk := hid hkn
          have Hown := hid hown
          clear hkn hlk hown hok
          go_wp2
          go_ret2
          have ho := Hown.out
          have hk2 := Hok.out
          rw [Hk.out] at ho hk2
          have hR : ex2R a d k mode n y z s = true := by unfold ex2R; rw [HQ.out, show ex2Ok a d (k : Int).toNat s y z s.length = true from hk2]; rfl
          exact gives_of hR (show ex2L a d k mode n y z s = tab s.length (fun i => eY a d k s y z (i + 1)) from by unfold ex2L; rw [hR]; rfl) ⟨_, rfl, (Res.owns (by rw [tab_len]; exact ho)).mono HB.out.size, bel_step HB.out hb⟩


set_option maxHeartbeats 1600000 in
theorem gen_FnExactExactSecond (a d k mode b : Int) (wr : Bool) (y : Int) (z : Int) (s : List Int) (u_s : Option Addr) (l_s c_s : Nat) (ys : List Int) (ok : Bool) (w : World) (hs_s : Sl w (.slice u_s l_s c_s) s) (ll_s : l_s ≤ 1048576) (hl_s : s.length ≤ 1048576) (hy : ys.length ≤ 2000000) (hspec : ∀ (w : World) (v_s : Value), Sl w v_s s → Calls Try.prog 22 #[.agg #[.int .i64 a, .int .i64 d, .int .i64 k, .int .i64 mode, .int .i64 b, .bool wr], .int .i64 y, .int .i64 z, v_s] w (Gives w ys ok)) (himpl : ∀ (w : World) (v_s : Value), Sl w v_s s → Calls Try.prog 24 #[.agg #[.int .i64 a, .int .i64 d, .int .i64 k, .int .i64 mode, .int .i64 b, .bool wr], .int .i64 y, .int .i64 z, v_s] w (Gives w ys ok)) :
    Calls Try.prog 8 #[.agg #[.int .i64 a, .int .i64 d, .int .i64 k, .int .i64 mode, .int .i64 b, .bool wr], .int .i64 y, .int .i64 z, .slice u_s l_s c_s] w fun e w' => e = .returned (.bool true) ∧ Below w.heap.size w w' := by
  have HSs := hid hs_s
  clear hs_s
  have HSP := hid hspec
  have HIM := hid himpl
  clear hspec himpl
  all_goals cases ok
  all_goals
    go_enter Try.func8, Try.ntmps8
    go_wp2_with fail
    refine (toSecond_any _ _ _ _ _ _ _).mono ?_
    rintro e w1 ⟨rfl, hb⟩
    have B1 := hb
    have hz1 : w.heap.size ≤ w1.heap.size := by first | exact hb.size | (have := hb.size; simp at this; omega)
    obtain ⟨ca1, cb1, cc1, cd1, ce1, cf1⟩ := box6_cells B1
    go_wp2_with fail
    refine (toIntS_any _ s _ (HSs.out.kept (bel_step (bel_alloc w _) B1)) (by omega)).mono ?_
    rintro e w2 ⟨g_As1, hg_As1, rfl, K_As1, hb⟩
    have B2 := bel_step B1 hb
    have hz2 : w1.heap.size ≤ w2.heap.size := hb.size
    have As1 := K_As1.res hg_As1
    obtain ⟨ca2, cb2, cc2, cd2, ce2, cf2⟩ := box6_cells B2
    go_wp2_with fail
    refine (HSP.out _ _ As1.sl).mono ?_
    rintro e w3 ⟨v_R0, rfl, R0, hb⟩
    have B3 := bel_step B2 hb
    have hz3 : w2.heap.size ≤ w3.heap.size := hb.size
    have As1_3 := As1.kept hb
    obtain ⟨ca3, cb3, cc3, cd3, ce3, cf3⟩ := box6_cells B3
    have hlt0 : ∀ g, v_R0.ownBlock = some g → g < w3.heap.size := fun g hg => R0.lt hg
    have Hlt0 := hid hlt0
    clear hlt0
    go_wp2_with fail
    refine (toIntS_any _ s _ (HSs.out.kept (bel_step (bel_alloc w _) B3)) (by omega)).mono ?_
    rintro e w4 ⟨g_Xs, hg_Xs, rfl, K_Xs, hb⟩
    have B4 := bel_step B3 hb
    have hz4 : w3.heap.size ≤ w4.heap.size := hb.size
    have R0_4 := R0.kept hb
    have Xs := K_Xs.res hg_Xs
    obtain ⟨ca4, cb4, cc4, cd4, ce4, cf4⟩ := box6_cells B4
    have hlt_Xs := K_Xs.lt
    have hne_Xs : ∀ g, v_R0.ownBlock = some g → g ≠ g_Xs := fun g hg => by have a1 := Hlt0.out g hg; omega
    have Hne_Xs := hid hne_Xs
    clear hne_Xs
    go_wp2_with fail
    refine (toSecond_any _ _ _ _ _ _ _).mono ?_
    rintro e w5 ⟨rfl, hb⟩
    have B5 := bel_step B4 hb
    have hz5 : w4.heap.size ≤ w5.heap.size := hb.size
    have R0_5 := R0_4.kept hb
    have Xs_5 := Xs.kept hb
    obtain ⟨ca5, cb5, cc5, cd5, ce5, cf5⟩ := box6_cells B5
    have hxl_Xs : g_Xs < w5.heap.size := Xs_5.lt rfl
    go_wp2_with fail
    refine (HIM.out _ _ Xs_5.sl).mono ?_
    rintro e w6 ⟨v_R1, rfl, R1, hb⟩
    have B6 := bel_step B5 hb
    have hz6 : w5.heap.size ≤ w6.heap.size := hb.size
    have R0_6 := R0_5.kept hb
    have Xs_6 := Xs_5.kept hb
    obtain ⟨ca6, cb6, cc6, cd6, ce6, cf6⟩ := box6_cells B6
    have hne1_Xs : ∀ g, v_R1.ownBlock = some g → g ≠ g_Xs := fun g hg => by have a1 := R1.ge hg; omega
    have Hne1_Xs := hid hne1_Xs
    clear hne1_Xs
    have hne01 : ∀ g, v_R0.ownBlock = some g → v_R1.ownBlock ≠ some g := fun g hg e => by have a1 := R1.ge e; have a2 := Hlt0.out g hg; omega
    have Hne01 := hid hne01
    clear hne01
    have hge1 : ∀ g, v_R1.ownBlock = some g → w5.heap.size ≤ g := fun g hg => R1.ge hg
    have Hge1 := hid hge1
    clear hge1
    go_wp2_with fail
    refine (eqIntS_same _ _ ys _ R1.sl R0_6.sl hy).mono ?_
    rintro e w7 ⟨rfl, hb⟩
    have B7 := bel_step B6 hb
    have hz7 : w6.heap.size ≤ w7.heap.size := hb.size
    have R0_7 := R0_6.kept hb
    have Xs_7 := Xs_6.kept hb
    have R1_7 := R1.kept hb
    obtain ⟨ca7, cb7, cc7, cd7, ce7, cf7⟩ := box6_cells B7
    go_wp2_with fail
    refine (toIntS_any _ s _ (HSs.out.kept (bel_step (bel_alloc w _) B7)) (by omega)).mono ?_
    rintro e w8 ⟨g_TXs, hg_TXs, rfl, K_TXs, hb⟩
    have B8 := bel_step B7 hb
    have hz8 : w7.heap.size ≤ w8.heap.size := hb.size
    have R0_8 := R0_7.kept hb
    have Xs_8 := Xs_7.kept hb
    have R1_8 := R1_7.kept hb
    have TXs := K_TXs.res hg_TXs
    obtain ⟨ca8, cb8, cc8, cd8, ce8, cf8⟩ := box6_cells B8
    go_wp2_with fail
    refine (eqIntS_same _ _ s _ Xs_8.sl TXs.sl (by omega)).mono ?_
    rintro e w9 ⟨rfl, hb⟩
    have B9 := bel_step B8 hb
    have hz9 : w8.heap.size ≤ w9.heap.size := hb.size
    have R0_9 := R0_8.kept hb
    have Xs_9 := Xs_8.kept hb
    have R1_9 := R1_8.kept hb
    have TXs_9 := TXs.kept hb
    obtain ⟨ca9, cb9, cc9, cd9, ce9, cf9⟩ := box6_cells B9
    go_wp2_with fail
    refine (markIntS_one _ s _ _ Xs_9 (by omega)).mono ?_
    rintro e w10 ⟨rfl, ho, _⟩
    have B10 := B9.trans (ho.below fun g hg => by cases hg; exact Nat.le_trans B3.size hg_Xs)
    have hz10 : w9.heap.size ≤ w10.heap.size := Nat.le_of_eq ho.size.symm
    have R0_10 := R0_9.only ho fun g hg e => by cases e; exact Hne_Xs.out _ hg rfl
    have R1_10 := R1_9.only ho fun g hg e => by cases e; exact Hne1_Xs.out _ hg rfl
    obtain ⟨ca10, cb10, cc10, cd10, ce10, cf10⟩ := box6_cells B10
    go_wp2_with fail
    refine (eqIntS_same _ _ ys _ R1_10.sl R0_10.sl hy).mono ?_
    rintro e w11 ⟨rfl, hb⟩
    have B11 := bel_step B10 hb
    have hz11 : w10.heap.size ≤ w11.heap.size := hb.size
    have R0_11 := R0_10.kept hb
    have R1_11 := R1_10.kept hb
    obtain ⟨ca11, cb11, cc11, cd11, ce11, cf11⟩ := box6_cells B11
    go_wp2_with fail
    refine (markIntS_one _ ys _ _ R1_11 hy).mono ?_
    rintro e w12 ⟨rfl, ho, M⟩
    have B12 := B11.trans (ho.below fun g hg => Nat.le_trans B5.size (Hge1.out g hg))
    have hz12 : w11.heap.size ≤ w12.heap.size := Nat.le_of_eq ho.size.symm
    have R0_12 := R0_11.only ho Hne01.out
    obtain ⟨ca12, cb12, cc12, cd12, ce12, cf12⟩ := box6_cells B12
    go_wp2_with fail
    refine (heldIntS_one _ ys.length _ _ M hy).mono ?_
    rintro e w' ⟨rfl, rfl⟩
    go_wp2_with fail
    refine (toSecond_any _ _ _ _ _ _ _).mono ?_
    rintro e w13 ⟨rfl, hb⟩
    have B13 := bel_step B12 hb
    have hz13 : w12.heap.size ≤ w13.heap.size := hb.size
    have R0_13 := R0_12.kept hb
    have M_13 := M.kept hb
    obtain ⟨ca13, cb13, cc13, cd13, ce13, cf13⟩ := box6_cells B13
    go_wp2_with fail
    refine (toIntS_any _ s _ (HSs.out.kept (bel_step (bel_alloc w _) B13)) (by omega)).mono ?_
    rintro e w14 ⟨g_As13, hg_As13, rfl, K_As13, hb⟩
    have B14 := bel_step B13 hb
    have hz14 : w13.heap.size ≤ w14.heap.size := hb.size
    have R0_14 := R0_13.kept hb
    have M_14 := M_13.kept hb
    have As13 := K_As13.res hg_As13
    obtain ⟨ca14, cb14, cc14, cd14, ce14, cf14⟩ := box6_cells B14
    go_wp2_with fail
    refine (HIM.out _ _ As13.sl).mono ?_
    rintro e w15 ⟨v_R2, rfl, R2, hb⟩
    have B15 := bel_step B14 hb
    have hz15 : w14.heap.size ≤ w15.heap.size := hb.size
    have R0_15 := R0_14.kept hb
    have M_15 := M_14.kept hb
    have As13_15 := As13.kept hb
    obtain ⟨ca15, cb15, cc15, cd15, ce15, cf15⟩ := box6_cells B15
    go_wp2_with fail
    refine (eqIntS_same _ _ ys _ R2.sl R0_15.sl hy).mono ?_
    rintro e w16 ⟨rfl, hb⟩
    have B16 := bel_step B15 hb
    have hz16 : w15.heap.size ≤ w16.heap.size := hb.size
    have R0_16 := R0_15.kept hb
    have M_16 := M_15.kept hb
    have R2_16 := R2.kept hb
    obtain ⟨ca16, cb16, cc16, cd16, ce16, cf16⟩ := box6_cells B16
    go_wp2_with fail
    refine (heldIntS_one _ ys.length _ _ M_16 hy).mono ?_
    rintro e w' ⟨rfl, rfl⟩
    go_wp2_with fail
    go_ret
    exact ⟨rfl, bel_step (bel_alloc _ _) B16⟩


set_option maxHeartbeats 1600000 in
theorem walk_FnExactExactSecond (w : World) (a d k mode b : Int) (wr : Bool) (wa : (Lit.int .i64 a).wf = true) (wd : (Lit.int .i64 d).wf = true) (wk : (Lit.int .i64 k).wf = true) (wm : (Lit.int .i64 mode).wf = true) (wb : (Lit.int .i64 b).wf = true) (y : Int) (w_y : (Lit.int .i64 y).wf = true) (z : Int) (w_z : (Lit.int .i64 z).wf = true) (u_s : Option Addr) (l_s c_s : Nat) (z_s : List Int) (hr_s : IsRow .i64 w u_s l_s c_s z_s) :
    Calls Try.prog 8 #[.agg #[.int .i64 a, .int .i64 d, .int .i64 k, .int .i64 mode, .int .i64 b, .bool wr], .int .i64 y, .int .i64 z, .slice u_s l_s c_s] w fun e w' => e = .returned (.bool true) ∧ Below w.heap.size w w' := by
  obtain ⟨hs_s, hlen_s, hin_s⟩ := hr_s.sl
  generalize z_s.take l_s = s at hs_s hlen_s hin_s
  clear hr_s
  obtain ⟨y_1, y_2⟩ := bounds_i64 w_y
  obtain ⟨z_1, z_2⟩ := bounds_i64 w_z
  by_cases hbig_s : 1048576 < l_s
  · clear hs_s hlen_s hin_s
    go_enter Try.func8, Try.ntmps8
    go_wp2
    go_ret
    exact ⟨rfl, bel_alloc _ _⟩
  · have hq_s : l_s ≤ 1048576 := by omega
    exact gen_FnExactExactSecond a d k mode b wr y z s _ _ _ (ex2L a d k mode b y z s) (ex2R a d k mode b y z s) w hs_s (by omega) (by omega) (ex2L_len _ _ _ _ _ _ _ _ (by omega)) (fun w v_s h_s => spec_ExactSecond_is _ _ _ _ _ _ _ _ v_s s w h_s y_1 y_2 z_1 z_2) (fun w v_s h_s => impl_ExactSecond_is _ _ _ _ _ _ _ _ v_s s w h_s y_1 y_2 z_1 z_2)

end Go.Proofs.Ytdgoenpkiakilaa
