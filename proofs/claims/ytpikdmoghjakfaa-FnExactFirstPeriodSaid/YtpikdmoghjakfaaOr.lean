
import Derived.Test.YtpikdmoghjakfaaOq
namespace Go.Proofs.Ytpikdmoghjakfaa
open Go.RowKit BitX Go.MemX Go.ShX
set_option linter.unusedVariables false


theorem ret_iib {i j k l : Int} {b c : Bool} (h1 : i = j) (h2 : k = l) (h3 : b = c) : Ending.returned (.tuple #[.int .i64 i, .int .i64 k, .bool b]) = .returned (.tuple #[.int .i64 j, .int .i64 l, .bool c]) := by rw [h1, h2, h3]
theorem w64_pow {n M : Nat} (h0 : M = 2 ^ n) (h : M ≤ 65536) : wrap64 ((2 : Int) ^ n) = (M : Int) := by
  have e : (2 : Int) ^ n = (M : Int) := by rw [h0]; norm_cast
  rw [e]; exact IntWalk.wrap64_in _ (by omega)
theorem fit_range (n : Nat) (wb : Bool) (x : Int) (h1 : 1 ≤ n) (h2 : n ≤ 16) : -(2 : Int) ^ (n - 1) ≤ fitI n wb x ∧ fitI n wb x ≤ 2 ^ (n - 1) - 1 := by
  have hp := pow_small n h1 h2
  cases wb
  · simp only [fitI, Bool.false_eq_true, if_false]
    split
    · omega
    · split <;> omega
  · have hm : ((2 ^ n : Nat) : Int) = 2 * 2 ^ (n - 1) := by
      rw [show n = (n - 1) + 1 from by omega, Nat.pow_succ]; simp; omega
    have a := Int.le_bmod (x := x) (m := 2 ^ n) (Nat.two_pow_pos _)
    have b := Int.bmod_lt (x := x) (m := 2 ^ n) (Nat.two_pow_pos _)
    simp only [fitI, if_true]
    omega
/-- the numbers one after the other -/
def orb (F : Int → Int) (y : Int) : Nat → Int
  | 0 => y
  | c + 1 => F (orb F y c)
/-- when each number was met, counted from 1 -/
def tbl (F : Int → Int) (y lo : Int) (m : Nat) : Nat → List Int
  | 0 => List.replicate m 0
  | c + 1 => (tbl F y lo m c).set (orb F y c - lo).toNat ((c : Int) + 1)
theorem tbl_succ (F : Int → Int) (y lo : Int) (m c : Nat) : tbl F y lo m (c + 1) = (tbl F y lo m c).set (orb F y c - lo).toNat ((c : Int) + 1) := rfl
theorem tbl_len (F : Int → Int) (y lo : Int) (m c : Nat) : (tbl F y lo m c).length = m := by
  induction c with
  | zero => simp [tbl]
  | succ c ih => rw [tbl_succ, List.length_set, ih]
def metAt (F : Int → Int) (y lo : Int) (m c : Nat) : Int := at0 (tbl F y lo m c) (orb F y c - lo).toNat
/-- at C there is first a number that comes again -/
def StopC (F : Int → Int) (y lo : Int) (m C : Nat) : Prop := (∀ c, c < C → metAt F y lo m c = 0) ∧ 1 ≤ metAt F y lo m C ∧ metAt F y lo m C ≤ C ∧ C ≤ m
theorem count_set (xs : List Int) (v : Int) (hv : v ≠ 0) : ∀ i, xs[i]? = some 0 → (xs.set i v).count 0 + 1 = xs.count 0 := by
  induction xs with
  | nil => intro i h; simp at h
  | cons x xs ih =>
    intro i h
    cases i with
    | zero =>
      simp at h
      subst h
      simp [hv]
    | succ i =>
      have := ih i (by simpa using h)
      simp only [List.set_cons_succ, List.count_cons]
      omega
theorem tbl_in (F : Int → Int) (y lo : Int) (m c : Nat) : ∀ v ∈ tbl F y lo m c, 0 ≤ v ∧ v ≤ c := by
  induction c with
  | zero => intro v hv; have := List.eq_of_mem_replicate (show v ∈ List.replicate m 0 from hv); omega
  | succ c ih =>
    intro v hv
    rw [tbl_succ] at hv
    rcases List.mem_or_eq_of_mem_set hv with h | h
    · have := ih v h; omega
    · omega
theorem met_in (F : Int → Int) (y lo : Int) (m c : Nat) : 0 ≤ metAt F y lo m c ∧ metAt F y lo m c ≤ c := by
  unfold metAt at0
  rw [List.getD_eq_getElem?_getD]
  cases h : (tbl F y lo m c)[(orb F y c - lo).toNat]? with
  | none => simp
  | some v => exact tbl_in F y lo m c v (List.mem_of_getElem? h)
theorem met_get {F : Int → Int} {y lo : Int} {m : Nat} (hin : ∀ c, lo ≤ orb F y c ∧ orb F y c < lo + m) (c : Nat) : (tbl F y lo m c)[(orb F y c - lo).toNat]? = some (metAt F y lo m c) := by
  have := hin c
  have hl : (orb F y c - lo).toNat < (tbl F y lo m c).length := by rw [tbl_len]; omega
  unfold metAt at0
  rw [List.getD_eq_getElem?_getD, List.getElem?_eq_getElem hl]; rfl
theorem stop_ex {F : Int → Int} {y lo : Int} {m : Nat} (hin : ∀ c, lo ≤ orb F y c ∧ orb F y c < lo + m) : ∃ C, StopC F y lo m C := by
  have key : ∀ N : Nat, (∃ C, C < N ∧ metAt F y lo m C ≠ 0 ∧ ∀ c, c < C → metAt F y lo m c = 0) ∨ (∀ c, c < N → metAt F y lo m c = 0) := by
    intro N
    induction N with
    | zero => exact .inr fun c hc => by omega
    | succ N ih =>
      rcases ih with ⟨C, hC, h⟩ | h
      · exact .inl ⟨C, by omega, h⟩
      · by_cases h0 : metAt F y lo m N = 0
        · exact .inr fun c hc => by
            by_cases hcN : c = N
            · subst hcN; exact h0
            · exact h c (by omega)
        · exact .inl ⟨N, by omega, h0, h⟩
  rcases key (m + 1) with ⟨C, hC, h0, h⟩ | h
  · have := met_in F y lo m C
    exact ⟨C, h, by omega, by omega, by omega⟩
  · exfalso
    have hc : ∀ c, c ≤ m + 1 → (tbl F y lo m c).count 0 + c = m := by
      intro c
      induction c with
      | zero => intro _; simp [tbl]
      | succ c ih =>
        intro hle
        have h1 := ih (by omega)
        have h2 := count_set (tbl F y lo m c) ((c : Int) + 1) (by omega) _ (by rw [met_get hin c, h c (by omega)])
        rw [tbl_succ]; omega
    have := hc (m + 1) (by omega)
    omega
theorem orb_in (a : Int) (k : Nat) (mode : Int) (n : Nat) (wd : Bool) (x y : Int) (n1 : 1 ≤ n) (n2 : n ≤ 16) (h : inW n y = true) (c : Nat) : -(2 : Int) ^ (n - 1) ≤ orb (stepI a k mode n wd x) y c ∧ orb (stepI a k mode n wd x) y c ≤ 2 ^ (n - 1) - 1 := by
  cases c with
  | zero => have := of_decide_eq_true h; simp only [Int.toNat_natCast] at this; exact this
  | succ c => exact fit_range n wd _ n1 n2
def fpV (a k mode b : Int) (wd : Bool) (y x : Int) (C : Nat) : Int := metAt (stepI a k.toNat mode b.toNat wd x) y (-(2 : Int) ^ (b.toNat - 1)) (2 ^ b.toNat) C
def fpA (a k mode b : Int) (wd : Bool) (y x : Int) (C : Nat) : Int := onB (asB a k mode b y x) (fpV a k mode b wd y x C - 1) 0
def fpB (a k mode b : Int) (wd : Bool) (y x : Int) (C : Nat) : Int := onB (asB a k mode b y x) (C + 1 - fpV a k mode b wd y x C) 0
def fpS (a k mode b : Int) (wd : Bool) (y x : Int) (C : Nat) : Prop := asB a k mode b y x = true → StopC (stepI a k.toNat mode b.toNat wd x) y (-(2 : Int) ^ (b.toNat - 1)) (2 ^ b.toNat) C
theorem fp_ex (a k mode b : Int) (wd : Bool) (y x : Int) : ∃ C, fpS a k mode b wd y x C := by
  cases h : asB a k mode b y x
  · exact ⟨0, fun h' => by rw [h] at h'; cases h'⟩
  · obtain ⟨k, n, rfl, rfl, ho, ⟨hw, _⟩, _⟩ := asB_n h
    have n1 := ho.2.2.2.1
    have n2 := ho.2.2.2.2
    obtain ⟨M, hM0, hM, _⟩ := pow_two_n n n1 n2
    obtain ⟨C, hC⟩ := stop_ex (F := stepI a k mode n wd x) (y := y) (lo := -(2 : Int) ^ (n - 1)) (m := 2 ^ n) fun c => by
      have := orb_in a k mode n wd x y (by omega) n2 hw c
      rw [← hM0]; omega
    exact ⟨C, fun _ => hC⟩


set_option maxHeartbeats 4000000 in
theorem spec_FirstPeriod_is (a k mode b : Int) (wd : Bool) (y x : Int) (w : World) (C : Nat) (hC : fpS a k mode b wd y x C) :
    Calls Try.prog 17 #[.agg #[.int .i64 a, .int .i64 k, .int .i64 mode, .int .i64 b, .bool wd], .int .i64 y, .int .i64 x] w fun e w' => e = .returned (.tuple #[.int .i64 (fpA a k mode b wd y x C), .int .i64 (fpB a k mode b wd y x C), .bool (asB a k mode b y x)]) ∧ Below w.heap.size w w' := by
  cases hq : asB a k mode b y x
  · have HA := hid (show fpA a k mode b wd y x C = 0 from by unfold fpA; rw [hq]; rfl)
    have HB := hid (show fpB a k mode b wd y x C = 0 from by unfold fpB; rw [hq]; rfl)
    have HQ := hid hq
    clear hq hC
    go_enter Try.func17, Try.ntmps17
    go_wp2_with fail
    refine (foAsked_q _ _ _ _ _ _ _ false _ HQ.out).mono ?_
    rintro e w1 ⟨rfl, hb⟩
    have B1 := hb
    obtain ⟨c0, c1, c2, c3, c4⟩ := box5_cells B1
    go_wp2_with fail
    go_ret3
    exact ⟨ret_iib HA.out.symm HB.out.symm rfl, bel_step (bel_alloc _ _) B1⟩
  · have hst := hC hq
    have ha0 : fpA a k mode b wd y x C = fpV a k mode b wd y x C - 1 := by unfold fpA; rw [hq]; rfl
    have hb0 : fpB a k mode b wd y x C = C + 1 - fpV a k mode b wd y x C := by unfold fpB; rw [hq]; rfl
    obtain ⟨k, n, rfl, rfl, ho, ⟨hw, yy1, yy2⟩, x1, x2⟩ := asB_n hq
    have hv0 : fpV a k mode n wd y x C = metAt (stepI a k mode n wd x) y (-(2 : Int) ^ (n - 1)) (2 ^ n) C := rfl
    simp only [Int.toNat_natCast] at hst
    have HQ := hid hq
    have HO := hid ho
    have n1 := ho.2.2.2.1
    have n2 := ho.2.2.2.2
    obtain ⟨M, hM0, hM, hM4, hM6⟩ := pow_two_n n n1 n2
    have hpw := pow_small n (by omega) n2
    obtain ⟨L, hL⟩ : ∃ L, -(2 : Int) ^ (n - 1) = L := ⟨_, rfl⟩
    have hL1 : -32768 ≤ L := by omega
    have hLM : L + M ≤ 32768 := by omega
    obtain ⟨F, hFd⟩ : ∃ F : Int → Int, F = stepI a k mode n wd x := ⟨_, rfl⟩
    have hin : ∀ c, L ≤ orb F y c ∧ orb F y c < L + M := fun c => by
      have := orb_in a k mode n wd x y (by omega) n2 hw c
      rw [hFd]; omega
    rw [hL, ← hM0, ← hFd] at hst hv0
    rw [hv0] at ha0 hb0
    have HA := hid ha0
    have HB := hid hb0
    have Hin := hid hin
    have HFd := hid hFd
    have Hst := hid hst
    have hCM := hst.2.2.2
    have hlo := fun (W : World) => wdLow_any n wd W (by omega) n2
    rw [hL] at hlo
    have Hlo := hid hlo
    have hwM : wrap64 ((2 : Int) ^ n) = (M : Int) := w64_pow hM0 hM6
    have hwM2 : wrap64 ((2 : Int) ^ min n 64) = (M : Int) := by rw [Nat.min_eq_left (by omega)]; exact hwM
    have hmk := run_make_ints (P := Try.prog) 26 3 uslice iint M (by omega)
    clear hq hC hst hin hFd ho hM hM0 hpw hL hv0 ha0 hb0 hlo hw
    go_enter Try.func17, Try.ntmps17
    go_wp2_with fail
    refine (foAsked_q _ _ _ _ _ _ _ true _ HQ.out).mono ?_
    rintro e w1 ⟨rfl, hb⟩
    have B1 := hb
    obtain ⟨c0, c1, c2, c3, c4⟩ := box5_cells B1
    go_wp2_with fail
    refine (Hlo.out _).mono ?_
    rintro e w2 ⟨rfl, hb2⟩
    have B2 := bel_step B1 hb2
    obtain ⟨d0, d1, d2, d3, d4⟩ := box5_cells B2
    have Hq := hid (box5_cells B2)
    have HBel := hid (bel_step (bel_alloc _ _) B2)
    have hgz : w.heap.size < w2.heap.size := by have := B2.size; simp at this; omega
    have hgz2 : w.heap.size ≠ w2.heap.size := by omega
    clear hb hb2 c0 c1 c2 c3 c4 B1 B2
    go_wp2_with fail
    clear d0 d1 d2 d3 d4 hwM hwM2
    go_loopw [1, 11] (fun yy kk wr => ∃ c : Nat, c ≤ C ∧ yy = .int .i64 (orb F y c) ∧ kk = .int .i64 ((c : Int) + 1) ∧ Blk 3 wr w2.heap.size (tbl F y L M c) ∧ Below w2.heap.size w2 wr)
      (fun _ kk _ => (C + 1 - (intOf kk)).toNat)
    case atStart => exact ⟨0, by omega, rfl, rfl, heap_alloc_new _ _, bel_alloc _ _⟩
    case round =>
      obtain ⟨c, hc, rfl, rfl, hblk, hb⟩ := hrel
      have hsz : w2.heap.size ≤ wr.heap.size := hb.size
      obtain ⟨z1, z2⟩ := Hin.out c
      obtain ⟨i, hi⟩ : ∃ i : Nat, i = (orb F y c - L).toNat := ⟨_, rfl⟩
      have hiv : orb F y c - L = (i : Int) := by omega
      have hiM : i < M := by omega
      have hget := met_get (F := F) (y := y) (lo := L) (m := M) Hin.out c
      rw [← hi] at hget
      have hcd := hblk.cell hget
      have hfd := hblk.free i
      have hset := hblk.set i ((c : Int) + 1)
      have hts := tbl_succ F y L M c
      rw [← hi] at hts
      rw [← hts] at hset
      obtain ⟨v, hv⟩ : ∃ v, v = metAt F y L M c := ⟨_, rfl⟩
      rw [← hv] at hcd
      obtain ⟨t0, t1, t2, t3, t4⟩ := hb.cells5q Hq.out
      have horb : orb F y (c + 1) = F (orb F y c) := rfl
      generalize hz : orb F y c = z at *
      have e1 : IntKind.i64.wrap (z - L) = (i : Int) := by rw [hiv]; exact IntWalk.i64_in _ (by omega)
      have e2 : wrap64 (z - L) = (i : Int) := by rw [hiv]; exact IntWalk.wrap64_in _ (by omega)
      by_cases hlk : c < C
      · have hv0 : v = 0 := by rw [hv]; exact Hst.out.1 c hlk
        have hstp := fun (W : World) => foStep_any a k mode n wd z x W HO.out (by omega) (by omega) x1 x2
        rw [← HFd.out, ← horb] at hstp
        have Hstp := hid hstp
        have Hset := hid hset
        have hgw : w2.heap.size < wr.heap.size := hblk.lt
        subst hv0
        clear hstp hset hts hget hblk hi hv horb hz
        go_wp2_with (go_at_call 33; refine (Hstp.out _).mono ?_; rintro e w5 ⟨rfl, hb5⟩; have hB5 := (hb.setCell (p := ⟨w2.heap.size, i, none⟩) (Nat.le_refl _) (.int .i64 ((c : Int) + 1))).trans (hb5.mono (by simpa using hsz)); have hK5 := Hset.out.kept hb5 (by simpa using hgw))
        go_roundw
        case rel => exact ⟨c + 1, by omega, by first | rfl | (rw [horb]), by go_num, hK5, hB5⟩
        case measure => simp [intOf]; omega
      · have hcC : c = C := by omega
        subst hcC
        have hv1 : 1 ≤ v := by rw [hv]; exact Hst.out.2.1
        have hv2 : v ≤ c := by rw [hv]; exact Hst.out.2.2.1
        have HA2 := HA.out
        have HB2 := HB.out
        rw [← hv] at HA2 HB2
        have HA3 := hid HA2
        have HB3 := hid HB2
        clear hset hts hget hblk hi hv horb hz hlk HA2 HB2
        go_wp2_with fail
        go_ret3
        exact ⟨ret_iib HA3.out.symm (by rw [HB3.out]) rfl, bel_step HBel.out hb⟩

end Go.Proofs.Ytpikdmoghjakfaa
