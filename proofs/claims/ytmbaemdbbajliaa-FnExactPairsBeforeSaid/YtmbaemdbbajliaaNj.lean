
import Derived.Test.YtmbaemdbbajliaaNc
import Derived.Test.YtmbaemdbbajliaaOq
namespace Go.Proofs.Ytmbaemdbbajliaa
open Go.RowKit BitX Go.MemX Go.ShX
set_option linter.unusedVariables false


theorem eqPair : ∀ (a b c d : Int) (w : World), (binOp .eql 50 (.agg #[.int .i64 a, .int .i64 b]) (.agg #[.int .i64 c, .int .i64 d])).run Try.prog w = .ok (.bool ((a == c) && (b == d))) w := by
  intro a b c d w
  have hs : ∀ w : World, (sizeOf 3).run Try.prog w = .ok 1 w := fun w => rfl
  have uE : Try.prog.underlying 3 = some (.int .i64) := by kernel_rfl
  have p0 : ∀ (x y : Int) (w : World), (part 3 #[.int .i64 x, .int .i64 y] (0 * 1)).run Try.prog w = .ok (.int .i64 x) w := fun x y w => by simp [part, isAgg, run_underlying uE, hs]
  have p1 : ∀ (x y : Int) (w : World), (part 3 #[.int .i64 x, .int .i64 y] (1 * 1)).run Try.prog w = .ok (.int .i64 y) w := fun x y w => by simp [part, isAgg, run_underlying uE, hs]
  have pe : ∀ (k : Nat) (x y : Int) (w : World), (Op.equalIn (k + 1) 3 (.int .i64 x) (.int .i64 y)).run Try.prog w = .ok (x == y) w := fun k x y w => by simp [Op.equalIn, run_underlying uE]
  have main : ∀ k : Nat, (Op.equalIn (k + 2) 50 (.agg #[.int .i64 a, .int .i64 b]) (.agg #[.int .i64 c, .int .i64 d])).run Try.prog w = .ok ((a == c) && (b == d)) w := by
    intro k
    rw [Op.equalIn]
    simp only [Sem.run_bind, run_underlying upair, Result.andThen_ok, hs, Std.Legacy.Range.forIn_eq_forIn_range', show ([:2] : Std.Legacy.Range).size = 2 from rfl, show List.range' 0 2 = [0, 1] from rfl, List.forIn_cons, List.forIn_nil, p0, pe]
    cases h1 : a == c
    · simp
    · cases h2 : b == d
      · simp [p1, pe, h2]
      · simp [p1, pe, h2]
  simp only [binOp, Op.equal, Op.maxDepth, Sem.run_bind, main, Result.andThen_ok]
  rfl


theorem enterPB : Go.Proofs.Enters Try.prog 40 := enters_of Try.func40 (by kernel_rfl) rfl
set_option maxHeartbeats 1000000 in
theorem pb_clo (gn gz gy g : Nat) (lb : Array Value) (eg : ∀ (args : Array Value) (w : World), (callFunc g args).run Try.prog w = .ok (.enter g args) w) (F : Int → Int → Int) (u y z : Int) (w : World) (hc : w.cell? ⟨gn, 0, none⟩ = some (.func (.func g) #[] lb)) (hcz : w.cell? ⟨gz, 0, none⟩ = some (.int .i64 z)) (hcy : w.cell? ⟨gy, 0, none⟩ = some (.int .i64 y)) (hf : NextSAt Try.prog g lb F w) (u1 : -100000 ≤ u) (u2 : u ≤ 100000) (z1 : -100000 ≤ z) (z2 : z ≤ 100000) :
    Calls Try.prog 40 #[.int .i64 u, .pointer (some ⟨gn, 0, none⟩), .pointer (some ⟨gz, 0, none⟩), .pointer (some ⟨gy, 0, none⟩)] w fun e w' => e = .returned (.bool (F z u == y)) ∧ Below w.heap.size w w' := by
  have Hf := hid hf
  have hS := And.intro hc (And.intro hcz hcy)
  have HS := hid hS
  have heq := eqPair
  have hr0 : ((F z u == y) && (z == z)) = (F z u == y) := by simp
  have Hr0 := hid hr0
  clear hf hr0
  go_enter Try.func40, Try.ntmps40
  go_wp2_with fail
  go_region_held3 (fun W => W.cell? ⟨gn, 0, none⟩ = some (.func (.func g) #[] lb) ∧ W.cell? ⟨gz, 0, none⟩ = some (.int .i64 z) ∧ W.cell? ⟨gy, 0, none⟩ = some (.int .i64 y)) (first | exact hS | assumption | go_keep) (first | (go_at_fn g; refine (Hf.out _ z u (Below.refl _ _).drew z1 z2 u1 u2).mono ?_; rintro e w1 ⟨rfl, hb⟩; have hB := (Below.refl _ w).drew.trans (hb.mono (Nat.le_refl _)); have hS := And.intro (kc hB HS.out.1) (And.intro (kc hB HS.out.2.1) (kc hB HS.out.2.2))))
  all_goals go_wp2
  all_goals go_ret
  all_goals exact ⟨ret_b (by first | exact Hr0.out | simp), hB⟩
theorem pb_holds {gn gz gy g : Nat} {lb : Array Value} (eg : ∀ (args : Array Value) (w : World), (callFunc g args).run Try.prog w = .ok (.enter g args) w) {F : Int → Int → Int} {y z : Int} {w : World} (hc : w.cell? ⟨gn, 0, none⟩ = some (.func (.func g) #[] lb)) (hcz : w.cell? ⟨gz, 0, none⟩ = some (.int .i64 z)) (hcy : w.cell? ⟨gy, 0, none⟩ = some (.int .i64 y)) (hf : NextSAt Try.prog g lb F w) (z1 : -100000 ≤ z) (z2 : z ≤ 100000) :
    HoldsAt Try.prog 40 #[.pointer (some ⟨gn, 0, none⟩), .pointer (some ⟨gz, 0, none⟩), .pointer (some ⟨gy, 0, none⟩)] (fun u => F z u == y) w := fun W u hb u1 u2 => pb_clo gn gz gy g lb eg F u y z W (hb.cell1q hc) (hb.cell1q hcz) (hb.cell1q hcy) (hf.later hb) u1 u2 z1 z2
def pbB (a d k mode b y z x : Int) : Bool := atB a d k mode b y z x && decide (b ≤ 10)
def pbL (a d k mode b : Int) (wd : Bool) (y z x : Int) : List Int := onB (pbB a d k mode b y z x) (whU (-(2 : Int) ^ (b.toNat - 1)) (fun u => stepS a d k.toNat mode b.toNat wd x z u == y) (2 ^ b.toNat)) []
theorem pbB_n {a d k mode b y z x : Int} (h : pbB a d k mode b y z x = true) : ∃ kk n : Nat, k = kk ∧ b = n ∧ SoOk a d kk mode n ∧ n ≤ 10 ∧ (-32768 ≤ y ∧ y ≤ 32767) ∧ (-32768 ≤ z ∧ z ≤ 32767) ∧ -100000 ≤ x ∧ x ≤ 100000 := by
  unfold pbB at h
  rw [Bool.and_eq_true] at h
  obtain ⟨kk, n, rfl, rfl, ho, ⟨_, hy⟩, ⟨_, hz⟩, hx⟩ := atB_n h.1
  exact ⟨kk, n, rfl, rfl, ho, by have := of_decide_eq_true h.2; omega, hy, hz, hx⟩
theorem whS_short (lo : Int) (F : Int → Bool) (n : Nat) (h : n ≤ 10) : (whU lo F (2 ^ n)).length ≤ 2000000 := by
  have h1 := whU_len lo F (2 ^ n)
  have h2 : (2 : Nat) ^ n ≤ 2 ^ 10 := Nat.pow_le_pow_right (by decide) h
  omega
theorem pbL_len (a d k mode b : Int) (wd : Bool) (y z x : Int) : (pbL a d k mode b wd y z x).length ≤ 2000000 := by
  unfold pbL
  cases h : pbB a d k mode b y z x
  · simp [onB]
  · obtain ⟨kk, n, rfl, rfl, _, hn, _⟩ := pbB_n h
    exact whS_short _ _ n hn


set_option maxHeartbeats 2000000 in
theorem impl_PairsBefore_is (a d k mode b : Int) (wd : Bool) (y z x : Int) (w : World) (y1 : -9223372036854775808 ≤ y) (y2 : y ≤ 9223372036854775807) (z1 : -9223372036854775808 ≤ z) (z2 : z ≤ 9223372036854775807) :
    Calls Try.prog 22 #[.agg #[.int .i64 a, .int .i64 d, .int .i64 k, .int .i64 mode, .int .i64 b, .bool wd], .int .i64 y, .int .i64 z, .int .i64 x] w (Gives w (pbL a d k mode b wd y z x) (pbB a d k mode b y z x)) := by
  cases hq : pbB a d k mode b y z x
  · have HL := hid (show pbL a d k mode b wd y z x = [] from by unfold pbL; rw [hq]; rfl)
    have HQ := hid hq
    cases ha : atB a d k mode b y z x
    · have HA := hid ha
      clear hq ha
      go_enter Try.func22, Try.ntmps22
      go_wp2_with fail
      refine (canStepPair_q _ _ _ _ _ _ _ _ _ false _ y1 y2 z1 z2 HA.out).mono ?_
      rintro e w1 ⟨rfl, hb⟩
      have B1 := hb
      obtain ⟨c0, c1, c2, c3, c4, c5⟩ := box6_cells (bel_step (bel_alloc _ _) (bel_step (bel_alloc _ _) B1))
      go_wp2_with fail
      go_ret2
      exact gives_of rfl HL.out ⟨_, rfl, .inl ⟨rfl, rfl⟩, bel_step (bel_alloc _ _) (bel_step (bel_alloc _ _) (bel_step (bel_alloc _ _) B1))⟩
    · have HA := hid ha
      have hb10 : 10 < b := by
        by_cases h : b ≤ 10
        · unfold pbB at hq; rw [ha, decide_eq_true h] at hq; cases hq
        · omega
      clear hq ha
      go_enter Try.func22, Try.ntmps22
      go_wp2_with fail
      refine (canStepPair_q _ _ _ _ _ _ _ _ _ true _ y1 y2 z1 z2 HA.out).mono ?_
      rintro e w1 ⟨rfl, hb⟩
      have B1 := hb
      obtain ⟨c0, c1, c2, c3, c4, c5⟩ := box6_cells (bel_step (bel_alloc _ _) (bel_step (bel_alloc _ _) B1))
      go_wp2_with fail
      go_ret2
      exact gives_of rfl HL.out ⟨_, rfl, .inl ⟨rfl, rfl⟩, bel_step (bel_alloc _ _) (bel_step (bel_alloc _ _) (bel_step (bel_alloc _ _) B1))⟩
  · have ha : atB a d k mode b y z x = true := by unfold pbB at hq; rw [Bool.and_eq_true] at hq; exact hq.1
    obtain ⟨k, n, rfl, rfl, ho, hn10, ⟨yy1, yy2⟩, ⟨zz1, zz2⟩, x1, x2⟩ := pbB_n hq
    have HA := hid ha
    have HQ := hid hq
    have HL := hid (show pbL a d k mode n wd y z x = whU (-(2 : Int) ^ (n - 1)) (fun u => stepS a d k mode n wd x z u == y) (2 ^ n) from by unfold pbL; rw [hq]; rfl)
    have n1 := ho.1.2.2.2.1
    have n2 := ho.1.2.2.2.2
    have HO := hid ho
    have hb10 : (n : Int) ≤ 10 := by omega
    clear hq ha ho
    go_enter Try.func22, Try.ntmps22
    go_wp2_with fail
    refine (canStepPair_q _ _ _ _ _ _ _ _ _ true _ y1 y2 z1 z2 HA.out).mono ?_
    rintro e w1 ⟨rfl, hb⟩
    have B1 := hb
    obtain ⟨c0, c1, c2, c3, c4, c5⟩ := box6_cells (bel_step (bel_alloc _ _) (bel_step (bel_alloc _ _) B1))
    have hgz : w.heap.size + 2 < w1.heap.size := by have := hb.size; simp at this; omega
    have hcz := box1_cell B1
    have hcy := box1_cell (bel_step (bel_alloc _ _) B1)
    simp only [World.size_alloc] at hcz hcy
    go_wp2_with fail
    refine (pairStepWith_any a d k mode n wd x _ HO.out x1 x2).mono ?_
    rintro e w3 ⟨⟨lb, rfl, hn3⟩, hb⟩
    have B3 := bel_step B1 hb
    have Hn3 := hid hn3
    have hmf := mkFunc2
    obtain ⟨d0, d1, d2, d3, d4, d5⟩ := box6_cells (bel_step (bel_alloc _ _) (bel_step (bel_alloc _ _) (B3)))
    rw [← hb.cell (by exact block_lt_of_cell hcz)] at hcz
    rw [← hb.cell (by exact block_lt_of_cell hcy)] at hcy
    clear hn3 hb c0 c1 c2 c3 c4 c5
    have Bn := bel_alloc w3 (.cells #[.func (.func 50) #[] lb] 51)
    rw [← Bn.cell (by exact block_lt_of_cell d4)] at d4
    rw [← Bn.cell (by exact block_lt_of_cell d5)] at d5
    have hh : HoldsAt Try.prog 40 #[.pointer (some ⟨w3.heap.size, 0, none⟩), .pointer (some ⟨w.heap.size + 1 + 1, 0, none⟩), .pointer (some ⟨w.heap.size + 1, 0, none⟩)] (fun u => stepS a d k mode n wd x z u == y) (w3.alloc (.cells #[.func (.func 50) #[] lb] 51)) :=
      pb_holds enterT2 (box1_cell (Below.refl _ _)) (Bn.cell1q hcz) (Bn.cell1q hcy) (Hn3.out.later Bn) (by omega) (by omega)
    have Hh := hid hh
    have B4 := bel_step B3 Bn
    clear hh hcz hcy
    have eg := enterPB
    go_wp2_with fail
    refine (numbersWhere_any n wd _ _ enterPB _ _ Hh.out n1 n2).mono ?_
    rintro e w5 ⟨v, rfl, hr, hb5⟩
    have B5 := bel_step B4 hb5
    have Hr := hid hr
    clear hr hb5
    go_wp2_with fail
    go_ret2
    have B6 := bel_step (bel_alloc _ _) (bel_step (bel_alloc _ _) (bel_step (bel_alloc _ _) B5))
    exact gives_of rfl HL.out ⟨_, rfl, Hr.out.mono (bel_step (bel_alloc _ _) (bel_step (bel_alloc _ _) (bel_step (bel_alloc _ _) B4))).size, B6⟩


set_option maxHeartbeats 4000000 in
theorem spec_PairsBefore_is (a d k mode b : Int) (wd : Bool) (y z x : Int) (w : World) :
    Calls Try.prog 21 #[.agg #[.int .i64 a, .int .i64 d, .int .i64 k, .int .i64 mode, .int .i64 b, .bool wd], .int .i64 y, .int .i64 z, .int .i64 x] w (Gives w (pbL a d k mode b wd y z x) (pbB a d k mode b y z x)) := by
  cases hq : pbB a d k mode b y z x
  · have HL := hid (show pbL a d k mode b wd y z x = [] from by unfold pbL; rw [hq]; rfl)
    have HQ := hid hq
    cases ha : atB a d k mode b y z x
    · have HA := hid ha
      clear hq ha
      go_enter Try.func21, Try.ntmps21
      go_wp2_with fail
      refine (sdAsked_q _ _ _ _ _ _ _ _ _ false _ HA.out).mono ?_
      rintro e w1 ⟨rfl, hb⟩
      have B1 := hb
      obtain ⟨c0, c1, c2, c3, c4, c5⟩ := box6_cells B1
      go_wp2_with fail
      go_ret2
      exact gives_of rfl HL.out ⟨_, rfl, .inl ⟨rfl, rfl⟩, bel_step (bel_alloc _ _) B1⟩
    · have HA := hid ha
      have hb10 : 10 < b := by
        by_cases h : b ≤ 10
        · unfold pbB at hq; rw [ha, decide_eq_true h] at hq; cases hq
        · omega
      clear hq ha
      go_enter Try.func21, Try.ntmps21
      go_wp2_with fail
      refine (sdAsked_q _ _ _ _ _ _ _ _ _ true _ HA.out).mono ?_
      rintro e w1 ⟨rfl, hb⟩
      have B1 := hb
      obtain ⟨c0, c1, c2, c3, c4, c5⟩ := box6_cells B1
      go_wp2_with fail
      go_ret2
      exact gives_of rfl HL.out ⟨_, rfl, .inl ⟨rfl, rfl⟩, bel_step (bel_alloc _ _) B1⟩
  · have ha : atB a d k mode b y z x = true := by unfold pbB at hq; rw [Bool.and_eq_true] at hq; exact hq.1
    obtain ⟨k, n, rfl, rfl, ho, hn10, ⟨yy1, yy2⟩, ⟨zz1, zz2⟩, x1, x2⟩ := pbB_n hq
    have HA := hid ha
    have HQ := hid hq
    have HL := hid (show pbL a d k mode n wd y z x = whU (-(2 : Int) ^ (n - 1)) (fun u => stepS a d k mode n wd x z u == y) (2 ^ n) from by unfold pbL; rw [hq]; rfl)
    have n1 := ho.1.2.2.2.1
    have n2 := ho.1.2.2.2.2
    have HO := hid ho
    have hb10 : (n : Int) ≤ 10 := by omega
    clear hq ha ho
    go_enter Try.func21, Try.ntmps21
    go_wp2_with fail
    refine (sdAsked_q _ _ _ _ _ _ _ _ _ true _ HA.out).mono ?_
    rintro e w1 ⟨rfl, hb⟩
    have B1 := hb
    obtain ⟨c0, c1, c2, c3, c4, c5⟩ := box6_cells B1
    obtain ⟨M, hM0, hM, hM4, hM6⟩ := pow_two_n n n1 n2
    have hpw := pow_small n (by omega) n2
    obtain ⟨L, hL⟩ : ∃ L, -(2 : Int) ^ (n - 1) = L := ⟨_, rfl⟩
    obtain ⟨H, hH⟩ : ∃ H, (2 : Int) ^ (n - 1) - 1 = H := ⟨_, rfl⟩
    have hLM : H + 1 = L + M := by omega
    have hL1 : -32768 ≤ L := by omega
    have hH2 : H ≤ 32767 := by omega
    have hlo := fun (W : World) => wdLow_any n wd W (by omega) n2
    have hhi := fun (W : World) => wdHigh_any n wd W (by omega) n2
    have hll := HL.out
    rw [hL] at hlo hll
    rw [hH] at hhi
    rw [← hM0] at hll
    have Hlo := hid hlo
    have Hhi := hid hhi
    obtain ⟨Fn, hFd⟩ : ∃ Fn : Int → Bool, Fn = (fun u => stepS a d k mode n wd x z u == y) := ⟨_, rfl⟩
    rw [← hFd] at hll
    have HLL := hid hll
    have HFd := hid (show ∀ u, Fn u = (stepS a d k mode n wd x z u == y) from fun u => by rw [hFd])
    obtain ⟨i0, hi0, hz0, hz1, hz2⟩ := info_parts iint
    clear hlo hhi hM0 hM hpw hL hH hFd hll HL hb
    go_wp2_with fail
    refine (Hlo.out _).mono ?_
    rintro e w2 ⟨rfl, hb⟩
    have hBB := bel_step B1 hb
    have Hq := hid (box6_cells hBB)
    have HB := hid (bel_step (bel_alloc _ _) hBB)
    clear hb hBB B1 c0 c1 c2 c3 c4 c5
    go_wp2_with fail
    go_loopw [10, 11] (fun v uu wr => ∃ c : Nat, c ≤ M ∧ uu = .int .i64 (L + (c : Int)) ∧ wr.ownsRow w2.heap.size 3 1 v (whU L Fn c).length ((whU L Fn c).map (Value.int .i64)) ∧ Below w2.heap.size w2 wr)
      (fun _ uu _ => (H + 1 - intOf uu).toNat)
    case atStart => exact ⟨0, by omega, by simp, World.ownsRow_nil _ _ _ _, Below.refl _ _⟩
    case round =>
      obtain ⟨c, hc, rfl, hown, hb⟩ := hrel
      have hsz : w2.heap.size ≤ wr.heap.size := hb.size
      have Hob := hid (ownsRow_base hown)
      obtain ⟨q0, q1, q2, q3, q4, q5⟩ := hb.cells6q Hq.out
      obtain ⟨u, hu⟩ : ∃ u, u = L + (c : Int) := ⟨_, rfl⟩
      have hun := whU_len L Fn c
      rw [← hu]
      by_cases hlk : c < M
      · have huH : u ≤ H := by omega
        have hu1 : -32768 ≤ u := by omega
        have hyn : u + 1 = L + ((c + 1 : Nat) : Int) := by omega
        have hst2 := fun (W : World) => sdStep_any a d k mode n wd z u x W HO.out (by omega) (by omega) (by omega) (by omega) x1 x2
        have hfy := HFd.out u
        generalize hz : stepS a d k mode n wd x z u = zn at *
        have Hst2 := hid hst2
        clear hst2 hz
        cases hF : Fn u
        · have hst := whU_f (lo := L) (F := Fn) (c := c) (by rw [← hu]; exact hF)
          have Hst := hid hst
          have hne : (zn == y) = false := by rw [← hfy]; exact hF
          have Hown := hid hown
          have Hyn := hid hyn
          clear hst hown hyn hF hu hfy
          go_wp2_with (first | (go_at_call 37; refine (Hhi.out _).mono ?_; rintro e w3 ⟨rfl, hb3⟩; have hB3 := hb.trans (hb3.mono hsz); obtain ⟨t0, t1, t2, t3, t4, t5⟩ := hB3.cells6q Hq.out) | (go_at_call 38; refine (Hst2.out _).mono ?_; rintro e w4 ⟨rfl, hb4⟩; have hB4 := hB3.trans (hb4.mono hB3.size); have hs4 : w2.heap.size ≤ w4.heap.size := hB4.size; obtain ⟨s0, s1, s2, s3, s4, s5⟩ := hB4.cells6q Hq.out))
          go_roundw
          case rel => exact ⟨c + 1, by omega, by rw [Hyn.out], by rw [Hst.out]; exact ownsRow_below (ownsRow_below Hown.out hb3) hb4, hB4⟩
          case measure => simp [intOf]; omega
        · have hst := whU_t (lo := L) (F := Fn) (c := c) (by rw [← hu]; exact hF)
          rw [← hu] at hst
          have Hst := hid hst
          have hne : (zn == y) = true := by rw [← hfy]; exact hF
          have Hown := hid hown
          have Hyn := hid hyn
          clear hst hown hyn hF hu hfy
          generalize hys : whU L Fn c = ys at *
          generalize hln : ys.length = ln at *
          have Hln := hid hln
          clear hln hys
          go_wp2_with (first | (go_at_call 37; refine (Hhi.out _).mono ?_; rintro e w3 ⟨rfl, hb3⟩; have hB3 := hb.trans (hb3.mono hsz); obtain ⟨t0, t1, t2, t3, t4, t5⟩ := hB3.cells6q Hq.out) | (go_at_call 38; refine (Hst2.out _).mono ?_; rintro e w4 ⟨rfl, hb4⟩; have hB4 := hB3.trans (hb4.mono hB3.size); have hs4 : w2.heap.size ≤ w4.heap.size := hB4.size; obtain ⟨s0, s1, s2, s3, s4, s5⟩ := hB4.cells6q Hq.out) | (at_builtin; refine wpList_append_own _ rfl _ _ 26 rfl w2.heap.size 3 i0 (.int .i64 0) 1 8 uslice hi0 hz0 hz1 hz2 rfl (by decide) _ _ _ rfl ((ownsRow_below (ownsRow_below Hown.out hb3) hb4).alloc _) ⟨w4.heap.size, 0, none⟩ 1 1 [.int .i64 (u)] rfl rfl ?c1 ?c2 ?c3 ?c4 ?c5 ?_))
          case c1 => exact cell_one_new _ _ _
          case c2 => intro u hu; simp at hu; subst hu; rfl
          case c3 => unfold maxLen; omega
          case c4 => omega
          case c5 => simp; omega
          intro v' w5 hown5 hgrow _
          have hb5 : Below w2.heap.size w2 w5 := (hB4.alloc hB4.size _).grown hgrow (by simp; omega) (fun j hj => Hob.out j hj)
          have Hown5 := hid hown5
          clear hown5 hgrow
          go_wp2
          go_roundw
          case rel => exact ⟨c + 1, by omega, by rw [Hyn.out], by rw [Hst.out, List.length_append, List.map_append, Hln.out]; exact Hown5.out, hb5⟩
          case measure => simp [intOf]; omega
      · have huH : H < u := by omega
        have hkn : c = M := by omega
        have Hk := hid hkn
        have Hown := hid hown
        clear hkn hlk hown hu hun
        go_wp2_with (go_at_call 37; refine (Hhi.out _).mono ?_; rintro e w3 ⟨rfl, hb3⟩; have hB3 := hb.trans (hb3.mono hsz))
        go_ret2
        have ho := ownsRow_below Hown.out hb3
        rw [Hk.out] at ho
        exact gives_of rfl HLL.out ⟨_, rfl, (Res.owns ho).mono HB.out.size, bel_step HB.out hB3⟩


set_option maxHeartbeats 1600000 in
theorem gen_FnExactPairsBefore (a d k mode b : Int) (wr : Bool) (y : Int) (z : Int) (x : Int)  (ys : List Int) (ok : Bool) (w : World)  (hy : ys.length ≤ 2000000) (hspec : ∀ (w : World) , Calls Try.prog 21 #[.agg #[.int .i64 a, .int .i64 d, .int .i64 k, .int .i64 mode, .int .i64 b, .bool wr], .int .i64 y, .int .i64 z, .int .i64 x] w (Gives w ys ok)) (himpl : ∀ (w : World) , Calls Try.prog 22 #[.agg #[.int .i64 a, .int .i64 d, .int .i64 k, .int .i64 mode, .int .i64 b, .bool wr], .int .i64 y, .int .i64 z, .int .i64 x] w (Gives w ys ok)) :
    Calls Try.prog 7 #[.agg #[.int .i64 a, .int .i64 d, .int .i64 k, .int .i64 mode, .int .i64 b, .bool wr], .int .i64 y, .int .i64 z, .int .i64 x] w fun e w' => e = .returned (.bool true) ∧ Below w.heap.size w w' := by
  have HSP := hid hspec
  have HIM := hid himpl
  clear hspec himpl
  all_goals cases ok
  all_goals
    go_enter Try.func7, Try.ntmps7
    go_wp2_with fail
    refine (toSecond_any _ _ _ _ _ _ _).mono ?_
    rintro e w1 ⟨rfl, hb⟩
    have B1 := hb
    have hz1 : w.heap.size ≤ w1.heap.size := by first | exact hb.size | (have := hb.size; simp at this; omega)
    obtain ⟨ca1, cb1, cc1, cd1, ce1, cf1⟩ := box6_cells B1
    go_wp2_with fail
    refine (HSP.out _).mono ?_
    rintro e w2 ⟨v_R0, rfl, R0, hb⟩
    have B2 := bel_step B1 hb
    have hz2 : w1.heap.size ≤ w2.heap.size := hb.size
    obtain ⟨ca2, cb2, cc2, cd2, ce2, cf2⟩ := box6_cells B2
    have hlt0 : ∀ g, v_R0.ownBlock = some g → g < w2.heap.size := fun g hg => R0.lt hg
    have Hlt0 := hid hlt0
    clear hlt0
    go_wp2_with fail
    refine (toSecond_any _ _ _ _ _ _ _).mono ?_
    rintro e w3 ⟨rfl, hb⟩
    have B3 := bel_step B2 hb
    have hz3 : w2.heap.size ≤ w3.heap.size := hb.size
    have R0_3 := R0.kept hb
    obtain ⟨ca3, cb3, cc3, cd3, ce3, cf3⟩ := box6_cells B3
    go_wp2_with fail
    refine (HIM.out _).mono ?_
    rintro e w4 ⟨v_R1, rfl, R1, hb⟩
    have B4 := bel_step B3 hb
    have hz4 : w3.heap.size ≤ w4.heap.size := hb.size
    have R0_4 := R0_3.kept hb
    obtain ⟨ca4, cb4, cc4, cd4, ce4, cf4⟩ := box6_cells B4
    have hne01 : ∀ g, v_R0.ownBlock = some g → v_R1.ownBlock ≠ some g := fun g hg e => by have a1 := R1.ge e; have a2 := Hlt0.out g hg; omega
    have Hne01 := hid hne01
    clear hne01
    have hge1 : ∀ g, v_R1.ownBlock = some g → w3.heap.size ≤ g := fun g hg => R1.ge hg
    have Hge1 := hid hge1
    clear hge1
    go_wp2_with fail
    refine (eqIntS_same _ _ ys _ R1.sl R0_4.sl hy).mono ?_
    rintro e w5 ⟨rfl, hb⟩
    have B5 := bel_step B4 hb
    have hz5 : w4.heap.size ≤ w5.heap.size := hb.size
    have R0_5 := R0_4.kept hb
    have R1_5 := R1.kept hb
    obtain ⟨ca5, cb5, cc5, cd5, ce5, cf5⟩ := box6_cells B5
    go_wp2_with fail
    refine (markIntS_one _ ys _ _ R1_5 hy).mono ?_
    rintro e w6 ⟨rfl, ho, M⟩
    have B6 := B5.trans (ho.below fun g hg => Nat.le_trans B3.size (Hge1.out g hg))
    have hz6 : w5.heap.size ≤ w6.heap.size := Nat.le_of_eq ho.size.symm
    have R0_6 := R0_5.only ho Hne01.out
    obtain ⟨ca6, cb6, cc6, cd6, ce6, cf6⟩ := box6_cells B6
    go_wp2_with fail
    refine (heldIntS_one _ ys.length _ _ M hy).mono ?_
    rintro e w' ⟨rfl, rfl⟩
    go_wp2_with fail
    refine (toSecond_any _ _ _ _ _ _ _).mono ?_
    rintro e w7 ⟨rfl, hb⟩
    have B7 := bel_step B6 hb
    have hz7 : w6.heap.size ≤ w7.heap.size := hb.size
    have R0_7 := R0_6.kept hb
    have M_7 := M.kept hb
    obtain ⟨ca7, cb7, cc7, cd7, ce7, cf7⟩ := box6_cells B7
    go_wp2_with fail
    refine (HIM.out _).mono ?_
    rintro e w8 ⟨v_R2, rfl, R2, hb⟩
    have B8 := bel_step B7 hb
    have hz8 : w7.heap.size ≤ w8.heap.size := hb.size
    have R0_8 := R0_7.kept hb
    have M_8 := M_7.kept hb
    obtain ⟨ca8, cb8, cc8, cd8, ce8, cf8⟩ := box6_cells B8
    go_wp2_with fail
    refine (eqIntS_same _ _ ys _ R2.sl R0_8.sl hy).mono ?_
    rintro e w9 ⟨rfl, hb⟩
    have B9 := bel_step B8 hb
    have hz9 : w8.heap.size ≤ w9.heap.size := hb.size
    have R0_9 := R0_8.kept hb
    have M_9 := M_8.kept hb
    have R2_9 := R2.kept hb
    obtain ⟨ca9, cb9, cc9, cd9, ce9, cf9⟩ := box6_cells B9
    go_wp2_with fail
    refine (heldIntS_one _ ys.length _ _ M_9 hy).mono ?_
    rintro e w' ⟨rfl, rfl⟩
    go_wp2_with fail
    go_ret
    exact ⟨rfl, bel_step (bel_alloc _ _) B9⟩


set_option maxHeartbeats 1600000 in
theorem walk_FnExactPairsBefore (w : World) (a d k mode b : Int) (wr : Bool) (wa : (Lit.int .i64 a).wf = true) (wd : (Lit.int .i64 d).wf = true) (wk : (Lit.int .i64 k).wf = true) (wm : (Lit.int .i64 mode).wf = true) (wb : (Lit.int .i64 b).wf = true) (y : Int) (w_y : (Lit.int .i64 y).wf = true) (z : Int) (w_z : (Lit.int .i64 z).wf = true) (x : Int) (w_x : (Lit.int .i64 x).wf = true) :
    Calls Try.prog 7 #[.agg #[.int .i64 a, .int .i64 d, .int .i64 k, .int .i64 mode, .int .i64 b, .bool wr], .int .i64 y, .int .i64 z, .int .i64 x] w fun e w' => e = .returned (.bool true) ∧ Below w.heap.size w w' := by
  obtain ⟨y_1, y_2⟩ := bounds_i64 w_y
  obtain ⟨z_1, z_2⟩ := bounds_i64 w_z
  obtain ⟨x_1, x_2⟩ := bounds_i64 w_x
  exact gen_FnExactPairsBefore a d k mode b wr y z x (pbL a d k mode b wr y z x) (pbB a d k mode b y z x) w (pbL_len _ _ _ _ _ _ _ _ _) (fun w  => spec_PairsBefore_is _ _ _ _ _ _ _ _ _ _) (fun w  => impl_PairsBefore_is _ _ _ _ _ _ _ _ _ _ y_1 y_2 z_1 z_2)

end Go.Proofs.Ytmbaemdbbajliaa
