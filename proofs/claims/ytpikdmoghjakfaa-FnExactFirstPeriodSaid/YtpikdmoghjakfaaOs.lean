
import Derived.Test.YtpikdmoghjakfaaOq
namespace Go.Proofs.Ytpikdmoghjakfaa
open Go.RowKit BitX Go.MemX Go.ShX
set_option linter.unusedVariables false


def reB (a k mode b x : Int) : Bool := asB a k mode b 0 x && decide (b ≤ 10)
def nbB (a k mode b y x : Int) : Bool := csB a k mode b && asB a k mode b y x
theorem reB_cs (a k mode b x : Int) : reB a k mode b x = (csB a k mode b && smB x) := by
  unfold reB csB
  rw [asB_zero]
  cases foB a k mode b <;> cases smB x <;> cases decide (b ≤ 10) <;> rfl
theorem nbB_re (a k mode b y x : Int) : nbB a k mode b y x = (reB a k mode b x && inW b y) := by
  unfold nbB
  rw [reB_cs]
  unfold csB asB
  cases foB a k mode b <;> cases smB x <;> cases decide (b ≤ 10) <;> cases inW b y <;> rfl
set_option maxHeartbeats 1000000 in
theorem foScan_is (a k mode b : Int) (wd : Bool) (x : Int) (w : World) :
    Calls Try.prog 37 #[.agg #[.int .i64 a, .int .i64 k, .int .i64 mode, .int .i64 b, .bool wd], .int .i64 x] w fun e w' => e = .returned (.bool (reB a k mode b x)) ∧ Below w.heap.size w w' := by
  cases hq : asB a k mode b 0 x
  · have HR := hid (show reB a k mode b x = false from by unfold reB; rw [hq]; rfl)
    have HQ := hid hq
    clear hq
    go_enter Try.func37, Try.ntmps37
    go_wp2_with fail
    refine (foAsked_q _ _ _ _ _ _ _ false _ HQ.out).mono ?_
    rintro e w1 ⟨rfl, hb⟩
    have B1 := hb
    obtain ⟨c0, c1, c2, c3, c4⟩ := box5_cells B1
    go_wp2_with fail
    go_ret
    exact ⟨ret_b HR.out.symm, bel_step (bel_alloc _ _) B1⟩
  · by_cases hb10 : b ≤ 10
    · have HR := hid (show reB a k mode b x = true from by unfold reB; rw [hq, decide_eq_true hb10]; rfl)
      have HQ := hid hq
      clear hq
      go_enter Try.func37, Try.ntmps37
      go_wp2_with fail
      refine (foAsked_q _ _ _ _ _ _ _ true _ HQ.out).mono ?_
      rintro e w1 ⟨rfl, hb⟩
      have B1 := hb
      obtain ⟨c0, c1, c2, c3, c4⟩ := box5_cells B1
      go_wp2_with fail
      go_ret
      exact ⟨ret_b (by first | (rw [HR.out]; done) | (rw [HR.out]; exact decide_eq_true hb10)), bel_step (bel_alloc _ _) B1⟩
    · have HR := hid (show reB a k mode b x = false from by unfold reB; rw [hq, decide_eq_false hb10]; rfl)
      have HQ := hid hq
      have hg : 10 < b := by omega
      clear hq
      go_enter Try.func37, Try.ntmps37
      go_wp2_with fail
      refine (foAsked_q _ _ _ _ _ _ _ true _ HQ.out).mono ?_
      rintro e w1 ⟨rfl, hb⟩
      have B1 := hb
      obtain ⟨c0, c1, c2, c3, c4⟩ := box5_cells B1
      clear hb10
      go_wp2_with fail
      go_ret
      exact ⟨ret_b (by first | (rw [HR.out]; done) | (rw [HR.out]; exact decide_eq_false (by omega))), bel_step (bel_alloc _ _) B1⟩
set_option maxHeartbeats 1000000 in
theorem canScan_is (a k mode b : Int) (wd : Bool) (w : World) :
    Calls Try.prog 39 #[.agg #[.int .i64 a, .int .i64 k, .int .i64 mode, .int .i64 b, .bool wd]] w fun e w' => e = .returned (.bool (csB a k mode b)) ∧ Below w.heap.size w w' := by
  cases hq : foB a k mode b
  · have HR := hid (show csB a k mode b = false from by unfold csB; rw [hq]; rfl)
    have HQ := hid hq
    clear hq
    go_enter Try.func39, Try.ntmps39
    go_wp2_with fail
    refine (IsFirst_q _ _ _ _ _ false _ HQ.out).mono ?_
    rintro e w1 ⟨rfl, hb⟩
    have B1 := hb
    obtain ⟨c0, c1, c2, c3, c4⟩ := box5_cells B1
    go_wp2_with fail
    go_ret
    exact ⟨ret_b HR.out.symm, bel_step (bel_alloc _ _) B1⟩
  · by_cases hb10 : b ≤ 10
    · have HR := hid (show csB a k mode b = true from by unfold csB; rw [hq, decide_eq_true hb10]; rfl)
      have HQ := hid hq
      clear hq
      go_enter Try.func39, Try.ntmps39
      go_wp2_with fail
      refine (IsFirst_q _ _ _ _ _ true _ HQ.out).mono ?_
      rintro e w1 ⟨rfl, hb⟩
      have B1 := hb
      obtain ⟨c0, c1, c2, c3, c4⟩ := box5_cells B1
      go_wp2_with fail
      go_ret
      exact ⟨ret_b (by first | (rw [HR.out]; done) | (rw [HR.out]; exact decide_eq_true hb10)), bel_step (bel_alloc _ _) B1⟩
    · have HR := hid (show csB a k mode b = false from by unfold csB; rw [hq, decide_eq_false hb10]; rfl)
      have HQ := hid hq
      have hg : 10 < b := by omega
      clear hq hb10
      go_enter Try.func39, Try.ntmps39
      go_wp2_with fail
      refine (IsFirst_q _ _ _ _ _ true _ HQ.out).mono ?_
      rintro e w1 ⟨rfl, hb⟩
      have B1 := hb
      obtain ⟨c0, c1, c2, c3, c4⟩ := box5_cells B1
      go_wp2_with fail
      go_ret
      exact ⟨ret_b (by first | (rw [HR.out]; done) | (rw [HR.out]; exact decide_eq_false (by omega))), bel_step (bel_alloc _ _) B1⟩
theorem foScan_q (a k mode b : Int) (wd : Bool) (x : Int) (q : Bool) (w : World) (h : reB a k mode b x = q) :
    Calls Try.prog 37 #[.agg #[.int .i64 a, .int .i64 k, .int .i64 mode, .int .i64 b, .bool wd], .int .i64 x] w fun e w' => e = .returned (.bool q) ∧ Below w.heap.size w w' := h ▸ foScan_is a k mode b wd x w
theorem canScan_q (a k mode b : Int) (wd : Bool) (q : Bool) (w : World) (h : csB a k mode b = q) :
    Calls Try.prog 39 #[.agg #[.int .i64 a, .int .i64 k, .int .i64 mode, .int .i64 b, .bool wd]] w fun e w' => e = .returned (.bool q) ∧ Below w.heap.size w w' := h ▸ canScan_is a k mode b wd w
/-- the closures -/
theorem enterR1 : Go.Proofs.Enters Try.prog 41 := enters_of Try.func41 (by kernel_rfl) rfl
theorem enterB1 : Go.Proofs.Enters Try.prog 43 := enters_of Try.func43 (by kernel_rfl) rfl
set_option maxHeartbeats 1000000 in
theorem rests_clo (gn g : Nat) (lb : Array Value) (eg : ∀ (args : Array Value) (w : World), (callFunc g args).run Try.prog w = .ok (.enter g args) w) (F : Int → Int) (y : Int) (w : World) (hc : w.cell? ⟨gn, 0, none⟩ = some (.func (.func g) #[] lb)) (hf : NextAt Try.prog g lb F w) (y1 : -100000 ≤ y) (y2 : y ≤ 100000) :
    Calls Try.prog 41 #[.int .i64 y, .pointer (some ⟨gn, 0, none⟩)] w fun e w' => e = .returned (.bool (F y == y)) ∧ Below w.heap.size w w' := by
  have Hf := hid hf
  clear hf
  go_enter Try.func41, Try.ntmps41
  go_wp2_with (go_at_fn g; refine (Hf.out _ y (Below.refl _ _) y1 y2).mono ?_; rintro e w1 ⟨rfl, hb⟩)
  go_ret
  exact ⟨ret_b rfl, hb⟩
set_option maxHeartbeats 1000000 in
theorem before_clo (gn gy g : Nat) (lb : Array Value) (eg : ∀ (args : Array Value) (w : World), (callFunc g args).run Try.prog w = .ok (.enter g args) w) (F : Int → Int) (y to : Int) (w : World) (hc : w.cell? ⟨gn, 0, none⟩ = some (.func (.func g) #[] lb)) (hcy : w.cell? ⟨gy, 0, none⟩ = some (.int .i64 to)) (hf : NextAt Try.prog g lb F w) (y1 : -100000 ≤ y) (y2 : y ≤ 100000) :
    Calls Try.prog 43 #[.int .i64 y, .pointer (some ⟨gn, 0, none⟩), .pointer (some ⟨gy, 0, none⟩)] w fun e w' => e = .returned (.bool (F y == to)) ∧ Below w.heap.size w w' := by
  have Hf := hid hf
  have hS := And.intro hc hcy
  have HS := hid hS
  clear hf
  go_enter Try.func43, Try.ntmps43
  go_wp2_with fail
  go_region_held3 (fun W => W.cell? ⟨gn, 0, none⟩ = some (.func (.func g) #[] lb) ∧ W.cell? ⟨gy, 0, none⟩ = some (.int .i64 to)) (first | exact hS | assumption | go_keep) (first | (go_at_fn g; refine (Hf.out _ y (Below.refl _ _).drew y1 y2).mono ?_; rintro e w1 ⟨rfl, hb⟩; have hB := (Below.refl _ w).drew.trans (hb.mono (Nat.le_refl _)); have hS := And.intro (hB.cell1q HS.out.1) (hB.cell1q HS.out.2)))
  all_goals go_wp2
  all_goals go_ret
  all_goals exact ⟨ret_b rfl, hB⟩
theorem rests_holds {gn g : Nat} {lb : Array Value} (eg : ∀ (args : Array Value) (w : World), (callFunc g args).run Try.prog w = .ok (.enter g args) w) {F : Int → Int} {w : World} (hc : w.cell? ⟨gn, 0, none⟩ = some (.func (.func g) #[] lb)) (hf : NextAt Try.prog g lb F w) :
    HoldsAt Try.prog 41 #[.pointer (some ⟨gn, 0, none⟩)] (fun y => F y == y) w := fun W y hb y1 y2 => rests_clo gn g lb eg F y W (hb.cell1q hc) (hf.later hb) y1 y2
theorem before_holds {gn gy g : Nat} {lb : Array Value} (eg : ∀ (args : Array Value) (w : World), (callFunc g args).run Try.prog w = .ok (.enter g args) w) {F : Int → Int} {to : Int} {w : World} (hc : w.cell? ⟨gn, 0, none⟩ = some (.func (.func g) #[] lb)) (hcy : w.cell? ⟨gy, 0, none⟩ = some (.int .i64 to)) (hf : NextAt Try.prog g lb F w) :
    HoldsAt Try.prog 43 #[.pointer (some ⟨gn, 0, none⟩), .pointer (some ⟨gy, 0, none⟩)] (fun y => F y == to) w := fun W y hb y1 y2 => before_clo gn gy g lb eg F y to W (hb.cell1q hc) (hb.cell1q hcy) (hf.later hb) y1 y2
def rsL (a k mode b : Int) (wd : Bool) (x : Int) : List Int := onB (reB a k mode b x) (whU (-(2 : Int) ^ (b.toNat - 1)) (fun y => stepI a k.toNat mode b.toNat wd x y == y) (2 ^ b.toNat)) []
def nbL (a k mode b : Int) (wd : Bool) (to x : Int) : List Int := onB (nbB a k mode b to x) (whU (-(2 : Int) ^ (b.toNat - 1)) (fun y => stepI a k.toNat mode b.toNat wd x y == to) (2 ^ b.toNat)) []
theorem reB_n {a k mode b x : Int} (h : reB a k mode b x = true) : ∃ kk n : Nat, k = kk ∧ b = n ∧ FoOk a kk mode n ∧ n ≤ 10 ∧ -100000 ≤ x ∧ x ≤ 100000 := by
  unfold reB at h
  rw [Bool.and_eq_true] at h
  obtain ⟨kk, n, rfl, rfl, ho, _, hx⟩ := asB_n h.1
  exact ⟨kk, n, rfl, rfl, ho, by have := of_decide_eq_true h.2; omega, hx⟩
theorem wh_short (lo : Int) (F : Int → Bool) (n : Nat) (h : n ≤ 10) : (whU lo F (2 ^ n)).length ≤ 2000000 := by
  have h1 := whU_len lo F (2 ^ n)
  have h2 : (2 : Nat) ^ n ≤ 2 ^ 10 := Nat.pow_le_pow_right (by decide) h
  omega
theorem rsL_len (a k mode b : Int) (wd : Bool) (x : Int) : (rsL a k mode b wd x).length ≤ 2000000 := by
  unfold rsL
  cases h : reB a k mode b x
  · simp [onB]
  · obtain ⟨kk, n, rfl, rfl, _, hn, _⟩ := reB_n h
    exact wh_short _ _ n hn
theorem nbL_len (a k mode b : Int) (wd : Bool) (to x : Int) : (nbL a k mode b wd to x).length ≤ 2000000 := by
  unfold nbL
  cases h : nbB a k mode b to x
  · simp [onB]
  · rw [nbB_re, Bool.and_eq_true] at h
    obtain ⟨kk, n, rfl, rfl, _, hn, _⟩ := reB_n h.1
    exact wh_short _ _ n hn


set_option maxHeartbeats 2000000 in
theorem spec_RestsOf_is (a k mode b : Int) (wd : Bool) (x : Int) (w : World) :
    Calls Try.prog 19 #[.agg #[.int .i64 a, .int .i64 k, .int .i64 mode, .int .i64 b, .bool wd], .int .i64 x] w (Gives w (rsL a k mode b wd x) (reB a k mode b x)) := by
  cases hq : reB a k mode b x
  · have HR := hid (show rsL a k mode b wd x = [] from by unfold rsL; rw [hq]; rfl)
    have HB := hid hq
    clear hq
    go_enter Try.func19, Try.ntmps19
    go_wp2_with fail
    refine (foScan_q _ _ _ _ _ _ false _ HB.out).mono ?_
    rintro e w1 ⟨rfl, hb⟩
    have B1 := hb
    obtain ⟨c0, c1, c2, c3, c4⟩ := box5_cells B1
    go_wp2_with fail
    go_ret2
    exact gives_of rfl HR.out ⟨_, rfl, .inl ⟨rfl, rfl⟩, bel_step (bel_alloc _ _) B1⟩
  · obtain ⟨k, n, rfl, rfl, ho, _, x1, x2⟩ := reB_n hq
    have HR := hid (show rsL a k mode n wd x = whU (-(2 : Int) ^ (n - 1)) (fun y => stepI a k mode n wd x y == y) (2 ^ n) from by unfold rsL; rw [hq]; rfl)
    have HQ := hid hq
    have HO := hid ho
    clear hq ho
    go_enter Try.func19, Try.ntmps19
    go_wp2_with fail
    refine (foScan_q _ _ _ _ _ _ true _ HQ.out).mono ?_
    rintro e w1 ⟨rfl, hb⟩
    have B1 := hb
    obtain ⟨c0, c1, c2, c3, c4⟩ := box5_cells B1
    go_wp2_with fail
    refine (foBefore_rest a k mode n wd x _ HO.out x1 x2).mono ?_
    rintro e w2 ⟨u, rfl, hr, hb⟩
    have B2 := bel_step B1 hb
    have Hr := hid hr
    clear hr hb
    go_wp2_with fail
    go_ret2
    exact gives_of rfl HR.out ⟨_, rfl, Hr.out.mono (bel_step (bel_alloc _ _) B1).size, bel_step (bel_alloc _ _) B2⟩


set_option maxHeartbeats 2000000 in
theorem impl_RestsOf_is (a k mode b : Int) (wd : Bool) (x : Int) (w : World) :
    Calls Try.prog 20 #[.agg #[.int .i64 a, .int .i64 k, .int .i64 mode, .int .i64 b, .bool wd], .int .i64 x] w (Gives w (rsL a k mode b wd x) (reB a k mode b x)) := by
  cases hq : reB a k mode b x
  · rw [reB_cs] at hq
    have HR := hid (show rsL a k mode b wd x = [] from by unfold rsL; rw [reB_cs, hq]; rfl)
    have HB := hid (show reB a k mode b x = false from by rw [reB_cs]; exact hq)
    cases hc : csB a k mode b
    · have HC := hid hc
      clear hq hc
      go_enter Try.func20, Try.ntmps20
      go_wp2_with fail
      refine (canScan_q _ _ _ _ _ false _ HC.out).mono ?_
      rintro e w1 ⟨rfl, hb⟩
      have B1 := hb
      obtain ⟨c0, c1, c2, c3, c4⟩ := box5_cells B1
      go_wp2_with fail
      go_ret2
      exact gives_of rfl HR.out ⟨_, rfl, .inl ⟨rfl, rfl⟩, bel_step (bel_alloc _ _) B1⟩
    · rw [hc] at hq
      have HC := hid hc
      have HS := hid (show smB x = false from hq)
      clear hq hc
      go_enter Try.func20, Try.ntmps20
      go_wp2_with fail
      refine (canScan_q _ _ _ _ _ true _ HC.out).mono ?_
      rintro e w1 ⟨rfl, hb⟩
      have B1 := hb
      obtain ⟨c0, c1, c2, c3, c4⟩ := box5_cells B1
      go_wp2_with fail
      refine (isSample_q _ false _ HS.out).mono ?_
      rintro e w' ⟨rfl, rfl⟩
      go_wp2_with fail
      go_ret2
      exact gives_of rfl HR.out ⟨_, rfl, .inl ⟨rfl, rfl⟩, bel_step (bel_alloc _ _) B1⟩
  · have hq2 := hq
    rw [reB_cs, Bool.and_eq_true] at hq2
    obtain ⟨k, n, rfl, rfl, ho, _, x1, x2⟩ := reB_n hq
    have HR := hid (show rsL a k mode n wd x = whU (-(2 : Int) ^ (n - 1)) (fun y => stepI a k mode n wd x y == y) (2 ^ n) from by unfold rsL; rw [hq]; rfl)
    have HQ := hid hq2
    have HO := hid ho
    have n1 := ho.2.2.2.1
    have n2 := ho.2.2.2.2
    clear hq hq2 ho
    go_enter Try.func20, Try.ntmps20
    go_wp2_with fail
    refine (canScan_q _ _ _ _ _ true _ HQ.out.1).mono ?_
    rintro e w1 ⟨rfl, hb⟩
    have B1 := hb
    obtain ⟨c0, c1, c2, c3, c4⟩ := box5_cells B1
    go_wp2_with fail
    refine (isSample_q _ true _ HQ.out.2).mono ?_
    rintro e w' ⟨rfl, rfl⟩
    go_wp2_with fail
    refine (stepWith_any a k mode n wd x _ HO.out x1 x2).mono ?_
    rintro e w3 ⟨⟨lb, rfl, hn3⟩, hb⟩
    have B3 := bel_step B1 hb
    have Hn3 := hid hn3
    have hmf := mkFunc
    have hgz : w.heap.size < w3.heap.size := by have := B3.size; simp at this; omega
    obtain ⟨d0, d1, d2, d3, d4⟩ := box5_cells B3
    clear hn3 hb c0 c1 c2 c3 c4
    go_wp2_with fail
    have B4 := bel_step B3 (bel_alloc w3 (.cells #[.func (.func 54) #[] lb] 56))
    have hh := rests_holds enterT1 (box1_cell (Below.refl (w3.alloc (.cells #[.func (.func 54) #[] lb] 56)).heap.size (w3.alloc (.cells #[.func (.func 54) #[] lb] 56)))) (Hn3.out.later (bel_alloc _ _))
    refine (numbersWhere_any n wd _ _ enterR1 _ _ hh n1 n2).mono ?_
    rintro e w5 ⟨u, rfl, hr, hb⟩
    have B5 := bel_step B4 hb
    have Hr := hid hr
    clear hr hb hh
    go_wp2_with fail
    go_ret2
    exact gives_of rfl HR.out ⟨_, rfl, Hr.out.mono (bel_step (bel_alloc _ _) B4).size, bel_step (bel_alloc _ _) B5⟩


set_option maxHeartbeats 1600000 in
theorem gen_FnExactRestsOf (a k mode b : Int) (wr : Bool) (x : Int)  (ys : List Int) (ok : Bool) (w : World)  (hy : ys.length ≤ 2000000) (hspec : ∀ (w : World) , Calls Try.prog 19 #[.agg #[.int .i64 a, .int .i64 k, .int .i64 mode, .int .i64 b, .bool wr], .int .i64 x] w (Gives w ys ok)) (himpl : ∀ (w : World) , Calls Try.prog 20 #[.agg #[.int .i64 a, .int .i64 k, .int .i64 mode, .int .i64 b, .bool wr], .int .i64 x] w (Gives w ys ok)) :
    Calls Try.prog 6 #[.agg #[.int .i64 a, .int .i64 k, .int .i64 mode, .int .i64 b, .bool wr], .int .i64 x] w fun e w' => e = .returned (.bool true) ∧ Below w.heap.size w w' := by
  have HSP := hid hspec
  have HIM := hid himpl
  clear hspec himpl
  all_goals cases ok
  all_goals
    go_enter Try.func6, Try.ntmps6
    go_wp2_with fail
    refine (toFirst_any _ _ _ _ _ _).mono ?_
    rintro e w1 ⟨rfl, hb⟩
    have B1 := hb
    have hz1 : w.heap.size ≤ w1.heap.size := by first | exact hb.size | (have := hb.size; simp at this; omega)
    obtain ⟨ca1, cb1, cc1, cd1, ce1⟩ := box5_cells B1
    go_wp2_with fail
    refine (HSP.out _).mono ?_
    rintro e w2 ⟨v_R0, rfl, R0, hb⟩
    have B2 := bel_step B1 hb
    have hz2 : w1.heap.size ≤ w2.heap.size := hb.size
    obtain ⟨ca2, cb2, cc2, cd2, ce2⟩ := box5_cells B2
    have hlt0 : ∀ g, v_R0.ownBlock = some g → g < w2.heap.size := fun g hg => R0.lt hg
    have Hlt0 := hid hlt0
    clear hlt0
    go_wp2_with fail
    refine (toFirst_any _ _ _ _ _ _).mono ?_
    rintro e w3 ⟨rfl, hb⟩
    have B3 := bel_step B2 hb
    have hz3 : w2.heap.size ≤ w3.heap.size := hb.size
    have R0_3 := R0.kept hb
    obtain ⟨ca3, cb3, cc3, cd3, ce3⟩ := box5_cells B3
    go_wp2_with fail
    refine (HIM.out _).mono ?_
    rintro e w4 ⟨v_R1, rfl, R1, hb⟩
    have B4 := bel_step B3 hb
    have hz4 : w3.heap.size ≤ w4.heap.size := hb.size
    have R0_4 := R0_3.kept hb
    obtain ⟨ca4, cb4, cc4, cd4, ce4⟩ := box5_cells B4
    have hne01 : ∀ g, v_R0.ownBlock = some g → v_R1.ownBlock ≠ some g := fun g hg e => by have a1 := R1.ge e; have a2 := Hlt0.out g hg; omega
    have Hne01 := hid hne01
    clear hne01
    have hge1 : ∀ g, v_R1.ownBlock = some g → w3.heap.size ≤ g := fun g hg => R1.ge hg
    have Hge1 := hid hge1
    clear hge1
    go_wp2_with fail
    refine (eqIntS_same _ _ ys _ R1.sl R0_4.sl hy).mono ?_
    rintro e w5 ⟨rfl, hb⟩
    have B5 := bel_step B4 hb
    have hz5 : w4.heap.size ≤ w5.heap.size := hb.size
    have R0_5 := R0_4.kept hb
    have R1_5 := R1.kept hb
    obtain ⟨ca5, cb5, cc5, cd5, ce5⟩ := box5_cells B5
    go_wp2_with fail
    refine (markIntS_one _ ys _ _ R1_5 hy).mono ?_
    rintro e w6 ⟨rfl, ho, M⟩
    have B6 := B5.trans (ho.below fun g hg => Nat.le_trans B3.size (Hge1.out g hg))
    have hz6 : w5.heap.size ≤ w6.heap.size := Nat.le_of_eq ho.size.symm
    have R0_6 := R0_5.only ho Hne01.out
    obtain ⟨ca6, cb6, cc6, cd6, ce6⟩ := box5_cells B6
    go_wp2_with fail
    refine (heldIntS_one _ ys.length _ _ M hy).mono ?_
    rintro e w' ⟨rfl, rfl⟩
    go_wp2_with fail
    refine (toFirst_any _ _ _ _ _ _).mono ?_
    rintro e w7 ⟨rfl, hb⟩
    have B7 := bel_step B6 hb
    have hz7 : w6.heap.size ≤ w7.heap.size := hb.size
    have R0_7 := R0_6.kept hb
    have M_7 := M.kept hb
    obtain ⟨ca7, cb7, cc7, cd7, ce7⟩ := box5_cells B7
    go_wp2_with fail
    refine (HIM.out _).mono ?_
    rintro e w8 ⟨v_R2, rfl, R2, hb⟩
    have B8 := bel_step B7 hb
    have hz8 : w7.heap.size ≤ w8.heap.size := hb.size
    have R0_8 := R0_7.kept hb
    have M_8 := M_7.kept hb
    obtain ⟨ca8, cb8, cc8, cd8, ce8⟩ := box5_cells B8
    go_wp2_with fail
    refine (eqIntS_same _ _ ys _ R2.sl R0_8.sl hy).mono ?_
    rintro e w9 ⟨rfl, hb⟩
    have B9 := bel_step B8 hb
    have hz9 : w8.heap.size ≤ w9.heap.size := hb.size
    have R0_9 := R0_8.kept hb
    have M_9 := M_8.kept hb
    have R2_9 := R2.kept hb
    obtain ⟨ca9, cb9, cc9, cd9, ce9⟩ := box5_cells B9
    go_wp2_with fail
    refine (heldIntS_one _ ys.length _ _ M_9 hy).mono ?_
    rintro e w' ⟨rfl, rfl⟩
    go_wp2_with fail
    go_ret
    exact ⟨rfl, bel_step (bel_alloc _ _) B9⟩


set_option maxHeartbeats 1600000 in
theorem walk_FnExactRestsOf (w : World) (a k mode b : Int) (wr : Bool) (wa : (Lit.int .i64 a).wf = true) (wk : (Lit.int .i64 k).wf = true) (wm : (Lit.int .i64 mode).wf = true) (wb : (Lit.int .i64 b).wf = true) (x : Int) (w_x : (Lit.int .i64 x).wf = true) :
    Calls Try.prog 6 #[.agg #[.int .i64 a, .int .i64 k, .int .i64 mode, .int .i64 b, .bool wr], .int .i64 x] w fun e w' => e = .returned (.bool true) ∧ Below w.heap.size w w' := by
  obtain ⟨x_1, x_2⟩ := bounds_i64 w_x
  exact gen_FnExactRestsOf a k mode b wr x (rsL a k mode b wr x) (reB a k mode b x) w (rsL_len _ _ _ _ _ _) (fun w  => spec_RestsOf_is _ _ _ _ _ _ _) (fun w  => impl_RestsOf_is _ _ _ _ _ _ _)


set_option maxHeartbeats 2000000 in
theorem spec_NumbersBefore_is (a k mode b : Int) (wd : Bool) (y x : Int) (w : World) :
    Calls Try.prog 21 #[.agg #[.int .i64 a, .int .i64 k, .int .i64 mode, .int .i64 b, .bool wd], .int .i64 y, .int .i64 x] w (Gives w (nbL a k mode b wd y x) (nbB a k mode b y x)) := by
  cases hq : nbB a k mode b y x
  · have HR := hid (show nbL a k mode b wd y x = [] from by unfold nbL; rw [hq]; rfl)
    have HB := hid (show nbB a k mode b y x = false from hq)
    rw [nbB_re] at hq
    cases hc : reB a k mode b x
    · have HC := hid hc
      clear hq hc
      go_enter Try.func21, Try.ntmps21
      go_wp2_with fail
      refine (foScan_q _ _ _ _ _ _ false _ HC.out).mono ?_
      rintro e w1 ⟨rfl, hb⟩
      have B1 := hb
      obtain ⟨c0, c1, c2, c3, c4⟩ := box5_cells B1
      go_wp2_with fail
      go_ret2
      exact gives_of rfl HR.out ⟨_, rfl, .inl ⟨rfl, rfl⟩, bel_step (bel_alloc _ _) B1⟩
    · rw [hc] at hq
      have HC := hid hc
      have HW := hid (show inW b y = false from hq)
      have hwb : wordB b = true := by
        unfold reB asB at hc
        simp only [Bool.and_eq_true] at hc
        exact foB_w hc.1.1
      have HWB := hid hwb
      clear hq hc hwb
      go_enter Try.func21, Try.ntmps21
      go_wp2_with fail
      refine (foScan_q _ _ _ _ _ _ true _ HC.out).mono ?_
      rintro e w1 ⟨rfl, hb⟩
      have B1 := hb
      obtain ⟨c0, c1, c2, c3, c4⟩ := box5_cells B1
      go_wp2_with fail
      refine (wdIn_q _ _ _ false _ HWB.out HW.out).mono ?_
      rintro e w2 ⟨rfl, hb⟩
      have B2 := bel_step B1 hb
      go_wp2_with fail
      go_ret2
      exact gives_of rfl HR.out ⟨_, rfl, .inl ⟨rfl, rfl⟩, bel_step (bel_alloc _ _) B2⟩
  · have hq2 := hq
    rw [nbB_re, Bool.and_eq_true] at hq2
    obtain ⟨k, n, rfl, rfl, ho, _, x1, x2⟩ := reB_n hq2.1
    have HR := hid (show nbL a k mode n wd y x = whU (-(2 : Int) ^ (n - 1)) (fun z => stepI a k mode n wd x z == y) (2 ^ n) from by unfold nbL; rw [hq]; rfl)
    have HQ := hid hq2
    have HO := hid ho
    have HWB := hid (show wordB (n : Int) = true from decide_eq_true (by have := ho.2.2.2; omega))
    clear hq hq2 ho
    go_enter Try.func21, Try.ntmps21
    go_wp2_with fail
    refine (foScan_q _ _ _ _ _ _ true _ HQ.out.1).mono ?_
    rintro e w1 ⟨rfl, hb⟩
    have B1 := hb
    obtain ⟨c0, c1, c2, c3, c4⟩ := box5_cells B1
    go_wp2_with fail
    refine (wdIn_q _ _ _ true _ HWB.out HQ.out.2).mono ?_
    rintro e w2 ⟨rfl, hb⟩
    have B2 := bel_step B1 hb
    obtain ⟨d0, d1, d2, d3, d4⟩ := box5_cells B2
    go_wp2_with fail
    refine (foBefore_to a k mode n wd x y _ HO.out x1 x2).mono ?_
    rintro e w3 ⟨u, rfl, hr, hb⟩
    have B3 := bel_step B2 hb
    have Hr := hid hr
    clear hr hb
    go_wp2_with fail
    go_ret2
    exact gives_of rfl HR.out ⟨_, rfl, Hr.out.mono (bel_step (bel_alloc _ _) B2).size, bel_step (bel_alloc _ _) B3⟩


theorem box1b_cell {w w' : World} {u : Value} {t : TypeId} {o : Obj} (hb : Below ((w.alloc o).alloc (.cells #[u] t)).heap.size ((w.alloc o).alloc (.cells #[u] t)) w') : w'.cell? ⟨w.heap.size + 1, 0, none⟩ = some u := by
  have h := box1_cell hb
  rwa [show (w.alloc o).heap.size = w.heap.size + 1 from by simp] at h


set_option maxHeartbeats 2000000 in
theorem impl_NumbersBefore_is (a k mode b : Int) (wd : Bool) (y x : Int) (w : World) (y1 : -9223372036854775808 ≤ y) (y2 : y ≤ 9223372036854775807) :
    Calls Try.prog 22 #[.agg #[.int .i64 a, .int .i64 k, .int .i64 mode, .int .i64 b, .bool wd], .int .i64 y, .int .i64 x] w (Gives w (nbL a k mode b wd y x) (nbB a k mode b y x)) := by
  cases hq : nbB a k mode b y x
  · have HR := hid (show nbL a k mode b wd y x = [] from by unfold nbL; rw [hq]; rfl)
    have HB := hid (show nbB a k mode b y x = false from hq)
    unfold nbB at hq
    cases hc : csB a k mode b
    · have HC := hid hc
      clear hq hc
      go_enter Try.func22, Try.ntmps22
      go_wp2_with fail
      refine (canScan_q _ _ _ _ _ false _ HC.out).mono ?_
      rintro e w1 ⟨rfl, hb⟩
      have hb0 := hb
      have B1 := bel_step (bel_alloc _ _) hb0
      obtain ⟨c0, c1, c2, c3, c4⟩ := box5_cells B1
      have cy := box1b_cell hb0
      go_wp2_with fail
      go_ret2
      exact gives_of rfl HR.out ⟨_, rfl, .inl ⟨rfl, rfl⟩, bel_step (bel_alloc _ _) B1⟩
    · rw [hc] at hq
      have HC := hid hc
      have HA := hid (show asB a k mode b y x = false from hq)
      clear hq hc
      go_enter Try.func22, Try.ntmps22
      go_wp2_with fail
      refine (canScan_q _ _ _ _ _ true _ HC.out).mono ?_
      rintro e w1 ⟨rfl, hb⟩
      have hb0 := hb
      have B1 := bel_step (bel_alloc _ _) hb0
      obtain ⟨c0, c1, c2, c3, c4⟩ := box5_cells B1
      have cy := box1b_cell hb0
      go_wp2_with fail
      refine (canStep_q _ _ _ _ _ _ _ false _ y1 y2 HA.out).mono ?_
      rintro e w2 ⟨rfl, hb⟩
      have B2 := bel_step B1 hb
      go_wp2_with fail
      go_ret2
      exact gives_of rfl HR.out ⟨_, rfl, .inl ⟨rfl, rfl⟩, bel_step (bel_alloc _ _) B2⟩
  · have hq2 := hq
    have hq3 := hq
    rw [nbB_re, Bool.and_eq_true] at hq2
    unfold nbB at hq3
    rw [Bool.and_eq_true] at hq3
    obtain ⟨k, n, rfl, rfl, ho, _, x1, x2⟩ := reB_n hq2.1
    have HR := hid (show nbL a k mode n wd y x = whU (-(2 : Int) ^ (n - 1)) (fun z => stepI a k mode n wd x z == y) (2 ^ n) from by unfold nbL; rw [hq]; rfl)
    have HQ := hid hq3
    have HO := hid ho
    have n1 := ho.2.2.2.1
    have n2 := ho.2.2.2.2
    clear hq hq2 hq3 ho
    go_enter Try.func22, Try.ntmps22
    go_wp2_with fail
    refine (canScan_q _ _ _ _ _ true _ HQ.out.1).mono ?_
    rintro e w1 ⟨rfl, hb⟩
    have hb0 := hb
    have B1 := bel_step (bel_alloc _ _) hb0
    obtain ⟨c0, c1, c2, c3, c4⟩ := box5_cells B1
    have cy := box1b_cell hb0
    go_wp2_with fail
    refine (canStep_q _ _ _ _ _ _ _ true _ y1 y2 HQ.out.2).mono ?_
    rintro e w2 ⟨rfl, hb⟩
    have B2 := bel_step B1 hb
    have cy2 := hb.cell1q cy
    obtain ⟨e0, e1, e2, e3, e4⟩ := box5_cells B2
    go_wp2_with fail
    refine (stepWith_any a k mode n wd x _ HO.out x1 x2).mono ?_
    rintro e w3 ⟨⟨lb, rfl, hn3⟩, hb⟩
    have B3 := bel_step B2 hb
    have Hn3 := hid hn3
    have hmf := mkFunc
    have hgz : w.heap.size < w3.heap.size := by have := B3.size; simp at this; omega
    have cy3 := hb.cell1q cy2
    obtain ⟨d0, d1, d2, d3, d4⟩ := box5_cells B3
    clear hn3 hb c0 c1 c2 c3 c4 e0 e1 e2 e3 e4 cy cy2 hb0
    go_wp2_with fail
    have B4 := bel_step B3 (bel_alloc w3 (.cells #[.func (.func 54) #[] lb] 56))
    have hh := before_holds (to := y) enterT1 (box1_cell (Below.refl (w3.alloc (.cells #[.func (.func 54) #[] lb] 56)).heap.size (w3.alloc (.cells #[.func (.func 54) #[] lb] 56)))) ((bel_alloc w3 (.cells #[.func (.func 54) #[] lb] 56)).cell1q cy3) (Hn3.out.later (bel_alloc _ _))
    refine (numbersWhere_any n wd _ _ enterB1 _ _ hh n1 n2).mono ?_
    rintro e w5 ⟨u, rfl, hr, hb⟩
    have B5 := bel_step B4 hb
    have Hr := hid hr
    clear hr hb hh
    go_wp2_with fail
    go_ret2
    exact gives_of rfl HR.out ⟨_, rfl, Hr.out.mono (bel_step (bel_alloc _ _) B4).size, bel_step (bel_alloc _ _) B5⟩


set_option maxHeartbeats 1600000 in
theorem gen_FnExactNumbersBefore (a k mode b : Int) (wr : Bool) (y : Int) (x : Int)  (ys : List Int) (ok : Bool) (w : World)  (hy : ys.length ≤ 2000000) (hspec : ∀ (w : World) , Calls Try.prog 21 #[.agg #[.int .i64 a, .int .i64 k, .int .i64 mode, .int .i64 b, .bool wr], .int .i64 y, .int .i64 x] w (Gives w ys ok)) (himpl : ∀ (w : World) , Calls Try.prog 22 #[.agg #[.int .i64 a, .int .i64 k, .int .i64 mode, .int .i64 b, .bool wr], .int .i64 y, .int .i64 x] w (Gives w ys ok)) :
    Calls Try.prog 7 #[.agg #[.int .i64 a, .int .i64 k, .int .i64 mode, .int .i64 b, .bool wr], .int .i64 y, .int .i64 x] w fun e w' => e = .returned (.bool true) ∧ Below w.heap.size w w' := by
  have HSP := hid hspec
  have HIM := hid himpl
  clear hspec himpl
  all_goals cases ok
  all_goals
    go_enter Try.func7, Try.ntmps7
    go_wp2_with fail
    refine (toFirst_any _ _ _ _ _ _).mono ?_
    rintro e w1 ⟨rfl, hb⟩
    have B1 := hb
    have hz1 : w.heap.size ≤ w1.heap.size := by first | exact hb.size | (have := hb.size; simp at this; omega)
    obtain ⟨ca1, cb1, cc1, cd1, ce1⟩ := box5_cells B1
    go_wp2_with fail
    refine (HSP.out _).mono ?_
    rintro e w2 ⟨v_R0, rfl, R0, hb⟩
    have B2 := bel_step B1 hb
    have hz2 : w1.heap.size ≤ w2.heap.size := hb.size
    obtain ⟨ca2, cb2, cc2, cd2, ce2⟩ := box5_cells B2
    have hlt0 : ∀ g, v_R0.ownBlock = some g → g < w2.heap.size := fun g hg => R0.lt hg
    have Hlt0 := hid hlt0
    clear hlt0
    go_wp2_with fail
    refine (toFirst_any _ _ _ _ _ _).mono ?_
    rintro e w3 ⟨rfl, hb⟩
    have B3 := bel_step B2 hb
    have hz3 : w2.heap.size ≤ w3.heap.size := hb.size
    have R0_3 := R0.kept hb
    obtain ⟨ca3, cb3, cc3, cd3, ce3⟩ := box5_cells B3
    go_wp2_with fail
    refine (HIM.out _).mono ?_
    rintro e w4 ⟨v_R1, rfl, R1, hb⟩
    have B4 := bel_step B3 hb
    have hz4 : w3.heap.size ≤ w4.heap.size := hb.size
    have R0_4 := R0_3.kept hb
    obtain ⟨ca4, cb4, cc4, cd4, ce4⟩ := box5_cells B4
    have hne01 : ∀ g, v_R0.ownBlock = some g → v_R1.ownBlock ≠ some g := fun g hg e => by have a1 := R1.ge e; have a2 := Hlt0.out g hg; omega
    have Hne01 := hid hne01
    clear hne01
    have hge1 : ∀ g, v_R1.ownBlock = some g → w3.heap.size ≤ g := fun g hg => R1.ge hg
    have Hge1 := hid hge1
    clear hge1
    go_wp2_with fail
    refine (eqIntS_same _ _ ys _ R1.sl R0_4.sl hy).mono ?_
    rintro e w5 ⟨rfl, hb⟩
    have B5 := bel_step B4 hb
    have hz5 : w4.heap.size ≤ w5.heap.size := hb.size
    have R0_5 := R0_4.kept hb
    have R1_5 := R1.kept hb
    obtain ⟨ca5, cb5, cc5, cd5, ce5⟩ := box5_cells B5
    go_wp2_with fail
    refine (markIntS_one _ ys _ _ R1_5 hy).mono ?_
    rintro e w6 ⟨rfl, ho, M⟩
    have B6 := B5.trans (ho.below fun g hg => Nat.le_trans B3.size (Hge1.out g hg))
    have hz6 : w5.heap.size ≤ w6.heap.size := Nat.le_of_eq ho.size.symm
    have R0_6 := R0_5.only ho Hne01.out
    obtain ⟨ca6, cb6, cc6, cd6, ce6⟩ := box5_cells B6
    go_wp2_with fail
    refine (heldIntS_one _ ys.length _ _ M hy).mono ?_
    rintro e w' ⟨rfl, rfl⟩
    go_wp2_with fail
    refine (toFirst_any _ _ _ _ _ _).mono ?_
    rintro e w7 ⟨rfl, hb⟩
    have B7 := bel_step B6 hb
    have hz7 : w6.heap.size ≤ w7.heap.size := hb.size
    have R0_7 := R0_6.kept hb
    have M_7 := M.kept hb
    obtain ⟨ca7, cb7, cc7, cd7, ce7⟩ := box5_cells B7
    go_wp2_with fail
    refine (HIM.out _).mono ?_
    rintro e w8 ⟨v_R2, rfl, R2, hb⟩
    have B8 := bel_step B7 hb
    have hz8 : w7.heap.size ≤ w8.heap.size := hb.size
    have R0_8 := R0_7.kept hb
    have M_8 := M_7.kept hb
    obtain ⟨ca8, cb8, cc8, cd8, ce8⟩ := box5_cells B8
    go_wp2_with fail
    refine (eqIntS_same _ _ ys _ R2.sl R0_8.sl hy).mono ?_
    rintro e w9 ⟨rfl, hb⟩
    have B9 := bel_step B8 hb
    have hz9 : w8.heap.size ≤ w9.heap.size := hb.size
    have R0_9 := R0_8.kept hb
    have M_9 := M_8.kept hb
    have R2_9 := R2.kept hb
    obtain ⟨ca9, cb9, cc9, cd9, ce9⟩ := box5_cells B9
    go_wp2_with fail
    refine (heldIntS_one _ ys.length _ _ M_9 hy).mono ?_
    rintro e w' ⟨rfl, rfl⟩
    go_wp2_with fail
    go_ret
    exact ⟨rfl, bel_step (bel_alloc _ _) B9⟩


set_option maxHeartbeats 1600000 in
theorem walk_FnExactNumbersBefore (w : World) (a k mode b : Int) (wr : Bool) (wa : (Lit.int .i64 a).wf = true) (wk : (Lit.int .i64 k).wf = true) (wm : (Lit.int .i64 mode).wf = true) (wb : (Lit.int .i64 b).wf = true) (y : Int) (w_y : (Lit.int .i64 y).wf = true) (x : Int) (w_x : (Lit.int .i64 x).wf = true) :
    Calls Try.prog 7 #[.agg #[.int .i64 a, .int .i64 k, .int .i64 mode, .int .i64 b, .bool wr], .int .i64 y, .int .i64 x] w fun e w' => e = .returned (.bool true) ∧ Below w.heap.size w w' := by
  obtain ⟨y_1, y_2⟩ := bounds_i64 w_y
  obtain ⟨x_1, x_2⟩ := bounds_i64 w_x
  exact gen_FnExactNumbersBefore a k mode b wr y x (nbL a k mode b wr y x) (nbB a k mode b y x) w (nbL_len _ _ _ _ _ _ _) (fun w  => spec_NumbersBefore_is _ _ _ _ _ _ _ _) (fun w  => impl_NumbersBefore_is _ _ _ _ _ _ _ _ y_1 y_2)

end Go.Proofs.Ytpikdmoghjakfaa
