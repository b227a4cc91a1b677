
import Derived.Test.YtichkianildkgaaGreatEk
import Derived.Test.YtichkianildkgaaGreatAb
import Derived.Deep.QuietTactic
import Derived.BigQuiet
namespace Go.Proofs.YtichkianildkgaaGreat
open Go.RowKit BitX Go.MemX Go.Ch6
set_option linter.unusedVariables false

theorem sumL_boundc (xs : List Int) (h : InP (-100000) 100000 xs) : -(xs.length * 100000 : Int) ≤ sumL xs ∧ sumL xs ≤ xs.length * 100000 := by
  induction xs with
  | nil => simp [sumL]
  | cons x xs ih =>
    have a := h x (by simp)
    have b := ih fun y hy => h y (by simp [hy])
    simp only [sumL, List.length_cons]
    omega
theorem InP.takec {lo hi : Int} {xs : List Int} (h : InP lo hi xs) (k : Nat) : InP lo hi (xs.take k) := fun x hx => h x (List.mem_of_mem_take hx)
theorem InP.wide {lo hi lo2 hi2 : Int} {xs : List Int} (h : InP lo hi xs) (h1 : lo2 ≤ lo) (h2 : hi ≤ hi2) : InP lo2 hi2 xs := fun x hx => by have := h x hx; omega
/-- the sums of weights and of samples are small -/
theorem sumL_in {xs : List Int} {n : Nat} (h : InP (-100000) 100000 xs) (hl : xs.length ≤ n) (k : Nat) : -(n * 100000 : Int) ≤ sumL (xs.take k) ∧ sumL (xs.take k) ≤ n * 100000 := by
  have a := sumL_boundc (xs.take k) (h.takec k)
  have b : (xs.take k).length ≤ n := by simp; omega
  omega

namespace Dr
/-- the weights with the signs +, -, +, .. -/
def sgn (k : Nat) : Int := if k % 2 = 0 then 1 else -1
theorem sgn_succ (k : Nat) : sgn (k + 1) = - sgn k := by unfold sgn; split <;> split <;> omega
def altS (xs : List Int) : List Int := tab xs.length fun i => sgn i * at0 xs i
theorem altS_at {xs : List Int} {k : Nat} {x : Int} (h : xs[k]? = some x) : (altS xs)[k]? = some (sgn k * x) := by
  have hk : k < xs.length := (List.getElem?_eq_some_iff.1 h).1
  unfold altS; rw [tab_get _ _ _ hk, at0_of h]
theorem altS_len (xs : List Int) : (altS xs).length = xs.length := tab_len _ _
theorem sgn_in {k : Nat} {x B : Int} (h1 : -B ≤ x) (h2 : x ≤ B) : -B ≤ sgn k * x ∧ sgn k * x ≤ B := by
  unfold sgn; split <;> omega
theorem altS_in {xs : List Int} (h : InP (-1000) 1000 xs) : InP (-1000) 1000 (altS xs) := fun y hy => by
  obtain ⟨i, hi⟩ := List.getElem?_of_mem hy
  have hl := (List.getElem?_eq_some_iff.1 hi).1
  rw [altS_len] at hl
  obtain ⟨x, hx⟩ := get_lt xs i hl
  rw [altS_at hx] at hi
  have := h.at hx
  have e := Option.some.inj hi
  rw [← e]; exact sgn_in this.1 this.2


theorem sgn_even {k : Nat} (h : k % 2 = 0) : sgn k = 1 := by unfold sgn; rw [if_pos h]
theorem sgn_odd {k : Nat} (h : k % 2 = 1) : sgn k = -1 := by unfold sgn; rw [if_neg (by omega)]
theorem sgn_or (k : Nat) : sgn k = 1 ∨ sgn k = -1 := by unfold sgn; split <;> simp



set_option maxHeartbeats 400000 in
theorem gainAtHalf_any (v : Value) (xs : List Int) (w : World) (hs : Sl w v xs) (hl : xs.length ≤ 64) (hi0 : InP (-1000) 1000 xs) :
    Calls Tryz.prog 58 #[v] w fun e w' => e = .returned (.int .i64 (sumL (altS xs))) ∧ w = w' := by
  have hi := hi0
  obtain ⟨a, n, cap, rfl, hn, hrd⟩ := hs.rd
  have Hn := hid hn
  have Hrd := hid hrd
  have hl' : n ≤ 64 := by omega
  clear hn hrd 
  have hj : InP (-100000) 100000 (altS xs) := (altS_in hi).wide (by omega) (by omega)
  have hjl : (altS xs).length ≤ 64 := by rw [altS_len]; exact hl
  have Hi := hid hi
  have Hj := hid hj
  have Hjl := hid hjl
  clear hi hj hjl
  clear hl hs hi0
  go_enter Tryz.func58, Tryz.ntmps58
  go_wp2_with fail
  go_loop [3, 4, 9] (fun s0 s1 i => ∃ k : Nat, k ≤ n ∧ i = .int .i64 k ∧ s0 = .int .i64 (sumL ((altS xs).take k)) ∧ s1 = .int .i64 (sgn k))
    (fun _ _ i => n - (intOf i).toNat)
  case atStart => exact ⟨0, by omega, rfl, rfl, rfl⟩
  case round =>
    obtain ⟨k, hk, rfl, rfl, rfl⟩ := hrel
    by_cases hlk : k < n
    · obtain ⟨x, hkx⟩ := get_lt xs k (by rw [← Hn.out]; exact hlk)
      obtain ⟨bb, oo, hix, hbb, hce⟩ := Hrd.out.at (P := Tryz.prog) (T := 24) n cap uslice sone hkx hlk
      obtain ⟨x1, x2⟩ := Hi.out.at hkx
      have hst := sumL_step (altS xs) k _ (altS_at hkx)
      have hsb := sumL_in (n := 64) (Hj.out) (Hjl.out) k
      have hsb1 : -10000000 ≤ sumL ((altS xs).take k) := by omega
      have hsb2 : sumL ((altS xs).take k) ≤ 10000000 := by omega
      clear hsb
      have Hss := hid (sgn_succ k)
      have Hst := hid hst
      clear hst hkx
      generalize sumL ((altS xs).take k) = z at *
      rcases sgn_or k with hm | hm
      all_goals
        have Hsg := hid hm
        rw [hm]
        clear hm
      all_goals
        go_wp2
        go_round
        case rel => exact ⟨k + 1, by omega, by go_num, by rw [Hst.out, Hsg.out]; try go_num, by rw [Hss.out, Hsg.out]; try go_num⟩
        case measure => simp [intOf]; omega
    · have hge : (n : Int) ≤ (k : Int) := by omega
      have hkn : k = xs.length := by rw [← Hn.out]; omega
      have Hk := hid hkn
      clear hkn hlk
      go_wp2
      go_ret
      exact ⟨ret_i (by rw [Hk.out, ← altS_len xs, List.take_length]), rfl⟩



theorem ret_ii {i j k l : Int} (h1 : i = j) (h2 : k = l) : Ending.returned (.tuple #[.int .i64 i, .int .i64 k]) = .returned (.tuple #[.int .i64 j, .int .i64 l]) := by rw [h1, h2]

theorem i64_nat (q : Nat) (h : q ≤ 5000) : IntKind.i64.wrap (q : Int) = (q : Int) := IntWalk.i64_in _ (by omega)
theorem w64_nat (q : Nat) (h : q ≤ 5000) : wrap64 (q : Int) = (q : Int) := IntWalk.wrap64_in _ (by omega)
theorem tmod_nat (x y : Nat) : (x : Int).tmod (y : Int) = ((x % y : Nat) : Int) := by
  rw [Int.tmod_eq_emod_of_nonneg (by omega)]; rfl
theorem gcd_step (x y : Nat) : Nat.gcd y (x % y) = Nat.gcd x y := by
  rw [Nat.gcd_comm y, ← Nat.gcd_rec, Nat.gcd_comm]
set_option maxHeartbeats 1000000 in
theorem gcd_any (x y : Nat) (w : World) (hx : x ≤ 5000) (hy : y ≤ 5000) :
    Calls Tryz.prog 88 #[.int .i64 (x : Int), .int .i64 (y : Int)] w fun e w' => e = .returned (.int .i64 ((Nat.gcd x y : Nat) : Int)) ∧ Below w.heap.size w w' := by
  obtain ⟨G, hG⟩ : ∃ G, G = Nat.gcd x y := ⟨_, rfl⟩
  have HG := hid hG.symm
  rw [← hG]
  clear hG
  go_enter Tryz.func88, Tryz.ntmps88
  go_wp2_with fail
  go_loopw [0, 1] (fun aa bb wr => ∃ x' y' : Nat, aa = .int .i64 (x' : Int) ∧ bb = .int .i64 (y' : Int) ∧ Hid (Nat.gcd x' y' = G) ∧ x' ≤ 5000 ∧ y' ≤ 5000 ∧ Below w.heap.size w wr)
    (fun _ bb _ => (intOf bb).toNat)
  case atStart => exact ⟨x, y, rfl, rfl, HG, hx, hy, Below.refl _ _⟩
  case round =>
    clear HG hx hy
    obtain ⟨x, y, rfl, rfl, HG, hx, hy, hb⟩ := hrel
    by_cases h0 : y = 0
    · subst h0
      have hg : x = G := by rw [← HG.out, Nat.gcd_zero_right]
      have Hg := hid hg
      clear HG hg
      go_wp2
      go_ret
      exact ⟨ret_i (by rw [Hg.out]), hb⟩
    · have hy1 : (1 : Int) ≤ (y : Int) := by omega
      have hst := gcd_step x y
      rw [HG.out] at hst
      have hm := tmod_nat x y
      have hlt : x % y < y := Nat.mod_lt _ (by omega)
      generalize x % y = z at *
      have Hst := hid hst
      have e1 : IntKind.i64.wrap ((x : Int).tmod (y : Int)) = (z : Int) := by rw [hm]; exact IntWalk.i64_in _ (by omega)
      have e2 : IntKind.i64.wrap (z : Int) = (z : Int) := IntWalk.i64_in _ (by omega)
      have hy0 : (y : Int) ≠ 0 := by omega
      have hyb : ((y : Int) == 0) = false := by rw [beq_eq_false_iff_ne]; exact hy0
      clear hst h0
      go_wp2_with fail
      go_quiet (fail)
      go_wp2
      go_roundw
      case rel => exact ⟨y, z, rfl, rfl, Hst, by omega, by omega, below_drewN hb _⟩
      case measure => simp [intOf]; omega



set_option maxHeartbeats 2000000 in
theorem lowest_zp (N D : Nat) (w : World) (h2 : N ≤ 5000) (d1 : 1 ≤ D) (d2 : D ≤ 5000) :
    Calls Tryz.prog 57 #[.int .i64 (N : Int), .int .i64 ((D : Int))] w fun e w' => e = .returned (.tuple #[.int .i64 (((N / Nat.gcd N D : Nat) : Int)), .int .i64 ((D / Nat.gcd N D : Nat) : Int)]) ∧ Below w.heap.size w w' := by
  obtain ⟨G, hG⟩ : ∃ G, G = Nat.gcd N D := ⟨_, rfl⟩
  have hg1 : 1 ≤ G := by rw [hG]; exact Nat.gcd_pos_of_pos_right _ d1
  have hgle : G ≤ 5000 := by rw [hG]; exact Nat.le_trans (Nat.le_of_dvd (by omega) (Nat.gcd_dvd_right N D)) d2
  obtain ⟨q1, hq1⟩ : ∃ q, q = N / G := ⟨_, rfl⟩
  obtain ⟨q2, hq2⟩ : ∃ q, q = D / G := ⟨_, rfl⟩
  have hl1 : q1 ≤ 5000 := by rw [hq1]; exact Nat.le_trans (Nat.div_le_self _ _) h2
  have hl2 : q2 ≤ 5000 := by rw [hq2]; exact Nat.le_trans (Nat.div_le_self _ _) d2
  have ht1 : (N : Int).tdiv (G : Int) = (q1 : Int) := by rw [Int.tdiv_eq_ediv_of_nonneg (by omega), hq1]; rfl
  have ht2 : (D : Int).tdiv (G : Int) = (q2 : Int) := by rw [Int.tdiv_eq_ediv_of_nonneg (by omega), hq2]; rfl
  have HD : Hid ((N : Int) / (G : Int) = (q1 : Int) ∧ (D : Int) / (G : Int) = (q2 : Int)) := ⟨by rw [hq1]; rfl, by rw [hq2]; rfl⟩
  have HG := hid hG.symm
  rw [← hG, ← hq1, ← hq2]
  clear hG hq1 hq2
  have hab : absI (N : Int) = (N : Int) := by unfold absI; omega
  have hab2 : absI ((D : Int)) = (D : Int) := by unfold absI; omega
  have hg0 : (G : Int) ≠ 0 := by omega
  have hgb : ((G : Int) == 0) = false := by rw [beq_eq_false_iff_ne]; exact hg0
  have hg0n : (-(G : Int)) ≠ 0 := by omega
  have hgbn : ((-(G : Int)) == 0) = false := by rw [beq_eq_false_iff_ne]; exact hg0n
  have e0a : IntKind.i64.wrap (((N : Int)).tdiv (G : Int)) = (q1 : Int) := by rw [ht1]; exact i64_nat q1 hl1
  have e0b : wrap64 (((N : Int)).tdiv (G : Int)) = (q1 : Int) := by rw [ht1]; exact w64_nat q1 hl1
  have e0c : IntKind.i64.wrap ((q1 : Int)) = (q1 : Int) := i64_nat q1 hl1
  have e1a : IntKind.i64.wrap (((D : Int)).tdiv (G : Int)) = (q2 : Int) := by rw [ht2]; exact i64_nat q2 hl2
  have e1b : wrap64 (((D : Int)).tdiv (G : Int)) = (q2 : Int) := by rw [ht2]; exact w64_nat q2 hl2
  have e1c : IntKind.i64.wrap ((q2 : Int)) = (q2 : Int) := i64_nat q2 hl2
  clear ht1 ht2
  go_enter Tryz.func57, Tryz.ntmps57
  go_wp2_with fail
  refine (sizeOf_any _ _ (by omega) (by omega)).mono ?_
  rintro e w' ⟨rfl, rfl⟩
  rw [hab]
  go_wp2_with fail
  refine (sizeOf_any _ _ (by omega) (by omega)).mono ?_
  rintro e w' ⟨rfl, rfl⟩
  rw [hab2]
  clear hab hab2
  go_wp2_with fail
  refine (gcd_any N D _ h2 d2).mono ?_
  rintro e w1 ⟨rfl, hb⟩
  rw [HG.out]
  go_wp2_with fail
  go_quiet (fail)
  go_wp2
  go_ret2
  exact ⟨ret_ii (by first | rfl | (rw [HD.out.1]; exact w64_nat q1 hl1) | (rw [HD.out.2]; exact w64_nat q2 hl2)) (by first | rfl | (rw [HD.out.1]; exact w64_nat q1 hl1) | (rw [HD.out.2]; exact w64_nat q2 hl2)), below_drewN hb _⟩




theorem ret_iib {i j k l : Int} {b c : Bool} (h1 : i = j) (h2 : k = l) (h3 : b = c) : Ending.returned (.tuple #[.int .i64 i, .int .i64 k, .bool b]) = .returned (.tuple #[.int .i64 j, .int .i64 l, .bool c]) := by rw [h1, h2, h3]
theorem altS_rep : True := trivial
def alF (r st : Nat) : Bool := decide (sumL (altS (cbW r st)) = if r % 2 = 0 ∧ 1 ≤ st then 0 else 1)
theorem alF_all : ((List.range 9).all fun r => (List.range 5).all fun st => decide (r = 0) || alF r st) = true := by decide +kernel
/-- the sum with signs: 0 for even rates, 1 for odd ones -/
def drI (r : Nat) : Nat := if r % 2 = 0 then 0 else 1
theorem alt_is {r st : Nat} (h1 : 1 ≤ r) (h2 : r ≤ 8) (s1 : 1 ≤ st) (h3 : st ≤ 4) : sumL (altS (cbW r st)) = ((drI r : Nat) : Int) := by
  have h := alF_all
  rw [List.all_eq_true] at h
  have h := h r (List.mem_range.2 (by omega))
  rw [List.all_eq_true] at h
  have h := h st (List.mem_range.2 (by omega))
  rw [Bool.or_eq_true] at h
  rcases h with h | h
  · have := of_decide_eq_true h; omega
  · have h := of_decide_eq_true h
    rw [h]; unfold drI
    by_cases h0 : r % 2 = 0
    · rw [if_pos ⟨h0, s1⟩, if_pos h0]; rfl
    · rw [if_neg (fun x => h0 x.1), if_neg h0]; rfl
theorem drI_le (r : Nat) : drI r ≤ 1 := by unfold drI; split <;> omega
def gaN (r st : Nat) : Nat := (cbG r st).toNat
theorem gaN_is {r st : Nat} (h1 : 1 ≤ r) (h2 : r ≤ 8) (h3 : st ≤ 4) : cbG r st = ((gaN r st : Nat) : Int) ∧ 1 ≤ gaN r st ∧ gaN r st ≤ 5000 := by
  have := (cb_parts h1 h2 h3).2.2.2.2
  unfold gaN; omega
def dA (r st : Nat) : Int := ((drI r / Nat.gcd (drI r) (gaN r st) : Nat) : Int)
def dB (r st : Nat) : Int := ((gaN r st / Nat.gcd (drI r) (gaN r st) : Nat) : Int)
theorem bd_no {st r a b : Int} (h : caB st r = false) : Ending.returned (.tuple #[.int .i64 0, .int .i64 0, .bool false]) = .returned (.tuple #[.int .i64 (onI (caB st r) a), .int .i64 (onI (caB st r) b), .bool (caB st r)]) := by rw [h]; rfl
theorem bd_yes {st r a b c d : Int} (h : caB st r = true) (h1 : c = a) (h2 : d = b) : Ending.returned (.tuple #[.int .i64 c, .int .i64 d, .bool true]) = .returned (.tuple #[.int .i64 (onI (caB st r) a), .int .i64 (onI (caB st r) b), .bool (caB st r)]) := by rw [h, h1, h2]; rfl


set_option maxHeartbeats 1000000 in
theorem impl_BoxDroop_any (st r : Int) (w : World) :
    Calls Tryz.prog 20 #[.int .i64 st, .int .i64 r] w fun e w' => e = .returned (.tuple #[.int .i64 (onI (caB st r) (dA r.toNat st.toNat)), .int .i64 (onI (caB st r) (dB r.toNat st.toNat)), .bool (caB st r)]) ∧ Below w.heap.size w w' := by
  cases h0 : askB st r
  · have HB0 := hid h0
    clear h0
    go_enter Tryz.func20, Tryz.ntmps20
    go_wp2_with fail
    refine (isComb_is _ _ false _ HB0.out).mono ?_
    rintro e w' ⟨rfl, rfl⟩
    go_wp2_with fail
    go_ret3
    exact ⟨bd_no (caB_of HB0.out), Below.refl _ _⟩
  · have HB0 := hid h0
    clear h0
    have HT := hid (caB_of HB0.out)
    obtain ⟨⟨a1, a2⟩, ⟨a3, a4⟩⟩ := askB_t HB0.out
    obtain ⟨t, rfl⟩ : ∃ t : Nat, st = t := ⟨st.toNat, by omega⟩
    obtain ⟨q, rfl⟩ : ∃ q : Nat, r = q := ⟨r.toNat, by omega⟩
    have s1 : 1 ≤ t := by omega
    have s2 : t ≤ 4 := by omega
    have r1 : 1 ≤ q := by omega
    have r2 : q ≤ 8 := by omega
    clear a1 a2 a3 a4
    obtain ⟨D, hD⟩ : ∃ D, D = gaN q t := ⟨_, rfl⟩
    obtain ⟨N, hN⟩ : ∃ N, N = drI q := ⟨_, rfl⟩
    obtain ⟨hgD, d1, d2⟩ := gaN_is r1 r2 s2
    rw [← hD] at hgD d1 d2
    have hN1 : N ≤ 1 := by rw [hN]; exact drI_le q
    have haN := alt_is r1 r2 s1 s2
    rw [← hN] at haN
    have HgD := hid hgD
    have HaN := hid haN
    have HdA := hid (show dA q t = ((N / Nat.gcd N D : Nat) : Int) from by unfold dA; rw [hN, hD])
    have HdB := hid (show dB q t = ((D / Nat.gcd N D : Nat) : Int) from by unfold dB; rw [hN, hD])
    clear hgD haN hD hN
    go_enter Tryz.func20, Tryz.ntmps20
    go_wp2_with fail
    refine (isComb_is _ _ true _ HB0.out).mono ?_
    rintro e w' ⟨rfl, rfl⟩
    go_wp2_with fail
    refine (combWeights_any t q _ s1 s2 r1 r2).mono ?_
    rintro e w1 ⟨v_R, rfl, R, hb⟩
    have B1 := hb
    have HQ := hid (cbW_q r1 r2 s2)
    go_wp2_with fail
    refine (gainAtHalf_any _ (cbW q t) _ R.sl (Nat.le_trans HQ.out.1.2 (by omega)) HQ.out.2).mono ?_
    rintro e w' ⟨rfl, rfl⟩
    rw [HaN.out]
    go_wp2_with fail
    refine (combGain_any t q _ s1 s2 r1 r2).mono ?_
    rintro e w' ⟨rfl, rfl⟩
    rw [HgD.out]
    go_wp2_with fail
    refine (lowest_zp N D _ (by omega) d1 d2).mono ?_
    rintro e w2 ⟨rfl, hb⟩
    have B2 := bel_step B1 hb
    have R_2 := R.kept hb
    go_wp2_with fail
    go_ret3
    exact ⟨bd_yes HT.out (by first | exact HdA.out.symm | exact (Int.natCast_ediv _ _).symm.trans HdA.out.symm) (by first | exact HdB.out.symm | exact (Int.natCast_ediv _ _).symm.trans HdB.out.symm), B2⟩


set_option maxHeartbeats 2000000 in
theorem spec_BoxDroop_in (t q : Nat) (N D : Nat) (w : World) (HB0 : Hid (askB (t : Int) (q : Int) = true)) (HT : Hid (caB (t : Int) (q : Int) = true)) (s1 : 1 ≤ t) (s2 : t ≤ 4) (r1 : 1 ≤ q) (r2 : q ≤ 8) (d1 : 1 ≤ D) (d2 : D ≤ 5000) (hN1 : N ≤ 1) (HgD : Hid (cbG q t = (D : Int))) (HaN : Hid (sumL (altS (cbW q t)) = (N : Int))) (hdA : dA q t = ((N / Nat.gcd N D : Nat) : Int)) (hdB : dB q t = ((D / Nat.gcd N D : Nat) : Int)) :
    Calls Tryz.prog 21 #[.int .i64 (t : Int), .int .i64 (q : Int)] w fun e w' => e = .returned (.tuple #[.int .i64 (onI (caB (t : Int) (q : Int)) (dA q t)), .int .i64 (onI (caB (t : Int) (q : Int)) (dB q t)), .bool (caB (t : Int) (q : Int))]) ∧ Below w.heap.size w w' := by
  have h2 : N ≤ 5000 := by omega
  obtain ⟨G, hG⟩ : ∃ G, G = Nat.gcd N D := ⟨_, rfl⟩
  have hg1 : 1 ≤ G := by rw [hG]; exact Nat.gcd_pos_of_pos_right _ d1
  have hgle : G ≤ 5000 := by rw [hG]; exact Nat.le_trans (Nat.le_of_dvd (by omega) (Nat.gcd_dvd_right N D)) d2
  obtain ⟨q1, hq1⟩ : ∃ q, q = N / G := ⟨_, rfl⟩
  obtain ⟨q2, hq2⟩ : ∃ q, q = D / G := ⟨_, rfl⟩
  have hl1 : q1 ≤ 5000 := by rw [hq1]; exact Nat.le_trans (Nat.div_le_self _ _) h2
  have hl2 : q2 ≤ 5000 := by rw [hq2]; exact Nat.le_trans (Nat.div_le_self _ _) d2
  have ht1 : (N : Int).tdiv (G : Int) = (q1 : Int) := by rw [Int.tdiv_eq_ediv_of_nonneg (by omega), hq1]; rfl
  have ht2 : (D : Int).tdiv (G : Int) = (q2 : Int) := by rw [Int.tdiv_eq_ediv_of_nonneg (by omega), hq2]; rfl
  have HD : Hid ((N : Int) / (G : Int) = (q1 : Int) ∧ (D : Int) / (G : Int) = (q2 : Int)) := ⟨by rw [hq1]; rfl, by rw [hq2]; rfl⟩
  have HG := hid hG.symm
  rw [← hG] at hdA hdB
  rw [← hq1] at hdA
  rw [← hq2] at hdB
  have HdA := hid hdA
  have HdB := hid hdB
  clear hG hq1 hq2 hdA hdB
  have hab : absI ((N : Int)) = (N : Int) := by unfold absI; omega
  go_enter Tryz.func21, Tryz.ntmps21
  go_wp2_with fail
  refine (cbAsked_is _ _ true _ HB0.out).mono ?_
  rintro e w' ⟨rfl, rfl⟩
  go_wp2_with fail
  refine (cbBox_any t q _ s1 s2 r1 r2).mono ?_
  rintro e w1 ⟨v1, rfl, R1, B1⟩
  obtain ⟨a, n, cap, rfl, hn, hrd⟩ := R1.sl.rd
  have hQ := cbW_q r1 r2 s2
  obtain ⟨xs, hxs⟩ : ∃ xs, xs = cbW q t := ⟨_, rfl⟩
  rw [← hxs] at hn hrd hQ
  have hj : InP (-100000) 100000 (altS xs) := (altS_in hQ.2).wide (by omega) (by omega)
  have hjl : (altS xs).length ≤ 64 := by rw [altS_len]; exact Nat.le_trans hQ.1.2 (by omega)
  have hl' : n ≤ 64 := by have := hQ.1.2; omega
  have HaN2 := hid (show sumL (altS xs) = (N : Int) from by rw [hxs]; exact HaN.out)
  have HH := hid (And.intro ht1 ht2)
  have Hi := hid hQ.2
  have Hj := hid hj
  have Hjl := hid hjl
  have Hn := hid hn
  have Hrd := hid hrd
  have HB1 := hid B1
  clear ht1 ht2 hQ hj hjl hn hrd R1 hxs B1 HaN
  go_wp2_with fail
  go_loop [7, 21] (fun s0 i => ∃ k : Nat, k ≤ n ∧ i = .int .i64 k ∧ s0 = .int .i64 (sumL ((altS xs).take k)))
    (fun _ i => n - (intOf i).toNat)
  case atStart => exact ⟨0, by omega, rfl, rfl⟩
  case round =>
    obtain ⟨k, hk, rfl, rfl⟩ := hrel
    by_cases hlk : k < n
    · obtain ⟨x, hkx⟩ := get_lt xs k (by rw [← Hn.out]; exact hlk)
      obtain ⟨bb, oo, hix, hbb, hce⟩ := Hrd.out.at (P := Tryz.prog) (T := 24) n cap uslice sone hkx hlk
      obtain ⟨x1, x2⟩ := Hi.out.at hkx
      have hst := sumL_step (altS xs) k _ (altS_at hkx)
      have hsb := sumL_in (n := 64) (Hj.out) (Hjl.out) k
      have hsb1 : -10000000 ≤ sumL ((altS xs).take k) := by omega
      have hsb2 : sumL ((altS xs).take k) ≤ 10000000 := by omega
      clear hsb
      have Hse := hid (@sgn_even k)
      have Hso := hid (@sgn_odd k)
      have Hst := hid hst
      clear hst hkx
      generalize sumL ((altS xs).take k) = z at *
      rcases Nat.mod_two_eq_zero_or_one k with hm | hm
      · have hm2 : (k : Int) % 2 = 0 := by omega
        have Hsg := hid (Hse.out hm)
        clear hm
        go_wp2
        go_round
        case rel => exact ⟨k + 1, by omega, by go_num, by rw [Hst.out, Hsg.out]; try go_num⟩
        case measure => simp [intOf]; omega
      · have hm2 : (k : Int) % 2 = 1 := by omega
        have Hsg := hid (Hso.out hm)
        clear hm
        go_wp2
        go_round
        case rel => exact ⟨k + 1, by omega, by go_num, by rw [Hst.out, Hsg.out]; try go_num⟩
        case measure => simp [intOf]; omega
    · have hge : (n : Int) ≤ (k : Int) := by omega
      have hkn : k = xs.length := by rw [← Hn.out]; omega
      have hz : sumL ((altS xs).take k) = (N : Int) := by rw [hkn, ← altS_len xs, List.take_length]; exact HaN2.out
      rw [hz]
      have hab : absI (N : Int) = (N : Int) := by unfold absI; omega
      clear hkn hlk hz
      go_wp2_with fail
      refine (cbGain_any t q _ s1 s2 r1 r2).mono ?_
      rintro e w' ⟨rfl, rfl⟩
      rw [HgD.out]
      go_wp2_with fail
      refine (l1Abs_any _ _ (by omega) (by omega)).mono ?_
      rintro e w' ⟨rfl, rfl⟩
      rw [hab]
      clear hab hge
      generalize decide (k < n) = dd
      have HB2 := HB1
      go_wp2_with fail
      go_loopw [11, 12] (fun aa bb wr => ∃ x' y' : Nat, aa = .int .i64 (x' : Int) ∧ bb = .int .i64 (y' : Int) ∧ Hid (Nat.gcd x' y' = G) ∧ x' ≤ 5000 ∧ y' ≤ 5000 ∧ Below w.heap.size w wr)
        (fun _ bb _ => (intOf bb).toNat)
      case atStart => exact ⟨N, D, rfl, by first | rfl | simp, HG, by omega, d2, HB2.out⟩
      case round =>
        clear HG
        obtain ⟨x, y, rfl, rfl, HG, hx, hy, hb⟩ := hrel
        by_cases h0 : y = 0
        · subst h0
          have hg : G = x := by rw [← HG.out, Nat.gcd_zero_right]
          clear HG hx hy
          subst hg
          obtain ⟨ht1, ht2⟩ := HH.out
          have hg0 : (G : Int) ≠ 0 := by omega
          have hgb : ((G : Int) == 0) = false := by rw [beq_eq_false_iff_ne]; exact hg0
          have e0a : IntKind.i64.wrap (((N : Int)).tdiv (G : Int)) = (q1 : Int) := by rw [ht1]; exact i64_nat q1 hl1
          have e0b : wrap64 (((N : Int)).tdiv (G : Int)) = (q1 : Int) := by rw [ht1]; exact w64_nat q1 hl1
          have e0c : IntKind.i64.wrap ((q1 : Int)) = (q1 : Int) := i64_nat q1 hl1
          have e1a : IntKind.i64.wrap (((D : Int)).tdiv (G : Int)) = (q2 : Int) := by rw [ht2]; exact i64_nat q2 hl2
          have e1b : wrap64 (((D : Int)).tdiv (G : Int)) = (q2 : Int) := by rw [ht2]; exact w64_nat q2 hl2
          have e1c : IntKind.i64.wrap ((q2 : Int)) = (q2 : Int) := i64_nat q2 hl2
          have HH2 := hid HH.out
          clear ht1 ht2
          go_wp2_with fail
          go_quiet (fail)
          go_wp2
          go_ret3
          exact ⟨bd_yes HT.out (by first | exact HdA.out.symm | (rw [HD.out.1]; exact (w64_nat q1 hl1).trans HdA.out.symm) | (rw [HdA.out]; first | rfl | exact w64_nat q1 hl1)) (by first | exact HdB.out.symm | (rw [HD.out.2]; exact (w64_nat q2 hl2).trans HdB.out.symm) | (rw [HdB.out]; first | rfl | exact w64_nat q2 hl2)), below_drewN hb _⟩
        · have hy1 : (1 : Int) ≤ (y : Int) := by omega
          have hst := gcd_step x y
          rw [HG.out] at hst
          have hm := tmod_nat x y
          have hlt : x % y < y := Nat.mod_lt _ (by omega)
          generalize x % y = z at *
          have Hst := hid hst
          have e1 : IntKind.i64.wrap ((x : Int).tmod (y : Int)) = (z : Int) := by rw [hm]; exact IntWalk.i64_in _ (by omega)
          have e2 : IntKind.i64.wrap (z : Int) = (z : Int) := IntWalk.i64_in _ (by omega)
          have hy0 : (y : Int) ≠ 0 := by omega
          have hyb : ((y : Int) == 0) = false := by rw [beq_eq_false_iff_ne]; exact hy0
          clear hst h0
          go_wp2_with fail
          go_quiet (fail)
          go_wp2
          go_roundw
          case rel => exact ⟨y, z, rfl, rfl, Hst, by omega, by omega, below_drewN hb _⟩
          case measure => simp [intOf]; omega


set_option maxHeartbeats 1000000 in
theorem spec_BoxDroop_any (st r : Int) (w : World) :
    Calls Tryz.prog 21 #[.int .i64 st, .int .i64 r] w fun e w' => e = .returned (.tuple #[.int .i64 (onI (caB st r) (dA r.toNat st.toNat)), .int .i64 (onI (caB st r) (dB r.toNat st.toNat)), .bool (caB st r)]) ∧ Below w.heap.size w w' := by
  cases h0 : askB st r
  · have HB0 := hid h0
    clear h0
    go_enter Tryz.func21, Tryz.ntmps21
    go_wp2_with fail
    refine (cbAsked_is _ _ false _ HB0.out).mono ?_
    rintro e w' ⟨rfl, rfl⟩
    go_wp2_with fail
    go_ret3
    exact ⟨bd_no (caB_of HB0.out), Below.refl _ _⟩
  · have HB0 := hid h0
    clear h0
    have HT := hid (caB_of HB0.out)
    obtain ⟨⟨a1, a2⟩, ⟨a3, a4⟩⟩ := askB_t HB0.out
    obtain ⟨t, rfl⟩ : ∃ t : Nat, st = t := ⟨st.toNat, by omega⟩
    obtain ⟨q, rfl⟩ : ∃ q : Nat, r = q := ⟨r.toNat, by omega⟩
    have s1 : 1 ≤ t := by omega
    have s2 : t ≤ 4 := by omega
    have r1 : 1 ≤ q := by omega
    have r2 : q ≤ 8 := by omega
    clear a1 a2 a3 a4
    obtain ⟨D, hD⟩ : ∃ D, D = gaN q t := ⟨_, rfl⟩
    obtain ⟨N, hN⟩ : ∃ N, N = drI q := ⟨_, rfl⟩
    obtain ⟨hgD, d1, d2⟩ := gaN_is r1 r2 s2
    rw [← hD] at hgD d1 d2
    have hN1 : N ≤ 1 := by rw [hN]; exact drI_le q
    have haN := alt_is r1 r2 s1 s2
    rw [← hN] at haN
    have HgD := hid hgD
    have HaN := hid haN
    have HdA := hid (show dA q t = ((N / Nat.gcd N D : Nat) : Int) from by unfold dA; rw [hN, hD])
    have HdB := hid (show dB q t = ((D / Nat.gcd N D : Nat) : Int) from by unfold dB; rw [hN, hD])
    clear hgD haN hD hN
    exact spec_BoxDroop_in t q N D w HB0 HT s1 s2 r1 r2 d1 d2 hN1 HgD HaN HdA.out HdB.out

end Dr
open Dr


end Go.Proofs.YtichkianildkgaaGreat
