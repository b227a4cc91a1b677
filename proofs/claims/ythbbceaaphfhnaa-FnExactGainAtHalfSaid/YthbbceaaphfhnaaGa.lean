
import Derived.Test.YthbbceaaphfhnaaWg
import Derived.Test.YthbbceaaphfhnaaSu
namespace Go.Proofs.Ythbbceaaphfhnaa
open Go.RowKit BitX Go.MemX
set_option linter.unusedVariables false


def onB {α : Type} (b : Bool) (x y : α) : α := match b with | true => x | false => y
theorem sumL_boundc (xs : List Int) (h : InP (-100000) 100000 xs) : -(xs.length * 100000 : Int) ≤ sumL xs ∧ sumL xs ≤ xs.length * 100000 := by
  induction xs with
  | nil => simp [sumL]
  | cons x xs ih =>
    have a := h x (by simp)
    have b := ih fun y hy => h y (by simp [hy])
    simp only [sumL, List.length_cons]
    omega
theorem InP.takec {lo hi : Int} {xs : List Int} (h : InP lo hi xs) (k : Nat) : InP lo hi (xs.take k) := fun x hx => h x (List.mem_of_mem_take hx)
theorem InP.wide {lo hi lo2 hi2 : Int} {xs : List Int} (h : InP lo hi xs) (h1 : lo2 ≤ lo) (h2 : hi ≤ hi2) : InP lo2 hi2 xs := fun x hx => by have := h x hx; omega
/-- the sums of weights and of samples are small -/
theorem sumL_in {xs : List Int} {n : Nat} (h : InP (-100000) 100000 xs) (hl : xs.length ≤ n) (k : Nat) : -(n * 100000 : Int) ≤ sumL (xs.take k) ∧ sumL (xs.take k) ≤ n * 100000 := by
  have a := sumL_boundc (xs.take k) (h.takec k)
  have b : (xs.take k).length ≤ n := by simp; omega
  omega
def absI (x : Int) : Int := max x (-x)
def absS (xs : List Int) : List Int := xs.map absI
theorem absS_in {xs : List Int} (h : InP (-1000) 1000 xs) : InP (-1000) 1000 (absS xs) := fun y hy => by
  obtain ⟨x, hx, rfl⟩ := List.mem_map.1 hy
  have := h x hx
  unfold absI; omega
theorem absS_at {xs : List Int} {k : Nat} {x : Int} (h : xs[k]? = some x) : (absS xs)[k]? = some (absI x) := by simp [absS, h]
/-- the weights with the signs +, -, +, .. -/
def sgn (k : Nat) : Int := if k % 2 = 0 then 1 else -1
def altS (xs : List Int) : List Int := tab xs.length fun i => sgn i * at0 xs i
theorem sgn_succ (k : Nat) : sgn (k + 1) = - sgn k := by unfold sgn; split <;> split <;> omega
theorem sgn_spec (k : Nat) : 1 - (k : Int) % 2 * 2 = sgn k := by unfold sgn; split <;> omega
theorem sgn_mul (k : Nat) (x : Int) : x * sgn k = sgn k * x := Int.mul_comm _ _
theorem altS_at {xs : List Int} {k : Nat} {x : Int} (h : xs[k]? = some x) : (altS xs)[k]? = some (sgn k * x) := by
  have hk : k < xs.length := (List.getElem?_eq_some_iff.1 h).1
  unfold altS; rw [tab_get _ _ _ hk, at0_of h]
theorem altS_len (xs : List Int) : (altS xs).length = xs.length := tab_len _ _
theorem sgn_in {k : Nat} {x B : Int} (h1 : -B ≤ x) (h2 : x ≤ B) : -B ≤ sgn k * x ∧ sgn k * x ≤ B := by
  unfold sgn; split <;> omega
theorem altS_in {xs : List Int} (h : InP (-1000) 1000 xs) : InP (-1000) 1000 (altS xs) := fun y hy => by
  obtain ⟨i, hi⟩ := List.getElem?_of_mem hy
  have hl := (List.getElem?_eq_some_iff.1 hi).1
  rw [altS_len] at hl
  obtain ⟨x, hx⟩ := get_lt xs i hl
  rw [altS_at hx] at hi
  have := h.at hx
  have e := Option.some.inj hi
  rw [← e]; exact sgn_in this.1 this.2


set_option maxHeartbeats 400000 in
theorem l1Abs_any (x : Int) (w : World) (h1 : -9223372036854775807 ≤ x) (h2 : x ≤ 9223372036854775807) :
    Calls Try.prog 32 #[.int .i64 x] w fun e w' => e = .returned (.int .i64 (absI x)) ∧ w = w' := by
  by_cases h : -x < x
  · have hm : mostI x (-x) = absI x := by unfold mostI absI; rw [if_pos h]; omega
    have Hm := hid hm
    clear hm
    go_enter Try.func32, Try.ntmps32
    go_wp2_with fail
    refine (l1Most_any _ _ _).mono ?_
    rintro e w' ⟨rfl, rfl⟩
    go_wp2
    go_ret
    exact ⟨by first | rfl | exact ret_i Hm.out, rfl⟩
  · have hm : mostI x (-x) = absI x := by unfold mostI absI; rw [if_neg h]; omega
    have Hm := hid hm
    clear hm
    go_enter Try.func32, Try.ntmps32
    go_wp2_with fail
    refine (l1Most_any _ _ _).mono ?_
    rintro e w' ⟨rfl, rfl⟩
    go_wp2
    go_ret
    exact ⟨by first | rfl | exact ret_i Hm.out, rfl⟩


set_option maxHeartbeats 400000 in
theorem sizeOf_any (x : Int) (w : World) (h1 : -9223372036854775807 ≤ x) (h2 : x ≤ 9223372036854775807) :
    Calls Try.prog 51 #[.int .i64 x] w fun e w' => e = .returned (.int .i64 (absI x)) ∧ w = w' := by
  go_enter Try.func51, Try.ntmps51
  go_wp2
  all_goals go_ret
  all_goals exact ⟨ret_i (by unfold absI; omega), rfl⟩


theorem sgn_even {k : Nat} (h : k % 2 = 0) : sgn k = 1 := by unfold sgn; rw [if_pos h]
theorem sgn_odd {k : Nat} (h : k % 2 = 1) : sgn k = -1 := by unfold sgn; rw [if_neg (by omega)]
theorem sgn_or (k : Nat) : sgn k = 1 ∨ sgn k = -1 := by unfold sgn; split <;> simp


theorem ret_ib {a c : Int} {b : Bool} (h : a = c) : Ending.returned (.tuple #[.int .i64 a, .bool b]) = .returned (.tuple #[.int .i64 c, .bool b]) := by rw [h]


set_option maxHeartbeats 400000 in
theorem spec_GainAtHalf_in (v : Value) (xs : List Int) (w : World) (hs : Sl w v xs) (h : WgtP xs) :
    Calls Try.prog 18 #[v] w fun e w' => e = .returned (.tuple #[.int .i64 (sumL (altS xs)), .bool true]) ∧ w = w' := by
  have hi := h.2
  have hl := h.1.2
  have hs0 := hs
  obtain ⟨a, n, cap, rfl, hn, hrd⟩ := hs.rd
  have Hn := hid hn
  have Hrd := hid hrd
  have hl' : n ≤ 64 := by omega
  clear hn hrd 
  have HS := hid hs0
  have HW := hid h
  clear hs0
  have hj : InP (-100000) 100000 (altS xs) := (altS_in hi).wide (by omega) (by omega)
  have hjl : (altS xs).length ≤ 64 := by rw [altS_len]; exact Nat.le_trans h.1.2 (by omega)
  have Hi := hid hi
  have Hj := hid hj
  have Hjl := hid hjl
  clear hi hj hjl
  clear hl hs h
  go_enter Try.func18, Try.ntmps18
  go_wp2_with fail
  refine (weGood_is _ xs true _ HS.out (wgtB_of HW.out)).mono ?_
  rintro e w' ⟨rfl, rfl⟩
  go_wp2_with fail
  go_loop [4, 12] (fun s0 i => ∃ k : Nat, k ≤ n ∧ i = .int .i64 k ∧ s0 = .int .i64 (sumL ((altS xs).take k)))
    (fun _ i => n - (intOf i).toNat)
  case atStart => exact ⟨0, by omega, rfl, rfl⟩
  case round =>
    obtain ⟨k, hk, rfl, rfl⟩ := hrel
    by_cases hlk : k < n
    · obtain ⟨x, hkx⟩ := get_lt xs k (by rw [← Hn.out]; exact hlk)
      obtain ⟨bb, oo, hix, hbb, hce⟩ := Hrd.out.at (P := Try.prog) (T := 25) n cap uslice sone hkx hlk
      obtain ⟨x1, x2⟩ := Hi.out.at hkx
      have hst := sumL_step (altS xs) k _ (altS_at hkx)
      have hsb := sumL_in (n := 64) (Hj.out) (Hjl.out) k
      have hsb1 : -10000000 ≤ sumL ((altS xs).take k) := by omega
      have hsb2 : sumL ((altS xs).take k) ≤ 10000000 := by omega
      clear hsb
      have Hse := hid (@sgn_even k)
      have Hso := hid (@sgn_odd k)
      have Hst := hid hst
      clear hst hkx
      generalize sumL ((altS xs).take k) = z at *
      rcases Nat.mod_two_eq_zero_or_one k with hm | hm
      · have hm2 : (k : Int) % 2 = 0 := by omega
        have Hsg := hid (Hse.out hm)
        clear hm
        go_wp2
        go_round
        case rel => exact ⟨k + 1, by omega, by go_num, by rw [Hst.out, Hsg.out]; try go_num⟩
        case measure => simp [intOf]; omega
      · have hm2 : (k : Int) % 2 = 1 := by omega
        have Hsg := hid (Hso.out hm)
        clear hm
        go_wp2
        go_round
        case rel => exact ⟨k + 1, by omega, by go_num, by rw [Hst.out, Hsg.out]; try go_num⟩
        case measure => simp [intOf]; omega
    · have hge : (n : Int) ≤ (k : Int) := by omega
      have hkn : k = xs.length := by rw [← Hn.out]; omega
      have Hk := hid hkn
      clear hkn hlk
      go_wp2
      go_ret2
      exact ⟨ret_ib (by rw [Hk.out, ← altS_len xs, List.take_length]), rfl⟩


set_option maxHeartbeats 400000 in
theorem gainAtHalf_any (v : Value) (xs : List Int) (w : World) (hs : Sl w v xs) (hl : xs.length ≤ 64) (hi0 : InP (-1000) 1000 xs) :
    Calls Try.prog 34 #[v] w fun e w' => e = .returned (.int .i64 (sumL (altS xs))) ∧ w = w' := by
  have hi := hi0
  obtain ⟨a, n, cap, rfl, hn, hrd⟩ := hs.rd
  have Hn := hid hn
  have Hrd := hid hrd
  have hl' : n ≤ 64 := by omega
  clear hn hrd 
  have hj : InP (-100000) 100000 (altS xs) := (altS_in hi).wide (by omega) (by omega)
  have hjl : (altS xs).length ≤ 64 := by rw [altS_len]; exact hl
  have Hi := hid hi
  have Hj := hid hj
  have Hjl := hid hjl
  clear hi hj hjl
  clear hl hs hi0
  go_enter Try.func34, Try.ntmps34
  go_wp2_with fail
  go_loop [3, 4, 9] (fun s0 s1 i => ∃ k : Nat, k ≤ n ∧ i = .int .i64 k ∧ s0 = .int .i64 (sumL ((altS xs).take k)) ∧ s1 = .int .i64 (sgn k))
    (fun _ _ i => n - (intOf i).toNat)
  case atStart => exact ⟨0, by omega, rfl, rfl, rfl⟩
  case round =>
    obtain ⟨k, hk, rfl, rfl, rfl⟩ := hrel
    by_cases hlk : k < n
    · obtain ⟨x, hkx⟩ := get_lt xs k (by rw [← Hn.out]; exact hlk)
      obtain ⟨bb, oo, hix, hbb, hce⟩ := Hrd.out.at (P := Try.prog) (T := 25) n cap uslice sone hkx hlk
      obtain ⟨x1, x2⟩ := Hi.out.at hkx
      have hst := sumL_step (altS xs) k _ (altS_at hkx)
      have hsb := sumL_in (n := 64) (Hj.out) (Hjl.out) k
      have hsb1 : -10000000 ≤ sumL ((altS xs).take k) := by omega
      have hsb2 : sumL ((altS xs).take k) ≤ 10000000 := by omega
      clear hsb
      have Hss := hid (sgn_succ k)
      have Hst := hid hst
      clear hst hkx
      generalize sumL ((altS xs).take k) = z at *
      rcases sgn_or k with hm | hm
      all_goals
        have Hsg := hid hm
        rw [hm]
        clear hm
      all_goals
        go_wp2
        go_round
        case rel => exact ⟨k + 1, by omega, by go_num, by rw [Hst.out, Hsg.out]; try go_num, by rw [Hss.out, Hsg.out]; try go_num⟩
        case measure => simp [intOf]; omega
    · have hge : (n : Int) ≤ (k : Int) := by omega
      have hkn : k = xs.length := by rw [← Hn.out]; omega
      have Hk := hid hkn
      clear hkn hlk
      go_wp2
      go_ret
      exact ⟨ret_i (by rw [Hk.out, ← altS_len xs, List.take_length]), rfl⟩


theorem wgt_sum {xs : List Int} (h : WgtP xs) : (∀ k, k ≤ xs.length → (sumL (xs.take k)).natAbs < 16777216) ∧ ∀ x ∈ xs, x.natAbs < 16777216 := by
  constructor
  · intro k _
    have := sumL_in (n := 9) (h.2.wide (by omega) (by omega)) h.1.2 k
    omega
  · intro x hx
    have := h.2 x hx
    omega


set_option maxHeartbeats 400000 in
theorem impl_GainAtHalf_any (v : Value) (xs : List Int) (w : World) (hs : Sl w v xs) :
    Calls Try.prog 20 #[v] w fun e w' => e = .returned (.tuple #[.int .i64 (onB (wgtB xs) (sumL (altS xs)) 0), .bool (wgtB xs)]) ∧ w = w' := by
  have HS := hid hs
  clear hs
  cases h0 : wgtB xs
  · have HB0 := hid h0
    clear h0
    go_enter Try.func20, Try.ntmps20
    go_wp2_with fail
    refine (impl_IsWeights_is _ xs _ _ HS.out HB0.out).mono ?_
    rintro e w' ⟨rfl, rfl⟩
    go_wp2_with fail
    go_ret2
    exact ⟨rfl, rfl⟩
  · have HB0 := hid h0
    clear h0
    go_enter Try.func20, Try.ntmps20
    go_wp2_with fail
    refine (impl_IsWeights_is _ xs _ _ HS.out HB0.out).mono ?_
    rintro e w' ⟨rfl, rfl⟩
    go_wp2_with fail
    refine (gainAtHalf_any _ xs _ HS.out (Nat.le_trans (wgtB_t HB0.out).1.2 (by omega)) (wgtB_t HB0.out).2).mono ?_
    rintro e w' ⟨rfl, rfl⟩
    go_wp2_with fail
    go_ret2
    exact ⟨rfl, rfl⟩


set_option maxHeartbeats 400000 in
theorem spec_GainAtHalf_any (v : Value) (xs : List Int) (w : World) (hs : Sl w v xs) :
    Calls Try.prog 18 #[v] w fun e w' => e = .returned (.tuple #[.int .i64 (onB (wgtB xs) (sumL (altS xs)) 0), .bool (wgtB xs)]) ∧ w = w' := by
  have HS := hid hs
  clear hs
  cases h0 : wgtB xs
  · have HB0 := hid h0
    clear h0
    go_enter Try.func18, Try.ntmps18
    go_wp2_with fail
    refine (weGood_is _ xs _ _ HS.out HB0.out).mono ?_
    rintro e w' ⟨rfl, rfl⟩
    go_wp2_with fail
    go_ret2
    exact ⟨rfl, rfl⟩
  · have HB0 := hid h0
    clear h0
    exact spec_GainAtHalf_in v xs w HS.out (wgtB_t HB0.out)

end Go.Proofs.Ythbbceaaphfhnaa
