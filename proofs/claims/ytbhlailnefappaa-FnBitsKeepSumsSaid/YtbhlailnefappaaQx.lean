
import Derived.Test.YtbhlailnefappaaQw
import Derived.Test.YtbhlailnefappaaSu
namespace Go.Proofs.Ytbhlailnefappaa
open Go.RowKit BitX Go.MemX Go.ChV
set_option linter.unusedVariables false
theorem InP.take {lo hi : Int} {xs : List Int} (h : InP lo hi xs) (k : Nat) : InP lo hi (xs.take k) := fun x hx => h x (List.mem_of_mem_take hx)
def pkL : List Int → Int
  | [] => 0
  | x :: xs => max (max x (-x)) (pkL xs)
theorem sumL_bound (xs : List Int) (h : InP (-100000) 100000 xs) : -(xs.length * 100000 : Int) ≤ sumL xs ∧ sumL xs ≤ xs.length * 100000 := by
  induction xs with
  | nil => simp [sumL]
  | cons x xs ih =>
    have a := h x (by simp)
    have b := ih fun y hy => h y (by simp [hy])
    simp only [sumL, List.length_cons]
    omega
set_option maxHeartbeats 400000 in
theorem wdSum_any (v : Value) (xs : List Int) (w : World) (hs : Sl w v xs) (hl : xs.length ≤ 64) (hi : InP (-100000) 100000 xs) :
    Calls Try.prog 49 #[v] w fun e w' => e = .returned (.int .i64 (sumL xs)) ∧ w = w' := by
  have HI := hid hi
  clear hi
  have hs' := hs
  rcases hs with ⟨rfl, a, cap, rfl⟩ | ⟨b, off, n, cap, rfl, hn, h0, hc, hlt, hcell⟩
  · have HS := hid hs'
    have hl0 := hl
    clear hs' hl
    go_enter Try.func49, Try.ntmps49
    go_wp2_with fail
    refine wp_loop_rounds 1 ?_
    rw [rounds_succ]
    go_wp2
    go_ret
    exact ⟨rfl, rfl⟩
  · have HS := hid hs'
    have Hn := hid hn
    have Hcell := hid hcell
    have hl' : n ≤ 64 := by omega
    clear hs' hn hcell hl hlt
    go_enter Try.func49, Try.ntmps49
    go_wp2_with fail
    go_loop [3, 8] (fun s i => ∃ k : Nat, k ≤ n ∧ i = .int .i64 k ∧ s = .int .i64 (sumL (xs.take k)))
      (fun _ i => n - (intOf i).toNat)
    case atStart => exact ⟨0, by omega, rfl, rfl⟩
    case round =>
      obtain ⟨k, hk, rfl, rfl⟩ := hrel
      by_cases hlk : k < n
      · obtain ⟨x, hkx⟩ := get_lt xs k (by rw [← Hn.out]; exact hlk)
        have hce := Hcell.out k x hkx
        obtain ⟨x1, x2⟩ := HI.out.at hkx
        have hbd := sumL_bound (xs.take k) (HI.out.take k)
        have hst := sumL_step xs k x hkx
        have Hst := hid hst
        have hlt2 : (xs.take k).length ≤ 64 := by simp; omega
        clear hkx hst
        obtain ⟨hbd1, hbd2⟩ := hbd
        generalize hs0 : sumL (xs.take k) = s at hbd1 hbd2 ⊢
        have Hs0 := hid hs0
        clear hs0
        go_wp2
        go_round
        case rel => exact ⟨k + 1, by omega, by go_num, by rw [Hst.out, Hs0.out]⟩
        case measure => simp [intOf]; omega
      · have hge : (n : Int) ≤ (k : Int) := by omega
        have hkn : k = xs.length := by rw [← Hn.out]; omega
        have Hk := hid hkn
        have hfin : sumL (xs.take k) = sumL xs := by rw [hkn, List.take_length]
        have Hfin := hid hfin
        clear hkn hlk hfin
        go_wp2
        go_ret
        exact ⟨by rw [← Hfin.out]; rfl, rfl⟩

theorem sumL_b {xs : List Int} {B : Int} (h : InP (-B) B xs) : -(xs.length * B : Int) ≤ sumL xs ∧ sumL xs ≤ xs.length * B := by
  induction xs with
  | nil => simp [sumL]
  | cons x xs ih =>
    have h1 := h x (by simp)
    have h2 := ih fun y hy => h y (by simp [hy])
    have e : ((x :: xs).length * B : Int) = xs.length * B + B := by
      rw [List.length_cons, Int.natCast_add, Int.add_mul]; simp
    rw [e]
    show -(_ + _) ≤ x + sumL xs ∧ x + sumL xs ≤ _
    omega
def sgV (m : Int) (s : List Int) : Int := sumL s - m * sumL (moBL m s)
def sgI (m : Int) (s : List Int) : Int := onB (sdB m s) (sgV m s) 0
theorem moBL_in (m : Int) (s : List Int) : InP (-1) 1 (moBL m s) := by
  intro x hx
  unfold moBL tab at hx
  obtain ⟨i, _, rfl⟩ := List.mem_map.1 hx
  rcases biI_in (moS m s i + at0 s i) with h | h
  · show -1 ≤ biI _ ∧ biI _ ≤ 1
    omega
  · show -1 ≤ biI _ ∧ biI _ ≤ 1
    omega
theorem sum_small {xs : List Int} {B : Int} (h : InP (-B) B xs) (hB : 0 ≤ B) (hB2 : B ≤ 1000) (hl : xs.length ≤ 64) : (∀ k, k ≤ xs.length → (sumL (xs.take k)).natAbs < 16777216) ∧ (∀ x ∈ xs, x.natAbs < 16777216) ∧ InP (-100000) 100000 xs := by
  refine ⟨fun k hk => ?_, fun x hx => by have := h x hx; omega, fun x hx => by have := h x hx; omega⟩
  have h1 := sumL_b (xs := xs.take k) (B := B) fun x hx => h x (List.mem_of_mem_take hx)
  have h2 : ((xs.take k).length : Int) * B ≤ 64 * 1000 := Int.mul_le_mul (by rw [List.length_take]; omega) hB2 hB (by omega)
  omega
/-- the numbers of a scaled signal's gap -/
theorem sg_facts {m : Int} {s : List Int} (m1 : 1 ≤ m) (m2 : m ≤ 1000) (hl : s.length ≤ 64) (hi : InP (-m) m s) : ∃ a q p : Int, sumL s = a ∧ sumL (moBL m s) = q ∧ m * q = p ∧ (-64000 ≤ a ∧ a ≤ 64000) ∧ (-64000 ≤ p ∧ p ≤ 64000) ∧ wrap64 (m * q) = p ∧ IntKind.i64.wrap (m * q) = p ∧ sgV m s = a - p := by
  have h1 := sumL_b hi
  have h2 := sumL_b (moBL_in m s)
  have h3 : (s.length : Int) * m ≤ 64 * 1000 := Int.mul_le_mul (by omega) m2 (by omega) (by omega)
  rw [show (moBL m s).length = s.length from tab_len _ _] at h2
  have h4 := mul_in (a := m) (b := sumL (moBL m s)) (A := 1000) (B := 64) (by omega) m2 (by omega) (by omega) (by omega)
  refine ⟨_, _, _, rfl, rfl, rfl, by omega, by omega, IntWalk.wrap64_in _ (by omega), IntWalk.i64_in _ (by omega), rfl⟩


set_option maxHeartbeats 1000000 in
theorem spec_SumGap_is (m : Int) (v : Value) (s : List Int) (w : World) (hs : Sl w v s) :
    Calls Try.prog 12 #[.int .i64 m, v] w fun e w' => e = .returned (.tuple #[.int .i64 (sgI m s), .bool (sdB m s)]) ∧ Below w.heap.size w w' := by
  cases hq : sdB m s
  · have HS := hid hs
    have HR := hid (show sgI m s = 0 from by unfold sgI; rw [hq]; rfl)
    have HQ := hid hq
    clear hq hs
    go_enter Try.func12, Try.ntmps12
    go_wp2_with fail
    refine (spec_dmScaled_q m v s false _ HS.out HQ.out).mono ?_
    rintro e w' ⟨rfl, rfl⟩
    go_wp2_with fail
    go_ret2
    exact ⟨ret_ib' HR.out.symm rfl, Below.refl _ _⟩
  · obtain ⟨⟨m1, m2⟩, hsg, hin⟩ := sdB_t hq
    obtain ⟨a, q, p, h1, h2, hp, ⟨a1, a2⟩, ⟨p1, p2⟩, e1, e2, hv⟩ := sg_facts m1 m2 hsg.1 hin
    have HS := hid hs
    have HR := hid (show sgI m s = a - p from by unfold sgI; rw [hq]; exact hv)
    have HX := hid (sum_small hin (by omega) m2 hsg.1)
    have HML := hid (show (moBL m s).length ≤ 64 from by rw [moBL, tab_len]; exact hsg.1)
    have HY := hid (sum_small (moBL_in m s) (by omega) (by omega) HML.out)
    have HQ := hid hq
    have HG := hid hsg
    have HI := hid hin
    have H1 := hid h1
    have H2 := hid h2
    clear hq hs hsg hin h1 h2 hp hv
    go_enter Try.func12, Try.ntmps12
    go_wp2_with fail
    refine (spec_dmScaled_q m v s true _ HS.out HQ.out).mono ?_
    rintro e w' ⟨rfl, rfl⟩
    go_wp2_with fail
    refine (dmOne_any m v s _ HS.out (by have := HG.out.1; omega) HI.out m1 m2).mono ?_
    rintro e w1 ⟨u1, u2, rfl, hr1, hr2, hb⟩
    have HR1 := hid hr1
    have HB := hid hb
    clear hr1 hr2 hb
    go_wp2_with fail
    refine (wdSum_any v s _ (HS.out.kept HB.out) HG.out.1 HX.out.2.2).mono ?_
    rintro e w' ⟨rfl, rfl⟩
    rw [H1.out]
    go_wp2_with fail
    refine (wdSum_any _ _ _ HR1.out.sl HML.out HY.out.2.2).mono ?_
    rintro e w' ⟨rfl, rfl⟩
    rw [H2.out]
    go_wp2_with fail
    go_ret2
    exact ⟨ret_ib' HR.out.symm rfl, HB.out⟩


set_option maxHeartbeats 1000000 in
theorem impl_SumGap_is (m : Int) (v : Value) (s : List Int) (w : World) (hs : Sl w v s) :
    Calls Try.prog 11 #[.int .i64 m, v] w fun e w' => e = .returned (.tuple #[.int .i64 (sgI m s), .bool (sdB m s)]) ∧ Below w.heap.size w w' := by
  cases hq : sdB m s
  · have HS := hid hs
    have HR := hid (show sgI m s = 0 from by unfold sgI; rw [hq]; rfl)
    have HQ := hid hq
    clear hq hs
    go_enter Try.func11, Try.ntmps11
    go_wp2_with fail
    refine (impl_IsScaled_q m v s false _ HS.out HQ.out).mono ?_
    rintro e w' ⟨rfl, rfl⟩
    go_wp2_with fail
    go_ret2
    exact ⟨ret_ib' HR.out.symm rfl, Below.refl _ _⟩
  · obtain ⟨⟨m1, m2⟩, hsg, hin⟩ := sdB_t hq
    obtain ⟨a, q, p, h1, h2, hp, ⟨a1, a2⟩, ⟨p1, p2⟩, e1, e2, hv⟩ := sg_facts m1 m2 hsg.1 hin
    have HS := hid hs
    have HR := hid (show sgI m s = a - p from by unfold sgI; rw [hq]; exact hv)
    have HX := hid (sum_small hin (by omega) m2 hsg.1)
    have HML := hid (show (moBL m s).length ≤ 64 from by rw [moBL, tab_len]; exact hsg.1)
    have HY := hid (sum_small (moBL_in m s) (by omega) (by omega) HML.out)
    have HQ := hid hq
    have HG := hid hsg
    have HI := hid hin
    have H1 := hid h1
    have H2 := hid h2
    clear hq hs hsg hin h1 h2 hp hv
    go_enter Try.func11, Try.ntmps11
    go_wp2_with fail
    refine (impl_IsScaled_q m v s true _ HS.out HQ.out).mono ?_
    rintro e w' ⟨rfl, rfl⟩
    go_wp2_with fail
    refine (runOneBit_any m v s _ HS.out HG.out.1 HI.out m1 m2).mono ?_
    rintro e w1 ⟨u1, u2, rfl, hr1, hr2, hb⟩
    have HR1 := hid hr1
    have HB := hid hb
    clear hr1 hr2 hb
    go_wp2_with fail
    refine (Su.sumOf_any v s _ (HS.out.kept HB.out) (Nat.le_trans HG.out.1 (by omega)) HX.out.1 HX.out.2.1).mono ?_
    rintro e w' ⟨rfl, rfl⟩
    rw [H1.out]
    go_wp2_with fail
    refine (Su.sumOf_any _ _ _ HR1.out.sl (Nat.le_trans HML.out (by omega)) HY.out.1 HY.out.2.1).mono ?_
    rintro e w' ⟨rfl, rfl⟩
    rw [H2.out]
    go_wp2_with fail
    go_ret2
    exact ⟨ret_ib' HR.out.symm rfl, HB.out⟩


end Go.Proofs.Ytbhlailnefappaa
