
import Derived.Test.YtflhbpjmlhccpaaSg
namespace Go.Proofs.Ytflhbpjmlhccpaa
open Go.RowKit BitX Go.MemX

def enL : List Int → Int
  | [] => 0
  | x :: xs => x * x + enL xs
theorem enL_append (a b : List Int) : enL (a ++ b) = enL a + enL b := by
  induction a with
  | nil => simp [enL]
  | cons x a ih => simp only [List.cons_append, enL, ih]; omega
theorem enL_step (xs : List Int) (k : Nat) (x : Int) (h : xs[k]? = some x) : enL (xs.take (k + 1)) = enL (xs.take k) + x * x := by
  rw [take_step xs k x h, enL_append]; simp [enL]
theorem sq_bound {x : Int} (h1 : -100000 ≤ x) (h2 : x ≤ 100000) : 0 ≤ x * x ∧ x * x ≤ 10000000000 := by
  have h : (x * x).natAbs ≤ 100000 * 100000 := by rw [Int.natAbs_mul]; exact Nat.mul_le_mul (by omega) (by omega)
  have h3 : 0 ≤ x * x := by
    rcases Int.le_total 0 x with h | h
    · exact Int.mul_nonneg h h
    · exact Int.mul_nonneg_of_nonpos_of_nonpos h h
  omega
theorem enL_bound (xs : List Int) (h : InP (-100000) 100000 xs) : 0 ≤ enL xs ∧ enL xs ≤ xs.length * 10000000000 := by
  induction xs with
  | nil => simp [enL]
  | cons x xs ih =>
    have a := h x (by simp)
    have b := ih fun y hy => h y (by simp [hy])
    have c := sq_bound a.1 a.2
    simp only [enL, List.length_cons]
    omega
theorem sumL_bound (xs : List Int) (h : InP (-100000) 100000 xs) : -(xs.length * 100000 : Int) ≤ sumL xs ∧ sumL xs ≤ xs.length * 100000 := by
  induction xs with
  | nil => simp [sumL]
  | cons x xs ih =>
    have a := h x (by simp)
    have b := ih fun y hy => h y (by simp [hy])
    simp only [sumL, List.length_cons]
    omega
theorem InP.take {lo hi : Int} {xs : List Int} (h : InP lo hi xs) (k : Nat) : InP lo hi (xs.take k) := fun x hx => h x (List.mem_of_mem_take hx)
def pkL : List Int → Int
  | [] => 0
  | x :: xs => max (max x (-x)) (pkL xs)
theorem pkL_append (a : List Int) (x : Int) : pkL (a ++ [x]) = max (pkL a) (max x (-x)) := by
  induction a with
  | nil => simp [pkL]; omega
  | cons y a ih => simp only [List.cons_append, pkL, ih]; omega
theorem pkL_step (xs : List Int) (k : Nat) (x : Int) (h : xs[k]? = some x) : pkL (xs.take (k + 1)) = max (pkL (xs.take k)) (max x (-x)) := by
  rw [take_step xs k x h, pkL_append]
theorem pkL_bound (xs : List Int) (h : InP (-100000) 100000 xs) : 0 ≤ pkL xs ∧ pkL xs ≤ 100000 := by
  induction xs with
  | nil => simp [pkL]
  | cons x xs ih =>
    have a := h x (by simp)
    have b := ih fun y hy => h y (by simp [hy])
    simp only [pkL]
    omega

set_option maxHeartbeats 400000 in
theorem spec_IsSignal_yes (v : Value) (xs : List Int) (w : World) (hs : Sl w v xs) (h : SigP xs) :
    Calls Try.prog 9 #[v] w fun e w' => e = .returned (.bool true) ∧ w = w' := by
  have H := hid h
  clear h
  have HS := hid hs
  clear hs
  go_enter Try.func9, Try.ntmps9
  go_wp2_with fail
  refine (wdSignal_yes _ xs _ HS.out H.out).mono ?_
  rintro e w' ⟨rfl, rfl⟩
  go_wp2
  go_ret
  exact ⟨rfl, rfl⟩

set_option maxHeartbeats 400000 in
theorem spec_IsSignal_no (v : Value) (xs : List Int) (w : World) (hs : Sl w v xs) (h : ¬ SigP xs) :
    Calls Try.prog 9 #[v] w fun e w' => e = .returned (.bool false) ∧ w = w' := by
  have H := hid h
  clear h
  have HS := hid hs
  clear hs
  go_enter Try.func9, Try.ntmps9
  go_wp2_with fail
  refine (wdSignal_no _ xs _ HS.out H.out).mono ?_
  rintro e w' ⟨rfl, rfl⟩
  go_wp2
  go_ret
  exact ⟨rfl, rfl⟩

set_option maxHeartbeats 400000 in
theorem spec_SumOfSignal_no (v : Value) (xs : List Int) (w : World) (hs : Sl w v xs) (h : ¬ SigP xs) :
    Calls Try.prog 20 #[v] w fun e w' => e = .returned (.tuple #[.int .i64 0, .bool false]) ∧ w = w' := by
  have H := hid h
  clear h
  have HS := hid hs
  clear hs
  go_enter Try.func20, Try.ntmps20
  go_wp2_with fail
  refine (wdSignal_no _ xs _ HS.out H.out).mono ?_
  rintro e w' ⟨rfl, rfl⟩
  go_wp2
  go_ret2
  exact ⟨rfl, rfl⟩

set_option maxHeartbeats 400000 in
theorem impl_SumOfSignal_no (v : Value) (xs : List Int) (w : World) (hs : Sl w v xs) (h : ¬ SigP xs) :
    Calls Try.prog 21 #[v] w fun e w' => e = .returned (.tuple #[.int .i64 0, .bool false]) ∧ w = w' := by
  have H := hid h
  clear h
  have HS := hid hs
  clear hs
  go_enter Try.func21, Try.ntmps21
  go_wp2_with fail
  refine (impl_IsSignal_no _ xs _ HS.out H.out).mono ?_
  rintro e w' ⟨rfl, rfl⟩
  go_wp2
  go_ret2
  exact ⟨rfl, rfl⟩

set_option maxHeartbeats 400000 in
theorem spec_EnergyOf_no (v : Value) (xs : List Int) (w : World) (hs : Sl w v xs) (h : ¬ SigP xs) :
    Calls Try.prog 22 #[v] w fun e w' => e = .returned (.tuple #[.int .i64 0, .bool false]) ∧ w = w' := by
  have H := hid h
  clear h
  have HS := hid hs
  clear hs
  go_enter Try.func22, Try.ntmps22
  go_wp2_with fail
  refine (wdSignal_no _ xs _ HS.out H.out).mono ?_
  rintro e w' ⟨rfl, rfl⟩
  go_wp2
  go_ret2
  exact ⟨rfl, rfl⟩

set_option maxHeartbeats 400000 in
theorem impl_EnergyOf_no (v : Value) (xs : List Int) (w : World) (hs : Sl w v xs) (h : ¬ SigP xs) :
    Calls Try.prog 23 #[v] w fun e w' => e = .returned (.tuple #[.int .i64 0, .bool false]) ∧ w = w' := by
  have H := hid h
  clear h
  have HS := hid hs
  clear hs
  go_enter Try.func23, Try.ntmps23
  go_wp2_with fail
  refine (impl_IsSignal_no _ xs _ HS.out H.out).mono ?_
  rintro e w' ⟨rfl, rfl⟩
  go_wp2
  go_ret2
  exact ⟨rfl, rfl⟩

set_option maxHeartbeats 400000 in
theorem spec_PeakOf_no (v : Value) (xs : List Int) (w : World) (hs : Sl w v xs) (h : ¬ SigP xs) :
    Calls Try.prog 24 #[v] w fun e w' => e = .returned (.tuple #[.int .i64 0, .bool false]) ∧ w = w' := by
  have H := hid h
  clear h
  have HS := hid hs
  clear hs
  go_enter Try.func24, Try.ntmps24
  go_wp2_with fail
  refine (wdSignal_no _ xs _ HS.out H.out).mono ?_
  rintro e w' ⟨rfl, rfl⟩
  go_wp2
  go_ret2
  exact ⟨rfl, rfl⟩

set_option maxHeartbeats 400000 in
theorem impl_PeakOf_no (v : Value) (xs : List Int) (w : World) (hs : Sl w v xs) (h : ¬ SigP xs) :
    Calls Try.prog 25 #[v] w fun e w' => e = .returned (.tuple #[.int .i64 0, .bool false]) ∧ w = w' := by
  have H := hid h
  clear h
  have HS := hid hs
  clear hs
  go_enter Try.func25, Try.ntmps25
  go_wp2_with fail
  refine (impl_IsSignal_no _ xs _ HS.out H.out).mono ?_
  rintro e w' ⟨rfl, rfl⟩
  go_wp2
  go_ret2
  exact ⟨rfl, rfl⟩

set_option maxHeartbeats 400000 in
theorem wdSum_any (v : Value) (xs : List Int) (w : World) (hs : Sl w v xs) (hl : xs.length ≤ 64) (hi : InP (-100000) 100000 xs) :
    Calls Try.prog 34 #[v] w fun e w' => e = .returned (.int .i64 (sumL xs)) ∧ w = w' := by
  have HI := hid hi
  clear hi
  have hs' := hs
  rcases hs with ⟨rfl, a, cap, rfl⟩ | ⟨b, off, n, cap, rfl, hn, h0, hc, hlt, hcell⟩
  · have HS := hid hs'
    have hl0 := hl
    clear hs' hl
    go_enter Try.func34, Try.ntmps34
    go_wp2_with fail
    refine wp_loop_rounds 1 ?_
    rw [rounds_succ]
    go_wp2
    go_ret
    exact ⟨rfl, rfl⟩
  · have HS := hid hs'
    have Hn := hid hn
    have Hcell := hid hcell
    have hl' : n ≤ 64 := by omega
    clear hs' hn hcell hl hlt
    go_enter Try.func34, Try.ntmps34
    go_wp2_with fail
    go_loop [3, 8] (fun s i => ∃ k : Nat, k ≤ n ∧ i = .int .i64 k ∧ s = .int .i64 (sumL (xs.take k)))
      (fun _ i => n - (intOf i).toNat)
    case atStart => exact ⟨0, by omega, rfl, rfl⟩
    case round =>
      obtain ⟨k, hk, rfl, rfl⟩ := hrel
      by_cases hlk : k < n
      · obtain ⟨x, hkx⟩ := get_lt xs k (by rw [← Hn.out]; exact hlk)
        have hce := Hcell.out k x hkx
        obtain ⟨x1, x2⟩ := HI.out.at hkx
        have hbd := sumL_bound (xs.take k) (HI.out.take k)
        have hst := sumL_step xs k x hkx
        have Hst := hid hst
        have hlt2 : (xs.take k).length ≤ 64 := by simp; omega
        clear hkx hst
        obtain ⟨hbd1, hbd2⟩ := hbd
        generalize hs0 : sumL (xs.take k) = s at hbd1 hbd2 ⊢
        have Hs0 := hid hs0
        clear hs0
        go_wp2
        go_round
        case rel => exact ⟨k + 1, by omega, by go_num, by rw [Hst.out, Hs0.out]⟩
        case measure => simp [intOf]; omega
      · have hge : (n : Int) ≤ (k : Int) := by omega
        have hkn : k = xs.length := by rw [← Hn.out]; omega
        have Hk := hid hkn
        have hfin : sumL (xs.take k) = sumL xs := by rw [hkn, List.take_length]
        have Hfin := hid hfin
        clear hkn hlk hfin
        go_wp2
        go_ret
        exact ⟨by rw [← Hfin.out]; rfl, rfl⟩

set_option maxHeartbeats 400000 in
theorem spec_EnergyOf_yes (v : Value) (xs : List Int) (w : World) (hs : Sl w v xs) (hl : xs.length ≤ 64) (hi : InP (-100000) 100000 xs) :
    Calls Try.prog 22 #[v] w fun e w' => e = .returned (.tuple #[.int .i64 (enL xs), .bool true]) ∧ w = w' := by
  have HI := hid hi
  have H := hid (show SigP xs from ⟨hl, hi⟩)
  clear hi
  have hs' := hs
  rcases hs with ⟨rfl, a, cap, rfl⟩ | ⟨b, off, n, cap, rfl, hn, h0, hc, hlt, hcell⟩
  · have HS := hid hs'
    have hl0 := hl
    clear hs' hl
    go_enter Try.func22, Try.ntmps22
    go_wp2_with fail
    refine (wdSignal_yes _ [] _ HS.out H.out).mono ?_
    rintro e w' ⟨rfl, rfl⟩
    go_wp2_with fail
    refine wp_loop_rounds 1 ?_
    rw [rounds_succ]
    go_wp2
    go_ret2
    exact ⟨rfl, rfl⟩
  · have HS := hid hs'
    have Hn := hid hn
    have Hcell := hid hcell
    have hl' : n ≤ 64 := by omega
    clear hs' hn hcell hl hlt
    go_enter Try.func22, Try.ntmps22
    go_wp2_with fail
    refine (wdSignal_yes _ xs _ HS.out H.out).mono ?_
    rintro e w' ⟨rfl, rfl⟩
    go_wp2_with fail
    go_loop [4, 12] (fun s i => ∃ k : Nat, k ≤ n ∧ i = .int .i64 k ∧ s = .int .i64 (enL (xs.take k)))
      (fun _ i => n - (intOf i).toNat)
    case atStart => exact ⟨0, by omega, rfl, rfl⟩
    case round =>
      obtain ⟨k, hk, rfl, rfl⟩ := hrel
      by_cases hlk : k < n
      · obtain ⟨x, hkx⟩ := get_lt xs k (by rw [← Hn.out]; exact hlk)
        have hce := Hcell.out k x hkx
        obtain ⟨x1, x2⟩ := HI.out.at hkx
        have hbd := enL_bound (xs.take k) (HI.out.take k)
        have hsq := sq_bound x1 x2
        have hst := enL_step xs k x hkx
        have Hst := hid hst
        have hlt2 : (xs.take k).length ≤ 64 := by simp; omega
        clear hkx hst
        obtain ⟨hbd1, hbd2⟩ := hbd
        generalize hs0 : enL (xs.take k) = s at hbd1 hbd2 ⊢
        have Hs0 := hid hs0
        clear hs0
        go_wp2
        go_round
        case rel => exact ⟨k + 1, by omega, by go_num, by rw [Hst.out, Hs0.out]⟩
        case measure => simp [intOf]; omega
      · have hge : (n : Int) ≤ (k : Int) := by omega
        have hkn : k = xs.length := by rw [← Hn.out]; omega
        have Hk := hid hkn
        have hfin : enL (xs.take k) = enL xs := by rw [hkn, List.take_length]
        have Hfin := hid hfin
        clear hkn hlk hfin
        go_wp2
        go_ret2
        exact ⟨by rw [← Hfin.out]; rfl, rfl⟩

set_option maxHeartbeats 400000 in
theorem impl_EnergyOf_yes (v : Value) (xs : List Int) (w : World) (hs : Sl w v xs) (hl : xs.length ≤ 64) (hi : InP (-100000) 100000 xs) :
    Calls Try.prog 23 #[v] w fun e w' => e = .returned (.tuple #[.int .i64 (enL xs), .bool true]) ∧ w = w' := by
  have HI := hid hi
  have H := hid (show SigP xs from ⟨hl, hi⟩)
  clear hi
  have hs' := hs
  rcases hs with ⟨rfl, a, cap, rfl⟩ | ⟨b, off, n, cap, rfl, hn, h0, hc, hlt, hcell⟩
  · have HS := hid hs'
    have hl0 := hl
    clear hs' hl
    go_enter Try.func23, Try.ntmps23
    go_wp2_with fail
    refine (impl_IsSignal_yes _ [] _ HS.out (Nat.le_trans H.out.1 (by omega)) H.out).mono ?_
    rintro e w' ⟨rfl, rfl⟩
    go_wp2_with fail
    refine wp_loop_rounds 1 ?_
    rw [rounds_succ]
    go_wp2
    go_ret2
    exact ⟨rfl, rfl⟩
  · have HS := hid hs'
    have Hn := hid hn
    have Hcell := hid hcell
    have hl' : n ≤ 64 := by omega
    clear hs' hn hcell hl hlt
    go_enter Try.func23, Try.ntmps23
    go_wp2_with fail
    refine (impl_IsSignal_yes _ xs _ HS.out (Nat.le_trans H.out.1 (by omega)) H.out).mono ?_
    rintro e w' ⟨rfl, rfl⟩
    go_wp2_with fail
    go_loop [4, 12] (fun s i => ∃ k : Nat, k ≤ n ∧ i = .int .i64 k ∧ s = .int .i64 (enL (xs.take k)))
      (fun _ i => n - (intOf i).toNat)
    case atStart => exact ⟨0, by omega, rfl, rfl⟩
    case round =>
      obtain ⟨k, hk, rfl, rfl⟩ := hrel
      by_cases hlk : k < n
      · obtain ⟨x, hkx⟩ := get_lt xs k (by rw [← Hn.out]; exact hlk)
        have hce := Hcell.out k x hkx
        obtain ⟨x1, x2⟩ := HI.out.at hkx
        have hbd := enL_bound (xs.take k) (HI.out.take k)
        have hsq := sq_bound x1 x2
        have hst := enL_step xs k x hkx
        have Hst := hid hst
        have hlt2 : (xs.take k).length ≤ 64 := by simp; omega
        clear hkx hst
        obtain ⟨hbd1, hbd2⟩ := hbd
        generalize hs0 : enL (xs.take k) = s at hbd1 hbd2 ⊢
        have Hs0 := hid hs0
        clear hs0
        go_wp2
        go_round
        case rel => exact ⟨k + 1, by omega, by go_num, by rw [Hst.out, Hs0.out]⟩
        case measure => simp [intOf]; omega
      · have hge : (n : Int) ≤ (k : Int) := by omega
        have hkn : k = xs.length := by rw [← Hn.out]; omega
        have Hk := hid hkn
        have hfin : enL (xs.take k) = enL xs := by rw [hkn, List.take_length]
        have Hfin := hid hfin
        clear hkn hlk hfin
        go_wp2
        go_ret2
        exact ⟨by rw [← Hfin.out]; rfl, rfl⟩

set_option maxHeartbeats 400000 in
theorem l1Abs_any (x : Int) (w : World) (x1 : -100000 ≤ x) (x2 : x ≤ 100000) :
    Calls Try.prog 48 #[.int .i64 x] w fun e w' => e = .returned (.int .i64 (max x (-x))) ∧ w = w' := by
  have hf : mostI x (-x) = max x (-x) := by unfold mostI; split <;> omega
  have HF := hid hf
  clear hf
  go_enter Try.func48, Try.ntmps48
  go_wp2_with fail
  refine (l1Most_any _ _ _).mono ?_
  rintro e w' ⟨rfl, rfl⟩
  go_wp2
  go_ret
  exact ⟨by rw [← HF.out]; rfl, rfl⟩

theorem max3 (s x : Int) : max s (max x (-x)) = if (if s < x then x else s) < -x then -x else if s < x then x else s := by
  split <;> split at * <;> omega
theorem most_max (a b : Int) : mostI a b = max a b := by unfold mostI; split <;> omega

set_option maxHeartbeats 400000 in
theorem wdPeak_any (v : Value) (xs : List Int) (w : World) (hs : Sl w v xs) (hl : xs.length ≤ 64) (hi : InP (-100000) 100000 xs) :
    Calls Try.prog 36 #[v] w fun e w' => e = .returned (.int .i64 (pkL xs)) ∧ w = w' := by
  have HI := hid hi
  clear hi
  have hs' := hs
  rcases hs with ⟨rfl, a, cap, rfl⟩ | ⟨b, off, n, cap, rfl, hn, h0, hc, hlt, hcell⟩
  · have HS := hid hs'
    have hl0 := hl
    clear hs' hl
    go_enter Try.func36, Try.ntmps36
    go_wp2_with fail
    refine wp_loop_rounds 1 ?_
    rw [rounds_succ]
    go_wp2
    go_ret
    exact ⟨rfl, rfl⟩
  · have HS := hid hs'
    have Hn := hid hn
    have Hcell := hid hcell
    have hl' : n ≤ 64 := by omega
    clear hs' hn hcell hl hlt
    go_enter Try.func36, Try.ntmps36
    go_wp2_with fail
    go_loop [3, 8] (fun s i => ∃ k : Nat, k ≤ n ∧ i = .int .i64 k ∧ s = .int .i64 (pkL (xs.take k)))
      (fun _ i => n - (intOf i).toNat)
    case atStart => exact ⟨0, by omega, rfl, rfl⟩
    case round =>
      obtain ⟨k, hk, rfl, rfl⟩ := hrel
      by_cases hlk : k < n
      · obtain ⟨x, hkx⟩ := get_lt xs k (by rw [← Hn.out]; exact hlk)
        have hce := Hcell.out k x hkx
        obtain ⟨x1, x2⟩ := HI.out.at hkx
        have hbd := pkL_bound (xs.take k) (HI.out.take k)
        have hst := pkL_step xs k x hkx
        have Hst := hid hst
        have hlt2 : (xs.take k).length ≤ 64 := by simp; omega
        clear hkx hst
        obtain ⟨hbd1, hbd2⟩ := hbd
        generalize hs0 : pkL (xs.take k) = s at hbd1 hbd2 ⊢
        have Hs0 := hid hs0
        clear hs0
        go_wp2_with (first | (go_at_call 48; refine (l1Abs_any _ _ x1 x2).mono ?_; rintro e w' ⟨rfl, rfl⟩) | (go_at_call 47; refine (l1Most_any _ _ _).mono ?_; rintro e w' ⟨rfl, rfl⟩))
        go_round
        case rel => exact ⟨k + 1, by omega, by go_num, by rw [Hst.out, Hs0.out, most_max]⟩
        case measure => simp [intOf]; omega
      · have hge : (n : Int) ≤ (k : Int) := by omega
        have hkn : k = xs.length := by rw [← Hn.out]; omega
        have Hk := hid hkn
        have hfin : pkL (xs.take k) = pkL xs := by rw [hkn, List.take_length]
        have Hfin := hid hfin
        clear hkn hlk hfin
        go_wp2
        go_ret
        exact ⟨by rw [← Hfin.out]; rfl, rfl⟩

set_option maxHeartbeats 400000 in
theorem impl_PeakOf_yes (v : Value) (xs : List Int) (w : World) (hs : Sl w v xs) (hl : xs.length ≤ 64) (hi : InP (-100000) 100000 xs) :
    Calls Try.prog 25 #[v] w fun e w' => e = .returned (.tuple #[.int .i64 (pkL xs), .bool true]) ∧ w = w' := by
  have HI := hid hi
  have H := hid (show SigP xs from ⟨hl, hi⟩)
  clear hi
  have hs' := hs
  rcases hs with ⟨rfl, a, cap, rfl⟩ | ⟨b, off, n, cap, rfl, hn, h0, hc, hlt, hcell⟩
  · have HS := hid hs'
    have hl0 := hl
    clear hs' hl
    go_enter Try.func25, Try.ntmps25
    go_wp2_with fail
    refine (impl_IsSignal_yes _ [] _ HS.out (Nat.le_trans H.out.1 (by omega)) H.out).mono ?_
    rintro e w' ⟨rfl, rfl⟩
    go_wp2_with fail
    refine wp_loop_rounds 1 ?_
    rw [rounds_succ]
    go_wp2
    go_ret2
    exact ⟨rfl, rfl⟩
  · have HS := hid hs'
    have Hn := hid hn
    have Hcell := hid hcell
    have hl' : n ≤ 64 := by omega
    clear hs' hn hcell hl hlt
    go_enter Try.func25, Try.ntmps25
    go_wp2_with fail
    refine (impl_IsSignal_yes _ xs _ HS.out (Nat.le_trans H.out.1 (by omega)) H.out).mono ?_
    rintro e w' ⟨rfl, rfl⟩
    go_wp2_with fail
    go_loop [4, 12] (fun s i => ∃ k : Nat, k ≤ n ∧ i = .int .i64 k ∧ s = .int .i64 (pkL (xs.take k)))
      (fun _ i => n - (intOf i).toNat)
    case atStart => exact ⟨0, by omega, rfl, rfl⟩
    case round =>
      obtain ⟨k, hk, rfl, rfl⟩ := hrel
      by_cases hlk : k < n
      · obtain ⟨x, hkx⟩ := get_lt xs k (by rw [← Hn.out]; exact hlk)
        have hce := Hcell.out k x hkx
        obtain ⟨x1, x2⟩ := HI.out.at hkx
        have hbd := pkL_bound (xs.take k) (HI.out.take k)
        have hst := pkL_step xs k x hkx
        have Hst := hid hst
        have hlt2 : (xs.take k).length ≤ 64 := by simp; omega
        clear hkx hst
        obtain ⟨hbd1, hbd2⟩ := hbd
        generalize hs0 : pkL (xs.take k) = s at hbd1 hbd2 ⊢
        have Hs0 := hid hs0
        clear hs0
        go_wp2
        go_round
        case rel => exact ⟨k + 1, by omega, by go_num, by rw [Hst.out, Hs0.out, max3]⟩
        case measure => simp [intOf]; omega
      · have hge : (n : Int) ≤ (k : Int) := by omega
        have hkn : k = xs.length := by rw [← Hn.out]; omega
        have Hk := hid hkn
        have hfin : pkL (xs.take k) = pkL xs := by rw [hkn, List.take_length]
        have Hfin := hid hfin
        clear hkn hlk hfin
        go_wp2
        go_ret2
        exact ⟨by rw [← Hfin.out]; rfl, rfl⟩

set_option maxHeartbeats 400000 in
theorem spec_SumOfSignal_yes (v : Value) (xs : List Int) (w : World) (hs : Sl w v xs) (h : SigP xs) :
    Calls Try.prog 20 #[v] w fun e w' => e = .returned (.tuple #[.int .i64 (sumL xs), .bool true]) ∧ w = w' := by
  have HS := hid hs
  clear hs
  have H := hid h
  clear h
  go_enter Try.func20, Try.ntmps20
  go_wp2_with fail
  refine (wdSignal_yes _ xs _ HS.out H.out).mono ?_
  rintro e w' ⟨rfl, rfl⟩
  go_wp2_with fail
  refine (wdSum_any _ xs _ HS.out H.out.1 H.out.2).mono ?_
  rintro e w' ⟨rfl, rfl⟩
  go_wp2
  go_ret2
  exact ⟨rfl, rfl⟩

set_option maxHeartbeats 400000 in
theorem spec_PeakOf_yes (v : Value) (xs : List Int) (w : World) (hs : Sl w v xs) (h : SigP xs) :
    Calls Try.prog 24 #[v] w fun e w' => e = .returned (.tuple #[.int .i64 (pkL xs), .bool true]) ∧ w = w' := by
  have HS := hid hs
  clear hs
  have H := hid h
  clear h
  go_enter Try.func24, Try.ntmps24
  go_wp2_with fail
  refine (wdSignal_yes _ xs _ HS.out H.out).mono ?_
  rintro e w' ⟨rfl, rfl⟩
  go_wp2_with fail
  refine (wdPeak_any _ xs _ HS.out H.out.1 H.out.2).mono ?_
  rintro e w' ⟨rfl, rfl⟩
  go_wp2
  go_ret2
  exact ⟨rfl, rfl⟩

set_option maxHeartbeats 400000 in
theorem impl_SumOfSignal_yes (v : Value) (xs : List Int) (w : World) (hs : Sl w v xs) (h : SigP xs) :
    Calls Try.prog 21 #[v] w fun e w' => e = .returned (.tuple #[.int .i64 (sumL xs), .bool true]) ∧ w = w' := by
  have HS := hid hs
  clear hs
  have H := hid h
  clear h
  go_enter Try.func21, Try.ntmps21
  go_wp2_with fail
  refine (impl_IsSignal_yes _ xs _ HS.out (Nat.le_trans H.out.1 (by omega)) H.out).mono ?_
  rintro e w' ⟨rfl, rfl⟩
  go_wp2_with fail
  refine (Su.sumOf_any _ xs _ HS.out (Nat.le_trans H.out.1 (by omega)) ?_ ?_).mono ?_
  · intro k hk
    have := sumL_bound (xs.take k) (H.out.2.take k)
    have h3 : (xs.take k).length ≤ 64 := Nat.le_trans (by simp; omega) H.out.1
    omega
  · intro x hx
    have := H.out.2 x hx
    omega
  rintro e w' ⟨rfl, rfl⟩
  go_wp2
  go_ret2
  exact ⟨rfl, rfl⟩
end Go.Proofs.Ytflhbpjmlhccpaa
