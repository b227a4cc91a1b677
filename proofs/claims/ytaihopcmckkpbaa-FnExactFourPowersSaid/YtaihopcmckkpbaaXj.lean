
import Derived.Test.YtaihopcmckkpbaaXi
import Derived.Deep.RegionHeld3
namespace Go.Proofs.Ytaihopcmckkpbaa
open Go.RowKit BitX Go.MemX Go.Ch6 Go.Ch9 FltX
set_option linter.unusedVariables false
theorem sig_at0 {s : List Int} (h : SigP s) (i : Nat) : -100000 ≤ at0 s i ∧ at0 s i ≤ 100000 := by
  by_cases hi : i < s.length
  · obtain ⟨x, hx⟩ := get_lt s i hi
    rw [at0_of hx]; exact h.2 x (List.mem_of_getElem? hx)
  · rw [at0_out (by omega)]; omega
theorem fwith_any (re im : Nat) (x y n : Int) (j : Nat) (w : World) (hj : j < 4) (hre : RepE Ieee.double re x 0) (him : RepE Ieee.double im y 0) (x1 : -7000000 ≤ x) (x2 : x ≤ 7000000) (y1 : -7000000 ≤ y) (y2 : y ≤ 7000000) (n1 : -100000 ≤ n) (n2 : n ≤ 100000) :
    Calls Try.prog 58 #[.complex .f64 re im, .int .i64 n, .int .i64 (j : Int)] w fun e w' => (∃ re' im', e = .returned (.iface 56 (.complex .f64 re' im')) ∧ RepE Ieee.double re' (x + n * t4X j) 0 ∧ RepE Ieee.double im' (y + n * t4Y j) 0) ∧ Below w.heap.size w w' := by
  match j, hj with
  | 0, _ => exact fwith_0 re im x y n w hre him x1 x2 y1 y2 n1 n2
  | 1, _ => exact fwith_1 re im x y n w hre him x1 x2 y1 y2 n1 n2
  | 2, _ => exact fwith_2 re im x y n w hre him x1 x2 y1 y2 n1 n2
  | 3, _ => exact fwith_3 re im x y n w hre him x1 x2 y1 y2 n1 n2
theorem swith_any (x y n : Int) (j : Nat) (w : World) (hj : j < 6) (x1 : -7000000 ≤ x) (x2 : x ≤ 7000000) (y1 : -7000000 ≤ y) (y2 : y ≤ 7000000) (n1 : -100000 ≤ n) (n2 : n ≤ 100000) :
    Calls Try.prog 62 #[.agg #[.int .i64 x, .int .i64 y], .int .i64 n, .int .i64 (j : Int)] w fun e w' => e = .returned (.iface 58 (.agg #[.int .i64 (x + n * t6X j), .int .i64 (y + n * t6Y j)])) ∧ Below w.heap.size w w' := by
  match j, hj with
  | 0, _ => exact swith_0 x y n w x1 x2 y1 y2 n1 n2
  | 1, _ => exact swith_1 x y n w x1 x2 y1 y2 n1 n2
  | 2, _ => exact swith_2 x y n w x1 x2 y1 y2 n1 n2
  | 3, _ => exact swith_3 x y n w x1 x2 y1 y2 n1 n2
  | 4, _ => exact swith_4 x y n w x1 x2 y1 y2 n1 n2
  | 5, _ => exact swith_5 x y n w x1 x2 y1 y2 n1 n2
theorem silence_4 (w : World) : Calls Try.prog 39 #[.int .i64 4] w fun e w' => e = .returned (.iface 56 (.complex .f64 0 0)) ∧ w = w' := by
  go_enter Try.func39, Try.ntmps39
  go_wp2
  go_ret
  exact ⟨rfl, rfl⟩
theorem silence_6 (w : World) : Calls Try.prog 39 #[.int .i64 6] w fun e w' => e = .returned (.iface 58 (.agg #[.int .i64 0, .int .i64 0])) ∧ w = w' := by
  go_enter Try.func39, Try.ntmps39
  go_wp2
  go_ret
  exact ⟨rfl, rfl⟩
theorem na4 (re im : Nat) (w : World) : (nilAhead 178 56 (.complex .f64 re im) "loop.example/g01198/impl.with").run Try.prog w = .ok (some false) w := by kernel_rfl
theorem na6 (x y : Int) (w : World) : (nilAhead 178 58 (.agg #[.int .i64 x, .int .i64 y]) "loop.example/g01198/impl.with").run Try.prog w = .ok (some false) w := by kernel_rfl
theorem me4 (re im : Nat) (w : World) : (method 178 56 (.complex .f64 re im) "loop.example/g01198/impl.with").run Try.prog w = .ok (58, .complex .f64 re im) w := by kernel_rfl
theorem me6 (x y : Int) (w : World) : (method 178 58 (.agg #[.int .i64 x, .int .i64 y]) "loop.example/g01198/impl.with").run Try.prog w = .ok (62, .agg #[.int .i64 x, .int .i64 y]) w := by kernel_rfl
def toneB (k : Int) (p : Int) : Bool := decide ((p = 4 ∨ p = 6) ∧ 0 ≤ k ∧ k < p)
theorem tone_t {k p : Int} (h : toneB k p = true) : (p = 4 ∨ p = 6) ∧ 0 ≤ k ∧ k < p := of_decide_eq_true h
set_option maxHeartbeats 400000 in
theorem hasTones_is (p : Int) (b : Bool) (w : World) (h : decide (p = 4 ∨ p = 6) = b) : Calls Try.prog 37 #[.int .i64 p] w fun e w' => e = .returned (.bool (b)) ∧ w = w' := by
  by_cases h4 : p = 4
  · subst h4
    obtain rfl : b = true := h.symm
    clear h
    go_enter Try.func37, Try.ntmps37
    go_wp2
    go_ret
    exact ⟨rfl, rfl⟩
  · by_cases h6 : p = 6
    · subst h6
      obtain rfl : b = true := h.symm
      clear h h4
      go_enter Try.func37, Try.ntmps37
      go_wp2
      go_ret
      exact ⟨rfl, rfl⟩
    · obtain rfl : b = false := by rw [← h]; exact decide_eq_false (by omega)
      have q4 : (p == 4) = false := by rw [beq_eq_false_iff_ne]; exact h4
      have q6 : (p == 6) = false := by rw [beq_eq_false_iff_ne]; exact h6
      clear h h4 h6
      go_enter Try.func37, Try.ntmps37
      go_wp2
      go_ret
      exact ⟨by first | rfl | simp [q4, q6], rfl⟩
set_option maxHeartbeats 400000 in
theorem isTone_is (k p : Int) (b : Bool) (w : World) (h : toneB k p = b) : Calls Try.prog 34 #[.int .i64 k, .int .i64 p] w fun e w' => e = .returned (.bool (b)) ∧ w = w' := by
  cases hp : decide (p = 4 ∨ p = 6)
  · have HP := hid hp
    obtain rfl : b = false := by rw [← h]; exact decide_eq_false fun hh => of_decide_eq_false hp hh.1
    clear hp h
    go_enter Try.func34, Try.ntmps34
    go_wp2_with fail
    refine (hasTones_is p false _ HP.out).mono ?_
    rintro e w' ⟨rfl, rfl⟩
    go_wp2
    go_ret
    exact ⟨rfl, rfl⟩
  · have HP := hid hp
    have hh := of_decide_eq_true hp
    by_cases h0 : 0 ≤ k
    · by_cases h1 : k < p
      · obtain rfl : b = true := by rw [← h]; exact decide_eq_true ⟨hh, h0, h1⟩
        clear hp h hh
        go_enter Try.func34, Try.ntmps34
        go_wp2_with fail
        refine (hasTones_is p true _ HP.out).mono ?_
        rintro e w' ⟨rfl, rfl⟩
        go_wp2
        go_ret
        exact ⟨by first | rfl | exact ret_b (decide_eq_true (by omega)), rfl⟩
      · obtain rfl : b = false := by rw [← h]; exact decide_eq_false fun q => h1 q.2.2
        have h2 : p ≤ k := by omega
        clear hp h hh h1
        go_enter Try.func34, Try.ntmps34
        go_wp2_with fail
        refine (hasTones_is p true _ HP.out).mono ?_
        rintro e w' ⟨rfl, rfl⟩
        go_wp2
        go_ret
        exact ⟨by first | rfl | exact ret_b (decide_eq_false (by omega)), rfl⟩
    · obtain rfl : b = false := by rw [← h]; exact decide_eq_false fun q => h0 q.2.1
      have h2 : k < 0 := by omega
      clear hp h hh h0
      go_enter Try.func34, Try.ntmps34
      go_wp2_with fail
      refine (hasTones_is p true _ HP.out).mono ?_
      rintro e w' ⟨rfl, rfl⟩
      go_wp2
      go_ret
      exact ⟨by first | rfl | exact ret_b (decide_eq_false (by omega)), rfl⟩


set_option maxHeartbeats 2000000 in
theorem toneOf_4 (v : Value) (s : List Int) (K : Nat) (w : World) (hs : Sl w v s) (hg : SigP s) (hK : K < 4) :
    Calls Try.prog 35 #[v, .int .i64 (K : Int), .int .i64 4] w fun e w' => (∃ re im, e = .returned (.iface 56 (.complex .f64 re im)) ∧ RepE Ieee.double re (toX s 4 K s.length) 0 ∧ RepE Ieee.double im (toY s 4 K s.length) 0) ∧ Below w.heap.size w w' := by
  obtain ⟨a, n, cap, rfl, hn, hrd⟩ := hs.rd
  have Hn := hid hn
  have Hrd := hid hrd
  have hl' : n ≤ 64 := by rw [hn]; exact hg.1
  have HS := hid (sig_at0 hg)
  clear hs hn hrd hg
  go_enter Try.func35, Try.ntmps35
  go_wp2_with fail
  refine (silence_4 _).mono ?_
  rintro e w' ⟨rfl, rfl⟩
  go_wp2_with fail
  go_loopw [7, 14] (fun t i wr => ∃ k : Nat, k ≤ n ∧ i = .int .i64 k ∧ (∃ re im, t = .iface 56 (.complex .f64 re im) ∧ RepE Ieee.double re (toX s 4 K k) 0 ∧ RepE Ieee.double im (toY s 4 K k) 0) ∧ Below w.heap.size w wr)
    (fun _ i _ => n - (intOf i).toNat)
  case atStart => exact ⟨0, by omega, rfl, ⟨0, 0, rfl, rep_0, rep_0⟩, Below.refl _ _⟩
  case round =>
    obtain ⟨k, hk, rfl, ⟨re, im, rfl, r1, r2⟩, hb⟩ := hrel
    have hsz : w.heap.size ≤ wr.heap.size := hb.size
    by_cases hlk : k < n
    · obtain ⟨x, hkx⟩ := get_lt s k (by rw [← Hn.out]; exact hlk)
      obtain ⟨bb, oo, hix, hbb, hce⟩ := (Hrd.out.kept hb).at (P := Try.prog) (T := 22) n cap uslice sone hkx hlk
      obtain ⟨⟨X1, X2⟩, ⟨Y1, Y2⟩⟩ := to_in HS.out 4 K k
      obtain ⟨x1, x2⟩ := HS.out k
      have hst := And.intro (toX_succ s 4 K k) (toY_succ s 4 K k)
      rw [at0_of hkx] at x1 x2 hst
      obtain ⟨m, hm⟩ : ∃ m, m = (4 - K) * k := ⟨_, rfl⟩
      obtain ⟨j, hj0⟩ : ∃ j, j = m % 4 := ⟨_, rfl⟩
      have hj : j < 4 := by rw [hj0]; exact Nat.mod_lt _ (by omega)
      have hux : tuX 4 ((4 - K) * k) = t4X j := by rw [← hm, hj0]; rfl
      have huy : tuY 4 ((4 - K) * k) = t4Y j := by rw [← hm, hj0]; rfl
      rw [hux, huy] at hst
      have hm4 : m ≤ 400 := by rw [hm]; exact Nat.le_trans (Nat.mul_le_mul (show 4 - K ≤ 4 by omega) (show k ≤ 64 by omega)) (by omega)
      have hmi : ((4 : Int) - (K : Int)) * (k : Int) = (m : Int) := by rw [hm, show ((4 : Int) - (K : Int)) = ((4 - K : Nat) : Int) from by omega]; exact (Int.natCast_mul _ _).symm
      have e1 : ∀ [Inhabited Unit], IntKind.i64.wrap (((4 : Int) - (K : Int)) * (k : Int)) = (m : Int) := by rw [hmi]; exact IntWalk.i64_in _ (by clear hm hmi hj0; omega)
      have e1b : ∀ [Inhabited Unit], IntKind.i64.wrap ((4 : Int) - (K : Int)) = (4 : Int) - (K : Int) := IntWalk.i64_in _ (by clear hm hmi hj0; omega)
      have e2 : ∀ [Inhabited Unit], (m : Int).tmod 4 = (j : Int) := by rw [hj0]; exact (Int.tmod_eq_emod_of_nonneg (by omega)).trans rfl
      have e3 : ∀ [Inhabited Unit], IntKind.i64.wrap (j : Int) = (j : Int) := IntWalk.i64_in _ (by clear hm hmi hj0; omega)
      generalize toX s 4 K k = X at *
      generalize toY s 4 K k = Y at *
      have Hst := hid hst
      clear hkx hst hux huy hm hmi hj0
      have R12 := hid (And.intro r1 r2)
      clear r1 r2

      have na := na4
      have me := me4
      go_wp2_with fail
      go_region_with (go_at_call 58; refine (fwith_any re im X Y x j _ hj R12.out.1 R12.out.2 (by omega) (by omega) (by omega) (by omega) x1 x2).mono ?_; rintro e w2 ⟨⟨re', im', rfl, r1, r2⟩, hb2⟩; have R3 := hid (And.intro r1 r2); clear r1 r2; have hB := hb.trans ((bel_undrew hb2).mono hsz))
      all_goals go_wp2
      all_goals go_roundw
      case rel => exact ⟨k + 1, by omega, by go_num, ⟨re', im', rfl, by rw [Hst.out.1]; exact R3.out.1, by rw [Hst.out.2]; exact R3.out.2⟩, hB⟩
      case measure => simp [intOf]; omega
    · have hge : (n : Int) ≤ (k : Int) := by omega
      have hkn : k = s.length := by rw [← Hn.out]; omega
      have Hk := hid hkn
      clear hkn hlk
      go_wp2
      go_ret
      exact ⟨⟨re, im, rfl, by rw [← Hk.out]; exact r1, by rw [← Hk.out]; exact r2⟩, hb⟩


set_option maxHeartbeats 2000000 in
theorem toneOf_6 (v : Value) (s : List Int) (K : Nat) (w : World) (hs : Sl w v s) (hg : SigP s) (hK : K < 6) :
    Calls Try.prog 35 #[v, .int .i64 (K : Int), .int .i64 6] w fun e w' => e = .returned (.iface 58 (.agg #[.int .i64 (toX s 6 K s.length), .int .i64 (toY s 6 K s.length)])) ∧ Below w.heap.size w w' := by
  obtain ⟨a, n, cap, rfl, hn, hrd⟩ := hs.rd
  have Hn := hid hn
  have Hrd := hid hrd
  have hl' : n ≤ 64 := by rw [hn]; exact hg.1
  have HS := hid (sig_at0 hg)
  clear hs hn hrd hg
  go_enter Try.func35, Try.ntmps35
  go_wp2_with fail
  refine (silence_6 _).mono ?_
  rintro e w' ⟨rfl, rfl⟩
  go_wp2_with fail
  go_loopw [7, 14] (fun t i wr => ∃ k : Nat, k ≤ n ∧ i = .int .i64 k ∧ (t = .iface 58 (.agg #[.int .i64 (toX s 6 K k), .int .i64 (toY s 6 K k)])) ∧ Below w.heap.size w wr)
    (fun _ i _ => n - (intOf i).toNat)
  case atStart => exact ⟨0, by omega, rfl, rfl, Below.refl _ _⟩
  case round =>
    obtain ⟨k, hk, rfl, rfl, hb⟩ := hrel
    have hsz : w.heap.size ≤ wr.heap.size := hb.size
    by_cases hlk : k < n
    · obtain ⟨x, hkx⟩ := get_lt s k (by rw [← Hn.out]; exact hlk)
      obtain ⟨bb, oo, hix, hbb, hce⟩ := (Hrd.out.kept hb).at (P := Try.prog) (T := 22) n cap uslice sone hkx hlk
      obtain ⟨⟨X1, X2⟩, ⟨Y1, Y2⟩⟩ := to_in HS.out 6 K k
      obtain ⟨x1, x2⟩ := HS.out k
      have hst := And.intro (toX_succ s 6 K k) (toY_succ s 6 K k)
      rw [at0_of hkx] at x1 x2 hst
      obtain ⟨m, hm⟩ : ∃ m, m = (6 - K) * k := ⟨_, rfl⟩
      obtain ⟨j, hj0⟩ : ∃ j, j = m % 6 := ⟨_, rfl⟩
      have hj : j < 6 := by rw [hj0]; exact Nat.mod_lt _ (by omega)
      have hux : tuX 6 ((6 - K) * k) = t6X j := by rw [← hm, hj0]; rfl
      have huy : tuY 6 ((6 - K) * k) = t6Y j := by rw [← hm, hj0]; rfl
      rw [hux, huy] at hst
      have hm4 : m ≤ 400 := by rw [hm]; exact Nat.le_trans (Nat.mul_le_mul (show 6 - K ≤ 6 by omega) (show k ≤ 64 by omega)) (by omega)
      have hmi : ((6 : Int) - (K : Int)) * (k : Int) = (m : Int) := by rw [hm, show ((6 : Int) - (K : Int)) = ((6 - K : Nat) : Int) from by omega]; exact (Int.natCast_mul _ _).symm
      have e1 : ∀ [Inhabited Unit], IntKind.i64.wrap (((6 : Int) - (K : Int)) * (k : Int)) = (m : Int) := by rw [hmi]; exact IntWalk.i64_in _ (by clear hm hmi hj0; omega)
      have e1b : ∀ [Inhabited Unit], IntKind.i64.wrap ((6 : Int) - (K : Int)) = (6 : Int) - (K : Int) := IntWalk.i64_in _ (by clear hm hmi hj0; omega)
      have e2 : ∀ [Inhabited Unit], (m : Int).tmod 6 = (j : Int) := by rw [hj0]; exact (Int.tmod_eq_emod_of_nonneg (by omega)).trans rfl
      have e3 : ∀ [Inhabited Unit], IntKind.i64.wrap (j : Int) = (j : Int) := IntWalk.i64_in _ (by clear hm hmi hj0; omega)
      generalize toX s 6 K k = X at *
      generalize toY s 6 K k = Y at *
      have Hst := hid hst
      clear hkx hst hux huy hm hmi hj0
      skip
      have na := na6
      have me := me6
      go_wp2_with fail
      go_region_with (go_at_call 62; refine (swith_any X Y x j _ hj (by omega) (by omega) (by omega) (by omega) x1 x2).mono ?_; rintro e w2 ⟨rfl, hb2⟩; have hB := hb.trans ((bel_undrew hb2).mono hsz))
      all_goals go_wp2
      all_goals go_roundw
      case rel => exact ⟨k + 1, by omega, by go_num, by rw [Hst.out.1, Hst.out.2], hB⟩
      case measure => simp [intOf]; omega
    · have hge : (n : Int) ≤ (k : Int) := by omega
      have hkn : k = s.length := by rw [← Hn.out]; omega
      have Hk := hid hkn
      clear hkn hlk
      go_wp2
      go_ret
      exact ⟨six_eq (by rw [Hk.out]) (by rw [Hk.out]), hb⟩

end Go.Proofs.Ytaihopcmckkpbaa
