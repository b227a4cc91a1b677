import Derived.Test.YtichkianildkgaaGreatKh
import Derived.Test.YtichkianildkgaaGreatAb
import Derived.Test.YtichkianildkgaaGreatKp
import Derived.Test.YtichkianildkgaaGreatEm
import Derived.Test.YtichkianildkgaaGreatEh
import Derived.Test.YtichkianildkgaaGreatEs
import Derived.Test.YtichkianildkgaaGreatEp
import Derived.Test.YtichkianildkgaaGreatEf
import Derived.Test.YtichkianildkgaaGreatEr
import Derived.Test.YtichkianildkgaaGreatTc
namespace Go.Proofs.YtichkianildkgaaGreat
open Go.RowKit BitX Go.MemX Go.ShX
set_option linter.unusedVariables false


theorem big_any (u1 u2 : Option Addr) (n1 c1 n2 c2 : Nat) (w : World) (h : n1 ≤ 1048576) (h2 : n2 ≤ 1048576 - n1) :
    Calls Tryz.prog 4 #[.slice u1 n1 c1, .slice u2 n2 c2] w fun e w' => e = .returned (.bool false) ∧ w = w' := by
  go_enter Tryz.func4, Tryz.ntmps4
  go_wp2
  go_ret
  exact ⟨ret_b (by simp <;> omega), rfl⟩
theorem big_first (u1 u2 : Option Addr) (n1 c1 n2 c2 : Nat) (w : World) (h : 1048576 < n1) :
    Calls Tryz.prog 4 #[.slice u1 n1 c1, .slice u2 n2 c2] w fun e w' => e = .returned (.bool true) ∧ w = w' := by
  go_enter Tryz.func4, Tryz.ntmps4
  go_wp2
  go_ret
  exact ⟨rfl, rfl⟩
theorem big_both (u1 u2 : Option Addr) (n1 c1 n2 c2 : Nat) (w : World) (h : n1 ≤ 1048576) (h2 : 1048576 - n1 < n2) (h3 : n2 ≤ 9223372036854775807) :
    Calls Tryz.prog 4 #[.slice u1 n1 c1, .slice u2 n2 c2] w fun e w' => e = .returned (.bool true) ∧ w = w' := by
  go_enter Tryz.func4, Tryz.ntmps4
  go_wp2
  go_ret
  exact ⟨ret_b (by simp <;> omega), rfl⟩
theorem By.later {w w' : World} {a : Option Addr} {len : Nat} (h : By w.heap.size w a len) (hb : Below w.heap.size w w') : By w'.heap.size w' a len := fun i hi => by
  obtain ⟨b, off, x, ha, hlt, hx, hc⟩ := h.kept hb i hi
  exact ⟨b, off, x, ha, Nat.lt_of_lt_of_le hlt hb.size, hx, hc⟩
theorem IsRow.len_le {w : World} {a : Option Addr} {len cap : Nat} {zs : List Int} (h : IsRow .u8 w a len cap zs) : len ≤ 9223372036854775807 := by
  rcases h with ⟨rfl, rfl, rfl, rfl⟩ | ⟨x, rfl, hl, hm, _⟩
  · omega
  · have e : maxLen = 9223372036854775807 := by decide
    omega


set_option maxHeartbeats 400000 in
theorem iSame_same (u v : Value) (xs : List Int) (w : World) (hu : Sl w u xs) (hv : Sl w v xs) (hl : xs.length ≤ 2000000) :
    Calls Tryz.prog 12 #[u, v] w fun e w' => e = .returned (.bool true) ∧ Below w.heap.size w w' := by
  rcases hu with ⟨rfl, a, cap, rfl⟩ | ⟨b, off, n, cap, rfl, hn, h0, hc, hlt, hcell⟩
  · rcases hv with ⟨_, a2, cap2, rfl⟩ | ⟨b2, off2, n2, cap2, rfl, hn2, h02, _, _, _⟩
    · go_enter Tryz.func12, Tryz.ntmps12
      go_wp2
      refine wp_loop_rounds 1 ?_
      rw [rounds_succ]
      go_wp2
      go_ret
      exact ⟨rfl, Below.refl _ _⟩
    · simp at hn2; omega
  · rcases hv with ⟨he, _⟩ | ⟨b2, off2, n2, cap2, rfl, hn2, h02, hc2, hlt2, hcell2⟩
    · subst he; simp at hn; omega
    · obtain rfl : n = n2 := by omega
      have Hn := hid hn
      have Hcell := hid hcell
      have Hcell2 := hid hcell2
      have hl' : n ≤ 2000000 := by omega
      clear hn hn2 hcell hcell2 hl
      go_enter Tryz.func12, Tryz.ntmps12
      go_wp2
      go_loopw [13] (fun i wr => ∃ k : Nat, k ≤ n ∧ i = .int .i64 k ∧ Below w.heap.size w wr)
        (fun i _ => n - (intOf i).toNat)
      case atStart => exact ⟨0, by omega, rfl, Below.refl _ _⟩
      case round =>
        obtain ⟨k, hk, rfl, hb⟩ := hrel
        by_cases hlk : k < n
        · obtain ⟨x, hkx⟩ := get_lt xs k (by rw [← Hn.out]; exact hlk)
          have hce : wr.cell? ⟨b, off + k, none⟩ = some (.int .i64 x) := by rw [hb.cell (by exact hlt)]; exact Hcell.out k x hkx
          have hcd : wr.cell? ⟨b2, off2 + k, none⟩ = some (.int .i64 x) := by rw [hb.cell (by exact hlt2)]; exact Hcell2.out k x hkx
          have i1 : (0 : Int) ≤ (k : Int) := by omega
          have i2 : (k : Int) < (n : Int) := by omega
          clear hkx
          go_wp2
          go_quiet (fail)
          go_wp2
          go_roundw
          case rel => exact ⟨k + 1, by omega, by go_num, below_drewN hb _⟩
          case measure => simp [intOf]; omega
        · have hge : (n : Int) ≤ (k : Int) := by omega
          clear hlk
          go_wp2
          go_ret
          exact ⟨rfl, hb⟩


end Go.Proofs.YtichkianildkgaaGreat

namespace Go.Proofs.YtichkianildkgaaGreat
open Go.RowKit BitX Go.MemX Go.ShX
set_option linter.unusedVariables false


theorem sumL_wide {xs : List Int} {B : Int} (h : InP (-B) B xs) : -(xs.length * B) ≤ sumL xs ∧ sumL xs ≤ xs.length * B := by
  induction xs with
  | nil => simp [sumL]
  | cons x xs ih =>
    have a := h x (by simp)
    have b := ih fun y hy => h y (by simp [hy])
    simp only [sumL, List.length_cons]
    rw [show ((xs.length + 1 : Nat) : Int) * B = xs.length * B + B from by rw [Int.natCast_add, Int.add_mul]; simp]
    generalize (xs.length : Int) * B = u at *
    omega
set_option maxHeartbeats 400000 in
theorem iSum_any (v : Value) (xs : List Int) (w : World) (hs : Sl w v xs) (hl : xs.length ≤ 2000000) (hi : InP (-1000000000000) 1000000000000 xs) :
    Calls Tryz.prog 22 #[v] w fun e w' => e = .returned (.int .i64 (sumL xs)) ∧ w = w' := by
  obtain ⟨a, n, cap, rfl, hn, hrd⟩ := hs.rd
  have Hn := hid hn
  have Hrd := hid hrd
  have hl' : n ≤ 2000000 := by omega
  clear hn hrd
  have Hi := hid hi
  clear hi
  clear hl hs
  go_enter Tryz.func22, Tryz.ntmps22
  go_wp2_with fail
  go_loop [3, 8] (fun s0 i => ∃ k : Nat, k ≤ n ∧ i = .int .i64 k ∧ s0 = .int .i64 (sumL (xs.take k)))
    (fun _ i => n - (intOf i).toNat)
  case atStart => exact ⟨0, by omega, rfl, rfl⟩
  case round =>
    obtain ⟨k, hk, rfl, rfl⟩ := hrel
    by_cases hlk : k < n
    · obtain ⟨x, hkx⟩ := get_lt xs k (by rw [← Hn.out]; exact hlk)
      obtain ⟨bb, oo, hix, hbb, hce⟩ := Hrd.out.at (P := Tryz.prog) (T := 24) n cap uslice sone hkx hlk
      obtain ⟨x1, x2⟩ := Hi.out.at hkx
      have hst := sumL_step xs k _ hkx
      have hsb := sumL_wide (xs := xs.take k) (B := 1000000000000) (fun x hx => Hi.out x (List.mem_of_mem_take hx))
      rw [List.length_take, Nat.min_eq_left (by rw [← Hn.out]; omega)] at hsb
      have hsb1 : -2000000000000000000 ≤ sumL (xs.take k) := by omega
      have hsb2 : sumL (xs.take k) ≤ 2000000000000000000 := by omega
      clear hsb
      have Hst := hid hst
      clear hst hkx
      generalize sumL (xs.take k) = z at *
      go_wp2
      go_round
      case rel => exact ⟨k + 1, by omega, by go_num, by rw [Hst.out]⟩
      case measure => simp [intOf]; omega
    · have hge : (n : Int) ≤ (k : Int) := by omega
      have hkn : k = xs.length := by rw [← Hn.out]; omega
      have Hk := hid hkn
      clear hkn hlk
      go_wp2
      go_ret
      exact ⟨ret_i (by rw [Hk.out, List.take_length]), rfl⟩

end Go.Proofs.YtichkianildkgaaGreat

namespace Go.Proofs.YtichkianildkgaaGreat
open Go.RowKit BitX Go.MemX Go.Ch6
set_option linter.unusedVariables false
theorem droop_facts {r st : Nat} (h1 : 1 ≤ r) (h2 : r ≤ 8) (h3 : 1 ≤ st) (h4 : st ≤ 4) :
    Dr.dA r st = (if r % 2 = 0 then 0 else 1) ∧ (r % 2 = 1 → Dr.dB r st = cbG r st) := by
  have h : ∀ r : Fin 8, ∀ st : Fin 4, Dr.dA (r.1 + 1) (st.1 + 1) = (if (r.1 + 1) % 2 = 0 then 0 else 1) ∧ ((r.1 + 1) % 2 = 1 → Dr.dB (r.1 + 1) (st.1 + 1) = cbG (r.1 + 1) (st.1 + 1)) := by decide +kernel
  have k := h ⟨r - 1, by omega⟩ ⟨st - 1, by omega⟩
  rw [show r - 1 + 1 = r from by omega, show st - 1 + 1 = st from by omega] at k
  exact k
theorem drop_stuff {r : Nat} (hr : 1 ≤ r) (xs : List Int) : dropL r 0 (stuffL r xs) = xs := by
  have hn : drN (stuffL r xs).length r 0 = xs.length := by
    rw [stuffL_len]
    have key : ∀ k, k < drN (xs.length * r) r 0 ↔ k < xs.length := fun k => by
      rw [drN_lt hr, Nat.zero_add]; exact Nat.mul_lt_mul_right (by omega)
    have a := key xs.length
    have b := key (drN (xs.length * r) r 0)
    omega
  unfold dropL
  rw [hn]
  refine (tab_congr _ _ _ fun k hk => ?_).trans (tab_self xs)
  unfold stuffL
  rw [at0_tab _ _ _ (by rw [Nat.zero_add]; exact (Nat.mul_lt_mul_right (by omega)).2 hk), Nat.zero_add, stf_at _ hr]
theorem sumF_split (n m : Nat) (f : Nat → Int) : sumF (n + m) f = sumF n f + sumF m (fun j => f (n + j)) := by
  induction m with
  | zero => simp [sumF]
  | succ m ih => rw [← Nat.add_assoc, sumF_succ, ih, sumF_succ]; omega
theorem sumF_stf {r : Nat} (hr : 1 ≤ r) (n : Nat) (f : Nat → Int) : sumF (n * r) (stf r f) = sumF n f := by
  induction n with
  | zero => rw [Nat.zero_mul]; rfl
  | succ n ih =>
    rw [Nat.add_mul, Nat.one_mul, sumF_split, ih, sumF_succ]
    congr 1
    obtain ⟨q, rfl⟩ : ∃ q, r = q + 1 := ⟨r - 1, by omega⟩
    have e0 := stf_at (r := q + 1) (k := n) f hr
    rw [sumF_shift]
    simp only [Nat.add_zero]
    rw [e0, sumF_congr q _ (fun _ => 0) (fun i hi => stf_in f (by omega) (by omega)), sumF_none]
    omega
theorem sumL_at (xs : List Int) : sumL xs = sumF xs.length (at0 xs) := by
  have h : ∀ k, k ≤ xs.length → sumL (xs.take k) = sumF k (at0 xs) := by
    intro k hk
    induction k with
    | zero => rfl
    | succ k ih =>
      obtain ⟨x, hx⟩ := get_lt xs k (by omega)
      rw [sumL_step xs k x hx, ih (by omega), sumF_succ, at0_of hx]
  have := h xs.length (Nat.le_refl _)
  rwa [List.take_length] at this
theorem sum_stuff {r : Nat} (hr : 1 ≤ r) (xs : List Int) : sumL (stuffL r xs) = sumL xs := by
  rw [sumL_at, sumL_at, stuffL_len]
  unfold stuffL
  rw [sumF_congr _ _ (stf r (at0 xs)) (fun i hi => at0_tab _ _ _ hi), sumF_stf hr]
theorem at_rev {xs : List Int} (h : xs.reverse = xs) {i : Nat} (hi : i < xs.length) : xs[xs.length - 1 - i]? = xs[i]? := by
  rw [← List.getElem?_reverse hi, h]
theorem run_tab (xs : List Int) : tab xs.length (fun i => sumF (i + 1) (at0 xs)) = tab xs.length (run xs) := by
  refine tab_congr _ _ _ fun i hi => ?_
  unfold run
  have h : ∀ k, k ≤ xs.length → sumL (xs.take k) = sumF k (at0 xs) := by
    intro k hk
    induction k with
    | zero => rfl
    | succ k ih =>
      obtain ⟨x, hx⟩ := get_lt xs k (by omega)
      rw [sumL_step xs k x hx, ih (by omega), sumF_succ, at0_of hx]
  exact (h (i + 1) (by omega)).symm
theorem fst_least {p : Nat → Bool} (h : fstO p = true) : ∃ e : Nat, fstR p = e ∧ 2 ≤ e ∧ e ≤ 40 ∧ p e = true ∧ (e = 2 ∨ p (e - 1) = false) := by
  unfold fstO at h
  unfold fstR
  rw [Option.isSome_iff_exists] at h
  obtain ⟨e, he⟩ := h
  rw [he]
  unfold fstB at he
  rw [List.find?_range_eq_some] at he
  obtain ⟨h1, h2, h3⟩ := he
  simp only [Bool.and_eq_true, decide_eq_true_eq] at h1
  refine ⟨e, rfl, h1.1, by simp at h2; omega, h1.2, ?_⟩
  by_cases h4 : e = 2
  · exact .inl h4
  · right
    have h5 := h3 (e - 1) (by omega)
    simp only [Bool.not_eq_true', Bool.and_eq_false_iff] at h5
    rcases h5 with h5 | h5
    · have := of_decide_eq_false h5; omega
    · exact h5

theorem shl_facts (G : Int) (bn e : Nat) (g1 : 1 ≤ G) (g2 : G ≤ 4096) (hb : 2 ≤ (bn : Int) ∧ (bn : Int) ≤ 16) (e1 : 2 ≤ e) (e2 : e ≤ 40) (e3 : G * 2 ^ (bn - 1) ≤ 2 ^ (e - 1)) (e4 : e = 2 ∨ ¬ (G * 2 ^ (bn - 1) ≤ 2 ^ (e - 2))) :
    ∃ A B C : Int, ((∀ [Inhabited Unit], wrap64 (G * 2 ^ (bn - 1)) = A) ∧ (∀ [Inhabited Unit], wrap64 (2 ^ (e - 1)) = B) ∧ (∀ [Inhabited Unit], wrap64 (2 ^ (e - 2)) = C)) ∧
      ((∀ [Inhabited Unit], IntKind.i64.wrap (G * 2 ^ (bn - 1)) = A) ∧ (∀ [Inhabited Unit], IntKind.i64.wrap (2 ^ (e - 1)) = B) ∧ (∀ [Inhabited Unit], IntKind.i64.wrap (2 ^ (e - 2)) = C)) ∧ decide (A ≤ B) = true ∧ (e ≠ 2 → decide (C < A) = true) ∧ (0 ≤ A ∧ A ≤ 1000000000000000) ∧ (1 ≤ B ∧ B ≤ 1000000000000000) ∧ 1 ≤ C ∧ C ≤ 1000000000000000 := by
  have p1 := pow39 (b := bn) (by omega)
  have p2 := pow39 (b := e) (by omega)
  have p3 := pow1 (bn - 1)
  have p4 := pow1 (e - 1)
  have p5 := pow1 (e - 2)
  have p6 : (2 : Int) ^ (e - 1) = 2 * 2 ^ (e - 2) := by
    have := pow_two (b := e - 1) (by omega)
    rw [show e - 1 - 1 = e - 2 from by omega] at this
    exact this
  generalize (2 : Int) ^ (bn - 1) = Q at *
  generalize (2 : Int) ^ (e - 1) = B at *
  generalize (2 : Int) ^ (e - 2) = C at *
  have a1 : 0 ≤ G * Q := Int.mul_nonneg (by omega) (by omega)
  generalize G * Q = A at *
  have hA : wrap64 A = A := IntWalk.wrap64_in _ (by omega)
  have hB : wrap64 B = B := IntWalk.wrap64_in _ (by clear hA; omega)
  have hC : wrap64 C = C := IntWalk.wrap64_in _ (by clear hA hB; omega)
  have iA : IntKind.i64.wrap A = A := IntWalk.i64_in _ (by clear hA hB hC; omega)
  have iB : IntKind.i64.wrap B = B := IntWalk.i64_in _ (by clear hA hB hC iA; omega)
  have iC : IntKind.i64.wrap C = C := IntWalk.i64_in _ (by clear hA hB hC iA iB; omega)
  refine ⟨A, B, C, ⟨fun {_} => hA, fun {_} => hB, fun {_} => hC⟩, ⟨fun {_} => iA, fun {_} => iB, fun {_} => iC⟩, decide_eq_true e3, fun h => decide_eq_true ?_, ?_, ?_, ?_⟩
  all_goals clear hA hB hC iA iB iC
  all_goals omega

set_option maxHeartbeats 1000000 in
theorem iWrap_any (x : Int) (b : Nat) (w : World) (h1 : 2 ≤ b) (h2 : b ≤ 40) (x1 : -1125899906842624 ≤ x) (x2 : x ≤ 1125899906842624) :
    Calls Tryz.prog 13 #[.int .i64 x, .int .i64 (b : Int)] w fun e w' => e = .returned (.int .i64 (wrI b x)) ∧ w = w' := by
  have hp := pow1 (b - 1)
  have hq := pow39 h2
  have hA := pow_two (b := b) (by omega)
  have hm := wrI_model (P := 2 ^ (b - 1)) (x := x) hp
  have hw := wrI_of b x
  generalize wrI b x = W at *
  generalize (2 : Int) ^ (b - 1) = P at *
  obtain ⟨A, hAe⟩ : ∃ A, A = 2 * P := ⟨_, rfl⟩
  rw [← hAe] at hA hm hw
  have s1 : wrap64 (1 * 2 ^ min b 64) = A := by rw [Nat.min_eq_left (by omega), Int.one_mul, hA]; exact IntWalk.wrap64_in _ (by omega)
  have s2 : wrap64 (1 * 2 ^ b) = A := by rw [Int.one_mul, hA]; exact IntWalk.wrap64_in _ (by omega)
  have s3 : wrap64 (2 ^ b) = A := by rw [hA]; exact IntWalk.wrap64_in _ (by omega)
  have t1 := Int.tmod_lt_of_pos x (show 0 < A by omega)
  have t2 := Int.lt_tmod_of_pos x (show 0 < A by omega)
  have r1 := Int.emod_nonneg x (show A ≠ 0 by omega)
  have r2 := Int.emod_lt_of_pos x (show 0 < A by omega)
  obtain ⟨t, ht⟩ : ∃ t, x.tmod A = t := ⟨_, rfl⟩
  obtain ⟨r, hr⟩ : ∃ r, x % A = r := ⟨_, rfl⟩
  rw [ht] at t1 t2 hm
  rw [hr] at r1 r2 hm hw
  have hm2 : (t + A) % A = r := by rw [← hm, Int.tmod_eq_emod_of_nonneg (by omega)]
  have e1 : x.tmod A = t := ht
  have e1b : 0 ≤ x → x % A = t := fun h => by rw [← Int.tmod_eq_emod_of_nonneg h]; exact e1
  have e3 : (t + A) % A = r := hm2
  have e4 : A / 2 = P := by omega
  have f1 : 0 ≤ t + A := by omega
  have a0 : A ≠ 0 := by omega
  have a1 : (A == 0) = false := by rw [beq_eq_false_iff_ne]; exact a0
  have a2 : A ≤ 1099511627776 := by omega
  have a3 : 1 ≤ A := by omega
  have E1 := hid e1
  have E1b := hid e1b
  clear e1 e1b hm hm2 ht hr hA hq hp
  by_cases hle : P ≤ r
  · have Hw := hid (show r - A = W from by rw [hw, if_pos hle])
    clear hw hAe
    by_cases hx : 0 ≤ x
    · have e1 := E1b.out hx
      clear E1 E1b
      go_enter Tryz.func13, Tryz.ntmps13
      go_wp2_with fail
      go_ret
      exact ⟨ret_i Hw.out, rfl⟩
    · have e1 := E1.out
      clear E1 E1b
      go_enter Tryz.func13, Tryz.ntmps13
      go_wp2_with fail
      go_ret
      exact ⟨ret_i Hw.out, rfl⟩
  · have Hw := hid (show r = W from by rw [hw, if_neg hle])
    clear hw hAe
    by_cases hx : 0 ≤ x
    · have e1 := E1b.out hx
      clear E1 E1b
      go_enter Tryz.func13, Tryz.ntmps13
      go_wp2_with fail
      go_ret
      exact ⟨ret_i Hw.out, rfl⟩
    · have e1 := E1.out
      clear E1 E1b
      go_enter Tryz.func13, Tryz.ntmps13
      go_wp2_with fail
      go_ret
      exact ⟨ret_i Hw.out, rfl⟩



end Go.Proofs.YtichkianildkgaaGreat

