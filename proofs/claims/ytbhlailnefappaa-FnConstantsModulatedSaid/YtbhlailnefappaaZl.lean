import Derived.Test.YtbhlailnefappaaKh
import Derived.Test.YtbhlailnefappaaAb
namespace Go.Proofs.Ytbhlailnefappaa
open Go.RowKit BitX Go.MemX Go.ShX
set_option linter.unusedVariables false


theorem big_any (u1 u2 : Option Addr) (n1 c1 n2 c2 : Nat) (w : World) (h : n1 ≤ 1048576) (h2 : n2 ≤ 1048576 - n1) :
    Calls Try.prog 5 #[.slice u1 n1 c1, .slice u2 n2 c2] w fun e w' => e = .returned (.bool false) ∧ w = w' := by
  go_enter Try.func5, Try.ntmps5
  go_wp2
  go_ret
  exact ⟨ret_b (by simp <;> omega), rfl⟩
theorem big_first (u1 u2 : Option Addr) (n1 c1 n2 c2 : Nat) (w : World) (h : 1048576 < n1) :
    Calls Try.prog 5 #[.slice u1 n1 c1, .slice u2 n2 c2] w fun e w' => e = .returned (.bool true) ∧ w = w' := by
  go_enter Try.func5, Try.ntmps5
  go_wp2
  go_ret
  exact ⟨rfl, rfl⟩
theorem big_both (u1 u2 : Option Addr) (n1 c1 n2 c2 : Nat) (w : World) (h : n1 ≤ 1048576) (h2 : 1048576 - n1 < n2) (h3 : n2 ≤ 9223372036854775807) :
    Calls Try.prog 5 #[.slice u1 n1 c1, .slice u2 n2 c2] w fun e w' => e = .returned (.bool true) ∧ w = w' := by
  go_enter Try.func5, Try.ntmps5
  go_wp2
  go_ret
  exact ⟨ret_b (by simp <;> omega), rfl⟩
theorem By.later {w w' : World} {a : Option Addr} {len : Nat} (h : By w.heap.size w a len) (hb : Below w.heap.size w w') : By w'.heap.size w' a len := fun i hi => by
  obtain ⟨b, off, x, ha, hlt, hx, hc⟩ := h.kept hb i hi
  exact ⟨b, off, x, ha, Nat.lt_of_lt_of_le hlt hb.size, hx, hc⟩
theorem IsRow.len_le {w : World} {a : Option Addr} {len cap : Nat} {zs : List Int} (h : IsRow .u8 w a len cap zs) : len ≤ 9223372036854775807 := by
  rcases h with ⟨rfl, rfl, rfl, rfl⟩ | ⟨x, rfl, hl, hm, _⟩
  · omega
  · have e : maxLen = 9223372036854775807 := by decide
    omega


set_option maxHeartbeats 400000 in
theorem iSame_same (u v : Value) (xs : List Int) (w : World) (hu : Sl w u xs) (hv : Sl w v xs) (hl : xs.length ≤ 2000000) :
    Calls Try.prog 13 #[u, v] w fun e w' => e = .returned (.bool true) ∧ Below w.heap.size w w' := by
  rcases hu with ⟨rfl, a, cap, rfl⟩ | ⟨b, off, n, cap, rfl, hn, h0, hc, hlt, hcell⟩
  · rcases hv with ⟨_, a2, cap2, rfl⟩ | ⟨b2, off2, n2, cap2, rfl, hn2, h02, _, _, _⟩
    · go_enter Try.func13, Try.ntmps13
      go_wp2
      refine wp_loop_rounds 1 ?_
      rw [rounds_succ]
      go_wp2
      go_ret
      exact ⟨rfl, Below.refl _ _⟩
    · simp at hn2; omega
  · rcases hv with ⟨he, _⟩ | ⟨b2, off2, n2, cap2, rfl, hn2, h02, hc2, hlt2, hcell2⟩
    · subst he; simp at hn; omega
    · obtain rfl : n = n2 := by omega
      have Hn := hid hn
      have Hcell := hid hcell
      have Hcell2 := hid hcell2
      have hl' : n ≤ 2000000 := by omega
      clear hn hn2 hcell hcell2 hl
      go_enter Try.func13, Try.ntmps13
      go_wp2
      go_loopw [13] (fun i wr => ∃ k : Nat, k ≤ n ∧ i = .int .i64 k ∧ Below w.heap.size w wr)
        (fun i _ => n - (intOf i).toNat)
      case atStart => exact ⟨0, by omega, rfl, Below.refl _ _⟩
      case round =>
        obtain ⟨k, hk, rfl, hb⟩ := hrel
        by_cases hlk : k < n
        · obtain ⟨x, hkx⟩ := get_lt xs k (by rw [← Hn.out]; exact hlk)
          have hce : wr.cell? ⟨b, off + k, none⟩ = some (.int .i64 x) := by rw [hb.cell (by exact hlt)]; exact Hcell.out k x hkx
          have hcd : wr.cell? ⟨b2, off2 + k, none⟩ = some (.int .i64 x) := by rw [hb.cell (by exact hlt2)]; exact Hcell2.out k x hkx
          have i1 : (0 : Int) ≤ (k : Int) := by omega
          have i2 : (k : Int) < (n : Int) := by omega
          clear hkx
          go_wp2
          go_quiet (fail)
          go_wp2
          go_roundw
          case rel => exact ⟨k + 1, by omega, by go_num, below_drewN hb _⟩
          case measure => simp [intOf]; omega
        · have hge : (n : Int) ≤ (k : Int) := by omega
          clear hlk
          go_wp2
          go_ret
          exact ⟨rfl, hb⟩


theorem iSize_any (x : Int) (w : World) (h1 : -4000000000000000000 ≤ x) (h2 : x ≤ 4000000000000000000) :
    Calls Try.prog 16 #[.int .i64 x] w fun e w' => e = .returned (.int .i64 (absI x)) ∧ w = w' := by
  go_enter Try.func16, Try.ntmps16
  go_wp2
  all_goals go_ret
  all_goals exact ⟨ret_i (by unfold absI; omega), rfl⟩


end Go.Proofs.Ytbhlailnefappaa

namespace Go.Proofs.Ytbhlailnefappaa
open Go.RowKit BitX Go.MemX Go.ShX
set_option linter.unusedVariables false


theorem sumL_wide {xs : List Int} {B : Int} (h : InP (-B) B xs) : -(xs.length * B) ≤ sumL xs ∧ sumL xs ≤ xs.length * B := by
  induction xs with
  | nil => simp [sumL]
  | cons x xs ih =>
    have a := h x (by simp)
    have b := ih fun y hy => h y (by simp [hy])
    simp only [sumL, List.length_cons]
    rw [show ((xs.length + 1 : Nat) : Int) * B = xs.length * B + B from by rw [Int.natCast_add, Int.add_mul]; simp]
    generalize (xs.length : Int) * B = u at *
    omega
set_option maxHeartbeats 400000 in
theorem iSum_any (v : Value) (xs : List Int) (w : World) (hs : Sl w v xs) (hl : xs.length ≤ 2000000) (hi : InP (-1000000000000) 1000000000000 xs) :
    Calls Try.prog 18 #[v] w fun e w' => e = .returned (.int .i64 (sumL xs)) ∧ w = w' := by
  obtain ⟨a, n, cap, rfl, hn, hrd⟩ := hs.rd
  have Hn := hid hn
  have Hrd := hid hrd
  have hl' : n ≤ 2000000 := by omega
  clear hn hrd
  have Hi := hid hi
  clear hi
  clear hl hs
  go_enter Try.func18, Try.ntmps18
  go_wp2_with fail
  go_loop [3, 8] (fun s0 i => ∃ k : Nat, k ≤ n ∧ i = .int .i64 k ∧ s0 = .int .i64 (sumL (xs.take k)))
    (fun _ i => n - (intOf i).toNat)
  case atStart => exact ⟨0, by omega, rfl, rfl⟩
  case round =>
    obtain ⟨k, hk, rfl, rfl⟩ := hrel
    by_cases hlk : k < n
    · obtain ⟨x, hkx⟩ := get_lt xs k (by rw [← Hn.out]; exact hlk)
      obtain ⟨bb, oo, hix, hbb, hce⟩ := Hrd.out.at (P := Try.prog) (T := 24) n cap uslice sone hkx hlk
      obtain ⟨x1, x2⟩ := Hi.out.at hkx
      have hst := sumL_step xs k _ hkx
      have hsb := sumL_wide (xs := xs.take k) (B := 1000000000000) (fun x hx => Hi.out x (List.mem_of_mem_take hx))
      rw [List.length_take, Nat.min_eq_left (by rw [← Hn.out]; omega)] at hsb
      have hsb1 : -2000000000000000000 ≤ sumL (xs.take k) := by omega
      have hsb2 : sumL (xs.take k) ≤ 2000000000000000000 := by omega
      clear hsb
      have Hst := hid hst
      clear hst hkx
      generalize sumL (xs.take k) = z at *
      go_wp2
      go_round
      case rel => exact ⟨k + 1, by omega, by go_num, by rw [Hst.out]⟩
      case measure => simp [intOf]; omega
    · have hge : (n : Int) ≤ (k : Int) := by omega
      have hkn : k = xs.length := by rw [← Hn.out]; omega
      have Hk := hid hkn
      clear hkn hlk
      go_wp2
      go_ret
      exact ⟨ret_i (by rw [Hk.out, List.take_length]), rfl⟩

end Go.Proofs.Ytbhlailnefappaa

