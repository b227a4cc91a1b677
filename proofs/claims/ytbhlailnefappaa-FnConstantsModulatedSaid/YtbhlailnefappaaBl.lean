
import Derived.Test.YtbhlailnefappaaOa
import Derived.Test.YtbhlailnefappaaOa
import Derived.Test.YtbhlailnefappaaOa
import Derived.Deep.QuietTactic
import Derived.BigQuiet
namespace Go.Proofs.Ytbhlailnefappaa
open Go.RowKit BitX Go.MemX
set_option linter.unusedVariables false


set_option maxHeartbeats 400000 in
theorem weSame_len (u v : Value) (xs ys : List Int) (w : World) (hu : Sl w u xs) (hv : Sl w v ys) (hl : xs.length ≤ 2000000) (hne : xs.length ≠ ys.length) :
    Calls Try.prog 72 #[u, v] w fun e w' => e = .returned (.bool false) ∧ w = w' := by
  obtain ⟨a, n, cap, rfl, hn, hrd⟩ := hu.rd
  have Hn := hid hn
  have Hrd := hid hrd
  obtain ⟨a2, m, cap2, rfl, hn2, hrd2⟩ := hv.rd
  have Hn2 := hid hn2
  have Hrd2 := hid hrd2
  have hd : decide ((n : Int) = (m : Int)) = false := decide_eq_false (by omega)
  have hd2 : ((n : Int) == (m : Int)) = false := by rw [beq_eq_false_iff_ne]; omega
  have hd3 : ((n : Int) != (m : Int)) = true := by rw [bne_iff_ne]; omega
  have hd4 : ¬ (n : Int) = (m : Int) := by omega
  have hd5 : ¬ n = m := by omega
  clear hn hrd hn2 hrd2 hu hv hne hl Hn Hn2 Hrd Hrd2
  go_enter Try.func72, Try.ntmps72
  go_wp2
  go_ret
  exact ⟨rfl, rfl⟩

set_option maxHeartbeats 400000 in
theorem weSame_eq (u v : Value) (xs ys : List Int) (b : Bool) (w : World) (hu : Sl w u xs) (hv : Sl w v ys) (hl : xs.length ≤ 2000000) (he : xs.length = ys.length) (h : decide (xs = ys) = b) :
    Calls Try.prog 72 #[u, v] w fun e w' => e = .returned (.bool b) ∧ Below w.heap.size w w' := by
  obtain ⟨a, n, cap, rfl, hn, hrd⟩ := hu.rd
  have Hn := hid hn
  have Hrd := hid hrd
  obtain ⟨a2, m, cap2, rfl, hn2, hrd2⟩ := hv.rd
  have Hn2 := hid hn2
  have Hrd2 := hid hrd2
  obtain rfl : n = m := by omega
  have hl' : n ≤ 2000000 := by omega
  have H := hid h
  clear hn hrd hn2 hrd2 hu hv hl he h
  go_enter Try.func72, Try.ntmps72
  go_wp2_with fail
  go_loopw [13] (fun i wr => ∃ k : Nat, k ≤ n ∧ i = .int .i64 k ∧ Hid (xs.take k = ys.take k) ∧ Below w.heap.size w wr)
    (fun i _ => n - (intOf i).toNat)
  case atStart => exact ⟨0, by omega, rfl, rfl, Below.refl _ _⟩
  case round =>
    obtain ⟨k, hk, rfl, ht, hb⟩ := hrel
    by_cases hlk : k < n
    · obtain ⟨x, hkx⟩ := get_lt xs k (by rw [← Hn.out]; exact hlk)
      obtain ⟨y, hky⟩ := get_lt ys k (by rw [← Hn2.out]; exact hlk)
      obtain ⟨bb, oo, hix, hbb, hce⟩ := (Hrd.out.kept hb).at (P := Try.prog) (T := 24) n cap uslice sone hkx hlk
      obtain ⟨b2, o2, hix2, hbb2, hce2⟩ := (Hrd2.out.kept hb).at (P := Try.prog) (T := 24) n cap2 uslice sone hky hlk
      have i1 : (0 : Int) ≤ (k : Int) := by omega
      have i2 : (k : Int) < (n : Int) := by omega
      by_cases hxy : x = y
      · have hst : xs.take (k + 1) = ys.take (k + 1) := by rw [take_step xs k x hkx, take_step ys k y hky, ht.out, hxy]
        have Hst := hid hst
        subst hxy
        clear hst hkx hky ht
        go_wp2
        go_quiet (fail)
        go_wp2
        go_roundw
        case rel => exact ⟨k + 1, by omega, by go_num, Hst, below_drewN hb _⟩
        case measure => simp [intOf]; omega
      · have hb0 : b = false := by
          rw [← H.out]; apply decide_eq_false; intro e; rw [e] at hkx; rw [hkx] at hky; exact hxy (Option.some.inj hky)
        have hne : (x == y) = false := by rw [beq_eq_false_iff_ne]; exact hxy
        have hne2 : (x != y) = true := by rw [bne_iff_ne]; exact hxy
        subst hb0
        clear hkx hky ht
        go_wp2
        go_quiet (fail)
        go_wp2
        go_ret
        exact ⟨rfl, below_drewN hb _⟩
    · have hge : (n : Int) ≤ (k : Int) := by omega
      have hkn : k = n := by omega
      have hb1 : b = true := by
        rw [← H.out]; apply decide_eq_true
        have := ht.out
        rwa [List.take_of_length_le (by rw [← Hn.out]; omega), List.take_of_length_le (by rw [← Hn2.out]; omega)] at this
      subst hb1
      clear hlk hkn ht
      go_wp2
      go_ret
      exact ⟨rfl, hb⟩


theorem weSame_is (u v : Value) (xs ys : List Int) (b : Bool) (w : World) (hu : Sl w u xs) (hv : Sl w v ys) (hl : xs.length ≤ 2000000) (h : decide (xs = ys) = b) :
    Calls Try.prog 72 #[u, v] w fun e w' => e = .returned (.bool b) ∧ Below w.heap.size w w' := by
  by_cases he : xs.length = ys.length
  · exact weSame_eq u v xs ys b w hu hv hl he h
  · have : b = false := by rw [← h]; apply decide_eq_false; intro e; exact he (by rw [e])
    subst this
    exact (weSame_len u v xs ys w hu hv hl he).mono fun _ _ ⟨h1, h2⟩ => ⟨h1, h2 ▸ Below.refl _ _⟩


end Go.Proofs.Ytbhlailnefappaa
