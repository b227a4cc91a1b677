
import Derived.Test.YtbhlailnefappaaProg
import Derived.Test.YtbhlailnefappaaMem
namespace Go.Proofs.Ytbhlailnefappaa.Su
open Go.RowKit Go.MemX

set_option maxHeartbeats 400000 in
theorem sumOf_any (v : Value) (xs : List Int) (w : World) (hs : Sl w v xs) (hl : xs.length ≤ 1000000) (hb : ∀ k, k ≤ xs.length → (sumL (xs.take k)).natAbs < 16777216) (hx : ∀ x ∈ xs, x.natAbs < 16777216) :
    Calls Try.prog 48 #[v] w fun e w' => e = .returned (.int .i64 (sumL xs)) ∧ w = w' := by
  rcases hs with ⟨rfl, a, cap, rfl⟩ | ⟨b, off, n, cap, rfl, hn, h0, hc, hlt, hcell⟩
  · have hcv := float_back (P := Try.prog) 75 3 rep_zero (by decide) (by kernel_rfl) (by kernel_rfl)
    go_enter Try.func48, Try.ntmps48
    go_wp2
    refine wp_loop_rounds 1 ?_
    rw [rounds_succ]
    go_wp2
    go_ret
    exact ⟨rfl, rfl⟩
  · have Hn := hid hn
    have Hb := hid hb
    have Hx := hid hx
    have Hcell := hid hcell
    have hl' : n ≤ 1000000 := by omega
    clear hn hb hx hcell hl hlt
    go_enter Try.func48, Try.ntmps48
    go_wp2
    go_loop [3, 8] (fun s i => ∃ (k bts : Nat), k ≤ n ∧ i = .int .i64 k ∧ s = .float .f32 bts ∧ FltX.Rep Ieee.single bts (sumL (xs.take k)))
      (fun _ i => n - (intOf i).toNat)
    case atStart => exact ⟨0, 0, by omega, rfl, rfl, rep_zero⟩
    case round =>
      obtain ⟨k, bts, hk, rfl, rfl, hrep⟩ := hrel
      by_cases hlt : k < n
      · obtain ⟨x, hkx⟩ := get_lt xs k (by rw [← Hn.out]; exact hlt)
        have hstep := sumL_step xs k x hkx
        obtain ⟨c, hadd, hrc⟩ := float_add (P := Try.prog) 75 hrep (Hx.out x (List.mem_of_getElem? hkx)) (by rw [← hstep]; exact Hb.out (k + 1) (by rw [← Hn.out]; omega))
        have hce := Hcell.out k x hkx
        have Hrc := hid hrc
        have Hst := hid hstep
        clear hrc hstep hkx hrep
        go_wp2
        go_round
        case rel => exact ⟨k + 1, c, by omega, by go_num, rfl, by rw [Hst.out]; exact Hrc.out⟩
        case measure => simp [intOf]; omega
      · have hge : (n : Int) ≤ (k : Int) := by omega
        have hkn : k = xs.length := by rw [← Hn.out]; omega
        have Hk := hid hkn
        rw [hkn, List.take_length] at hrep
        have hcv := float_back (P := Try.prog) 75 3 hrep (by have := Hb.out xs.length (Nat.le_refl _); rwa [List.take_length] at this) (by kernel_rfl) (by kernel_rfl)
        clear hkn hlt
        go_wp2
        go_ret
        exact ⟨rfl, rfl⟩
end Go.Proofs.Ytbhlailnefappaa.Su
