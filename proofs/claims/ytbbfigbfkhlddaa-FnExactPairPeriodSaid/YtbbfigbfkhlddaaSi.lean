
import Derived.Test.YtbbfigbfkhlddaaMs
import Derived.Test.YtbbfigbfkhlddaaCn
import Derived.Deep.QuietTactic
import Derived.BigQuiet
namespace Go.Proofs.Ytbbfigbfkhlddaa
open Go.RowKit BitX Go.MemX

theorem uslice : Try.prog.underlying 33 = some (.slice 3) := by kernel_rfl
theorem iint : (Try.prog.info? 3).map (fun i => (i.zero, i.size, i.bytes)) = some (some (.int .i64 0), 1, 8) := by kernel_rfl

/-- what a call leaves that hands back a new list of just these numbers -/
def Fresh (w : World) (xs : List Int) (e : Ending) (w' : World) : Prop :=
  ∃ g, w.heap.size ≤ g ∧ e = .returned (.slice (some ⟨g, 0, none⟩) xs.length xs.length) ∧ Blk 3 w' g xs ∧ Below w.heap.size w w'

/-- two lists that read alike -/
theorem get_eq_of (xs ys : List Int) (n : Nat) (hx : n = xs.length) (hy : n = ys.length) (h : ∀ i, i < n → xs[i]? = ys[i]?) : xs = ys := by
  apply List.ext_getElem?
  intro i
  by_cases hi : i < n
  · exact h i hi
  · rw [List.getElem?_eq_none (by omega), List.getElem?_eq_none (by omega)]

set_option maxHeartbeats 400000 in
theorem eqIntS_same (u v : Value) (xs : List Int) (w : World) (hu : Sl w u xs) (hv : Sl w v xs) (hl : xs.length ≤ 2000000) :
    Calls Try.prog 10 #[u, v] w fun e w' => e = .returned (.bool true) ∧ Below w.heap.size w w' := by
  rcases hu with ⟨rfl, a, cap, rfl⟩ | ⟨b, off, n, cap, rfl, hn, h0, hc, hlt, hcell⟩
  · rcases hv with ⟨_, a2, cap2, rfl⟩ | ⟨b2, off2, n2, cap2, rfl, hn2, h02, _, _, _⟩
    · go_enter Try.func10, Try.ntmps10
      go_wp2
      refine wp_loop_rounds 1 ?_
      rw [rounds_succ]
      go_wp2
      go_ret
      exact ⟨rfl, Below.refl _ _⟩
    · simp at hn2; omega
  · rcases hv with ⟨he, _⟩ | ⟨b2, off2, n2, cap2, rfl, hn2, h02, hc2, hlt2, hcell2⟩
    · subst he; simp at hn; omega
    · obtain rfl : n = n2 := by omega
      have Hn := hid hn
      have Hcell := hid hcell
      have Hcell2 := hid hcell2
      have hl' : n ≤ 2000000 := by omega
      clear hn hn2 hcell hcell2 hl
      go_enter Try.func10, Try.ntmps10
      go_wp2
      go_loopw [5] (fun i wr => ∃ k : Nat, k ≤ n ∧ i = .int .i64 k ∧ Below w.heap.size w wr)
        (fun i _ => n - (intOf i).toNat)
      case atStart => exact ⟨0, by omega, rfl, Below.refl _ _⟩
      case round =>
        obtain ⟨k, hk, rfl, hb⟩ := hrel
        by_cases hlk : k < n
        · obtain ⟨x, hkx⟩ := get_lt xs k (by rw [← Hn.out]; exact hlk)
          have hce : wr.cell? ⟨b, off + k, none⟩ = some (.int .i64 x) := by rw [hb.cell (by exact hlt)]; exact Hcell.out k x hkx
          have hcd : wr.cell? ⟨b2, off2 + k, none⟩ = some (.int .i64 x) := by rw [hb.cell (by exact hlt2)]; exact Hcell2.out k x hkx
          have i1 : (0 : Int) ≤ (k : Int) := by omega
          have i2 : (k : Int) < (n : Int) := by omega
          clear hkx
          go_wp2
          go_quiet (fail)
          go_wp2
          go_roundw
          case rel => exact ⟨k + 1, by omega, by go_num, below_drewN hb _⟩
          case measure => simp [intOf]; omega
        · have hge : (n : Int) ≤ (k : Int) := by omega
          clear hlk
          go_wp2
          go_ret
          exact ⟨rfl, hb⟩
end Go.Proofs.Ytbbfigbfkhlddaa
