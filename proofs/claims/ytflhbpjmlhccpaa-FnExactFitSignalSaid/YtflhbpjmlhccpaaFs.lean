
import Derived.Test.YtflhbpjmlhccpaaRm
import Derived.Test.YtflhbpjmlhccpaaWg
import Derived.Test.YtflhbpjmlhccpaaSf
import Derived.Test.YtflhbpjmlhccpaaCm
namespace Go.Proofs.Ytflhbpjmlhccpaa
open Go.RowKit BitX Go.MemX

theorem map_step {α β : Type} (f : α → β) (xs : List α) (k : Nat) (x : α) (h : xs[k]? = some x) : (xs.take (k + 1)).map f = (xs.take k).map f ++ [f x] := by
  rw [take_step xs k x h]; simp
theorem fitI_small (m : Nat) (wb : Bool) (x : Int) (h1 : 1 ≤ m) (h2 : m ≤ 16) : -100000 ≤ fitI m wb x ∧ fitI m wb x ≤ 100000 := by
  have hp := pow_small m h1 h2
  cases wb
  · simp only [fitI, Bool.false_eq_true, if_false]
    split
    · omega
    · split <;> omega
  · have hm : ((2 ^ m : Nat) : Int) = 2 * 2 ^ (m - 1) := by
      rw [show m = (m - 1) + 1 from by omega, Nat.pow_succ]; simp; omega
    have a := Int.le_bmod (x := x) (m := 2 ^ m) (Nat.two_pow_pos _)
    have b := Int.bmod_lt (x := x) (m := 2 ^ m) (Nat.two_pow_pos _)
    simp only [fitI, if_true]
    omega

set_option maxHeartbeats 1000000 in
theorem wdFitAll_any (m : Nat) (wb : Bool) (v : Value) (xs : List Int) (w : World) (h1 : 2 ≤ m) (h2 : m ≤ 16) (hs : Sl w v xs) (hl : xs.length ≤ 64) :
    Calls Try.prog 29 #[.agg #[.int .i64 (m : Int), .bool wb], v] w (GivesL w (xs.map (fitI m wb))) := by
  rcases hs with ⟨rfl, a, cap, rfl⟩ | ⟨b, off, n, cap, rfl, hn, h0, hc, hlt, hcell⟩
  · go_enter Try.func29, Try.ntmps29
    go_wp2
    refine wp_loop_rounds 1 ?_
    rw [rounds_succ]
    go_wp2
    go_ret
    exact ⟨_, rfl, .inl ⟨rfl, rfl⟩, bel_alloc _ _⟩
  · have Hn := hid hn
    have Hcell := hid hcell
    have hl' : n ≤ 64 := by omega
    clear hn hcell hl
    obtain ⟨i0, hi, hz0, hz1, hz2⟩ := info_parts iint
    go_enter Try.func29, Try.ntmps29
    go_wp2
    go_loopw [5, 10] (fun v i wr => ∃ k : Nat, k ≤ n ∧ i = .int .i64 k ∧ wr.ownsRow (w.heap.size + 1) 3 1 v k (((xs.take k).map (fitI m wb)).map (Value.int .i64)) ∧ Below (w.heap.size + 1) (w.alloc (.cells #[.int .i64 (m : Int), .bool wb] 30)) wr)
      (fun _ i _ => n - (intOf i).toNat)
    case atStart => exact ⟨0, by omega, rfl, World.ownsRow_nil _ _ _ _, Below.refl _ _⟩
    case round =>
      obtain ⟨k, hk, rfl, hown, hb⟩ := hrel
      have hsz : w.heap.size + 1 ≤ wr.heap.size := by have := hb.size; simpa using this
      by_cases hlk : k < n
      · obtain ⟨x, hkx⟩ := get_lt xs k (by rw [← Hn.out]; exact hlk)
        have hce : wr.cell? ⟨b, off + k, none⟩ = some (.int .i64 x) := by
          rw [hb.cell (by show b < w.heap.size + 1; omega), World.cell?_alloc_past _ _ _ hlt]; exact Hcell.out k x hkx
        obtain ⟨c0, d0⟩ := box2_cells (by simpa using hb)
        have hst := map_step (fitI m wb) xs k x hkx
        generalize hys : List.map (fitI m wb) (List.take k xs) = ys at hst hown
        have hob := ownsRow_base hown
        have Hob := hid hob
        have Hst := hid hst
        have Hown := hid hown
        clear hkx hst hown hob hys
        go_wp2_with fail
        refine (wdFit_any m wb x _ (by omega) h2).mono ?_
        rintro e w2 ⟨rfl, hb2⟩
        have hown2 := ownsRow_below Hown.out hb2
        have hsz2 : w.heap.size + 1 ≤ w2.heap.size := Nat.le_trans hsz hb2.size
        go_wp2_with (at_builtin; refine wpList_append_own _ rfl _ _ 22 rfl (w.heap.size + 1) 3 i0 (.int .i64 0) 1 8 uslice hi hz0 hz1 hz2 rfl (by decide) _ _ _ rfl (hown2.alloc _) ⟨w2.heap.size, 0, none⟩ 1 1 [.int .i64 (fitI m wb x)] rfl rfl ?c1 ?c2 ?c3 ?c4 ?c5 ?_)
        case c1 => exact cell_one_new _ _ _
        case c2 => intro u hu; simp at hu; subst hu; rfl
        case c3 => unfold maxLen; omega
        case c4 => omega
        case c5 => simp; omega
        · intro v' w3 hown3 hgrow _
          have hb3 : Below (w.heap.size + 1) (w.alloc (.cells #[.int .i64 (m : Int), .bool wb] 30)) w3 :=
            ((hb.trans (hb2.mono hsz)).alloc hsz2 _).grown hgrow (by simp; omega) (fun j hj => Hob.out j hj)
          have Hown3 := hid hown3
          clear hown2 hown3 hgrow
          go_wp2
          go_roundw
          case rel => exact ⟨k + 1, by omega, by go_num, by rw [Hst.out, List.map_append]; exact Hown3.out, hb3⟩
          case measure => simp [intOf]; omega
      · have hge : (n : Int) ≤ (k : Int) := by omega
        have hkn : k = xs.length := by rw [← Hn.out]; omega
        have Hk := hid hkn
        have Hown := hid hown
        clear hkn hlk hown
        go_wp2
        go_ret
        have ho := Hown.out
        rw [Hk.out, List.take_length] at ho
        exact ⟨_, rfl, (Res.owns (by rw [List.length_map]; exact ho)).mono (by omega), (bel_alloc _ _).trans (hb.mono (by omega))⟩
end Go.Proofs.Ytflhbpjmlhccpaa
