
import Derived.Test.YthgdpmhpieakhaaWg
namespace Go.Proofs.Ythgdpmhpieakhaa
open Go.RowKit BitX Go.MemX

theorem getD_of {xs : List Int} {k : Nat} {x : Int} (h : xs[k]? = some x) : xs.getD k 0 = x := by simp [List.getD_eq_getElem?_getD, h]
def las (xs : List Int) (i : Nat) : Int := if i = 0 then 0 else xs.getD (i - 1) 0
theorem las_zero (xs : List Int) : las xs 0 = 0 := rfl
theorem las_succ {xs : List Int} {k : Nat} {x : Int} (h : xs[k]? = some x) : las xs (k + 1) = x := by
  unfold las; rw [if_neg (by omega), Nat.add_sub_cancel]; exact getD_of h
theorem las_bound {xs : List Int} (h : InP (-100000) 100000 xs) (i : Nat) : -100000 ≤ las xs i ∧ las xs i ≤ 100000 := by
  unfold las
  split
  · omega
  · rw [List.getD_eq_getElem?_getD]
    cases hx : xs[i - 1]? with
    | none => simp
    | some x => exact h.at hx
def dif (xs : List Int) (i : Nat) : Int := xs.getD i 0 - las xs i
def run (xs : List Int) (i : Nat) : Int := sumL (xs.take (i + 1))
def sca (xs : List Int) (c : Int) (i : Nat) : Int := xs.getD i 0 * c
theorem InP.take {lo hi : Int} {xs : List Int} (h : InP lo hi xs) (k : Nat) : InP lo hi (xs.take k) := fun x hx => h x (List.mem_of_mem_take hx)
theorem sumL_bound (xs : List Int) (h : InP (-100000) 100000 xs) : -(xs.length * 100000 : Int) ≤ sumL xs ∧ sumL xs ≤ xs.length * 100000 := by
  induction xs with
  | nil => simp [sumL]
  | cons x xs ih =>
    have a := h x (by simp)
    have b := ih fun y hy => h y (by simp [hy])
    simp only [sumL, List.length_cons]
    omega
theorem mul_bound {x c : Int} (x1 : -100000 ≤ x) (x2 : x ≤ 100000) (c1 : -1000 ≤ c) (c2 : c ≤ 1000) : -100000000 ≤ x * c ∧ x * c ≤ 100000000 := by
  have h : (x * c).natAbs ≤ 100000 * 1000 := by rw [Int.natAbs_mul]; exact Nat.mul_le_mul (by omega) (by omega)
  omega

set_option maxHeartbeats 1000000 in
theorem wdSums_any  (v : Value) (xs : List Int) (w : World) (hs : Sl w v xs) (hl : xs.length ≤ 64) (hi : InP (-100000) 100000 xs)  :
    Calls Try.prog 38 #[v] w (GivesL w (tab xs.length (run xs))) := by
  rcases hs with ⟨rfl, a, cap, rfl⟩ | ⟨b, off, n, cap, rfl, hn, h0, hc, hlt, hcell⟩
  · clear hi
    go_enter Try.func38, Try.ntmps38
    go_wp2
    refine wp_loop_rounds 1 ?_
    rw [rounds_succ]
    go_wp2
    go_ret
    exact ⟨_, rfl, .inl ⟨rfl, rfl⟩, Below.refl _ _⟩
  · have Hn := hid hn
    have Hcell := hid hcell
    have HI := hid hi
    have hl' : n ≤ 64 := by omega
    clear hn hcell hl hi
    obtain ⟨i0, hi0, hz0, hz1, hz2⟩ := info_parts iint
    go_enter Try.func38, Try.ntmps38
    go_wp2
    go_loopw [3, 4, 9] (fun v st i wr => ∃ k : Nat, k ≤ n ∧ i = .int .i64 k ∧ st = .int .i64 (sumL (xs.take k)) ∧ wr.ownsRow w.heap.size 3 1 v k ((tab k (run xs)).map (Value.int .i64)) ∧ Below w.heap.size w wr)
      (fun _ _ i _ => n - (intOf i).toNat)
    case atStart => exact ⟨0, by omega, rfl, rfl, World.ownsRow_nil _ _ _ _, Below.refl _ _⟩
    case round =>
      obtain ⟨k, hk, rfl, rfl, hown, hb⟩ := hrel
      have hsz : w.heap.size ≤ wr.heap.size := hb.size
      by_cases hlk : k < n
      · obtain ⟨x, hkx⟩ := get_lt xs k (by rw [← Hn.out]; exact hlk)
        have hce : wr.cell? ⟨b, off + k, none⟩ = some (.int .i64 x) := by rw [hb.cell (by exact hlt)]; exact Hcell.out k x hkx
        obtain ⟨x1, x2⟩ := HI.out.at hkx
        have hbd := sumL_bound (xs.take k) (HI.out.take k)
        have hlt2 : (xs.take k).length ≤ 64 := by simp; omega
        obtain ⟨m1, m2⟩ := hbd
        have m3 : -6400000 ≤ sumL (xs.take k) := by omega
        have m4 : sumL (xs.take k) ≤ 6400000 := by omega
        clear m1 m2
        have hls := sumL_step xs k x hkx
        have Hls := hid hls
        clear hls
        have hst : tab (k + 1) (run xs) = tab k (run xs) ++ [sumL (xs.take k) + x] := by rw [tab_step]; congr 2 <;> (rw [run, Hls.out])
        generalize hys : tab k (run xs) = ys at hst hown
        have Hob := hid (ownsRow_base hown)
        have Hst := hid hst
        have Hown := hid hown
        have Hkx := hid hkx
        clear hkx hst hown hys
        generalize sumL (xs.take k) = l at *
        go_wp2_with (at_builtin; refine wpList_append_own _ rfl _ _ 24 rfl w.heap.size 3 i0 (.int .i64 0) 1 8 uslice hi0 hz0 hz1 hz2 rfl (by decide) _ _ _ rfl (Hown.out.alloc _) ⟨wr.heap.size, 0, none⟩ 1 1 [.int .i64 (l + x)] rfl rfl ?c1 ?c2 ?c3 ?c4 ?c5 ?_)
        case c1 => exact cell_one_new _ _ _
        case c2 => intro u hu; simp at hu; subst hu; rfl
        case c3 => unfold maxLen; omega
        case c4 => omega
        case c5 => simp; omega
        · intro v' w3 hown3 hgrow _
          have hb3 : Below w.heap.size w w3 := (hb.alloc hsz _).grown hgrow (by simp; omega) (fun j hj => Hob.out j hj)
          have Hown3 := hid hown3
          clear hown3 hgrow
          go_wp2
          go_roundw
          case rel => exact ⟨k + 1, by omega, by go_num, by rw [Hls.out], by rw [Hst.out, List.map_append]; exact Hown3.out, hb3⟩
          case measure => simp [intOf]; omega
      · have hge : (n : Int) ≤ (k : Int) := by omega
        have hkn : k = xs.length := by rw [← Hn.out]; omega
        have Hk := hid hkn
        have Hown := hid hown
        clear hkn hlk hown
        go_wp2
        go_ret
        have ho := Hown.out
        rw [Hk.out] at ho
        exact ⟨_, rfl, Res.owns (by rw [tab_len]; exact ho), hb⟩
end Go.Proofs.Ythgdpmhpieakhaa
