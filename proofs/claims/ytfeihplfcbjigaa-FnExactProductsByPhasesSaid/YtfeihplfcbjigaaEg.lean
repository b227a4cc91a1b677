
import Derived.Test.YtfeihplfcbjigaaEb
namespace Go.Proofs.Ytfeihplfcbjigaa
open Go.RowKit BitX Go.MemX Go.Ch6
set_option linter.unusedVariables false
def drF (r f : Nat) (xs : List Int) (k : Nat) : Int := at0 xs (f + k * r)
theorem drF_at {r f k p : Nat} {xs : List Int} {x : Int} (hp : p = f + k * r) (h : xs[p]? = some x) : drF r f xs k = x := by subst hp; exact at0_of h
theorem dropL_eq (r f : Nat) (xs : List Int) : dropL r f xs = tab (drN xs.length r f) (drF r f xs) := rfl
theorem step_mul {p f k r : Nat} (hp : p = f + k * r) : p + r = f + (k + 1) * r := by rw [hp, Nat.succ_mul]; omega


set_option maxHeartbeats 1000000 in
theorem dropFrom_any (v : Value) (xs : List Int) (r f : Nat) (w : World) (hs : Sl w v xs) (hl : xs.length ≤ 64) (hr1 : 1 ≤ r) (hr2 : r ≤ 8) (hf : f ≤ 8) :
    Calls Try.prog 47 #[v, .int .i64 (r : Int), .int .i64 (f : Int)] w (GivesL w (dropL r f xs)) := by
  obtain ⟨a, n, cap, rfl, hn, hrd⟩ := hs.rd
  have Hn := hid hn
  have Hrd := hid hrd
  have hl' : n ≤ 64 := by omega
  have Hlt := hid (fun k => @drN_lt n r f k hr1)
  clear hs hn hrd hl
  obtain ⟨i0, hi0, hz0, hz1, hz2⟩ := info_parts iint
  go_enter Try.func47, Try.ntmps47
  go_wp2_with fail
  go_loopw [7, 8] (fun v i wr => ∃ k p : Nat, k ≤ 64 ∧ Hid (p = f + k * r) ∧ Hid (k ≤ drN n r f) ∧ p ≤ 72 ∧ i = .int .i64 p ∧ wr.ownsRow w.heap.size 3 1 v k ((tab k (drF r f xs)).map (Value.int .i64)) ∧ Below w.heap.size w wr)
    (fun _ i _ => 73 - (intOf i).toNat)
  case atStart => exact ⟨0, f, by omega, hid (by omega), hid (by omega), by omega, rfl, World.ownsRow_nil _ _ _ _, Below.refl _ _⟩
  case round =>
    obtain ⟨k, p, hk, Hp, HK, hp72, rfl, hown, hb⟩ := hrel
    have hsz : w.heap.size ≤ wr.heap.size := hb.size
    by_cases hlk : p < n
    · obtain ⟨x, hkx⟩ := get_lt xs p (by rw [← Hn.out]; exact hlk)
      obtain ⟨bb, oo, hix, hbb, hce⟩ := (Hrd.out.kept hb).at (P := Try.prog) (T := 29) n cap uslice sone hkx hlk
      have hst := tab_step k (drF r f xs)
      rw [drF_at Hp.out hkx] at hst
      have hk2 : k < drN n r f := (Hlt.out k).2 (by rw [← Hp.out]; exact hlk)
      have hk3 : k + 1 ≤ 64 := by have := drN_le n r f hr1; omega
      have HK2 := hid (show k + 1 ≤ drN n r f from hk2)
      have Hp2 := hid (step_mul Hp.out)
      generalize hys : tab k (drF r f xs) = ys at hst hown
      have Hob := hid (ownsRow_base hown)
      have Hst := hid hst
      have Hown := hid hown
      clear hst hown hys hkx hk2
      go_wp2_with (at_builtin; refine wpList_append_own _ rfl _ _ 29 rfl w.heap.size 3 i0 (.int .i64 0) 1 8 uslice hi0 hz0 hz1 hz2 rfl (by decide) _ _ _ rfl (Hown.out.alloc _) ⟨wr.heap.size, 0, none⟩ 1 1 [.int .i64 (x)] rfl rfl ?c1 ?c2 ?c3 ?c4 ?c5 ?_)
      case c1 => exact cell_one_new _ _ _
      case c2 => intro u hu; simp at hu; subst hu; rfl
      case c3 => unfold maxLen; omega
      case c4 => omega
      case c5 => simp; omega
      intro v' w3 hown3 hgrow _
      have hb3 : Below w.heap.size w w3 := (hb.alloc hsz _).grown hgrow (by simp; omega) (fun j hj => Hob.out j hj)
      have Hown3 := hid hown3
      clear hown3 hgrow
      go_wp2
      go_roundw
      case rel => exact ⟨k + 1, p + r, by omega, Hp2, HK2, by omega, by go_num, by rw [Hst.out, List.map_append]; exact Hown3.out, hb3⟩
      case measure => simp [intOf]; omega
    · have hge : (n : Int) ≤ (p : Int) := by omega
      have hkn : k = drN n r f := by
        have h1 : ¬ k < drN n r f := fun h => by have := (Hlt.out k).1 h; rw [← Hp.out] at this; omega
        have h2 := HK.out
        omega
      have Hk := hid hkn
      have Hown := hid hown
      clear hkn hlk hown
      go_wp2
      go_ret
      have ho := Hown.out
      rw [Hk.out, Hn.out] at ho
      exact ⟨_, rfl, Res.owns (by rw [dropL_len, dropL_eq]; exact ho), hb⟩


theorem mul64 {k n r : Nat} (hk : k ≤ n) (hn : n ≤ 64) (hr : r ≤ 8) : k * r ≤ n * r ∧ n * r ≤ 512 := ⟨Nat.mul_le_mul_right _ hk, Nat.mul_le_mul hn hr⟩
theorem mul_lt' {k n r : Nat} (hk : k < n) (hr : 1 ≤ r) : k * r + r ≤ n * r := by
  have := Nat.mul_le_mul_right r (Nat.succ_le_of_lt hk)
  rw [Nat.succ_mul] at this; exact this


end Go.Proofs.Ytfeihplfcbjigaa
