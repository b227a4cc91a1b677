
import Derived.Test.YtgkjncgaecfbgacGa
import Derived.Test.YtgkjncgaecfbgacShelf
import Derived.Laws.IdiomCopy
namespace Go.Proofs.Ytgkjncgaecfbgac
open Go.RowKit BitX Go.MemX
set_option linter.unusedVariables false


theorem tab_back (xs : List Int) : tab xs.length (fun j => at0 xs (xs.length - 1 - j)) = xs.reverse := by
  apply List.ext_getElem?
  intro i
  by_cases h : i < xs.length
  · rw [tab_get _ _ _ h, List.getElem?_reverse h]
    have h2 : xs.length - 1 - i < xs.length := by omega
    rw [List.getElem?_eq_getElem h2]; congr 1; exact at0_of (List.getElem?_eq_getElem h2)
  · rw [List.getElem?_eq_none (by rw [tab_len]; omega), List.getElem?_eq_none (by simp; omega)]


set_option maxHeartbeats 1000000 in
theorem weBack_any (v : Value) (xs : List Int) (w : World) (hs : Sl w v xs) (hl : xs.length ≤ 64) :
    Calls Try.prog 35 #[v] w (GivesL w xs.reverse) := by
  obtain ⟨a, n, cap, rfl, hn, hrd⟩ := hs.rd
  have Hn := hid hn
  have Hrd := hid hrd
  have hl' : n ≤ 64 := by omega
  clear hn hrd
  clear hl hs
  obtain ⟨i0, hi0, hz0, hz1, hz2⟩ := info_parts iint
  go_enter Try.func35, Try.ntmps35
  go_wp2_with fail
  go_loopw [3, 4] (fun v i wr => ∃ k : Nat, k ≤ n ∧ i = .int .i64 ((n : Int) - 1 - k) ∧ wr.ownsRow w.heap.size 3 1 v k ((tab k (fun j => at0 xs (n - 1 - j))).map (Value.int .i64)) ∧ Below w.heap.size w wr)
    (fun _ i _ => (intOf i + 1).toNat)
  case atStart => exact ⟨0, by omega, by go_num, World.ownsRow_nil _ _ _ _, Below.refl _ _⟩
  case round =>
    obtain ⟨k, hk, rfl, hown, hb⟩ := hrel
    have hsz : w.heap.size ≤ wr.heap.size := hb.size
    by_cases hlk : k < n
    · have hj : n - 1 - k < n := by omega
      obtain ⟨x, hkx⟩ := get_lt xs (n - 1 - k) (by rw [← Hn.out]; exact hj)
      obtain ⟨bb, oo, hix, hbb, hce⟩ := (Hrd.out.kept hb).at (P := Try.prog) (T := 22) n cap uslice sone hkx hj
      have hcast : ((n - 1 - k : Nat) : Int) = (n : Int) - 1 - k := by omega
      have hst : tab (k + 1) (fun j => at0 xs (n - 1 - j)) = tab k (fun j => at0 xs (n - 1 - j)) ++ [x] := by rw [tab_step]; congr 2; exact at0_of hkx
      rw [hcast] at hix
      have Hkx := hid hkx
      clear hkx hcast
      generalize hys : tab k (fun j => at0 xs (n - 1 - j)) = ys at hst hown
      have Hob := hid (ownsRow_base hown)
      have Hst := hid hst
      have Hown := hid hown
      clear hst hown hys
      go_wp2_with (at_builtin; refine wpList_append_own _ rfl _ _ 22 rfl w.heap.size 3 i0 (.int .i64 0) 1 8 uslice hi0 hz0 hz1 hz2 rfl (by decide) _ _ _ rfl (Hown.out.alloc _) ⟨wr.heap.size, 0, none⟩ 1 1 [.int .i64 (x)] rfl rfl ?c1 ?c2 ?c3 ?c4 ?c5 ?_)
      case c1 => exact cell_one_new _ _ _
      case c2 => intro u hu; simp at hu; subst hu; rfl
      case c3 => unfold maxLen; omega
      case c4 => omega
      case c5 => simp; omega
      · intro v' w3 hown3 hgrow _
        have hb3 : Below w.heap.size w w3 := (hb.alloc hsz _).grown hgrow (by simp; omega) (fun j hj => Hob.out j hj)
        have Hown3 := hid hown3
        clear hown3 hgrow
        go_wp2
        go_roundw
        case rel => exact ⟨k + 1, by omega, by go_num, by rw [Hst.out, List.map_append]; exact Hown3.out, hb3⟩
        case measure => simp [intOf]; omega
    · have hge : ¬ k < n := by omega
      have hkn : k = xs.length := by rw [← Hn.out]; omega
      have Hk := hid hkn
      have Hown := hid hown
      clear hkn hlk hown
      go_wp2
      go_ret
      have ho := Hown.out
      rw [Hk.out] at ho
      exact ⟨_, rfl, by rw [← tab_back xs, ← Hn.out]; exact Res.owns (by rw [tab_len, Hn.out]; rw [Hn.out] at ho; exact ho), hb⟩

end Go.Proofs.Ytgkjncgaecfbgac
