
import Derived.Test.YtdedifgpbehpoaaRd
namespace Go.MemX
open Go Go.RowKit
set_option linter.unusedVariables false

/-- the samples that so many weights reach at place n -/
def win (s : List Int) (n m : Nat) : List Int := (s.take (n + 1)).drop (n + 1 - m)
theorem win_len (s : List Int) (n m : Nat) (h : n < s.length) : (win s n m).length = min m (n + 1) := by simp [win]; omega
theorem win_get (s : List Int) (n m i : Nat) (h : n < s.length) (hi : i < min m (n + 1)) : (win s n m)[i]? = s[n + 1 - m + i]? := by
  unfold win
  rw [List.getElem?_drop, List.getElem?_take_of_lt (by omega)]
theorem win_at (s : List Int) (n m k : Nat) (h : n < s.length) (hk : k < min m (n + 1)) : at0 (win s n m) (min m (n + 1) - 1 - k) = at0 s (n - k) := by
  unfold at0
  rw [List.getD_eq_getElem?_getD, List.getD_eq_getElem?_getD, win_get s n m _ h (by omega)]
  congr 2; omega
/-- what a filter makes of the samples that its weights reach -/
def filt (h r : List Int) : Int := sumF r.length fun k => at0 h k * at0 r (r.length - 1 - k)
theorem filt_win (h s : List Int) (n : Nat) (hn : n < s.length) : filt h (win s n h.length) = conv h s n := by
  unfold filt
  rw [win_len s n _ hn]
  rw [← conv_upto h s n (min h.length (n + 1)) (by omega) (by omega)]
  refine sumF_congr _ _ _ fun i hi => ?_
  rw [win_at s n _ i hn hi]
theorem at0_in {lo hi : Int} {xs : List Int} (h : ∀ x ∈ xs, lo ≤ x ∧ x ≤ hi) (h0 : lo ≤ 0) (h1 : 0 ≤ hi) (i : Nat) : lo ≤ at0 xs i ∧ at0 xs i ≤ hi := by
  unfold at0
  rw [List.getD_eq_getElem?_getD]
  cases hx : xs[i]? with
  | none => exact ⟨h0, h1⟩
  | some x => exact h x (List.mem_of_getElem? hx)
theorem conv_bound (h s : List Int) (n : Nat) (hl : h.length ≤ 9) (hh : ∀ x ∈ h, -1000 ≤ x ∧ x ≤ 1000) (hs : ∀ x ∈ s, -100000 ≤ x ∧ x ≤ 100000) : -900000000 ≤ conv h s n ∧ conv h s n ≤ 900000000 := by
  rw [← conv_upto h s n (min h.length (n + 1)) (by omega) (by omega)]
  have b := sumF_bound (min h.length (n + 1)) (fun m => at0 h m * at0 s (n - m)) 100000000 fun i _ => by
    have a := at0_in hh (by omega) (by omega) i
    have b := at0_in hs (by omega) (by omega) (n - i)
    have := mul_in a.1 a.2 b.1 b.2 (by omega); omega
  generalize sumF (min h.length (n + 1)) (fun m => at0 h m * at0 s (n - m)) = u at *
  omega
theorem ans_len (h s : List Int) (hs : s ≠ []) : (ans h s).length = h.length + s.length - 1 := by rw [ans_cons h s hs, tab_len]
/-- the answer is what is made of the samples with noughts behind -/
theorem ans_padded (h s : List Int) (hs : s ≠ []) (hh : h ≠ []) : ans h s = tab (s ++ List.replicate (h.length - 1) 0).length (fun n => filt h (win (s ++ List.replicate (h.length - 1) 0) n h.length)) := by
  have hl := List.length_pos_iff.2 hh
  rw [ans_cons h s hs]
  have e : (s ++ List.replicate (h.length - 1) 0).length = h.length + s.length - 1 := by simp; omega
  rw [e]
  refine tab_congr _ _ _ fun n hn => ?_
  rw [filt_win _ _ _ (by omega)]
  unfold conv
  refine sumF_congr _ _ _ fun k _ => ?_
  congr 1
  unfold at0
  rw [List.getD_eq_getElem?_getD, List.getD_eq_getElem?_getD, List.getElem?_append]
  split
  · rfl
  · rename_i hk
    rw [List.getElem?_eq_none (by omega), List.getElem?_replicate]
    split <;> rfl
theorem ans_short (h s : List Int) (hh : h ≠ []) : (ans h s).take s.length = tab s.length (conv h s) := by
  have hl := List.length_pos_iff.2 hh
  by_cases hs : s = []
  · subst hs; simp [ans, tab]
  · have := List.length_pos_iff.2 hs
    rw [ans_cons h s hs, tab_take _ _ _ (by omega)]

/-- a part of a list that a slice reads as -/
theorem Sl.cut {w : World} {b off n cap : Nat} {xs : List Int} (h : Sl w (.slice (some ⟨b, off, none⟩) n cap) xs) {lo hi c2 : Nat} (h1 : lo < hi) (h2 : hi ≤ xs.length) (hc : hi - lo ≤ c2) :
    Sl w (.slice (some ⟨b, off + lo, none⟩) (hi - lo) c2) ((xs.take hi).drop lo) := by
  rcases h with ⟨rfl, _⟩ | ⟨b2, off2, n2, cap2, hv, hn, hp, _, hlt, hx⟩
  · simp at h2; omega
  · cases hv
    refine .inr ⟨b, off + lo, hi - lo, c2, rfl, by simp; omega, by omega, hc, hlt, fun i x hi' => ?_⟩
    rw [List.getElem?_drop] at hi'
    have hil : lo + i < hi := by
      by_cases hh : lo + i < hi
      · exact hh
      · rw [List.getElem?_take_eq_none (by omega)] at hi'; cases hi'
    rw [List.getElem?_take_of_lt hil] at hi'
    rw [Nat.add_assoc]
    exact hx _ x hi'
end Go.MemX
