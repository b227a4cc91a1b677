
import Derived.Test.YtbhlailnefappaaMs
namespace Go.MemX
open Go Go.RowKit
set_option linter.unusedVariables false

/-- the number at a place, nought where there is none -/
def at0 (xs : List Int) (i : Nat) : Int := xs.getD i 0
theorem at0_of {xs : List Int} {i : Nat} {x : Int} (h : xs[i]? = some x) : at0 xs i = x := by simp [at0, List.getD_eq_getElem?_getD, h]
theorem at0_out {xs : List Int} {i : Nat} (h : xs.length ≤ i) : at0 xs i = 0 := by simp [at0, List.getD_eq_getElem?_getD, List.getElem?_eq_none h]
/-- the sum of the first n values -/
def sumF : Nat → (Nat → Int) → Int
  | 0, _ => 0
  | n + 1, f => sumF n f + f n
theorem sumF_zero (f : Nat → Int) : sumF 0 f = 0 := rfl
theorem sumF_succ (n : Nat) (f : Nat → Int) : sumF (n + 1) f = sumF n f + f n := rfl
theorem sumF_congr (n : Nat) (f g : Nat → Int) (h : ∀ i, i < n → f i = g i) : sumF n f = sumF n g := by
  induction n with
  | zero => rfl
  | succ n ih => rw [sumF_succ, sumF_succ, ih fun i hi => h i (by omega), h n (by omega)]
theorem sumF_shift (n : Nat) (f : Nat → Int) : sumF (n + 1) f = f 0 + sumF n (fun i => f (i + 1)) := by
  induction n with
  | zero => simp [sumF]
  | succ n ih => rw [sumF_succ, ih, sumF_succ]; omega
theorem sumF_rev (n : Nat) (f : Nat → Int) : sumF (n + 1) (fun i => f (n - i)) = sumF (n + 1) f := by
  induction n with
  | zero => rfl
  | succ n ih =>
    rw [sumF_shift, sumF_succ (n + 1) f, ← ih]
    have : sumF (n + 1) (fun i => f (n + 1 - (i + 1))) = sumF (n + 1) (fun i => f (n - i)) := sumF_congr _ _ _ fun i _ => by congr 1; omega
    rw [this]
    simp only [Nat.sub_zero]; omega
theorem sumF_more (n m : Nat) (f : Nat → Int) (h : n ≤ m) (hf : ∀ i, n ≤ i → i < m → f i = 0) : sumF m f = sumF n f := by
  induction m with
  | zero => have : n = 0 := by omega
            rw [this]
  | succ m ih =>
    by_cases e : n = m + 1
    · rw [e]
    · rw [sumF_succ, ih (by omega) fun i h1 h2 => hf i h1 (by omega), hf m (by omega) (by omega)]; omega
theorem sumF_bound (n : Nat) (f : Nat → Int) (B : Int) (h : ∀ i, i < n → -B ≤ f i ∧ f i ≤ B) : -(n * B) ≤ sumF n f ∧ sumF n f ≤ n * B := by
  induction n with
  | zero => simp [sumF]
  | succ n ih =>
    have a := ih fun i hi => h i (by omega)
    have b := h n (by omega)
    rw [sumF_succ, show ((n + 1 : Nat) : Int) * B = n * B + B from by rw [Int.natCast_add, Int.add_mul]; simp]
    generalize (n : Int) * B = u at *
    omega

/-- a place of the answer -/
def conv (h s : List Int) (n : Nat) : Int := sumF (n + 1) fun k => at0 h k * at0 s (n - k)
theorem conv_comm (h s : List Int) (n : Nat) : conv h s n = conv s h n := by
  unfold conv
  rw [← sumF_rev]
  refine sumF_congr _ _ _ fun i hi => ?_
  rw [show n - (n - i) = i from by omega, Int.mul_comm]
/-- the products that a filter of so many weights makes -/
theorem conv_upto (h s : List Int) (n m : Nat) (h1 : m ≤ n + 1) (h2 : m = n + 1 ∨ h.length ≤ m) : sumF m (fun k => at0 h k * at0 s (n - k)) = conv h s n := by
  unfold conv
  rcases h2 with rfl | h2
  · rfl
  · exact (sumF_more _ _ _ h1 fun i hi _ => by rw [at0_out (by omega)]; simp).symm
theorem mul_in {a b A B : Int} (a1 : -A ≤ a) (a2 : a ≤ A) (b1 : -B ≤ b) (b2 : b ≤ B) (hA : 0 ≤ A) : -(A * B) ≤ a * b ∧ a * b ≤ A * B := by
  have h : (a * b).natAbs ≤ (A * B).natAbs := by rw [Int.natAbs_mul, Int.natAbs_mul]; exact Nat.mul_le_mul (by omega) (by omega)
  have h2 : 0 ≤ A * B := Int.mul_nonneg hA (by omega)
  omega

/-- the first n values of a function -/
def tab (n : Nat) (d : Nat → Int) : List Int := (List.range n).map d
theorem tab_len (n : Nat) (d : Nat → Int) : (tab n d).length = n := by simp [tab]
theorem tab_get (n : Nat) (d : Nat → Int) (i : Nat) (h : i < n) : (tab n d)[i]? = some (d i) := by simp [tab, h]
theorem tab_step (k : Nat) (d : Nat → Int) : tab (k + 1) d = tab k d ++ [d k] := by simp [tab, List.range_succ]
theorem tab_congr (n : Nat) (f g : Nat → Int) (h : ∀ i, i < n → f i = g i) : tab n f = tab n g := by
  unfold tab; exact List.map_congr_left fun i hi => h i (List.mem_range.1 hi)
theorem tab_set {v : Int} (n : Nat) (f g : Nat → Int) (j : Nat) (hj : g j = v) (h : ∀ i, i < n → i ≠ j → f i = g i) : (tab n f).set j v = tab n g := by
  apply List.ext_getElem?
  intro i
  rw [List.getElem?_set]
  by_cases e : j = i
  · subst e
    by_cases hn : j < n
    · rw [if_pos rfl, tab_get _ _ _ hn, if_pos (by rw [tab_len]; exact hn), hj]
    · rw [if_pos rfl, if_neg (by rw [tab_len]; exact hn), List.getElem?_eq_none (by rw [tab_len]; omega)]
  · rw [if_neg e]
    by_cases hn : i < n
    · rw [tab_get _ _ _ hn, tab_get _ _ _ hn, h i hn (fun h => e h.symm)]
    · rw [List.getElem?_eq_none (by rw [tab_len]; omega), List.getElem?_eq_none (by rw [tab_len]; omega)]
theorem tab_zero (n : Nat) : tab n (fun _ => 0) = List.replicate n 0 := by
  apply List.ext_getElem?
  intro i
  by_cases hn : i < n
  · rw [tab_get _ _ _ hn]; simp [hn]
  · rw [List.getElem?_eq_none (by rw [tab_len]; omega), List.getElem?_eq_none (by simp; omega)]
theorem tab_self (xs : List Int) : tab xs.length (at0 xs) = xs := by
  apply List.ext_getElem?
  intro i
  by_cases hn : i < xs.length
  · rw [tab_get _ _ _ hn, List.getElem?_eq_getElem hn]
    congr 1; exact at0_of (List.getElem?_eq_getElem hn)
  · rw [List.getElem?_eq_none (by rw [tab_len]; omega), List.getElem?_eq_none (by omega)]
theorem at0_tab (n : Nat) (f : Nat → Int) (i : Nat) (h : i < n) : at0 (tab n f) i = f i := at0_of (tab_get n f i h)
theorem tab_take (n m : Nat) (f : Nat → Int) (h : m ≤ n) : (tab n f).take m = tab m f := by
  apply List.ext_getElem?
  intro i
  by_cases hn : i < m
  · rw [List.getElem?_take_of_lt hn, tab_get _ _ _ hn, tab_get _ _ _ (by omega)]
  · rw [List.getElem?_take_eq_none (by omega), List.getElem?_eq_none (by rw [tab_len]; omega)]

/-- the whole answer -/
def ans (h s : List Int) : List Int := if s = [] then [] else tab (h.length + s.length - 1) (conv h s)
theorem ans_nil (h : List Int) : ans h [] = [] := by simp [ans]
theorem ans_cons (h s : List Int) (hs : s ≠ []) : ans h s = tab (h.length + s.length - 1) (conv h s) := by rw [ans, if_neg hs]
theorem ans_comm (h s : List Int) (h1 : h ≠ []) (h2 : s ≠ []) : ans h s = ans s h := by
  rw [ans_cons h s h2, ans_cons s h h1, Nat.add_comm]
  exact tab_congr _ _ _ fun i _ => conv_comm _ _ _

/-- the sum that stands at place j behind k weights and i samples of the next one -/
def par (h s : List Int) (k i j : Nat) : Int := sumF (min k (j + 1)) (fun m => at0 h m * at0 s (j - m)) + if k ≤ j ∧ j < k + i then at0 h k * at0 s (j - k) else 0
theorem par_start (h s : List Int) (j : Nat) : par h s 0 0 j = 0 := by
  unfold par; rw [if_neg (by omega)]; simp [sumF]
theorem par_full (h s : List Int) (k j : Nat) : par h s k s.length j = par h s (k + 1) 0 j := by
  unfold par
  rw [if_neg (show ¬ (k + 1 ≤ j ∧ j < k + 1 + 0) by omega)]
  by_cases hk : k ≤ j
  · rw [show min (k + 1) (j + 1) = k + 1 from by omega, show min k (j + 1) = k from by omega, sumF_succ]
    split
    · omega
    · rw [at0_out (show s.length ≤ j - k by omega)]; omega
  · rw [if_neg (by omega), show min (k + 1) (j + 1) = min k (j + 1) from by omega]
theorem par_done (h s : List Int) (j : Nat) : par h s h.length 0 j = conv h s j := by
  unfold par
  rw [if_neg (by omega), Int.add_zero]
  exact conv_upto h s j _ (by omega) (by omega)
theorem par_at (h s : List Int) (k i : Nat) : par h s k (i + 1) (k + i) = par h s k i (k + i) + at0 h k * at0 s i := by
  unfold par
  rw [if_pos (by omega), if_neg (by omega), show k + i - k = i from by omega]; omega
theorem par_other (h s : List Int) (k i j : Nat) (hj : j ≠ k + i) : par h s k i j = par h s k (i + 1) j := by
  unfold par
  congr 1
  by_cases hk : k ≤ j ∧ j < k + i
  · rw [if_pos hk, if_pos (by omega)]
  · rw [if_neg hk, if_neg (by omega)]
theorem par_bound (h s : List Int) (k i j : Nat) (hk : k ≤ 9) (hh : ∀ k, -1000 ≤ at0 h k ∧ at0 h k ≤ 1000) (hs : ∀ k, -100000 ≤ at0 s k ∧ at0 s k ≤ 100000) : -1000000000 ≤ par h s k i j ∧ par h s k i j ≤ 1000000000 := by
  unfold par
  have hm : ∀ a b, -100000000 ≤ at0 h a * at0 s b ∧ at0 h a * at0 s b ≤ 100000000 := fun a b => by
    have := mul_in (hh a).1 (hh a).2 (hs b).1 (hs b).2 (by omega); omega
  have b := sumF_bound (min k (j + 1)) (fun m => at0 h m * at0 s (j - m)) 100000000 fun i _ => hm _ _
  have c := hm k (j - k)
  generalize sumF (min k (j + 1)) (fun m => at0 h m * at0 s (j - m)) = u at *
  generalize at0 h k * at0 s (j - k) = v at *
  split <;> omega
end Go.MemX
