
import Derived.Test.YtdedifgpbehpoaaEa
namespace Go.Ch6
open Go Go.RowKit Go.MemX
set_option linter.unusedVariables false
/-- two numbers that are one behind a wrap to so many bits -/
def cg (b : Nat) (x y : Int) : Prop := (2 * 2 ^ (b - 1) : Int) ∣ x - y
theorem cg_rfl (b : Nat) (x : Int) : cg b x x := by unfold cg; rw [Int.sub_self]; exact Int.dvd_zero _
theorem cg.trans {b : Nat} {x y z : Int} (h : cg b x y) (k : cg b y z) : cg b x z := by
  have := Int.dvd_add h k
  unfold cg; rw [show x - z = (x - y) + (y - z) from by omega]; exact this
theorem cg.symm {b : Nat} {x y : Int} (h : cg b x y) : cg b y x := by
  have := Int.dvd_neg.2 h
  unfold cg; rw [show y - x = -(x - y) from by omega]; exact this
theorem cg.add {b : Nat} {x y u v : Int} (h : cg b x y) (k : cg b u v) : cg b (x + u) (y + v) := by
  have := Int.dvd_add h k
  unfold cg; rw [show x + u - (y + v) = (x - y) + (u - v) from by omega]; exact this
theorem cg.sub {b : Nat} {x y u v : Int} (h : cg b x y) (k : cg b u v) : cg b (x - u) (y - v) := by
  have := Int.dvd_sub h k
  unfold cg; rw [show x - u - (y - v) = (x - y) - (u - v) from by omega]; exact this
theorem cg_wr (b : Nat) (x : Int) : cg b (wrI b x) x := by
  unfold cg wrI
  generalize (2 : Int) ^ (b - 1) = P
  have e := Int.mul_ediv_add_emod (x + P) (2 * P)
  exact ⟨-((x + P) / (2 * P)), by rw [Int.mul_neg]; omega⟩
theorem wr_cg {b : Nat} {x y : Int} (h : cg b x y) : wrI b x = wrI b y := by
  obtain ⟨c, hc⟩ := h
  unfold wrI
  rw [show x + 2 ^ (b - 1) = y + 2 ^ (b - 1) + 2 * 2 ^ (b - 1) * c from by omega, Int.add_mul_emod_self_left]
theorem cg_sum {b : Nat} {f g : Nat → Int} (n : Nat) (h : ∀ i, i < n → cg b (f i) (g i)) : cg b (sumF n f) (sumF n g) := by
  induction n with
  | zero => exact cg_rfl _ _
  | succ n ih => rw [sumF_succ, sumF_succ]; exact (ih fun i hi => h i (by omega)).add (h n (by omega))
theorem cg_bef {b : Nat} {f g : Nat → Int} (i : Nat) (h : ∀ j, j ≤ i → cg b (f j) (g j)) : cg b (bef f i) (bef g i) := by
  cases i with
  | zero => exact cg_rfl _ _
  | succ i => exact h i (by omega)
/-- differences and sums that are not wrapped -/
def D1 (f : Nat → Int) (i : Nat) : Int := f i - bef f i
def S1 (f : Nat → Int) (i : Nat) : Int := sumF (i + 1) f
theorem D1_S1 (f : Nat → Int) (i : Nat) : D1 (S1 f) i = f i := by
  cases i with
  | zero => show sumF 1 f - 0 = f 0; rw [sumF_succ, sumF_zero]; omega
  | succ i => show sumF (i + 2) f - sumF (i + 1) f = f (i + 1); rw [sumF_succ]; omega
theorem S1_D1 (f : Nat → Int) (i : Nat) : S1 (D1 f) i = f i := by
  induction i with
  | zero => show sumF 1 (D1 f) = f 0; rw [sumF_succ, sumF_zero]; show 0 + (f 0 - 0) = f 0; omega
  | succ i ih => show sumF (i + 2) (D1 f) = f (i + 1); rw [sumF_succ]; show S1 (D1 f) i + (f (i + 1) - f i) = f (i + 1); omega
theorem D_congr {b : Nat} (k : Nat) {f g : Nat → Int} (i : Nat) (h : ∀ j, j ≤ i → cg b (f j) (g j)) : cg b (stD b k f i) (stD b k g i) := by
  induction k generalizing i with
  | zero => exact h i (Nat.le_refl _)
  | succ k ih => rw [stD_succ, stD_succ]; exact ((cg_wr b _).trans ((ih i h).sub (cg_bef i fun j hj => ih j fun l hl => h l (by omega)))).trans (cg_wr b _).symm
theorem S_congr {b : Nat} (k : Nat) {f g : Nat → Int} (i : Nat) (h : ∀ j, j ≤ i → cg b (f j) (g j)) : cg b (stS b k f i) (stS b k g i) := by
  induction k generalizing i with
  | zero => exact h i (Nat.le_refl _)
  | succ k ih => exact ((cg_wr b _).trans (cg_sum (i + 1) fun j hj => ih j fun l hl => h l (by omega))).trans (cg_wr b _).symm
theorem D_shift (b k : Nat) (f : Nat → Int) (i : Nat) : cg b (stD b (k + 1) f i) (stD b k (D1 f) i) := by
  induction k generalizing i with
  | zero => exact cg_wr b _
  | succ k ih => rw [stD_succ, stD_succ]; exact ((cg_wr b _).trans ((ih i).sub (cg_bef i fun j _ => ih j))).trans (cg_wr b _).symm
theorem S_shift (b k : Nat) (f : Nat → Int) (i : Nat) : cg b (stS b (k + 1) f i) (stS b k (S1 f) i) := by
  induction k generalizing i with
  | zero => exact cg_wr b _
  | succ k ih => exact ((cg_wr b _).trans (cg_sum (i + 1) fun j _ => ih j)).trans (cg_wr b _).symm
/-- differences undo sums -/
theorem D_S (b k : Nat) (f : Nat → Int) (i : Nat) : cg b (stD b k (stS b k f) i) (f i) := by
  induction k generalizing i with
  | zero => exact cg_rfl _ _
  | succ k ih =>
    refine ((D_shift b k _ i).trans (D_congr k i fun j _ => ?_)).trans (ih i)
    have h1 : cg b (D1 (stS b (k + 1) f) j) (D1 (S1 (stS b k f)) j) := (cg_wr b _).sub (cg_bef j fun l _ => cg_wr b _)
    rw [D1_S1] at h1
    exact h1
/-- sums undo differences -/
theorem S_D (b k : Nat) (f : Nat → Int) (i : Nat) : cg b (stS b k (stD b k f) i) (f i) := by
  induction k generalizing i with
  | zero => exact cg_rfl _ _
  | succ k ih =>
    refine ((S_shift b k _ i).trans (S_congr k i fun j _ => ?_)).trans (ih i)
    have h1 : cg b (S1 (stD b (k + 1) f) j) (S1 (D1 (stD b k f)) j) := cg_sum (j + 1) fun l _ => cg_wr b _
    rw [S1_D1] at h1
    exact h1
theorem wrI_wrI (b : Nat) (x : Int) : wrI b (wrI b x) = wrI b x := wr_cg (cg_wr b x)
theorem tab_map_self (g : Int → Int) (xs : List Int) : xs.map g = tab xs.length (fun i => g (at0 xs i)) := by
  have h : (tab xs.length (at0 xs)).map g = tab xs.length (fun i => g (at0 xs i)) := by simp [tab]
  rw [tab_self] at h; exact h
/-- the lists: combs of sums, sums of combs -/
theorem difs_sums (b k : Nat) (xs : List Int) : difsL b (k + 1) (sumsL b (k + 1) xs) = xs.map (wrI b) := by
  have e : ∀ i, i < xs.length → stD b (k + 1) (at0 (sumsL b (k + 1) xs)) i = wrI b (at0 xs i) := by
    intro i hi
    have h1 : cg b (stD b (k + 1) (at0 (sumsL b (k + 1) xs)) i) (at0 xs i) := (D_congr (k + 1) i fun j hj => by
      show cg b (at0 (tab xs.length (stS b (k + 1) (at0 xs))) j) (stS b (k + 1) (at0 xs) j)
      rw [at0_tab _ _ _ (by omega)]; exact cg_rfl _ _).trans (D_S b (k + 1) (at0 xs) i)
    have h2 := wr_cg h1
    rw [stD_succ, wrI_wrI, ← stD_succ] at h2
    exact h2
  show tab (sumsL b (k + 1) xs).length _ = _
  rw [sumsL_len, tab_congr _ _ _ e, ← tab_map_self]
theorem sums_difs (b k : Nat) (xs : List Int) : sumsL b (k + 1) (difsL b (k + 1) xs) = xs.map (wrI b) := by
  have e : ∀ i, i < xs.length → stS b (k + 1) (at0 (difsL b (k + 1) xs)) i = wrI b (at0 xs i) := by
    intro i hi
    have h1 : cg b (stS b (k + 1) (at0 (difsL b (k + 1) xs)) i) (at0 xs i) := (S_congr (k + 1) i fun j hj => by
      show cg b (at0 (tab xs.length (stD b (k + 1) (at0 xs))) j) (stD b (k + 1) (at0 xs) j)
      rw [at0_tab _ _ _ (by omega)]; exact cg_rfl _ _).trans (S_D b (k + 1) (at0 xs) i)
    have h2 := wr_cg h1
    rw [stS_succ] at h2
    unfold hdS at h2
    rw [wrI_wrI] at h2
    rw [stS_succ]
    exact h2
  show tab (difsL b (k + 1) xs).length _ = _
  rw [difsL_len, tab_congr _ _ _ e, ← tab_map_self]
theorem sum_none {n : Nat} {f : Nat → Int} (h : ∀ i, 0 ≤ f i) (hs : sumF n f = 0) : ∀ i, i < n → f i = 0 := by
  induction n with
  | zero => intro i hi; omega
  | succ n ih =>
    rw [sumF_succ] at hs
    have h0 : 0 ≤ sumF n f := by
      clear ih hs
      induction n with
      | zero => exact Int.le_refl _
      | succ n ih => rw [sumF_succ]; have := h n; omega
    have h1 := h n
    intro i hi
    by_cases hn : i = n
    · subst hn; omega
    · exact ih (by omega) i (by omega)
/-- one stage that never wraps holds the sums themselves -/
theorem no_wraps {b n : Nat} {f : Nat → Int} (h : wraps b 1 n f = 0) : ∀ i, i < n → stS b 1 f i = sumF (i + 1) f := by
  have h1 := sum_none (fun i => by rw [sumF_succ, sumF_zero]; have := (chg_in b 0 f i).1; omega) h
  have h2 : ∀ i, i ≤ n → hdS b 0 f i = sumF i f := by
    intro i hi
    induction i with
    | zero => exact hdS_zero _ _ _
    | succ i ih =>
      have h3 := h1 i (by omega)
      rw [sumF_succ, sumF_zero] at h3
      unfold chg at h3
      split at h3
      · rename_i h4; rw [h4, ih (by omega)]; rfl
      · omega
  intro i hi
  rw [stS_succ]
  exact h2 (i + 1) (by omega)
theorem sums_no_wraps {b : Nat} {xs : List Int} (h : wraps b 1 xs.length (at0 xs) = 0) : sumsL b 1 xs = tab xs.length (fun i => sumF (i + 1) (at0 xs)) := tab_congr _ _ _ (no_wraps h)
/-- what the 32 combs are like -/
theorem box_facts {r st : Nat} (h1 : 1 ≤ r) (h2 : r ≤ 8) (h3 : 1 ≤ st) (h4 : st ≤ 4) :
    sumF (cbW r st).length (at0 (cbW r st)) = cbG r st ∧ (cbW r st).length = st * (r - 1) + 1 ∧ at0 (cbW r st) 0 = 1 ∧ (cbW r st).reverse = cbW r st := by
  have h : ∀ r : Fin 8, ∀ st : Fin 4, sumF (cbW (r.1 + 1) (st.1 + 1)).length (at0 (cbW (r.1 + 1) (st.1 + 1))) = cbG (r.1 + 1) (st.1 + 1) ∧ (cbW (r.1 + 1) (st.1 + 1)).length = (st.1 + 1) * (r.1 + 1 - 1) + 1 ∧ at0 (cbW (r.1 + 1) (st.1 + 1)) 0 = 1 ∧ (cbW (r.1 + 1) (st.1 + 1)).reverse = cbW (r.1 + 1) (st.1 + 1) := by decide +kernel
  have k := h ⟨r - 1, by omega⟩ ⟨st - 1, by omega⟩
  rw [show r - 1 + 1 = r from by omega, show st - 1 + 1 = st from by omega] at k
  exact k
end Go.Ch6
