import Derived.Test.YtdedifgpbehpoaaEr
import Derived.Test.YtdedifgpbehpoaaKp
import Derived.Test.YtdedifgpbehpoaaKh
import Derived.Test.YtdedifgpbehpoaaEp
import Derived.Test.YtdedifgpbehpoaaEl
import Derived.Test.YtdedifgpbehpoaaEq
import Derived.Test.YtdedifgpbehpoaaZl
namespace Go.Ch6
open Go Go.RowKit Go.MemX
set_option linter.unusedVariables false
/-- one list of numbers behind another one: the sum of products -/
def cv (f g : Nat → Int) (n : Nat) : Int := sumF (n + 1) fun k => f k * g (n - k)
theorem sumF_scale (n : Nat) (f : Nat → Int) (c : Int) : sumF n (fun i => f i * c) = sumF n f * c := by
  induction n with
  | zero => simp [sumF]
  | succ n ih => rw [sumF_succ, sumF_succ, ih, Int.add_mul]
theorem sumF_scaleL (n : Nat) (f : Nat → Int) (c : Int) : sumF n (fun i => c * f i) = c * sumF n f := by
  induction n with
  | zero => simp [sumF]
  | succ n ih => rw [sumF_succ, sumF_succ, ih, Int.mul_add]
theorem sumF_plus (n : Nat) (f g : Nat → Int) : sumF n (fun i => f i + g i) = sumF n f + sumF n g := by
  induction n with
  | zero => rfl
  | succ n ih => rw [sumF_succ, sumF_succ, sumF_succ, ih]; omega
theorem sumF_cut (n m : Nat) (f : Nat → Int) : sumF (n + m) f = sumF n f + sumF m (fun j => f (n + j)) := by
  induction m with
  | zero => simp [sumF]
  | succ m ih => rw [← Nat.add_assoc, sumF_succ, ih, sumF_succ]; omega
theorem sumF_noughts (n : Nat) (f : Nat → Int) (h : ∀ i, i < n → f i = 0) : sumF n f = 0 := by
  induction n with
  | zero => rfl
  | succ n ih => rw [sumF_succ, ih fun i hi => h i (by omega), h n (by omega)]; rfl
theorem sumF_single (n k : Nat) (f : Nat → Int) (hk : k < n) (h : ∀ i, i < n → i ≠ k → f i = 0) : sumF n f = f k := by
  induction n with
  | zero => omega
  | succ n ih =>
    rw [sumF_succ]
    by_cases e : k = n
    · subst e
      rw [sumF_noughts k f fun i hi => h i (by omega) (by omega)]; omega
    · rw [ih (by omega) fun i hi hne => h i (by omega) hne, h n (by omega) (by omega)]; omega
theorem tri (n : Nat) (F : Nat → Nat → Int) : sumF (n + 1) (fun k => sumF (k + 1) (fun i => F i (k - i))) = sumF (n + 1) (fun i => sumF (n - i + 1) (fun j => F i j)) := by
  induction n with
  | zero => rfl
  | succ n ih =>
    rw [sumF_succ, ih]
    have e : sumF (n + 1 + 1) (fun i => sumF (n + 1 - i + 1) (fun j => F i j)) = sumF (n + 1) (fun i => sumF (n - i + 1) (fun j => F i j) + F i (n + 1 - i)) + F (n + 1) 0 := by
      rw [sumF_succ]
      congr 1
      · refine sumF_congr _ _ _ fun i hi => ?_
        rw [show n + 1 - i + 1 = n - i + 1 + 1 from by omega, sumF_succ, show n - i + 1 = n + 1 - i from by omega]
      · rw [show n + 1 - (n + 1) + 1 = 0 + 1 from by omega, sumF_succ, sumF_zero]; omega
    rw [e, sumF_plus, sumF_succ (n + 1) (fun i => F i (n + 1 - i)), Nat.sub_self]
    omega
theorem cv_congr {f f' g g' : Nat → Int} (n : Nat) (h : ∀ i, i ≤ n → f i = f' i) (k : ∀ i, i ≤ n → g i = g' i) : cv f g n = cv f' g' n :=
  sumF_congr _ _ _ fun i hi => by rw [h i (by omega), k (n - i) (by omega)]
theorem cv_comm (f g : Nat → Int) : cv f g = cv g f := by
  funext n
  unfold cv
  rw [← sumF_rev]
  refine sumF_congr _ _ _ fun i hi => ?_
  rw [show n - (n - i) = i from by omega, Int.mul_comm]
theorem cv_assoc (f g h : Nat → Int) : cv (cv f g) h = cv f (cv g h) := by
  funext n
  have e1 : cv (cv f g) h n = sumF (n + 1) (fun k => sumF (k + 1) (fun i => f i * g (k - i) * h (n - i - (k - i)))) := by
    refine sumF_congr _ _ _ fun k hk => ?_
    show sumF (k + 1) (fun i => f i * g (k - i)) * h (n - k) = _
    rw [← sumF_scale]
    refine sumF_congr _ _ _ fun i hi => ?_
    rw [show n - i - (k - i) = n - k from by omega]
  rw [e1, tri n (fun i j => f i * g j * h (n - i - j))]
  refine sumF_congr _ _ _ fun i hi => ?_
  show _ = f i * sumF (n - i + 1) (fun j => g j * h (n - i - j))
  rw [← sumF_scaleL]
  exact sumF_congr _ _ _ fun j _ => Int.mul_assoc _ _ _
/-- the box -/
def bx (r k : Nat) : Int := if k < r then 1 else 0
theorem at0_ones (r : Nat) : at0 (List.replicate r 1) = bx r := by
  funext k
  unfold bx
  by_cases h : k < r
  · rw [if_pos h]; exact at0_of (by simp [h])
  · rw [if_neg h]; exact at0_out (by simp; omega)
theorem at0_ans (h s : List Int) (h1 : h ≠ []) (h2 : s ≠ []) : at0 (ans h s) = cv (at0 h) (at0 s) := by
  funext n
  have l1 : 0 < h.length := List.length_pos_iff.2 h1
  have l2 : 0 < s.length := List.length_pos_iff.2 h2
  rw [ans_cons h s h2]
  by_cases hn : n < h.length + s.length - 1
  · exact at0_tab _ _ _ hn
  · rw [at0_out (by rw [tab_len]; omega)]
    refine (sumF_noughts _ _ fun k hk => ?_).symm
    by_cases hk2 : k < h.length
    · rw [at0_out (xs := s) (by omega)]; simp
    · rw [at0_out (xs := h) (by omega)]; simp
def bxK (r : Nat) : Nat → (Nat → Int) → Nat → Int
  | 0, f => f
  | k + 1, f => cv (bx r) (bxK r k f)
theorem cbW_ne (r st : Nat) (hr : 1 ≤ r) : cbW r st ≠ [] := by
  induction st with
  | zero => simp [cbW]
  | succ k ih =>
    show ans (List.replicate r 1) (cbW r k) ≠ []
    rw [ans_cons _ _ ih]
    have l2 : 0 < (cbW r k).length := List.length_pos_iff.2 ih
    intro h
    have := congrArg List.length h
    rw [tab_len] at this
    simp at this
    omega
theorem cv_one (f : Nat → Int) : cv (at0 [1]) f = f := by
  funext n
  unfold cv
  rw [sumF_single (n + 1) 0 _ (by omega) fun i hi hne => by rw [at0_out (by simp; omega)]; simp]
  show (1 : Int) * f (n - 0) = f n
  rw [Int.one_mul, Nat.sub_zero]
theorem conv_bxK (r st : Nat) (hr : 1 ≤ r) (s : List Int) : conv (cbW r st) s = bxK r st (at0 s) := by
  have h : ∀ st, cv (at0 (cbW r st)) (at0 s) = bxK r st (at0 s) := by
    intro st
    induction st with
    | zero => exact cv_one _
    | succ k ih =>
      show cv (at0 (ans (List.replicate r 1) (cbW r k))) (at0 s) = cv (bx r) (bxK r k (at0 s))
      rw [at0_ans _ _ (fun h => by have := congrArg List.length h; simp at this; omega) (cbW_ne r k hr), at0_ones, cv_assoc, ih]
  exact h st
def uno (_ : Nat) : Int := 1
theorem S1_cv (f : Nat → Int) : S1 f = cv uno f := by
  funext n
  unfold S1 cv uno
  rw [← sumF_rev]
  exact sumF_congr _ _ _ fun i _ => (Int.one_mul _).symm
theorem S1_box (r : Nat) (f : Nat → Int) : S1 (cv (bx r) f) = cv (bx r) (S1 f) := by
  rw [S1_cv, S1_cv, ← cv_assoc, cv_comm uno, cv_assoc]
def S1K : Nat → (Nat → Int) → Nat → Int
  | 0, f => f
  | k + 1, f => S1 (S1K k f)
def D1K : Nat → (Nat → Int) → Nat → Int
  | 0, f => f
  | k + 1, f => D1 (D1K k f)
theorem S1K_in (k : Nat) (f : Nat → Int) : S1K (k + 1) f = S1K k (S1 f) := by
  induction k with
  | zero => rfl
  | succ k ih => show S1 (S1K (k + 1) f) = S1 (S1K k (S1 f)); rw [ih]
theorem D1K_in (k : Nat) (f : Nat → Int) : D1K (k + 1) f = D1K k (D1 f) := by
  induction k with
  | zero => rfl
  | succ k ih => show D1 (D1K (k + 1) f) = D1 (D1K k (D1 f)); rw [ih]
theorem bxK_in (r k : Nat) (f : Nat → Int) : bxK r (k + 1) f = bxK r k (cv (bx r) f) := by
  induction k with
  | zero => rfl
  | succ k ih => show cv (bx r) (bxK r (k + 1) f) = cv (bx r) (bxK r k (cv (bx r) f)); rw [ih]
theorem S1K_box (r k : Nat) (f : Nat → Int) : S1K k (cv (bx r) f) = cv (bx r) (S1K k f) := by
  induction k with
  | zero => rfl
  | succ k ih => show S1 (S1K k (cv (bx r) f)) = cv (bx r) (S1 (S1K k f)); rw [ih, S1_box]
theorem cg_S1K (b k : Nat) (f : Nat → Int) (i : Nat) : cg b (stS b k f i) (S1K k f i) := by
  induction k generalizing i with
  | zero => exact cg_rfl _ _
  | succ k ih => exact (cg_wr b _).trans (cg_sum (i + 1) fun j _ => ih j)
theorem cg_D1K (b k : Nat) (f : Nat → Int) (i : Nat) : cg b (stD b k f i) (D1K k f i) := by
  induction k generalizing i with
  | zero => exact cg_rfl _ _
  | succ k ih => rw [stD_succ]; exact (cg_wr b _).trans ((ih i).sub (cg_bef i fun j _ => ih j))
/-- those that are kept -/
def dr (r : Nat) (f : Nat → Int) (i : Nat) : Int := f (r - 1 + i * r)
theorem box_at (r : Nat) (g : Nat → Int) (m : Nat) (hr : 1 ≤ r) : cv (bx r) g (r - 1 + m) = sumF r (fun j => g (m + j)) := by
  unfold cv
  rw [show r - 1 + m + 1 = r + m from by omega, sumF_cut, sumF_noughts m _ fun i _ => by unfold bx; rw [if_neg (by omega)]; simp]
  rw [Int.add_zero]
  obtain ⟨q, rfl⟩ : ∃ q, r = q + 1 := ⟨r - 1, by omega⟩
  rw [← sumF_rev q (fun j => g (m + j))]
  refine sumF_congr _ _ _ fun i hi => ?_
  unfold bx
  rw [if_pos hi, Int.one_mul]
  congr 1
  omega
theorem dr_step {r : Nat} (hr : 1 ≤ r) (g : Nat → Int) : D1 (dr r (S1 g)) = dr r (cv (bx r) g) := by
  funext i
  cases i with
  | zero =>
    show sumF (r - 1 + 0 * r + 1) g - 0 = cv (bx r) g (r - 1 + 0 * r)
    rw [Nat.zero_mul, box_at r g 0 hr, show r - 1 + 0 + 1 = r from by omega]
    simp
  | succ i =>
    show sumF (r - 1 + (i + 1) * r + 1) g - sumF (r - 1 + i * r + 1) g = cv (bx r) g (r - 1 + (i + 1) * r)
    rw [show r - 1 + (i + 1) * r + 1 = (r - 1 + i * r + 1) + r from by rw [Nat.add_mul]; omega, sumF_cut, box_at r g ((i + 1) * r) hr]
    have e : ∀ j, r - 1 + i * r + 1 + j = (i + 1) * r + j := fun j => by rw [Nat.add_mul]; omega
    simp only [e]
    omega
theorem cic {r : Nat} (hr : 1 ≤ r) (k : Nat) (f : Nat → Int) : D1K k (dr r (S1K k f)) = dr r (bxK r k f) := by
  induction k generalizing f with
  | zero => rfl
  | succ k ih =>
    rw [D1K_in]
    show D1K k (D1 (dr r (S1 (S1K k f)))) = _
    rw [dr_step hr, ← S1K_box, ih, ← bxK_in]
theorem stf_D1 {r : Nat} (hr : 1 ≤ r) (f : Nat → Int) : S1 (stf r (D1 f)) = cv (bx r) (stf r f) := by
  funext n
  obtain ⟨q, j, hj, rfl⟩ : ∃ q j, j < r ∧ n = q * r + j := ⟨n / r, n % r, Nat.mod_lt _ (by omega), by rw [Nat.mul_comm]; exact (Nat.div_add_mod n r).symm⟩
  have a : S1 (stf r (D1 f)) (q * r + j) = f q := by
    show sumF (q * r + (j + 1)) (stf r (D1 f)) = f q
    have e1 : ∀ q, sumF (q * r) (stf r (D1 f)) = sumF q (D1 f) := by
      intro q
      induction q with
      | zero => rw [Nat.zero_mul]; rfl
      | succ q ih =>
        rw [Nat.add_mul, Nat.one_mul, sumF_cut, ih, sumF_succ, sumF_single r 0 _ (by omega) fun i hi hne => stf_in (D1 f) (by omega) hi, Nat.add_zero, stf_at (D1 f) hr]
    rw [sumF_cut, e1, sumF_single (j + 1) 0 _ (by omega) fun i hi hne => stf_in (D1 f) (by omega) (by omega), Nat.add_zero, stf_at (D1 f) hr, ← sumF_succ]
    exact S1_D1 f q
  rw [a]
  unfold cv
  rw [sumF_single (q * r + j + 1) j _ (by omega) fun i hi hne => ?_]
  · unfold bx
    rw [if_pos hj, Int.one_mul, show q * r + j - j = q * r from by omega, stf_at f hr]
  · by_cases hir : i < r
    · have : stf r f (q * r + j - i) = 0 := by
        by_cases hle : i < j
        · rw [show q * r + j - i = q * r + (j - i) from by omega]; exact stf_in f (by omega) (by omega)
        · obtain ⟨p, rfl⟩ : ∃ p, q = p + 1 := ⟨q - 1, by
            rcases Nat.eq_zero_or_pos q with h0 | h0
            · subst h0; omega
            · omega⟩
          rw [show (p + 1) * r + j - i = p * r + (r + j - i) from by rw [Nat.add_mul]; omega]
          exact stf_in f (by omega) (by omega)
      rw [this, Int.mul_zero]
    · unfold bx; rw [if_neg hir, Int.zero_mul]
theorem rise {r : Nat} (hr : 1 ≤ r) (k : Nat) (f : Nat → Int) : S1K k (stf r (D1K k f)) = bxK r k (stf r f) := by
  induction k with
  | zero => rfl
  | succ k ih =>
    rw [S1K_in]
    show S1K k (S1 (stf r (D1 (D1K k f)))) = _
    rw [stf_D1 hr, S1K_box, ih]; rfl
theorem wc_exact {s : List Int} {b st r : Nat} (h1 : 1 ≤ st) (hr : 1 ≤ r) : difsL b st (dropL r (r - 1) (sumsL b st s)) = (dropL r (r - 1) (tab s.length (conv (cbW r st) s))).map (wrI b) := by
  have hm : (dropL r (r - 1) (sumsL b st s)).length = drN s.length r (r - 1) := by rw [dropL_len, sumsL_len]
  unfold difsL
  rw [hm]
  have e : ∀ i, i < drN s.length r (r - 1) → stD b st (at0 (dropL r (r - 1) (sumsL b st s))) i = wrI b (conv (cbW r st) s (r - 1 + i * r)) := by
    intro i hi
    have c1 : cg b (stD b st (at0 (dropL r (r - 1) (sumsL b st s))) i) (stD b st (dr r (S1K st (at0 s))) i) := D_congr st i fun j hj => by
      have hjl : j < drN s.length r (r - 1) := by omega
      have hjn : r - 1 + j * r < s.length := (drN_lt hr).1 hjl
      unfold dropL
      rw [at0_tab _ _ _ (by rw [sumsL_len]; exact hjl)]
      unfold sumsL
      rw [at0_tab _ _ _ hjn]
      exact cg_S1K b st (at0 s) (r - 1 + j * r)
    have c2 := c1.trans (cg_D1K b st (dr r (S1K st (at0 s))) i)
    rw [cic hr, ← conv_bxK r st hr s] at c2
    have c3 := wr_cg c2
    obtain ⟨k, rfl⟩ : ∃ k, st = k + 1 := ⟨st - 1, by omega⟩
    rw [stD_succ, wrI_wrI, ← stD_succ] at c3
    exact c3
  rw [tab_congr _ _ _ e]
  unfold dropL
  rw [tab_len]
  have e2 : ∀ k, k < drN s.length r (r - 1) → at0 (tab s.length (conv (cbW r st) s)) (r - 1 + k * r) = conv (cbW r st) s (r - 1 + k * r) := fun k hk => at0_tab _ _ _ ((drN_lt hr).1 hk)
  rw [tab_congr _ _ _ e2]
  simp [tab]
theorem stf_out {s : List Int} {r j : Nat} (hr : 1 ≤ r) (hj : s.length * r ≤ j) : stf r (at0 s) j = 0 := by
  unfold stf
  split
  · exact at0_out ((Nat.le_div_iff_mul_le (by omega)).2 hj)
  · rfl
theorem at0_stuff {s : List Int} {r : Nat} (hr : 1 ≤ r) : at0 (stuffL r s) = stf r (at0 s) := by
  funext j
  by_cases hj : j < s.length * r
  · exact at0_tab _ _ _ hj
  · rw [at0_out (by rw [stuffL_len]; omega), stf_out hr (by omega)]
theorem wr_exact {s : List Int} {b st r : Nat} (h1 : 1 ≤ st) (hr : 1 ≤ r) : sumsL b st (stuffL r (difsL b st s)) = (tab (stuffL r s).length (conv (cbW r st) (stuffL r s))).map (wrI b) := by
  unfold sumsL
  rw [stuffL_len, stuffL_len, difsL_len]
  have e : ∀ i, i < s.length * r → stS b st (at0 (stuffL r (difsL b st s))) i = wrI b (conv (cbW r st) (stuffL r s) i) := by
    intro i hi
    have c1 : cg b (stS b st (at0 (stuffL r (difsL b st s))) i) (stS b st (stf r (D1K st (at0 s))) i) := S_congr st i fun j hj => by
      rw [at0_stuff hr]
      unfold stf
      split
      · have hjl : j / r < s.length := (Nat.div_lt_iff_lt_mul (by omega)).2 (by omega)
        unfold difsL
        rw [at0_tab _ _ _ hjl]
        exact cg_D1K b st (at0 s) (j / r)
      · exact cg_rfl _ _
    have c2 := c1.trans (cg_S1K b st (stf r (D1K st (at0 s))) i)
    rw [rise hr, ← at0_stuff hr, ← conv_bxK r st hr (stuffL r s)] at c2
    have c3 := wr_cg c2
    obtain ⟨k, rfl⟩ : ∃ k, st = k + 1 := ⟨st - 1, by omega⟩
    rw [stS_succ] at c3 ⊢
    unfold hdS at c3 ⊢
    rw [wrI_wrI] at c3
    exact c3
  rw [tab_congr _ _ _ e]
  simp [tab]
theorem wrI_id {b : Nat} {x : Int} (h1 : -(2 : Int) ^ (b - 1) ≤ x) (h2 : x ≤ 2 ^ (b - 1) - 1) : wrI b x = x := by
  unfold wrI
  generalize (2 : Int) ^ (b - 1) = P at *
  rw [Int.emod_eq_of_lt (by omega) (by omega)]; omega
theorem map_wrI {b : Nat} {xs : List Int} (h : ∀ x ∈ xs, -(2 : Int) ^ (b - 1) ≤ x ∧ x ≤ 2 ^ (b - 1) - 1) : xs.map (wrI b) = xs := by
  have : ∀ x ∈ xs, wrI b x = id x := fun x hx => wrI_id (h x hx).1 (h x hx).2
  rw [List.map_congr_left this, List.map_id]
theorem sumF_mono (n : Nat) (f g : Nat → Int) (h : ∀ i, i < n → f i ≤ g i) : sumF n f ≤ sumF n g := by
  induction n with
  | zero => exact Int.le_refl _
  | succ n ih =>
    rw [sumF_succ, sumF_succ]
    have := ih fun i hi => h i (by omega)
    have := h n (by omega)
    omega
/-- what comes out of a comb over samples of a word -/
theorem comb_in {r st : Nat} (h1 : 1 ≤ r) (h2 : r ≤ 8) (h3 : st ≤ 4) {s : List Int} {P : Int} (hP : 1 ≤ P) (hs : ∀ x ∈ s, -P ≤ x ∧ x ≤ P - 1) (n : Nat) : -(cbG r st * P) ≤ conv (cbW r st) s n ∧ conv (cbW r st) s n ≤ cbG r st * (P - 1) := by
  obtain ⟨p1, p2, p3, p4, p5⟩ := cb_parts h1 h2 h3
  have w0 : ∀ i, 0 ≤ at0 (cbW r st) i := fun i => by
    by_cases hi : i < (cbW r st).length
    · obtain ⟨x, hx⟩ := get_lt (cbW r st) i hi
      rw [at0_of hx]; exact (p2 x (List.mem_of_getElem? hx)).1
    · rw [at0_out (by omega)]; omega
  have s0 : ∀ i, -P ≤ at0 s i ∧ at0 s i ≤ P - 1 := fun i => by
    by_cases hi : i < s.length
    · obtain ⟨x, hx⟩ := get_lt s i hi
      rw [at0_of hx]; exact hs x (List.mem_of_getElem? hx)
    · rw [at0_out (by omega)]; omega
  have hle : sumF (n + 1) (at0 (cbW r st)) ≤ cbG r st := by
    rw [← p3]
    rcases Nat.le_total (n + 1) (cbW r st).length with h | h
    · obtain ⟨m, hm⟩ := Nat.exists_eq_add_of_le h
      rw [hm, sumF_cut (n + 1) m]
      have : 0 ≤ sumF m (fun j => at0 (cbW r st) (n + 1 + j)) := by
        have := sumF_mono m (fun _ => 0) (fun j => at0 (cbW r st) (n + 1 + j)) fun i _ => w0 _
        rwa [sumF_noughts m _ fun _ _ => rfl] at this
      omega
    · rw [sumF_more _ _ _ h fun i hi _ => at0_out hi]
      exact Int.le_refl _
  have hnn : 0 ≤ sumF (n + 1) (at0 (cbW r st)) := by
    have := sumF_mono (n + 1) (fun _ => 0) (at0 (cbW r st)) fun i _ => w0 _
    rwa [sumF_noughts (n + 1) _ fun _ _ => rfl] at this
  have a := sumF_mono (n + 1) (fun k => at0 (cbW r st) k * (-P)) (fun k => at0 (cbW r st) k * at0 s (n - k)) fun i _ => Int.mul_le_mul_of_nonneg_left (s0 _).1 (w0 i)
  have b := sumF_mono (n + 1) (fun k => at0 (cbW r st) k * at0 s (n - k)) (fun k => at0 (cbW r st) k * (P - 1)) fun i _ => Int.mul_le_mul_of_nonneg_left (s0 _).2 (w0 i)
  rw [sumF_scale] at a b
  have c := Int.mul_le_mul_of_nonneg_right hle (show 0 ≤ P by omega)
  have d := Int.mul_le_mul_of_nonneg_right hle (show 0 ≤ P - 1 by omega)
  rw [Int.mul_neg] at a
  unfold conv
  exact ⟨by omega, by omega⟩

end Go.Ch6
namespace Go.Proofs.Ytdedifgpbehpoaa
open Go.RowKit BitX Go.MemX Go.Ch6
set_option linter.unusedVariables false
theorem results_tmp4 {fn : Func} {t u v x : Tmp} (h : fn.results = #[.tmp t, .tmp u, .tmp v, .tmp x]) (tmps : Array Value) (P : Program) (w : World) :
    (results fn tmps).run P w = .ok (.tuple #[tmps.getD t undef, tmps.getD u undef, tmps.getD v undef, tmps.getD x undef]) w := by
  simp [results, h]

theorem wcL_map {s : List Int} {b st r : Nat} (h1 : 1 ≤ st) (hr : 1 ≤ r) : wcL s b st r = (dropL r (r - 1) (caL r st s)).map (wrI b) := wc_exact h1 hr
theorem wrL_map {s : List Int} {b st r : Nat} (h1 : 1 ≤ st) (hr : 1 ≤ r) : wrL s b st r = (caL r st (stuffL r s)).map (wrI b) := wr_exact h1 hr
theorem fst_min {p : Nat → Bool} (h : fstO p = true) : ∃ e : Nat, fstR p = e ∧ 2 ≤ e ∧ e ≤ 40 ∧ p e = true ∧ ∀ c, 2 ≤ c → c < e → p c = false := by
  unfold fstO at h
  unfold fstR
  rw [Option.isSome_iff_exists] at h
  obtain ⟨e, he⟩ := h
  rw [he]
  unfold fstB at he
  rw [List.find?_range_eq_some] at he
  obtain ⟨h1, h2, h3⟩ := he
  simp only [Bool.and_eq_true, decide_eq_true_eq] at h1
  refine ⟨e, rfl, h1.1, by simp at h2; omega, h1.2, fun c c1 c2 => ?_⟩
  have h5 := h3 c c2
  simp only [Bool.not_eq_true', Bool.and_eq_false_iff] at h5
  rcases h5 with h5 | h5
  · have := of_decide_eq_false h5; omega
  · exact h5
theorem fst_has {p : Nat → Bool} {b : Nat} (h2 : 2 ≤ b) (h40 : b ≤ 40) (hb : p b = true) : fstO p = true := by
  cases h : fstO p
  · unfold fstO fstB at h
    rw [Option.isSome_eq_false_iff, Option.isNone_iff_eq_none, List.find?_eq_none] at h
    have := h b (List.mem_range.2 (by omega))
    rw [hb] at this
    simp [h2] at this
  · rfl
/-- the least bits of an exact comb whose numbers are samples -/
theorem lb_facts {s : List Int} {st r : Nat} (h1 : 1 ≤ st) (hr : 1 ≤ r) (hE : SigP (dropL r (r - 1) (caL r st s))) : ∃ e : Nat, fstR (lbP s st r) = e ∧ fstO (lbP s st r) = true ∧ 2 ≤ e ∧ e ≤ 40 ∧ (∀ b, 2 ≤ b → b < e → wcL s b st r ≠ dropL r (r - 1) (caL r st s)) ∧ wcL s e st r = dropL r (r - 1) (caL r st s) := by
  have p18 : lbP s st r 18 = true := by
    unfold lbP
    refine decide_eq_true ?_
    rw [wcL_map h1 hr]
    exact map_wrI fun x hx => by have := hE.2 x hx; rw [show (18 : Nat) - 1 = 17 from rfl]; omega
  have ho := fst_has (by omega) (by omega) p18
  obtain ⟨e, e1, e2, e3, e4, e5⟩ := fst_min ho
  exact ⟨e, e1, ho, e2, e3, fun b b1 b2 => of_decide_eq_false (e5 b b1 b2), of_decide_eq_true e4⟩
/-- enough bits: wrapped combs are exact -/
theorem enough_is {s : List Int} {n b e st r : Nat} (h1 : 1 ≤ st) (h2 : st ≤ 4) (hr : 1 ≤ r) (hr2 : r ≤ 8) (hn : 1 ≤ n) (hs : ∀ x ∈ s, -(2 : Int) ^ (n - 1) ≤ x ∧ x ≤ 2 ^ (n - 1) - 1) (he : enP r st n e = true) (he1 : 1 ≤ e) (hb : e ≤ b) : wcL s b st r = dropL r (r - 1) (caL r st s) := by
  rw [wcL_map h1 hr]
  refine map_wrI fun x hx => ?_
  obtain ⟨i, hi, rfl⟩ := List.getElem_of_mem hx
  have hx2 : ∃ m, (dropL r (r - 1) (caL r st s))[i] = conv (cbW r st) s m := by
    rw [dropL_len] at hi
    refine ⟨r - 1 + i * r, ?_⟩
    have h3 : (dropL r (r - 1) (caL r st s))[i]? = some (at0 (caL r st s) (r - 1 + i * r)) := tab_get _ _ _ hi
    rw [List.getElem?_eq_getElem (by rw [dropL_len]; exact hi)] at h3
    rw [Option.some.inj h3]
    rw [caL_len] at hi
    exact at0_tab _ _ _ ((drN_lt hr).1 hi)
  obtain ⟨m, hm⟩ := hx2
  rw [hm]
  have h4 := comb_in hr hr2 h2 (P := 2 ^ (n - 1)) (by have := pow1 (n - 1); omega) hs m
  have h5 := of_decide_eq_true he
  have h6 : (2 : Int) ^ (e - 1) ≤ 2 ^ (b - 1) := by
    have : (2 : Nat) ^ (e - 1) ≤ 2 ^ (b - 1) := Nat.pow_le_pow_right (by decide) (by omega)
    exact_mod_cast this
  have h7 := (cb_parts hr hr2 h2).2.2.2.2.1
  rw [Int.mul_sub, Int.mul_one] at h4
  generalize cbG r st * 2 ^ (n - 1) = M at *
  generalize (2 : Int) ^ (e - 1) = Q at *
  generalize (2 : Int) ^ (b - 1) = T at *
  omega

set_option maxHeartbeats 1000000 in
theorem iSame_is (u v : Value) (xs ys : List Int) (w : World) (hu : Sl w u xs) (hv : Sl w v ys) (hl : xs.length ≤ 2000000) (hl2 : ys.length ≤ 2000000) :
    Calls Try.prog 10 #[u, v] w fun e w' => e = .returned (.bool (decide (xs = ys))) ∧ Below w.heap.size w w' := by
  obtain ⟨a, n, ca, rfl, hn, ra⟩ := hu.rd
  obtain ⟨b, m, cb, rfl, hm, rb⟩ := hv.rd
  have Hn := hid hn
  have Hm := hid hm
  have Ra := hid ra
  have Rb := hid rb
  have ln : n ≤ 2000000 := by omega
  have lm : m ≤ 2000000 := by omega
  clear hu hv hn hm ra rb hl hl2
  by_cases hnm : n = m
  · subst hnm
    go_enter Try.func10, Try.ntmps10
    go_wp2
    go_loopw [13] (fun i wr => ∃ k : Nat, k ≤ n ∧ i = .int .i64 k ∧ Hid (xs.take k = ys.take k) ∧ Below w.heap.size w wr)
      (fun i _ => n - (intOf i).toNat)
    case atStart => exact ⟨0, by omega, rfl, hid rfl, Below.refl _ _⟩
    case round =>
      obtain ⟨k, hk, rfl, HT, hb⟩ := hrel
      by_cases hlk : k < n
      · obtain ⟨x, hkx⟩ := get_lt xs k (by rw [← Hn.out]; exact hlk)
        obtain ⟨y, hky⟩ := get_lt ys k (by rw [← Hm.out]; exact hlk)
        obtain ⟨b0, o0, ix0, hb0, ce0⟩ := (Ra.out.kept hb).at (P := Try.prog) (T := 24) n ca uslice sone hkx hlk
        obtain ⟨b1, o1, ix1, hb1, ce1⟩ := (Rb.out.kept hb).at (P := Try.prog) (T := 24) n cb uslice sone hky hlk
        have Hx := hid hkx
        have Hy := hid hky
        have HHb := hid hb
        clear hkx hky hb
        by_cases hxy : x = y
        · subst hxy
          have HT2 := hid (show xs.take (k + 1) = ys.take (k + 1) by rw [take_step xs k x Hx.out, take_step ys k x Hy.out, HT.out])
          go_wp2
          go_quiet (fail)
          have hbq := below_drewN HHb.out nq
          generalize wr.drewN nq = wq at hbq ⊢
          go_wp2
          go_roundw
          case rel => exact ⟨k + 1, by omega, by go_num, HT2, hbq⟩
          case measure => simp [intOf]; omega
        · have q1 : (x != y) = true := bne_iff_ne.2 hxy
          have Hxy := hid hxy
          clear hxy
          go_wp2
          go_quiet (fail)
          have hbq := below_drewN HHb.out nq
          generalize wr.drewN nq = wq at hbq ⊢
          go_wp2
          go_ret
          exact ⟨ret_b (decide_eq_false fun e => by have h := Hx.out; rw [e, Hy.out] at h; exact Hxy.out (Option.some.inj h).symm).symm, hbq⟩
      · have hge : (n : Int) ≤ (k : Int) := by omega
        have hkn : k = n := by omega
        have Hk := hid hkn
        clear hlk hkn
        go_wp2
        go_ret
        exact ⟨ret_b (decide_eq_true (by
          have h := HT.out
          have e1 : xs.take k = xs := List.take_of_length_le (by rw [Hk.out, Hn.out]; exact Nat.le_refl _)
          have e2 : ys.take k = ys := List.take_of_length_le (by rw [Hk.out, Hm.out]; exact Nat.le_refl _)
          rw [e1, e2] at h
          exact h)).symm, hb⟩
  · have q1 : ((n : Int) != (m : Int)) = true := bne_iff_ne.2 (by omega)
    have Hnm := hid hnm
    clear hnm
    go_enter Try.func10, Try.ntmps10
    go_wp2
    go_ret
    exact ⟨ret_b (decide_eq_false fun e => Hnm.out (by rw [Hn.out, Hm.out, e])).symm, Below.refl _ _⟩

set_option maxHeartbeats 1000000 in
theorem iWrap_any (x : Int) (b : Nat) (w : World) (h1 : 2 ≤ b) (h2 : b ≤ 40) (x1 : -1125899906842624 ≤ x) (x2 : x ≤ 1125899906842624) :
    Calls Try.prog 11 #[.int .i64 x, .int .i64 (b : Int)] w fun e w' => e = .returned (.int .i64 (wrI b x)) ∧ w = w' := by
  have hp := pow1 (b - 1)
  have hq := pow39 h2
  have hA := pow_two (b := b) (by omega)
  have hm := wrI_model (P := 2 ^ (b - 1)) (x := x) hp
  have hw := wrI_of b x
  generalize wrI b x = W at *
  generalize (2 : Int) ^ (b - 1) = P at *
  obtain ⟨A, hAe⟩ : ∃ A, A = 2 * P := ⟨_, rfl⟩
  rw [← hAe] at hA hm hw
  have s1 : wrap64 (1 * 2 ^ min b 64) = A := by rw [Nat.min_eq_left (by omega), Int.one_mul, hA]; exact IntWalk.wrap64_in _ (by omega)
  have s2 : wrap64 (1 * 2 ^ b) = A := by rw [Int.one_mul, hA]; exact IntWalk.wrap64_in _ (by omega)
  have s3 : wrap64 (2 ^ b) = A := by rw [hA]; exact IntWalk.wrap64_in _ (by omega)
  have t1 := Int.tmod_lt_of_pos x (show 0 < A by omega)
  have t2 := Int.lt_tmod_of_pos x (show 0 < A by omega)
  have r1 := Int.emod_nonneg x (show A ≠ 0 by omega)
  have r2 := Int.emod_lt_of_pos x (show 0 < A by omega)
  obtain ⟨t, ht⟩ : ∃ t, x.tmod A = t := ⟨_, rfl⟩
  obtain ⟨r, hr⟩ : ∃ r, x % A = r := ⟨_, rfl⟩
  rw [ht] at t1 t2 hm
  rw [hr] at r1 r2 hm hw
  have hm2 : (t + A) % A = r := by rw [← hm, Int.tmod_eq_emod_of_nonneg (by omega)]
  have e1 : x.tmod A = t := ht
  have e1b : 0 ≤ x → x % A = t := fun h => by rw [← Int.tmod_eq_emod_of_nonneg h]; exact e1
  have e3 : (t + A) % A = r := hm2
  have e4 : A / 2 = P := by omega
  have f1 : 0 ≤ t + A := by omega
  have a0 : A ≠ 0 := by omega
  have a1 : (A == 0) = false := by rw [beq_eq_false_iff_ne]; exact a0
  have a2 : A ≤ 1099511627776 := by omega
  have a3 : 1 ≤ A := by omega
  have E1 := hid e1
  have E1b := hid e1b
  clear e1 e1b hm hm2 ht hr hA hq hp
  by_cases hle : P ≤ r
  · have Hw := hid (show r - A = W from by rw [hw, if_pos hle])
    clear hw hAe
    by_cases hx : 0 ≤ x
    · have e1 := E1b.out hx
      clear E1 E1b
      go_enter Try.func11, Try.ntmps11
      go_wp2_with fail
      go_ret
      exact ⟨ret_i Hw.out, rfl⟩
    · have e1 := E1.out
      clear E1 E1b
      go_enter Try.func11, Try.ntmps11
      go_wp2_with fail
      go_ret
      exact ⟨ret_i Hw.out, rfl⟩
  · have Hw := hid (show r = W from by rw [hw, if_neg hle])
    clear hw hAe
    by_cases hx : 0 ≤ x
    · have e1 := E1b.out hx
      clear E1 E1b
      go_enter Try.func11, Try.ntmps11
      go_wp2_with fail
      go_ret
      exact ⟨ret_i Hw.out, rfl⟩
    · have e1 := E1.out
      clear E1 E1b
      go_enter Try.func11, Try.ntmps11
      go_wp2_with fail
      go_ret
      exact ⟨ret_i Hw.out, rfl⟩



def DDrawWrappedComb (w : World) (e : Ending) (w' : World) : Prop := (∃ v xs b x y, e = .returned (.tuple #[v, .int .i64 b, .int .i64 x, .int .i64 y]) ∧ Res 3 (w.heap.size + 1) w' v xs ∧ xs.length ≤ 66 ∧ (-1 ≤ b ∧ b ≤ 64) ∧ (0 ≤ x ∧ x ≤ 9) ∧ 0 ≤ y ∧ y ≤ 9) ∧ Below w.heap.size w w'
set_option maxHeartbeats 2000000 in
theorem DrawWrappedComb_any (a : Option Addr) (len cap : Nat) (w : World) (hb : By w.heap.size w a len) (hl : len ≤ 1048576) :
    Calls Try.prog 5 #[.slice a len cap] w (DDrawWrappedComb w) := by
  have hc0 := Cur.new (cap := cap) hb hl
  have hb0 := bel_alloc w (.cells #[.slice a len cap, .int .i64 0, .int .u64 0] 40)
  clear hb
  go_enter Try.func5, Try.ntmps5
  go_wp2_with fail
  generalize hw0 : w.alloc (.cells #[.slice a len cap, .int .i64 0, .int .u64 0] 40) = w0 at *
  have HC0 := hid hc0
  have HB0 := hid (Gets.refl w.heap.size w0)
  have HA := hid hb0
  have hgl := hc0.lt
  clear hw0 hc0 hb0
  refine (stages_any w.heap.size (0) _ HC0.out (by omega)).mono ?_
  rintro e w1 ⟨⟨x, y, rfl, ⟨x1, x2⟩, y1, y2⟩, hc1, hb1⟩
  have HC1 := hid hc1
  have HB1 := hid (HB0.out.trans hb1)
  clear hc1 hb1
  go_wp2_with fail
  refine (signal_any w.heap.size (0 + 6) 16 40 _ HC1.out (by omega) (by omega) (by omega)).mono ?_
  rintro e w2 ⟨⟨v, xs, rfl, hres, hxs⟩, hc2, hb2⟩
  have HR2 := hid (hres.mono (show w.heap.size + 1 ≤ w1.heap.size from HC1.out.lt))
  clear hres
  have HC2 := hid hc2
  have HB2 := hid (HB1.out.trans hb2)
  clear hc2 hb2
  go_wp2_with fail
  refine (long_any w.heap.size (0 + 6 + 90) _ HC2.out (by omega)).mono ?_
  rintro e w3 ⟨⟨b, rfl, b1, b2⟩, hc3, hb3⟩
  have HR3 := hid (Res.gets HR2.out hb3 (by omega))
  have HC3 := hid hc3
  have HB3 := hid (HB2.out.trans hb3)
  clear hc3 hb3
  
  go_wp2
  (try simp only [Exit.inBlock, Exit.then])
  refine bodyPost_ret (results_tmp4 rfl _ _ _) rfl ?_
  refine ⟨⟨v, xs, b, x, y, rfl, HR3.out, hxs, ⟨b1, b2⟩, ⟨x1, x2⟩, y1, y2⟩, ?_⟩
  exact HA.out.trans HB3.out.1


def DDrawWrappedRise (w : World) (e : Ending) (w' : World) : Prop := (∃ v xs b x y, e = .returned (.tuple #[v, .int .i64 b, .int .i64 x, .int .i64 y]) ∧ Res 3 (w.heap.size + 1) w' v xs ∧ xs.length ≤ 66 ∧ (-1 ≤ b ∧ b ≤ 64) ∧ (0 ≤ x ∧ x ≤ 9) ∧ 0 ≤ y ∧ y ≤ 9) ∧ Below w.heap.size w w'
set_option maxHeartbeats 2000000 in
theorem DrawWrappedRise_any (a : Option Addr) (len cap : Nat) (w : World) (hb : By w.heap.size w a len) (hl : len ≤ 1048576) :
    Calls Try.prog 14 #[.slice a len cap] w (DDrawWrappedRise w) := by
  have hc0 := Cur.new (cap := cap) hb hl
  have hb0 := bel_alloc w (.cells #[.slice a len cap, .int .i64 0, .int .u64 0] 40)
  clear hb
  go_enter Try.func14, Try.ntmps14
  go_wp2_with fail
  generalize hw0 : w.alloc (.cells #[.slice a len cap, .int .i64 0, .int .u64 0] 40) = w0 at *
  have HC0 := hid hc0
  have HB0 := hid (Gets.refl w.heap.size w0)
  have HA := hid hb0
  have hgl := hc0.lt
  clear hw0 hc0 hb0
  refine (stages_any w.heap.size (0) _ HC0.out (by omega)).mono ?_
  rintro e w1 ⟨⟨x, y, rfl, ⟨x1, x2⟩, y1, y2⟩, hc1, hb1⟩
  have HC1 := hid hc1
  have HB1 := hid (HB0.out.trans hb1)
  clear hc1 hb1
  go_wp2_with fail
  refine (signal_any w.heap.size (0 + 6) 12 40 _ HC1.out (by omega) (by omega) (by omega)).mono ?_
  rintro e w2 ⟨⟨v, xs, rfl, hres, hxs⟩, hc2, hb2⟩
  have HR2 := hid (hres.mono (show w.heap.size + 1 ≤ w1.heap.size from HC1.out.lt))
  clear hres
  have HC2 := hid hc2
  have HB2 := hid (HB1.out.trans hb2)
  clear hc2 hb2
  go_wp2_with fail
  refine (long_any w.heap.size (0 + 6 + 90) _ HC2.out (by omega)).mono ?_
  rintro e w3 ⟨⟨b, rfl, b1, b2⟩, hc3, hb3⟩
  have HR3 := hid (Res.gets HR2.out hb3 (by omega))
  have HC3 := hid hc3
  have HB3 := hid (HB2.out.trans hb3)
  clear hc3 hb3
  
  go_wp2
  (try simp only [Exit.inBlock, Exit.then])
  refine bodyPost_ret (results_tmp4 rfl _ _ _) rfl ?_
  refine ⟨⟨v, xs, b, x, y, rfl, HR3.out, hxs, ⟨b1, b2⟩, ⟨x1, x2⟩, y1, y2⟩, ?_⟩
  exact HA.out.trans HB3.out.1


def DDrawExactComb (w : World) (e : Ending) (w' : World) : Prop := (∃ v xs x y, e = .returned (.tuple #[v, .int .i64 x, .int .i64 y]) ∧ Res 3 (w.heap.size + 1) w' v xs ∧ xs.length ≤ 66 ∧ (0 ≤ x ∧ x ≤ 9) ∧ 0 ≤ y ∧ y ≤ 9) ∧ Below w.heap.size w w'
set_option maxHeartbeats 2000000 in
theorem DrawExactComb_any (a : Option Addr) (len cap : Nat) (w : World) (hb : By w.heap.size w a len) (hl : len ≤ 1048576) :
    Calls Try.prog 50 #[.slice a len cap] w (DDrawExactComb w) := by
  have hc0 := Cur.new (cap := cap) hb hl
  have hb0 := bel_alloc w (.cells #[.slice a len cap, .int .i64 0, .int .u64 0] 40)
  clear hb
  go_enter Try.func50, Try.ntmps50
  go_wp2_with fail
  generalize hw0 : w.alloc (.cells #[.slice a len cap, .int .i64 0, .int .u64 0] 40) = w0 at *
  have HC0 := hid hc0
  have HB0 := hid (Gets.refl w.heap.size w0)
  have HA := hid hb0
  have hgl := hc0.lt
  clear hw0 hc0 hb0
  refine (stages_any w.heap.size (0) _ HC0.out (by omega)).mono ?_
  rintro e w1 ⟨⟨x, y, rfl, ⟨x1, x2⟩, y1, y2⟩, hc1, hb1⟩
  have HC1 := hid hc1
  have HB1 := hid (HB0.out.trans hb1)
  clear hc1 hb1
  go_wp2_with fail
  refine (signal_any w.heap.size (0 + 6) 16 40 _ HC1.out (by omega) (by omega) (by omega)).mono ?_
  rintro e w2 ⟨⟨v, xs, rfl, hres, hxs⟩, hc2, hb2⟩
  have HR2 := hid (hres.mono (show w.heap.size + 1 ≤ w1.heap.size from HC1.out.lt))
  clear hres
  have HC2 := hid hc2
  have HB2 := hid (HB1.out.trans hb2)
  clear hc2 hb2
  
  go_wp2
  go_ret3
  refine ⟨⟨v, xs, x, y, rfl, HR2.out, hxs, ⟨x1, x2⟩, y1, y2⟩, ?_⟩
  exact HA.out.trans HB2.out.1

theorem DrawLeastBits_any (a : Option Addr) (len cap : Nat) (w : World) (hb : By w.heap.size w a len) (hl : len ≤ 1048576) :
    Calls Try.prog 19 #[.slice a len cap] w (DDrawExactComb w) := by
  have HB := hid hb
  clear hb
  go_enter Try.func19, Try.ntmps19
  go_wp2_with fail
  refine (DrawExactComb_any _ _ _ _ HB.out hl).mono ?_
  rintro e w1 ⟨⟨v, xs, x, y, rfl, hr, hxs, hx, hy⟩, hb⟩
  go_wp2
  go_ret3
  exact ⟨⟨v, xs, x, y, rfl, hr, hxs, hx, hy⟩, hb⟩

end Go.Proofs.Ytdedifgpbehpoaa

namespace Go.Proofs.Ytdedifgpbehpoaa
open Go.RowKit BitX Go.MemX Go.Ch6 Go.ShX
set_option linter.unusedVariables false


/-- what is left of a function's code behind its first k statements, and the statement there -/
def cRest : Nat → Code → Code
  | 0, c => c
  | k + 1, .seq _ b => cRest k b
  | _ + 1, c => c
def cHead : Nat → Code → Code
  | 0, .seq a _ => a
  | 0, c => c
  | k + 1, .seq _ b => cHead k b
  | _ + 1, c => c
def cThen : Code → Code
  | .cond _ t _ => t
  | .seq _ b => cThen b
  | c => c
def bodyOf (f : Func) : Code := f.body.getD .skip
def qS (w0 : World) : Exit → Act → World → Prop := bodyPost Try.prog Try.f3 fun e w' => e = .returned (.bool true) ∧ Below w0.heap.size w0 w'


theorem wr_t {s : List Int} {b x y : Int} (h : wrB s b x y = true) : SigP s ∧ (2 ≤ b ∧ b ≤ 40) ∧ (1 ≤ x ∧ x ≤ 4) ∧ (1 ≤ y ∧ y ≤ 8) ∧ SigP (stuffL y.toNat s) := by
  unfold wrB at h
  simp only [Bool.and_eq_true] at h
  obtain ⟨⟨⟨h1, h2⟩, h3⟩, h4⟩ := h
  have h5 := askB_t h2
  exact ⟨sigB_t h1, lonB_t h3, h5.1, h5.2, sigB_t h4⟩
theorem er_sig {s : List Int} {x y : Int} {Y : List Int} (h : erB s x y = true) (e : Y = erL s x y) : SigP Y := by
  unfold erB at h
  simp only [Bool.and_eq_true] at h
  rw [e]; exact sigB_t h.2


set_option maxRecDepth 20000 in
set_option maxHeartbeats 8000000 in
theorem combs_G (u1 u2 : Option Addr) (n1 c1 n2 c2 : Nat) (w0 w : World) (hB : Below w0.heap.size w0 w) (hby : By w.heap.size w u2 n2) (hl2 : n2 ≤ 1048576) (x2 x3 x4 x5 x6 x7 x8 x9 x10 x11 x12 x13 x14 x15 x16 x17 x18 x19 x20 x21 x22 x23 x24 x25 x26 x27 x28 x29 x30 x31 x32 x33 x34 x35 x36 x37 x38 x39 x40 x41 x42 x43 x44 x45 x46 x47 x48 x49 x50 x51 x52 x53 x54 x55 x56 x57 x58 x59 x60 x61 x62 x63 x64 x65 x66 x67 x68 x69 x70 x71 x72 x73 x74 x75 x76 x77 x78 x79 x80 x81 x82 x83 x84 x85 x86 x87 x88 x89 x90 x91 x92 x93 x94 x95 x96 x97 x98 x99 x100 x101 x102 x103 x104 x105 x106 x107 x108 x109 x110 x111 x112 x113 x114 x115 x116 x117 x118 x119 x120 x121 x122 x123 x124 x125 x126 x127 x128 x129 x130 x131 x132 x133 x134 x135 x136 x137 x138 x139 x140 x141 x142 x143 x144 x145 x146 x147 x148 x149 x150 x151 x152 x153 x154 x155 x156 x157 x158 x159 x160 x161 x162 x163 x164 x165 x166 x167 x168 x169 x170 x171 x172 x173 x174 x175 x176 x177 x178 x179 x180 x181 x182 x183 x184 x185 x186 x187 x188 x189 x190 x191 x192 x193 x194 x195 x196 x197 x198 x199 x200 x201 x202 x203 x204 x205 x206 x207 x208 x209 x210 x211 x212 x213 x214 x215 x216 x217 x218 x219 x220 x221 x222 x223 x224 x225 x226 x227 x228 x229 x230 x231 x232 x233 x234 x235 x236 x237 x238 x239 x240 x241 x242 x243 x244 x245 x246 x247 x248 x249 x250 x251 x252 x253 x254 x255 x256 x257 x258 x259 x260 x261 x262 x263 x264 x265 x266 x267 x268 x269 x270 x271 x272 x273 x274 x275 x276 x277 x278 x279 x280 x281 x282 x283 x284 x285 x286 x287 x288 x289 x290 x291 x292 x293 x294 x295 x296 x297 x298 x299 x300 x301 x302 x303 x304 x305 x306 x307 x308 x309 x310 x311 x312 x313 x314 x315 x316 x317 x318 x319 x320 x321 x322 x323 x324 x325 x326 x327 x328 x329 x330 x331 x332 x333 x334 : Value) :
    Code.wp Try.prog (cRest 16 (bodyOf Try.f3)) (qS w0) { tmps := List.toArray ((.slice u1 n1 c1) :: (.slice u2 n2 c2) :: x2 :: x3 :: x4 :: x5 :: x6 :: x7 :: x8 :: x9 :: x10 :: x11 :: x12 :: x13 :: x14 :: x15 :: x16 :: x17 :: x18 :: x19 :: x20 :: x21 :: x22 :: x23 :: x24 :: x25 :: x26 :: x27 :: x28 :: x29 :: x30 :: x31 :: x32 :: x33 :: x34 :: x35 :: x36 :: x37 :: x38 :: x39 :: x40 :: x41 :: x42 :: x43 :: x44 :: x45 :: x46 :: x47 :: x48 :: x49 :: x50 :: x51 :: x52 :: x53 :: x54 :: x55 :: x56 :: x57 :: x58 :: x59 :: x60 :: x61 :: x62 :: x63 :: x64 :: x65 :: x66 :: x67 :: x68 :: x69 :: x70 :: x71 :: x72 :: x73 :: x74 :: x75 :: x76 :: x77 :: x78 :: x79 :: x80 :: x81 :: x82 :: x83 :: x84 :: x85 :: x86 :: x87 :: x88 :: x89 :: x90 :: x91 :: x92 :: x93 :: x94 :: x95 :: x96 :: x97 :: x98 :: x99 :: x100 :: x101 :: x102 :: x103 :: x104 :: x105 :: x106 :: x107 :: x108 :: x109 :: x110 :: x111 :: x112 :: x113 :: x114 :: x115 :: x116 :: x117 :: x118 :: x119 :: x120 :: x121 :: x122 :: x123 :: x124 :: x125 :: x126 :: x127 :: x128 :: x129 :: x130 :: x131 :: x132 :: x133 :: x134 :: x135 :: x136 :: x137 :: x138 :: x139 :: x140 :: x141 :: x142 :: x143 :: x144 :: x145 :: x146 :: x147 :: x148 :: x149 :: x150 :: x151 :: x152 :: x153 :: x154 :: x155 :: x156 :: x157 :: x158 :: x159 :: x160 :: x161 :: x162 :: x163 :: x164 :: x165 :: x166 :: x167 :: x168 :: x169 :: x170 :: x171 :: x172 :: x173 :: x174 :: x175 :: x176 :: x177 :: x178 :: x179 :: x180 :: x181 :: x182 :: x183 :: x184 :: x185 :: x186 :: x187 :: x188 :: x189 :: x190 :: x191 :: x192 :: x193 :: x194 :: x195 :: x196 :: x197 :: x198 :: x199 :: x200 :: x201 :: x202 :: x203 :: x204 :: x205 :: x206 :: x207 :: x208 :: x209 :: x210 :: x211 :: x212 :: x213 :: x214 :: x215 :: x216 :: x217 :: x218 :: x219 :: x220 :: x221 :: x222 :: x223 :: x224 :: x225 :: x226 :: x227 :: x228 :: x229 :: x230 :: x231 :: x232 :: x233 :: x234 :: x235 :: x236 :: x237 :: x238 :: x239 :: x240 :: x241 :: x242 :: x243 :: x244 :: x245 :: x246 :: x247 :: x248 :: x249 :: x250 :: x251 :: x252 :: x253 :: x254 :: x255 :: x256 :: x257 :: x258 :: x259 :: x260 :: x261 :: x262 :: x263 :: x264 :: x265 :: x266 :: x267 :: x268 :: x269 :: x270 :: x271 :: x272 :: x273 :: x274 :: x275 :: x276 :: x277 :: x278 :: x279 :: x280 :: x281 :: x282 :: x283 :: x284 :: x285 :: x286 :: x287 :: x288 :: x289 :: x290 :: x291 :: x292 :: x293 :: x294 :: x295 :: x296 :: x297 :: x298 :: x299 :: x300 :: x301 :: x302 :: x303 :: x304 :: x305 :: x306 :: x307 :: x308 :: x309 :: x310 :: x311 :: x312 :: x313 :: x314 :: x315 :: x316 :: x317 :: x318 :: x319 :: x320 :: x321 :: x322 :: x323 :: x324 :: x325 :: x326 :: x327 :: x328 :: x329 :: x330 :: x331 :: x332 :: x333 :: x334 :: []), defers := [] } w := by
  simp only [bodyOf, Try.f3, Option.getD_some, cRest]
  have HB := hid hB
  have HBY := hid hby
  clear hB hby
  go_wp2_with fail
  refine (DrawLeastBits_any u2 n2 c2 _ HBY.out hl2).mono ?_
  rintro e w1 ⟨⟨v_s, s, x, y, rfl, r_s, hsl, hx, hy⟩, hb⟩
  have HB := hid (bel_step HB.out hb)
  have HR_s := hid r_s
  clear hb r_s hx hy HBY
  obtain ⟨O, hO⟩ : ∃ z, z = lbO s x y := ⟨_, rfl⟩
  obtain ⟨R9, hR9⟩ : ∃ z, z = lbR s x y := ⟨_, rfl⟩
  have Ki := fun (W : World) (v : Value) (h : Sl W v s) => impl_LeastBits_any v s x y W h
  have Ks := fun (W : World) (v : Value) (h : Sl W v s) => spec_LeastBits_any v s x y W h
  rw [← hO, ← hR9] at Ki Ks
  have Ki := hid Ki
  have Ks := hid Ks
  clear hO hR9
  go_wp2_with fail
  refine (Ki.out _ _ HR_s.out.sl).mono ?_
  rintro e w2 ⟨rfl, hb⟩
  have HB := hid (bel_step HB.out hb)
  have HR_s := hid (HR_s.out.kept hb)
  clear hb
  go_wp2_with fail
  refine (Ks.out _ _ HR_s.out.sl).mono ?_
  rintro e w3 ⟨rfl, hb⟩
  have HB := hid (bel_step HB.out hb)
  have HR_s := hid (HR_s.out.kept hb)
  clear hb
  clear Ki Ks HR_s
  cases O
  all_goals
    go_wp2
    unfold qS
    go_ret
    exact ⟨rfl, HB.out⟩


set_option maxRecDepth 20000 in
set_option maxHeartbeats 8000000 in
theorem combs_N1 (u1 u2 : Option Addr) (n1 c1 n2 c2 : Nat) (w0 w : World) (hB : Below w0.heap.size w0 w) (hby : By w.heap.size w u2 n2) (hl2 : n2 ≤ 1048576) (x2 x3 x4 x5 x6 x7 x8 x9 x10 x11 x12 x13 x14 x15 x16 x17 x18 x19 x20 x21 x22 x23 x24 x25 x26 x27 x28 x29 x30 x31 x32 x34 x35 x36 x37 x38 x39 x40 x41 x42 x43 x44 x45 x46 x47 x48 x49 x50 x51 x52 x53 x54 x55 x56 x57 x58 x59 x60 x61 x62 x63 x64 x65 x66 x67 x68 x69 x70 x71 x72 x73 x74 x75 x76 x77 x78 x79 x80 x81 x82 x83 x84 x85 x86 x87 x88 x89 x90 x91 x92 x93 x94 x95 x96 x97 x98 x99 x100 x101 x102 x103 x104 x105 x106 x107 x108 x109 x110 x111 x112 x113 x114 x115 x116 x117 x118 x119 x120 x121 x122 x123 x124 x125 x126 x127 x128 x129 x130 x131 x132 x133 x134 x135 x136 x137 x138 x139 x140 x141 x142 x143 x144 x145 x146 x147 x148 x149 x150 x151 x152 x153 x154 x155 x156 x157 x158 x159 x160 x161 x162 x163 x164 x165 x166 x167 x168 x169 x170 x171 x172 x173 x174 x175 x176 x177 x178 x179 x180 x181 x182 x183 x184 x185 x186 x187 x188 x189 x190 x191 x192 x193 x194 x195 x196 x197 x198 x199 x200 x201 x202 x203 x204 x205 x206 x207 x208 x209 x210 x211 x212 x213 x214 x215 x216 x217 x218 x219 x220 x221 x222 x223 x224 x225 x226 x227 x228 x229 x230 x231 x232 x233 x234 x235 x236 x237 x238 x239 x240 x241 x242 x243 x244 x245 x246 x247 x248 x249 x250 x251 x252 x253 x254 x255 x256 x257 x258 x259 x260 x261 x262 x263 x264 x265 x266 x267 x268 x269 x270 x271 x272 x273 x274 x275 x276 x277 x278 x279 x280 x281 x282 x283 x284 x285 x286 x287 x288 x289 x290 x291 x292 x293 x294 x295 x296 x297 x298 x299 x300 x301 x302 x303 x304 x305 x306 x307 x308 x309 x310 x311 x312 x313 x314 x315 x316 x317 x318 x319 x320 x321 x322 x323 x324 x325 x326 x327 x328 x329 x330 x331 x332 x333 x334 : Value) :
    Code.wp Try.prog (cRest 15 (bodyOf Try.f3)) (qS w0) { tmps := List.toArray ((.slice u1 n1 c1) :: (.slice u2 n2 c2) :: x2 :: x3 :: x4 :: x5 :: x6 :: x7 :: x8 :: x9 :: x10 :: x11 :: x12 :: x13 :: x14 :: x15 :: x16 :: x17 :: x18 :: x19 :: x20 :: x21 :: x22 :: x23 :: x24 :: x25 :: x26 :: x27 :: x28 :: x29 :: x30 :: x31 :: x32 :: (.bool false) :: x34 :: x35 :: x36 :: x37 :: x38 :: x39 :: x40 :: x41 :: x42 :: x43 :: x44 :: x45 :: x46 :: x47 :: x48 :: x49 :: x50 :: x51 :: x52 :: x53 :: x54 :: x55 :: x56 :: x57 :: x58 :: x59 :: x60 :: x61 :: x62 :: x63 :: x64 :: x65 :: x66 :: x67 :: x68 :: x69 :: x70 :: x71 :: x72 :: x73 :: x74 :: x75 :: x76 :: x77 :: x78 :: x79 :: x80 :: x81 :: x82 :: x83 :: x84 :: x85 :: x86 :: x87 :: x88 :: x89 :: x90 :: x91 :: x92 :: x93 :: x94 :: x95 :: x96 :: x97 :: x98 :: x99 :: x100 :: x101 :: x102 :: x103 :: x104 :: x105 :: x106 :: x107 :: x108 :: x109 :: x110 :: x111 :: x112 :: x113 :: x114 :: x115 :: x116 :: x117 :: x118 :: x119 :: x120 :: x121 :: x122 :: x123 :: x124 :: x125 :: x126 :: x127 :: x128 :: x129 :: x130 :: x131 :: x132 :: x133 :: x134 :: x135 :: x136 :: x137 :: x138 :: x139 :: x140 :: x141 :: x142 :: x143 :: x144 :: x145 :: x146 :: x147 :: x148 :: x149 :: x150 :: x151 :: x152 :: x153 :: x154 :: x155 :: x156 :: x157 :: x158 :: x159 :: x160 :: x161 :: x162 :: x163 :: x164 :: x165 :: x166 :: x167 :: x168 :: x169 :: x170 :: x171 :: x172 :: x173 :: x174 :: x175 :: x176 :: x177 :: x178 :: x179 :: x180 :: x181 :: x182 :: x183 :: x184 :: x185 :: x186 :: x187 :: x188 :: x189 :: x190 :: x191 :: x192 :: x193 :: x194 :: x195 :: x196 :: x197 :: x198 :: x199 :: x200 :: x201 :: x202 :: x203 :: x204 :: x205 :: x206 :: x207 :: x208 :: x209 :: x210 :: x211 :: x212 :: x213 :: x214 :: x215 :: x216 :: x217 :: x218 :: x219 :: x220 :: x221 :: x222 :: x223 :: x224 :: x225 :: x226 :: x227 :: x228 :: x229 :: x230 :: x231 :: x232 :: x233 :: x234 :: x235 :: x236 :: x237 :: x238 :: x239 :: x240 :: x241 :: x242 :: x243 :: x244 :: x245 :: x246 :: x247 :: x248 :: x249 :: x250 :: x251 :: x252 :: x253 :: x254 :: x255 :: x256 :: x257 :: x258 :: x259 :: x260 :: x261 :: x262 :: x263 :: x264 :: x265 :: x266 :: x267 :: x268 :: x269 :: x270 :: x271 :: x272 :: x273 :: x274 :: x275 :: x276 :: x277 :: x278 :: x279 :: x280 :: x281 :: x282 :: x283 :: x284 :: x285 :: x286 :: x287 :: x288 :: x289 :: x290 :: x291 :: x292 :: x293 :: x294 :: x295 :: x296 :: x297 :: x298 :: x299 :: x300 :: x301 :: x302 :: x303 :: x304 :: x305 :: x306 :: x307 :: x308 :: x309 :: x310 :: x311 :: x312 :: x313 :: x314 :: x315 :: x316 :: x317 :: x318 :: x319 :: x320 :: x321 :: x322 :: x323 :: x324 :: x325 :: x326 :: x327 :: x328 :: x329 :: x330 :: x331 :: x332 :: x333 :: x334 :: []), defers := [] } w := by
  rw [show cRest 15 (bodyOf Try.f3) = .seq (cHead 15 (bodyOf Try.f3)) (cRest 16 (bodyOf Try.f3)) from by kernel_rfl]
  generalize hR : cRest 16 (bodyOf Try.f3) = R
  have HR := hid hR
  clear hR
  simp only [bodyOf, Try.f3, Option.getD_some, cHead]
  have HB := hid hB
  have HBY := hid hby
  clear hB hby
  go_wp2_with fail
  rw [← HR.out]
  exact combs_G u1 u2 n1 c1 n2 c2 w0 w HB.out HBY.out hl2 _ _ _ _ _ _ _ _ _ _ _ _ _ _ _ _ _ _ _ _ _ _ _ _ _ _ _ _ _ _ _ _ _ _ _ _ _ _ _ _ _ _ _ _ _ _ _ _ _ _ _ _ _ _ _ _ _ _ _ _ _ _ _ _ _ _ _ _ _ _ _ _ _ _ _ _ _ _ _ _ _ _ _ _ _ _ _ _ _ _ _ _ _ _ _ _ _ _ _ _ _ _ _ _ _ _ _ _ _ _ _ _ _ _ _ _ _ _ _ _ _ _ _ _ _ _ _ _ _ _ _ _ _ _ _ _ _ _ _ _ _ _ _ _ _ _ _ _ _ _ _ _ _ _ _ _ _ _ _ _ _ _ _ _ _ _ _ _ _ _ _ _ _ _ _ _ _ _ _ _ _ _ _ _ _ _ _ _ _ _ _ _ _ _ _ _ _ _ _ _ _ _ _ _ _ _ _ _ _ _ _ _ _ _ _ _ _ _ _ _ _ _ _ _ _ _ _ _ _ _ _ _ _ _ _ _ _ _ _ _ _ _ _ _ _ _ _ _ _ _ _ _ _ _ _ _ _ _ _ _ _ _ _ _ _ _ _ _ _ _ _ _ _ _ _ _ _ _ _ _ _ _ _ _ _ _ _ _ _ _ _ _ _ _ _ _ _ _ _ _ _ _ _ _ _ _ _ _ _ _ _ _ _ _ _ _ _ _ _ _ _ _ _ _ _ _ _ _ _ _ _ _ _


set_option maxRecDepth 20000 in
set_option maxHeartbeats 8000000 in
theorem combs_N2 (u1 u2 : Option Addr) (n1 c1 n2 c2 : Nat) (w0 w : World) (hB : Below w0.heap.size w0 w) (hby : By w.heap.size w u2 n2) (hl2 : n2 ≤ 1048576) (x2 x3 x4 x5 x6 x7 x8 x9 x10 x11 x12 x13 x14 x15 x16 x17 x18 x19 x20 x21 x22 x23 x24 x25 x26 x27 x28 x29 x30 x31 x32 x34 x35 x36 x38 x39 x40 x41 x42 x43 x44 x45 x46 x47 x48 x49 x50 x51 x52 x53 x54 x55 x56 x57 x58 x59 x60 x61 x62 x63 x64 x65 x66 x67 x68 x69 x70 x71 x72 x73 x74 x75 x76 x77 x78 x79 x80 x81 x82 x83 x84 x85 x86 x87 x88 x89 x90 x91 x92 x93 x94 x95 x96 x97 x98 x99 x100 x101 x102 x103 x104 x105 x106 x107 x108 x109 x110 x111 x112 x113 x114 x115 x116 x117 x118 x119 x120 x121 x122 x123 x124 x125 x126 x127 x128 x129 x130 x131 x132 x133 x134 x135 x136 x137 x138 x139 x140 x141 x142 x143 x144 x145 x146 x147 x148 x149 x150 x151 x152 x153 x154 x155 x156 x157 x158 x159 x160 x161 x162 x163 x164 x165 x166 x167 x168 x169 x170 x171 x172 x173 x174 x175 x176 x177 x178 x179 x180 x181 x182 x183 x184 x185 x186 x187 x188 x189 x190 x191 x192 x193 x194 x195 x196 x197 x198 x199 x200 x201 x202 x203 x204 x205 x206 x207 x208 x209 x210 x211 x212 x213 x214 x215 x216 x217 x218 x219 x220 x221 x222 x223 x224 x225 x226 x227 x228 x229 x230 x231 x232 x233 x234 x235 x236 x237 x238 x239 x240 x241 x242 x243 x244 x245 x246 x247 x248 x249 x250 x251 x252 x253 x254 x255 x256 x257 x258 x259 x260 x261 x262 x263 x264 x265 x266 x267 x268 x269 x270 x271 x272 x273 x274 x275 x276 x277 x278 x279 x280 x281 x282 x283 x284 x285 x286 x287 x288 x289 x290 x291 x292 x293 x294 x295 x296 x297 x298 x299 x300 x301 x302 x303 x304 x305 x306 x307 x308 x309 x310 x311 x312 x313 x314 x315 x316 x317 x318 x319 x320 x321 x322 x323 x324 x325 x326 x327 x328 x329 x330 x331 x332 x333 x334 : Value) :
    Code.wp Try.prog (cRest 15 (bodyOf Try.f3)) (qS w0) { tmps := List.toArray ((.slice u1 n1 c1) :: (.slice u2 n2 c2) :: x2 :: x3 :: x4 :: x5 :: x6 :: x7 :: x8 :: x9 :: x10 :: x11 :: x12 :: x13 :: x14 :: x15 :: x16 :: x17 :: x18 :: x19 :: x20 :: x21 :: x22 :: x23 :: x24 :: x25 :: x26 :: x27 :: x28 :: x29 :: x30 :: x31 :: x32 :: (.bool true) :: x34 :: x35 :: x36 :: (.bool false) :: x38 :: x39 :: x40 :: x41 :: x42 :: x43 :: x44 :: x45 :: x46 :: x47 :: x48 :: x49 :: x50 :: x51 :: x52 :: x53 :: x54 :: x55 :: x56 :: x57 :: x58 :: x59 :: x60 :: x61 :: x62 :: x63 :: x64 :: x65 :: x66 :: x67 :: x68 :: x69 :: x70 :: x71 :: x72 :: x73 :: x74 :: x75 :: x76 :: x77 :: x78 :: x79 :: x80 :: x81 :: x82 :: x83 :: x84 :: x85 :: x86 :: x87 :: x88 :: x89 :: x90 :: x91 :: x92 :: x93 :: x94 :: x95 :: x96 :: x97 :: x98 :: x99 :: x100 :: x101 :: x102 :: x103 :: x104 :: x105 :: x106 :: x107 :: x108 :: x109 :: x110 :: x111 :: x112 :: x113 :: x114 :: x115 :: x116 :: x117 :: x118 :: x119 :: x120 :: x121 :: x122 :: x123 :: x124 :: x125 :: x126 :: x127 :: x128 :: x129 :: x130 :: x131 :: x132 :: x133 :: x134 :: x135 :: x136 :: x137 :: x138 :: x139 :: x140 :: x141 :: x142 :: x143 :: x144 :: x145 :: x146 :: x147 :: x148 :: x149 :: x150 :: x151 :: x152 :: x153 :: x154 :: x155 :: x156 :: x157 :: x158 :: x159 :: x160 :: x161 :: x162 :: x163 :: x164 :: x165 :: x166 :: x167 :: x168 :: x169 :: x170 :: x171 :: x172 :: x173 :: x174 :: x175 :: x176 :: x177 :: x178 :: x179 :: x180 :: x181 :: x182 :: x183 :: x184 :: x185 :: x186 :: x187 :: x188 :: x189 :: x190 :: x191 :: x192 :: x193 :: x194 :: x195 :: x196 :: x197 :: x198 :: x199 :: x200 :: x201 :: x202 :: x203 :: x204 :: x205 :: x206 :: x207 :: x208 :: x209 :: x210 :: x211 :: x212 :: x213 :: x214 :: x215 :: x216 :: x217 :: x218 :: x219 :: x220 :: x221 :: x222 :: x223 :: x224 :: x225 :: x226 :: x227 :: x228 :: x229 :: x230 :: x231 :: x232 :: x233 :: x234 :: x235 :: x236 :: x237 :: x238 :: x239 :: x240 :: x241 :: x242 :: x243 :: x244 :: x245 :: x246 :: x247 :: x248 :: x249 :: x250 :: x251 :: x252 :: x253 :: x254 :: x255 :: x256 :: x257 :: x258 :: x259 :: x260 :: x261 :: x262 :: x263 :: x264 :: x265 :: x266 :: x267 :: x268 :: x269 :: x270 :: x271 :: x272 :: x273 :: x274 :: x275 :: x276 :: x277 :: x278 :: x279 :: x280 :: x281 :: x282 :: x283 :: x284 :: x285 :: x286 :: x287 :: x288 :: x289 :: x290 :: x291 :: x292 :: x293 :: x294 :: x295 :: x296 :: x297 :: x298 :: x299 :: x300 :: x301 :: x302 :: x303 :: x304 :: x305 :: x306 :: x307 :: x308 :: x309 :: x310 :: x311 :: x312 :: x313 :: x314 :: x315 :: x316 :: x317 :: x318 :: x319 :: x320 :: x321 :: x322 :: x323 :: x324 :: x325 :: x326 :: x327 :: x328 :: x329 :: x330 :: x331 :: x332 :: x333 :: x334 :: []), defers := [] } w := by
  rw [show cRest 15 (bodyOf Try.f3) = .seq (cHead 15 (bodyOf Try.f3)) (cRest 16 (bodyOf Try.f3)) from by kernel_rfl]
  generalize hR : cRest 16 (bodyOf Try.f3) = R
  have HR := hid hR
  clear hR
  simp only [bodyOf, Try.f3, Option.getD_some, cHead]
  have HB := hid hB
  have HBY := hid hby
  clear hB hby
  go_wp2_with fail
  rw [← HR.out]
  exact combs_G u1 u2 n1 c1 n2 c2 w0 w HB.out HBY.out hl2 _ _ _ _ _ _ _ _ _ _ _ _ _ _ _ _ _ _ _ _ _ _ _ _ _ _ _ _ _ _ _ _ _ _ _ _ _ _ _ _ _ _ _ _ _ _ _ _ _ _ _ _ _ _ _ _ _ _ _ _ _ _ _ _ _ _ _ _ _ _ _ _ _ _ _ _ _ _ _ _ _ _ _ _ _ _ _ _ _ _ _ _ _ _ _ _ _ _ _ _ _ _ _ _ _ _ _ _ _ _ _ _ _ _ _ _ _ _ _ _ _ _ _ _ _ _ _ _ _ _ _ _ _ _ _ _ _ _ _ _ _ _ _ _ _ _ _ _ _ _ _ _ _ _ _ _ _ _ _ _ _ _ _ _ _ _ _ _ _ _ _ _ _ _ _ _ _ _ _ _ _ _ _ _ _ _ _ _ _ _ _ _ _ _ _ _ _ _ _ _ _ _ _ _ _ _ _ _ _ _ _ _ _ _ _ _ _ _ _ _ _ _ _ _ _ _ _ _ _ _ _ _ _ _ _ _ _ _ _ _ _ _ _ _ _ _ _ _ _ _ _ _ _ _ _ _ _ _ _ _ _ _ _ _ _ _ _ _ _ _ _ _ _ _ _ _ _ _ _ _ _ _ _ _ _ _ _ _ _ _ _ _ _ _ _ _ _ _ _ _ _ _ _ _ _ _ _ _ _ _ _ _ _ _ _ _ _ _ _ _ _ _ _ _ _ _ _ _ _ _ _ _ _


set_option maxRecDepth 20000 in
set_option maxHeartbeats 8000000 in
theorem combs_D1 (u1 u2 : Option Addr) (n1 c1 n2 c2 : Nat) (w0 w : World) (hB : Below w0.heap.size w0 w) (hby : By w.heap.size w u2 n2) (hl2 : n2 ≤ 1048576) (KK : Act → World → Prop) (HK : Hid (∀ a w, Code.wp Try.prog (cRest 16 (bodyOf Try.f3)) (qS w0) a w → KK a w)) (X : List Int) (n b : Nat) (b1 : 2 ≤ b) (b2 : b ≤ 40) (hn : n ≤ 64) (Hn : Hid (n = X.length)) (HX : Hid (SigP X)) (a_x a_y : Option Addr) (c_x c_y : Nat) (Rd_x : Hid (Rd w a_x X)) (Rd_y : Hid (Rd w a_y (X.map (wrI b)))) (a_s : Option Addr) (ns c_s r : Nat) (HL : Hid ((ns : Int) * (r : Int) = (n : Int))) (x2 x3 x4 x5 x6 x7 x8 x9 x10 x11 x12 x13 x14 x15 x16 x17 x18 x19 x20 x21 x22 x23 x24 x25 x26 x27 x30 x33 x34 x35 x37 x38 x39 x40 x41 x42 x43 x44 x45 x46 x47 x48 x49 x50 x51 x52 x53 x54 x55 x56 x57 x58 x59 x60 x61 x62 x63 x64 x65 x66 x67 x68 x69 x70 x71 x72 x73 x74 x75 x76 x77 x78 x79 x80 x81 x82 x83 x84 x85 x86 x87 x88 x89 x90 x91 x92 x93 x94 x95 x96 x97 x98 x99 x100 x101 x102 x103 x104 x105 x106 x107 x108 x109 x110 x111 x112 x113 x114 x115 x116 x117 x118 x119 x120 x121 x122 x123 x124 x125 x126 x127 x128 x129 x130 x131 x132 x133 x134 x135 x136 x137 x138 x139 x140 x141 x142 x143 x144 x145 x146 x147 x148 x149 x150 x151 x152 x153 x154 x155 x156 x157 x158 x159 x160 x161 x162 x163 x164 x165 x166 x167 x168 x169 x170 x171 x172 x173 x174 x175 x176 x177 x178 x179 x180 x181 x182 x183 x184 x185 x186 x187 x188 x189 x190 x191 x192 x193 x194 x195 x196 x197 x198 x199 x200 x201 x202 x203 x204 x205 x206 x207 x208 x209 x210 x211 x212 x213 x214 x215 x216 x217 x218 x219 x220 x221 x222 x223 x224 x225 x226 x227 x228 x229 x230 x231 x232 x233 x234 x235 x236 x237 x238 x239 x240 x241 x242 x243 x244 x245 x246 x247 x248 x249 x250 x251 x252 x253 x254 x255 x256 x257 x258 x259 x260 x261 x262 x263 x264 x265 x266 x267 x268 x269 x270 x271 x272 x273 x274 x275 x276 x277 x278 x279 x280 x281 x282 x283 x284 x285 x286 x287 x288 x289 x290 x291 x292 x293 x294 x295 x296 x297 x298 x299 x300 x301 x302 x303 x304 x305 x306 x307 x308 x309 x310 x311 x312 x313 x314 x315 x316 x317 x318 x319 x320 x321 x322 x323 x324 x325 x326 x327 x328 x329 x330 x331 x332 x333 x334 : Value) :
    Code.wp Try.prog ((cThen (cHead 15 (bodyOf Try.f3)))) (Exit.then KK (qS w0)) { tmps := List.toArray ((.slice u1 n1 c1) :: (.slice u2 n2 c2) :: x2 :: x3 :: x4 :: x5 :: x6 :: x7 :: x8 :: x9 :: x10 :: x11 :: x12 :: x13 :: x14 :: x15 :: x16 :: x17 :: x18 :: x19 :: x20 :: x21 :: x22 :: x23 :: x24 :: x25 :: x26 :: x27 :: (.slice a_s ns c_s) :: (.int .i64 (b : Int)) :: x30 :: (.int .i64 (r : Int)) :: (.slice a_y n c_y) :: x33 :: x34 :: x35 :: (.slice a_x n c_x) :: x37 :: x38 :: x39 :: x40 :: x41 :: x42 :: x43 :: x44 :: x45 :: x46 :: x47 :: x48 :: x49 :: x50 :: x51 :: x52 :: x53 :: x54 :: x55 :: x56 :: x57 :: x58 :: x59 :: x60 :: x61 :: x62 :: x63 :: x64 :: x65 :: x66 :: x67 :: x68 :: x69 :: x70 :: x71 :: x72 :: x73 :: x74 :: x75 :: x76 :: x77 :: x78 :: x79 :: x80 :: x81 :: x82 :: x83 :: x84 :: x85 :: x86 :: x87 :: x88 :: x89 :: x90 :: x91 :: x92 :: x93 :: x94 :: x95 :: x96 :: x97 :: x98 :: x99 :: x100 :: x101 :: x102 :: x103 :: x104 :: x105 :: x106 :: x107 :: x108 :: x109 :: x110 :: x111 :: x112 :: x113 :: x114 :: x115 :: x116 :: x117 :: x118 :: x119 :: x120 :: x121 :: x122 :: x123 :: x124 :: x125 :: x126 :: x127 :: x128 :: x129 :: x130 :: x131 :: x132 :: x133 :: x134 :: x135 :: x136 :: x137 :: x138 :: x139 :: x140 :: x141 :: x142 :: x143 :: x144 :: x145 :: x146 :: x147 :: x148 :: x149 :: x150 :: x151 :: x152 :: x153 :: x154 :: x155 :: x156 :: x157 :: x158 :: x159 :: x160 :: x161 :: x162 :: x163 :: x164 :: x165 :: x166 :: x167 :: x168 :: x169 :: x170 :: x171 :: x172 :: x173 :: x174 :: x175 :: x176 :: x177 :: x178 :: x179 :: x180 :: x181 :: x182 :: x183 :: x184 :: x185 :: x186 :: x187 :: x188 :: x189 :: x190 :: x191 :: x192 :: x193 :: x194 :: x195 :: x196 :: x197 :: x198 :: x199 :: x200 :: x201 :: x202 :: x203 :: x204 :: x205 :: x206 :: x207 :: x208 :: x209 :: x210 :: x211 :: x212 :: x213 :: x214 :: x215 :: x216 :: x217 :: x218 :: x219 :: x220 :: x221 :: x222 :: x223 :: x224 :: x225 :: x226 :: x227 :: x228 :: x229 :: x230 :: x231 :: x232 :: x233 :: x234 :: x235 :: x236 :: x237 :: x238 :: x239 :: x240 :: x241 :: x242 :: x243 :: x244 :: x245 :: x246 :: x247 :: x248 :: x249 :: x250 :: x251 :: x252 :: x253 :: x254 :: x255 :: x256 :: x257 :: x258 :: x259 :: x260 :: x261 :: x262 :: x263 :: x264 :: x265 :: x266 :: x267 :: x268 :: x269 :: x270 :: x271 :: x272 :: x273 :: x274 :: x275 :: x276 :: x277 :: x278 :: x279 :: x280 :: x281 :: x282 :: x283 :: x284 :: x285 :: x286 :: x287 :: x288 :: x289 :: x290 :: x291 :: x292 :: x293 :: x294 :: x295 :: x296 :: x297 :: x298 :: x299 :: x300 :: x301 :: x302 :: x303 :: x304 :: x305 :: x306 :: x307 :: x308 :: x309 :: x310 :: x311 :: x312 :: x313 :: x314 :: x315 :: x316 :: x317 :: x318 :: x319 :: x320 :: x321 :: x322 :: x323 :: x324 :: x325 :: x326 :: x327 :: x328 :: x329 :: x330 :: x331 :: x332 :: x333 :: x334 :: []), defers := [] } w := by
  simp only [bodyOf, Try.f3, Option.getD_some, cHead, cThen]
  have HB := hid hB
  have HBY := hid hby
  clear hB hby
  have i1 : ∀ [Inhabited Unit], IntKind.i64.wrap ((ns : Int) * (r : Int)) = (n : Int) := fun {_} => by rw [HL.out]; exact IntWalk.i64_in _ (by omega)
  have i2 : ∀ [Inhabited Unit], wrap64 ((ns : Int) * (r : Int)) = (n : Int) := fun {_} => by rw [HL.out]; exact IntWalk.wrap64_in _ (by omega)
  go_wp2_with fail
  go_loopw [293] (fun i wr => ∃ c : Nat, c ≤ n ∧ i = .int .i64 c ∧ Below w.heap.size w wr)
    (fun i _ => n - (intOf i).toNat)
  case atStart => exact ⟨0, by omega, rfl, Below.refl _ _⟩
  case round =>
    obtain ⟨c, hc, rfl, hb⟩ := hrel
    by_cases hlc : c < n
    · obtain ⟨x, hkx⟩ := get_lt X c (by rw [← Hn.out]; exact hlc)
      have hkw : (X.map (wrI b))[c]? = some (wrI b x) := by rw [List.getElem?_map, hkx]; rfl
      obtain ⟨x1, x2⟩ := HX.out.2.at hkx
      obtain ⟨b7, o7, ix7, hb7, ce7⟩ := (Rd_x.out.kept hb).at (P := Try.prog) (T := 24) n c_x uslice sone hkx hlc
      obtain ⟨b8, o8, ix8, hb8, ce8⟩ := (Rd_y.out.kept hb).at (P := Try.prog) (T := 24) n c_y uslice sone hkw hlc
      obtain ⟨y1, y2⟩ := wrI_big b2 x
      have KI := fun (W : World) => iWrap_any x b W b1 b2 (by omega) (by omega)
      generalize wrI b x = y at *
      have KI := hid KI
      have HHb := hid hb
      clear hkx hkw hb
      go_wp2_with fail
      go_quiet ((go_at_call 11; exact Calls.quiet_of_same ((KI.out _).mono fun e w' h => ⟨h.1, h.2.symm⟩)))
      have hbq := below_drewN HHb.out nq
      generalize wr.drewN nq = wq at hbq ⊢
      go_wp2_with fail
      go_roundw
      case rel => exact ⟨c + 1, by omega, by go_num, hbq⟩
      case measure => simp [intOf]; omega
    · have hge : (n : Int) ≤ (c : Int) := by omega
      have HHb := hid (bel_step HB.out hb)
      have HBY := hid (By.later HBY.out hb)
      clear hlc hb
      go_wp2_with fail
      refine HK.out _ _ ?_
      exact combs_G u1 u2 n1 c1 n2 c2 w0 wr HHb.out HBY.out hl2 _ _ _ _ _ _ _ _ _ _ _ _ _ _ _ _ _ _ _ _ _ _ _ _ _ _ _ _ _ _ _ _ _ _ _ _ _ _ _ _ _ _ _ _ _ _ _ _ _ _ _ _ _ _ _ _ _ _ _ _ _ _ _ _ _ _ _ _ _ _ _ _ _ _ _ _ _ _ _ _ _ _ _ _ _ _ _ _ _ _ _ _ _ _ _ _ _ _ _ _ _ _ _ _ _ _ _ _ _ _ _ _ _ _ _ _ _ _ _ _ _ _ _ _ _ _ _ _ _ _ _ _ _ _ _ _ _ _ _ _ _ _ _ _ _ _ _ _ _ _ _ _ _ _ _ _ _ _ _ _ _ _ _ _ _ _ _ _ _ _ _ _ _ _ _ _ _ _ _ _ _ _ _ _ _ _ _ _ _ _ _ _ _ _ _ _ _ _ _ _ _ _ _ _ _ _ _ _ _ _ _ _ _ _ _ _ _ _ _ _ _ _ _ _ _ _ _ _ _ _ _ _ _ _ _ _ _ _ _ _ _ _ _ _ _ _ _ _ _ _ _ _ _ _ _ _ _ _ _ _ _ _ _ _ _ _ _ _ _ _ _ _ _ _ _ _ _ _ _ _ _ _ _ _ _ _ _ _ _ _ _ _ _ _ _ _ _ _ _ _ _ _ _ _ _ _ _ _ _ _ _ _ _ _ _ _ _ _ _ _ _ _ _ _ _ _ _ _ _ _ _ _ _


set_option maxRecDepth 20000 in
set_option maxHeartbeats 8000000 in
theorem combs_D1C (u1 u2 : Option Addr) (n1 c1 n2 c2 : Nat) (w0 w : World) (hB : Below w0.heap.size w0 w) (hby : By w.heap.size w u2 n2) (hl2 : n2 ≤ 1048576) (X : List Int) (n b : Nat) (b1 : 2 ≤ b) (b2 : b ≤ 40) (hn : n ≤ 64) (Hn : Hid (n = X.length)) (HX : Hid (SigP X)) (a_x a_y : Option Addr) (c_x c_y : Nat) (Rd_x : Hid (Rd w a_x X)) (Rd_y : Hid (Rd w a_y (X.map (wrI b)))) (a_s : Option Addr) (ns c_s r : Nat) (HL : Hid ((ns : Int) * (r : Int) = (n : Int))) (x2 x3 x4 x5 x6 x7 x8 x9 x10 x11 x12 x13 x14 x15 x16 x17 x18 x19 x20 x21 x22 x23 x24 x25 x26 x27 x30 x34 x35 x38 x39 x40 x41 x42 x43 x44 x45 x46 x47 x48 x49 x50 x51 x52 x53 x54 x55 x56 x57 x58 x59 x60 x61 x62 x63 x64 x65 x66 x67 x68 x69 x70 x71 x72 x73 x74 x75 x76 x77 x78 x79 x80 x81 x82 x83 x84 x85 x86 x87 x88 x89 x90 x91 x92 x93 x94 x95 x96 x97 x98 x99 x100 x101 x102 x103 x104 x105 x106 x107 x108 x109 x110 x111 x112 x113 x114 x115 x116 x117 x118 x119 x120 x121 x122 x123 x124 x125 x126 x127 x128 x129 x130 x131 x132 x133 x134 x135 x136 x137 x138 x139 x140 x141 x142 x143 x144 x145 x146 x147 x148 x149 x150 x151 x152 x153 x154 x155 x156 x157 x158 x159 x160 x161 x162 x163 x164 x165 x166 x167 x168 x169 x170 x171 x172 x173 x174 x175 x176 x177 x178 x179 x180 x181 x182 x183 x184 x185 x186 x187 x188 x189 x190 x191 x192 x193 x194 x195 x196 x197 x198 x199 x200 x201 x202 x203 x204 x205 x206 x207 x208 x209 x210 x211 x212 x213 x214 x215 x216 x217 x218 x219 x220 x221 x222 x223 x224 x225 x226 x227 x228 x229 x230 x231 x232 x233 x234 x235 x236 x237 x238 x239 x240 x241 x242 x243 x244 x245 x246 x247 x248 x249 x250 x251 x252 x253 x254 x255 x256 x257 x258 x259 x260 x261 x262 x263 x264 x265 x266 x267 x268 x269 x270 x271 x272 x273 x274 x275 x276 x277 x278 x279 x280 x281 x282 x283 x284 x285 x286 x287 x288 x289 x290 x291 x292 x293 x294 x295 x296 x297 x298 x299 x300 x301 x302 x303 x304 x305 x306 x307 x308 x309 x310 x311 x312 x313 x314 x315 x316 x317 x318 x319 x320 x321 x322 x323 x324 x325 x326 x327 x328 x329 x330 x331 x332 x333 x334 : Value) :
    Code.wp Try.prog (cRest 15 (bodyOf Try.f3)) (qS w0) { tmps := List.toArray ((.slice u1 n1 c1) :: (.slice u2 n2 c2) :: x2 :: x3 :: x4 :: x5 :: x6 :: x7 :: x8 :: x9 :: x10 :: x11 :: x12 :: x13 :: x14 :: x15 :: x16 :: x17 :: x18 :: x19 :: x20 :: x21 :: x22 :: x23 :: x24 :: x25 :: x26 :: x27 :: (.slice a_s ns c_s) :: (.int .i64 (b : Int)) :: x30 :: (.int .i64 (r : Int)) :: (.slice a_y n c_y) :: (.bool true) :: x34 :: x35 :: (.slice a_x n c_x) :: (.bool true) :: x38 :: x39 :: x40 :: x41 :: x42 :: x43 :: x44 :: x45 :: x46 :: x47 :: x48 :: x49 :: x50 :: x51 :: x52 :: x53 :: x54 :: x55 :: x56 :: x57 :: x58 :: x59 :: x60 :: x61 :: x62 :: x63 :: x64 :: x65 :: x66 :: x67 :: x68 :: x69 :: x70 :: x71 :: x72 :: x73 :: x74 :: x75 :: x76 :: x77 :: x78 :: x79 :: x80 :: x81 :: x82 :: x83 :: x84 :: x85 :: x86 :: x87 :: x88 :: x89 :: x90 :: x91 :: x92 :: x93 :: x94 :: x95 :: x96 :: x97 :: x98 :: x99 :: x100 :: x101 :: x102 :: x103 :: x104 :: x105 :: x106 :: x107 :: x108 :: x109 :: x110 :: x111 :: x112 :: x113 :: x114 :: x115 :: x116 :: x117 :: x118 :: x119 :: x120 :: x121 :: x122 :: x123 :: x124 :: x125 :: x126 :: x127 :: x128 :: x129 :: x130 :: x131 :: x132 :: x133 :: x134 :: x135 :: x136 :: x137 :: x138 :: x139 :: x140 :: x141 :: x142 :: x143 :: x144 :: x145 :: x146 :: x147 :: x148 :: x149 :: x150 :: x151 :: x152 :: x153 :: x154 :: x155 :: x156 :: x157 :: x158 :: x159 :: x160 :: x161 :: x162 :: x163 :: x164 :: x165 :: x166 :: x167 :: x168 :: x169 :: x170 :: x171 :: x172 :: x173 :: x174 :: x175 :: x176 :: x177 :: x178 :: x179 :: x180 :: x181 :: x182 :: x183 :: x184 :: x185 :: x186 :: x187 :: x188 :: x189 :: x190 :: x191 :: x192 :: x193 :: x194 :: x195 :: x196 :: x197 :: x198 :: x199 :: x200 :: x201 :: x202 :: x203 :: x204 :: x205 :: x206 :: x207 :: x208 :: x209 :: x210 :: x211 :: x212 :: x213 :: x214 :: x215 :: x216 :: x217 :: x218 :: x219 :: x220 :: x221 :: x222 :: x223 :: x224 :: x225 :: x226 :: x227 :: x228 :: x229 :: x230 :: x231 :: x232 :: x233 :: x234 :: x235 :: x236 :: x237 :: x238 :: x239 :: x240 :: x241 :: x242 :: x243 :: x244 :: x245 :: x246 :: x247 :: x248 :: x249 :: x250 :: x251 :: x252 :: x253 :: x254 :: x255 :: x256 :: x257 :: x258 :: x259 :: x260 :: x261 :: x262 :: x263 :: x264 :: x265 :: x266 :: x267 :: x268 :: x269 :: x270 :: x271 :: x272 :: x273 :: x274 :: x275 :: x276 :: x277 :: x278 :: x279 :: x280 :: x281 :: x282 :: x283 :: x284 :: x285 :: x286 :: x287 :: x288 :: x289 :: x290 :: x291 :: x292 :: x293 :: x294 :: x295 :: x296 :: x297 :: x298 :: x299 :: x300 :: x301 :: x302 :: x303 :: x304 :: x305 :: x306 :: x307 :: x308 :: x309 :: x310 :: x311 :: x312 :: x313 :: x314 :: x315 :: x316 :: x317 :: x318 :: x319 :: x320 :: x321 :: x322 :: x323 :: x324 :: x325 :: x326 :: x327 :: x328 :: x329 :: x330 :: x331 :: x332 :: x333 :: x334 :: []), defers := [] } w := by
  rw [show cRest 15 (bodyOf Try.f3) = .seq (cHead 15 (bodyOf Try.f3)) (cRest 16 (bodyOf Try.f3)) from by kernel_rfl]
  refine wp_seq_k ?_
  intro KK hK
  have HK := hid hK
  clear hK
  rw [show cHead 15 (bodyOf Try.f3) = .seq (cHead 0 (cHead 15 (bodyOf Try.f3))) (.cond (Operand.tmp 276) (cThen (cHead 15 (bodyOf Try.f3))) .skip) from by kernel_rfl]
  generalize hT : (cThen (cHead 15 (bodyOf Try.f3))) = TV
  have HT := hid hT
  clear hT
  simp only [bodyOf, Try.f3, Option.getD_some, cHead]
  have HB := hid hB
  have HBY := hid hby
  clear hB hby
  go_wp2_with fail
  rw [← HT.out]
  exact combs_D1 u1 u2 n1 c1 n2 c2 w0 w HB.out HBY.out hl2 KK HK X n b b1 b2 hn Hn HX a_x a_y c_x c_y Rd_x Rd_y a_s ns c_s r HL _ _ _ _ _ _ _ _ _ _ _ _ _ _ _ _ _ _ _ _ _ _ _ _ _ _ _ _ _ _ _ _ _ _ _ _ _ _ _ _ _ _ _ _ _ _ _ _ _ _ _ _ _ _ _ _ _ _ _ _ _ _ _ _ _ _ _ _ _ _ _ _ _ _ _ _ _ _ _ _ _ _ _ _ _ _ _ _ _ _ _ _ _ _ _ _ _ _ _ _ _ _ _ _ _ _ _ _ _ _ _ _ _ _ _ _ _ _ _ _ _ _ _ _ _ _ _ _ _ _ _ _ _ _ _ _ _ _ _ _ _ _ _ _ _ _ _ _ _ _ _ _ _ _ _ _ _ _ _ _ _ _ _ _ _ _ _ _ _ _ _ _ _ _ _ _ _ _ _ _ _ _ _ _ _ _ _ _ _ _ _ _ _ _ _ _ _ _ _ _ _ _ _ _ _ _ _ _ _ _ _ _ _ _ _ _ _ _ _ _ _ _ _ _ _ _ _ _ _ _ _ _ _ _ _ _ _ _ _ _ _ _ _ _ _ _ _ _ _ _ _ _ _ _ _ _ _ _ _ _ _ _ _ _ _ _ _ _ _ _ _ _ _ _ _ _ _ _ _ _ _ _ _ _ _ _ _ _ _ _ _ _ _ _ _ _ _ _ _ _ _ _ _ _ _ _ _ _ _ _ _ _ _ _ _ _ _ _ _ _ _ _ _ _ _ _ _ _


set_option maxRecDepth 20000 in
set_option maxHeartbeats 8000000 in
theorem combs_D (u1 u2 : Option Addr) (n1 c1 n2 c2 : Nat) (w0 w : World) (hB : Below w0.heap.size w0 w) (hby : By w.heap.size w u2 n2) (hl2 : n2 ≤ 1048576) (x2 x3 x4 x5 x6 x7 x8 x9 x10 x11 x12 x13 x14 x15 x16 x17 x18 x19 x20 x21 x22 x23 x24 x25 x26 x27 x28 x29 x30 x31 x32 x33 x34 x35 x36 x37 x38 x39 x40 x41 x42 x43 x44 x45 x46 x47 x48 x49 x50 x51 x52 x53 x54 x55 x56 x57 x58 x59 x60 x61 x62 x63 x64 x65 x66 x67 x68 x69 x70 x71 x72 x73 x74 x75 x76 x77 x78 x79 x80 x81 x82 x83 x84 x85 x86 x87 x88 x89 x90 x91 x92 x93 x94 x95 x96 x97 x98 x99 x100 x101 x102 x103 x104 x105 x106 x107 x108 x109 x110 x111 x112 x113 x114 x115 x116 x117 x118 x119 x120 x121 x122 x123 x124 x125 x126 x127 x128 x129 x130 x131 x132 x133 x134 x135 x136 x137 x138 x139 x140 x141 x142 x143 x144 x145 x146 x147 x148 x149 x150 x151 x152 x153 x154 x155 x156 x157 x158 x159 x160 x161 x162 x163 x164 x165 x166 x167 x168 x169 x170 x171 x172 x173 x174 x175 x176 x177 x178 x179 x180 x181 x182 x183 x184 x185 x186 x187 x188 x189 x190 x191 x192 x193 x194 x195 x196 x197 x198 x199 x200 x201 x202 x203 x204 x205 x206 x207 x208 x209 x210 x211 x212 x213 x214 x215 x216 x217 x218 x219 x220 x221 x222 x223 x224 x225 x226 x227 x228 x229 x230 x231 x232 x233 x234 x235 x236 x237 x238 x239 x240 x241 x242 x243 x244 x245 x246 x247 x248 x249 x250 x251 x252 x253 x254 x255 x256 x257 x258 x259 x260 x261 x262 x263 x264 x265 x266 x267 x268 x269 x270 x271 x272 x273 x274 x275 x276 x277 x278 x279 x280 x281 x282 x283 x284 x285 x286 x287 x288 x289 x290 x291 x292 x293 x294 x295 x296 x297 x298 x299 x300 x301 x302 x303 x304 x305 x306 x307 x308 x309 x310 x311 x312 x313 x314 x315 x316 x317 x318 x319 x320 x321 x322 x323 x324 x325 x326 x327 x328 x329 x330 x331 x332 x333 x334 : Value) :
    Code.wp Try.prog (cRest 9 (bodyOf Try.f3)) (qS w0) { tmps := List.toArray ((.slice u1 n1 c1) :: (.slice u2 n2 c2) :: x2 :: x3 :: x4 :: x5 :: x6 :: x7 :: x8 :: x9 :: x10 :: x11 :: x12 :: x13 :: x14 :: x15 :: x16 :: x17 :: x18 :: x19 :: x20 :: x21 :: x22 :: x23 :: x24 :: x25 :: x26 :: x27 :: x28 :: x29 :: x30 :: x31 :: x32 :: x33 :: x34 :: x35 :: x36 :: x37 :: x38 :: x39 :: x40 :: x41 :: x42 :: x43 :: x44 :: x45 :: x46 :: x47 :: x48 :: x49 :: x50 :: x51 :: x52 :: x53 :: x54 :: x55 :: x56 :: x57 :: x58 :: x59 :: x60 :: x61 :: x62 :: x63 :: x64 :: x65 :: x66 :: x67 :: x68 :: x69 :: x70 :: x71 :: x72 :: x73 :: x74 :: x75 :: x76 :: x77 :: x78 :: x79 :: x80 :: x81 :: x82 :: x83 :: x84 :: x85 :: x86 :: x87 :: x88 :: x89 :: x90 :: x91 :: x92 :: x93 :: x94 :: x95 :: x96 :: x97 :: x98 :: x99 :: x100 :: x101 :: x102 :: x103 :: x104 :: x105 :: x106 :: x107 :: x108 :: x109 :: x110 :: x111 :: x112 :: x113 :: x114 :: x115 :: x116 :: x117 :: x118 :: x119 :: x120 :: x121 :: x122 :: x123 :: x124 :: x125 :: x126 :: x127 :: x128 :: x129 :: x130 :: x131 :: x132 :: x133 :: x134 :: x135 :: x136 :: x137 :: x138 :: x139 :: x140 :: x141 :: x142 :: x143 :: x144 :: x145 :: x146 :: x147 :: x148 :: x149 :: x150 :: x151 :: x152 :: x153 :: x154 :: x155 :: x156 :: x157 :: x158 :: x159 :: x160 :: x161 :: x162 :: x163 :: x164 :: x165 :: x166 :: x167 :: x168 :: x169 :: x170 :: x171 :: x172 :: x173 :: x174 :: x175 :: x176 :: x177 :: x178 :: x179 :: x180 :: x181 :: x182 :: x183 :: x184 :: x185 :: x186 :: x187 :: x188 :: x189 :: x190 :: x191 :: x192 :: x193 :: x194 :: x195 :: x196 :: x197 :: x198 :: x199 :: x200 :: x201 :: x202 :: x203 :: x204 :: x205 :: x206 :: x207 :: x208 :: x209 :: x210 :: x211 :: x212 :: x213 :: x214 :: x215 :: x216 :: x217 :: x218 :: x219 :: x220 :: x221 :: x222 :: x223 :: x224 :: x225 :: x226 :: x227 :: x228 :: x229 :: x230 :: x231 :: x232 :: x233 :: x234 :: x235 :: x236 :: x237 :: x238 :: x239 :: x240 :: x241 :: x242 :: x243 :: x244 :: x245 :: x246 :: x247 :: x248 :: x249 :: x250 :: x251 :: x252 :: x253 :: x254 :: x255 :: x256 :: x257 :: x258 :: x259 :: x260 :: x261 :: x262 :: x263 :: x264 :: x265 :: x266 :: x267 :: x268 :: x269 :: x270 :: x271 :: x272 :: x273 :: x274 :: x275 :: x276 :: x277 :: x278 :: x279 :: x280 :: x281 :: x282 :: x283 :: x284 :: x285 :: x286 :: x287 :: x288 :: x289 :: x290 :: x291 :: x292 :: x293 :: x294 :: x295 :: x296 :: x297 :: x298 :: x299 :: x300 :: x301 :: x302 :: x303 :: x304 :: x305 :: x306 :: x307 :: x308 :: x309 :: x310 :: x311 :: x312 :: x313 :: x314 :: x315 :: x316 :: x317 :: x318 :: x319 :: x320 :: x321 :: x322 :: x323 :: x324 :: x325 :: x326 :: x327 :: x328 :: x329 :: x330 :: x331 :: x332 :: x333 :: x334 :: []), defers := [] } w := by
  rw [show cRest 9 (bodyOf Try.f3) = .seq (cHead 9 (bodyOf Try.f3)) (.seq (cHead 10 (bodyOf Try.f3)) (.seq (cHead 11 (bodyOf Try.f3)) (.seq (cHead 12 (bodyOf Try.f3)) (.seq (cHead 13 (bodyOf Try.f3)) (.seq (cHead 14 (bodyOf Try.f3)) (cRest 15 (bodyOf Try.f3))))))) from by kernel_rfl]
  generalize hR : cRest 15 (bodyOf Try.f3) = R
  have HR := hid hR
  clear hR
  simp only [bodyOf, Try.f3, Option.getD_some, cHead]
  have HB := hid hB
  have HBY := hid hby
  clear hB hby
  go_wp2_with fail
  refine (DrawWrappedRise_any u2 n2 c2 _ HBY.out hl2).mono ?_
  rintro e w1 ⟨⟨v_s, s, b, x, y, rfl, r_s, hsl, hb9, hx9, hy9⟩, hb⟩
  obtain ⟨a_s, ns, c_s, rfl, hns, -⟩ := id r_s.sl.rd
  have HB := hid (bel_step HB.out hb)
  have HBY := hid (By.later HBY.out hb)
  have HR_s := hid r_s
  have Hns := hid hns
  clear hb r_s hns hb9 hx9 hy9
  obtain ⟨q, hq⟩ : ∃ z, z = wrB s b x y := ⟨_, rfl⟩
  obtain ⟨X, hX⟩ : ∃ z, z = onL q (wrL s b.toNat x.toNat y.toNat) := ⟨_, rfl⟩
  obtain ⟨p, hp⟩ : ∃ z, z = erB s x y := ⟨_, rfl⟩
  obtain ⟨Y, hY⟩ : ∃ z, z = onL p (erL s x y) := ⟨_, rfl⟩
  have lX : X.length ≤ 2000000 := by rw [hX, hq]; exact wr_len
  have lY : Y.length ≤ 2000000 := by rw [hY, hp]; exact er_len
  have Kwi := fun (W : World) (v : Value) (h : Sl W v s) => impl_WrappedRise_any v s b x y W h
  have Kws := fun (W : World) (v : Value) (h : Sl W v s) => spec_WrappedRise_any v s b x y W h
  have Kei := fun (W : World) (v : Value) (h : Sl W v s) => impl_ExactRise_any v s x y W h
  have Kes := fun (W : World) (v : Value) (h : Sl W v s) => spec_ExactRise_any v s x y W h
  rw [← hq, ← hX] at Kwi Kws
  rw [← hp, ← hY] at Kei Kes
  have Kwi := hid Kwi
  have Kws := hid Kws
  have Kei := hid Kei
  have Kes := hid Kes
  have Hq := hid hq
  clear hq
  have HX := hid hX
  clear hX
  have Hp := hid hp
  clear hp
  have HY := hid hY
  clear hY
  go_wp2_with fail
  refine (Kwi.out _ _ HR_s.out.sl).mono ?_
  rintro e w2 ⟨v_Xi, rfl, r_Xi, hb⟩
  have HB := hid (bel_step HB.out hb)
  have HBY := hid (By.later HBY.out hb)
  have HR_s := hid (HR_s.out.kept hb)
  have HR_Xi := hid r_Xi
  clear hb r_Xi
  go_wp2_with fail
  refine (Kws.out _ _ HR_s.out.sl).mono ?_
  rintro e w3 ⟨v_Xs, rfl, r_Xs, hb⟩
  have HB := hid (bel_step HB.out hb)
  have HBY := hid (By.later HBY.out hb)
  have HR_s := hid (HR_s.out.kept hb)
  have HR_Xi := hid (HR_Xi.out.kept hb)
  have HR_Xs := hid r_Xs
  clear hb r_Xs
  go_wp2_with fail
  refine (Kei.out _ _ HR_s.out.sl).mono ?_
  rintro e w4 ⟨v_Yi, rfl, r_Yi, hb⟩
  have HB := hid (bel_step HB.out hb)
  have HBY := hid (By.later HBY.out hb)
  have HR_s := hid (HR_s.out.kept hb)
  have HR_Xi := hid (HR_Xi.out.kept hb)
  have HR_Xs := hid (HR_Xs.out.kept hb)
  have HR_Yi := hid r_Yi
  clear hb r_Yi
  go_wp2_with fail
  refine (Kes.out _ _ HR_s.out.sl).mono ?_
  rintro e w5 ⟨v_Ys, rfl, r_Ys, hb⟩
  have HB := hid (bel_step HB.out hb)
  have HBY := hid (By.later HBY.out hb)
  have HR_s := hid (HR_s.out.kept hb)
  have HR_Xi := hid (HR_Xi.out.kept hb)
  have HR_Xs := hid (HR_Xs.out.kept hb)
  have HR_Yi := hid (HR_Yi.out.kept hb)
  have HR_Ys := hid r_Ys
  clear hb r_Ys
  clear Kwi Kws Kei Kes
  cases q
  all_goals cases p
  all_goals
    go_wp2_with fail
    refine (iSame_same _ _ X _ HR_Xi.out.sl HR_Xs.out.sl lX).mono ?_
    rintro e w6 ⟨rfl, hb⟩
    have HB := hid (bel_step HB.out hb)
    have HBY := hid (By.later HBY.out hb)
    have HR_s := hid (HR_s.out.kept hb)
    have HR_Xi := hid (HR_Xi.out.kept hb)
    have HR_Xs := hid (HR_Xs.out.kept hb)
    have HR_Yi := hid (HR_Yi.out.kept hb)
    have HR_Ys := hid (HR_Ys.out.kept hb)
    clear hb
    go_wp2_with fail
    refine (iSame_same _ _ Y _ HR_Yi.out.sl HR_Ys.out.sl lY).mono ?_
    rintro e w7 ⟨rfl, hb⟩
    have HB := hid (bel_step HB.out hb)
    have HBY := hid (By.later HBY.out hb)
    have HR_s := hid (HR_s.out.kept hb)
    have HR_Xi := hid (HR_Xi.out.kept hb)
    have HR_Xs := hid (HR_Xs.out.kept hb)
    have HR_Yi := hid (HR_Yi.out.kept hb)
    have HR_Ys := hid (HR_Ys.out.kept hb)
    clear hb
  · go_wp2_with fail
    rw [← HR.out]
    exact combs_N1 u1 u2 n1 c1 n2 c2 w0 w7 HB.out HBY.out hl2 _ _ _ _ _ _ _ _ _ _ _ _ _ _ _ _ _ _ _ _ _ _ _ _ _ _ _ _ _ _ _ _ _ _ _ _ _ _ _ _ _ _ _ _ _ _ _ _ _ _ _ _ _ _ _ _ _ _ _ _ _ _ _ _ _ _ _ _ _ _ _ _ _ _ _ _ _ _ _ _ _ _ _ _ _ _ _ _ _ _ _ _ _ _ _ _ _ _ _ _ _ _ _ _ _ _ _ _ _ _ _ _ _ _ _ _ _ _ _ _ _ _ _ _ _ _ _ _ _ _ _ _ _ _ _ _ _ _ _ _ _ _ _ _ _ _ _ _ _ _ _ _ _ _ _ _ _ _ _ _ _ _ _ _ _ _ _ _ _ _ _ _ _ _ _ _ _ _ _ _ _ _ _ _ _ _ _ _ _ _ _ _ _ _ _ _ _ _ _ _ _ _ _ _ _ _ _ _ _ _ _ _ _ _ _ _ _ _ _ _ _ _ _ _ _ _ _ _ _ _ _ _ _ _ _ _ _ _ _ _ _ _ _ _ _ _ _ _ _ _ _ _ _ _ _ _ _ _ _ _ _ _ _ _ _ _ _ _ _ _ _ _ _ _ _ _ _ _ _ _ _ _ _ _ _ _ _ _ _ _ _ _ _ _ _ _ _ _ _ _ _ _ _ _ _ _ _ _ _ _ _ _ _ _ _ _ _ _ _ _ _ _ _ _ _ _ _ _ _ _ _ _
  · go_wp2_with fail
    rw [← HR.out]
    exact combs_N1 u1 u2 n1 c1 n2 c2 w0 w7 HB.out HBY.out hl2 _ _ _ _ _ _ _ _ _ _ _ _ _ _ _ _ _ _ _ _ _ _ _ _ _ _ _ _ _ _ _ _ _ _ _ _ _ _ _ _ _ _ _ _ _ _ _ _ _ _ _ _ _ _ _ _ _ _ _ _ _ _ _ _ _ _ _ _ _ _ _ _ _ _ _ _ _ _ _ _ _ _ _ _ _ _ _ _ _ _ _ _ _ _ _ _ _ _ _ _ _ _ _ _ _ _ _ _ _ _ _ _ _ _ _ _ _ _ _ _ _ _ _ _ _ _ _ _ _ _ _ _ _ _ _ _ _ _ _ _ _ _ _ _ _ _ _ _ _ _ _ _ _ _ _ _ _ _ _ _ _ _ _ _ _ _ _ _ _ _ _ _ _ _ _ _ _ _ _ _ _ _ _ _ _ _ _ _ _ _ _ _ _ _ _ _ _ _ _ _ _ _ _ _ _ _ _ _ _ _ _ _ _ _ _ _ _ _ _ _ _ _ _ _ _ _ _ _ _ _ _ _ _ _ _ _ _ _ _ _ _ _ _ _ _ _ _ _ _ _ _ _ _ _ _ _ _ _ _ _ _ _ _ _ _ _ _ _ _ _ _ _ _ _ _ _ _ _ _ _ _ _ _ _ _ _ _ _ _ _ _ _ _ _ _ _ _ _ _ _ _ _ _ _ _ _ _ _ _ _ _ _ _ _ _ _ _ _ _ _ _ _ _ _ _ _ _ _ _ _ _ _
  · go_wp2_with fail
    rw [← HR.out]
    exact combs_N2 u1 u2 n1 c1 n2 c2 w0 w7 HB.out HBY.out hl2 _ _ _ _ _ _ _ _ _ _ _ _ _ _ _ _ _ _ _ _ _ _ _ _ _ _ _ _ _ _ _ _ _ _ _ _ _ _ _ _ _ _ _ _ _ _ _ _ _ _ _ _ _ _ _ _ _ _ _ _ _ _ _ _ _ _ _ _ _ _ _ _ _ _ _ _ _ _ _ _ _ _ _ _ _ _ _ _ _ _ _ _ _ _ _ _ _ _ _ _ _ _ _ _ _ _ _ _ _ _ _ _ _ _ _ _ _ _ _ _ _ _ _ _ _ _ _ _ _ _ _ _ _ _ _ _ _ _ _ _ _ _ _ _ _ _ _ _ _ _ _ _ _ _ _ _ _ _ _ _ _ _ _ _ _ _ _ _ _ _ _ _ _ _ _ _ _ _ _ _ _ _ _ _ _ _ _ _ _ _ _ _ _ _ _ _ _ _ _ _ _ _ _ _ _ _ _ _ _ _ _ _ _ _ _ _ _ _ _ _ _ _ _ _ _ _ _ _ _ _ _ _ _ _ _ _ _ _ _ _ _ _ _ _ _ _ _ _ _ _ _ _ _ _ _ _ _ _ _ _ _ _ _ _ _ _ _ _ _ _ _ _ _ _ _ _ _ _ _ _ _ _ _ _ _ _ _ _ _ _ _ _ _ _ _ _ _ _ _ _ _ _ _ _ _ _ _ _ _ _ _ _ _ _ _ _ _ _ _ _ _ _ _ _ _ _ _ _ _ _ _
  · go_wp2_with fail
    rw [← HR.out]
    obtain ⟨hg, hb1, hx, hy, hst⟩ := wr_t Hq.out.symm
    obtain ⟨bn, rfl⟩ : ∃ bn : Nat, b = bn := ⟨b.toNat, by omega⟩
    obtain ⟨xn, rfl⟩ : ∃ bn : Nat, x = bn := ⟨x.toNat, by omega⟩
    obtain ⟨yn, rfl⟩ : ∃ bn : Nat, y = bn := ⟨y.toNat, by omega⟩
    have eX : X = wrL s bn xn yn := HX.out
    have eY : Y = erL s (xn : Int) (yn : Int) := HY.out
    have eY2 : Y = caL yn xn (stuffL yn s) := eY
    have eXY : X = Y.map (wrI bn) := by rw [eX, eY2]; exact wrL_map (by omega) (by omega)
    have hsig : SigP Y := er_sig Hp.out.symm eY
    have lY2 : Y.length = s.length * yn := by rw [eY2, caL_len, stuffL_len]
    have sX := HR_Xi.out.sl
    have sY := HR_Yi.out.sl
    rw [eXY] at sX
    obtain ⟨a_x, n_x, c_x, rfl, hnx, rdx⟩ := sX.rd
    obtain ⟨a_y, n_y, c_y, rfl, hny, rdy⟩ := sY.rd
    obtain rfl : n_y = n_x := by rw [hnx, hny, List.length_map]
    exact combs_D1C u1 u2 n1 c1 n2 c2 w0 w7 HB.out HBY.out hl2 Y n_y bn (by omega) (by omega) (by rw [hny]; exact hsig.1) (hid hny) (hid hsig) a_y a_x c_y c_x (hid rdy) (hid rdx) a_s ns c_s yn (hid (by rw [hny, lY2, Hns.out, Int.natCast_mul])) _ _ _ _ _ _ _ _ _ _ _ _ _ _ _ _ _ _ _ _ _ _ _ _ _ _ _ _ _ _ _ _ _ _ _ _ _ _ _ _ _ _ _ _ _ _ _ _ _ _ _ _ _ _ _ _ _ _ _ _ _ _ _ _ _ _ _ _ _ _ _ _ _ _ _ _ _ _ _ _ _ _ _ _ _ _ _ _ _ _ _ _ _ _ _ _ _ _ _ _ _ _ _ _ _ _ _ _ _ _ _ _ _ _ _ _ _ _ _ _ _ _ _ _ _ _ _ _ _ _ _ _ _ _ _ _ _ _ _ _ _ _ _ _ _ _ _ _ _ _ _ _ _ _ _ _ _ _ _ _ _ _ _ _ _ _ _ _ _ _ _ _ _ _ _ _ _ _ _ _ _ _ _ _ _ _ _ _ _ _ _ _ _ _ _ _ _ _ _ _ _ _ _ _ _ _ _ _ _ _ _ _ _ _ _ _ _ _ _ _ _ _ _ _ _ _ _ _ _ _ _ _ _ _ _ _ _ _ _ _ _ _ _ _ _ _ _ _ _ _ _ _ _ _ _ _ _ _ _ _ _ _ _ _ _ _ _ _ _ _ _ _ _ _ _ _ _ _ _ _ _ _ _ _ _ _ _ _ _ _ _ _ _ _ _ _ _ _ _ _ _ _ _ _ _ _ _ _ _ _ _ _ _ _ _ _ _ _ _ _ _ _ _ _ _ _

end Go.Proofs.Ytdedifgpbehpoaa

