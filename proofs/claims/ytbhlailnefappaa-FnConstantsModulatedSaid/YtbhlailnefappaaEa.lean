
import Derived.Test.YtbhlailnefappaaWg
namespace Go.Ch6
open Go Go.RowKit Go.MemX
set_option linter.unusedVariables false

/-- a number wrapped to so many bits -/
def wrI (b : Nat) (x : Int) : Int := (x + 2 ^ (b - 1)) % (2 * 2 ^ (b - 1)) - 2 ^ (b - 1)
theorem pow1 (n : Nat) : (0 : Int) < 2 ^ n := Int.pow_pos (by decide)
theorem pow_two {b : Nat} (h : 1 ≤ b) : (2 : Int) ^ b = 2 * 2 ^ (b - 1) := by
  obtain ⟨c, rfl⟩ : ∃ c, b = c + 1 := ⟨b - 1, by omega⟩
  rw [Int.pow_succ, Nat.add_sub_cancel, Int.mul_comm]
theorem wrI_in (b : Nat) (x : Int) : -(2 : Int) ^ (b - 1) ≤ wrI b x ∧ wrI b x ≤ 2 ^ (b - 1) - 1 := by
  unfold wrI
  have hp := pow1 (b - 1)
  generalize (2 : Int) ^ (b - 1) = P at *
  have h0 := Int.emod_nonneg (x + P) (show 2 * P ≠ 0 by omega)
  have h1 := Int.emod_lt_of_pos (x + P) (show 0 < 2 * P by omega)
  omega
theorem wrI_zero (b : Nat) : wrI b 0 = 0 := by
  unfold wrI
  have hp := pow1 (b - 1)
  generalize (2 : Int) ^ (b - 1) = P at *
  rw [Int.emod_eq_of_lt (by omega) (by omega)]; omega
theorem wrI_add (b : Nat) (x y : Int) : wrI b (wrI b x + y) = wrI b (x + y) := by
  unfold wrI
  generalize (2 : Int) ^ (b - 1) = P at *
  rw [show (x + P) % (2 * P) - P + y + P = (x + P) % (2 * P) + y from by omega, Int.emod_add_emod, show x + P + y = x + y + P from by omega]
/-- as the model makes it -/
theorem wrI_model {P x : Int} (hP : 0 < P) : ((x.tmod (2 * P) + 2 * P).tmod (2 * P)) = x % (2 * P) := by
  have hM : 0 < 2 * P := by omega
  have h1 := Int.lt_tmod_of_pos x hM
  rw [Int.tmod_eq_emod_of_nonneg (by omega), Int.add_emod_right]
  have e := Int.mul_tdiv_add_tmod x (2 * P)
  conv => rhs; rw [← e]
  rw [Int.add_comm, Int.add_mul_emod_self_left]
theorem wrI_of (b : Nat) (x : Int) : wrI b x = if 2 ^ (b - 1) ≤ x % (2 * 2 ^ (b - 1)) then x % (2 * 2 ^ (b - 1)) - 2 * 2 ^ (b - 1) else x % (2 * 2 ^ (b - 1)) := by
  unfold wrI
  have hp := pow1 (b - 1)
  generalize (2 : Int) ^ (b - 1) = P at *
  have h0 := Int.emod_nonneg x (show 2 * P ≠ 0 by omega)
  have h1 := Int.emod_lt_of_pos x (show 0 < 2 * P by omega)
  have e := Int.mul_ediv_add_emod x (2 * P)
  generalize x % (2 * P) = r at *
  generalize x / (2 * P) = q at *
  subst e
  split
  · rw [show 2 * P * q + r + P = (r - P) + 2 * P * (q + 1) from by rw [Int.mul_add]; omega, Int.add_mul_emod_self_left, Int.emod_eq_of_lt (by omega) (by omega)]; omega
  · rw [show 2 * P * q + r + P = (r + P) + 2 * P * q from by omega, Int.add_mul_emod_self_left, Int.emod_eq_of_lt (by omega) (by omega)]; omega

/-- what comes out of so many running sums, each wrapped -/
def stS (b : Nat) : Nat → (Nat → Int) → Nat → Int
  | 0, f => f
  | k + 1, f => fun i => wrI b (sumF (i + 1) (stS b k f))
/-- what the stage k holds behind so many samples -/
def hdS (b k : Nat) (f : Nat → Int) (i : Nat) : Int := wrI b (sumF i (stS b k f))
theorem hdS_zero (b k : Nat) (f : Nat → Int) : hdS b k f 0 = 0 := wrI_zero b
theorem hdS_succ (b k : Nat) (f : Nat → Int) (i : Nat) : hdS b k f (i + 1) = wrI b (hdS b k f i + stS b k f i) := by
  unfold hdS; rw [sumF_succ, wrI_add]
theorem stS_succ (b k : Nat) (f : Nat → Int) (i : Nat) : stS b (k + 1) f i = hdS b k f (i + 1) := rfl
/-- what comes out of so many differences, each wrapped -/
def bef (f : Nat → Int) (i : Nat) : Int := if i = 0 then 0 else f (i - 1)
def stD (b : Nat) : Nat → (Nat → Int) → Nat → Int
  | 0, f => f
  | k + 1, f => fun i => wrI b (stD b k f i - bef (stD b k f) i)
theorem stD_succ (b k : Nat) (f : Nat → Int) (i : Nat) : stD b (k + 1) f i = wrI b (stD b k f i - bef (stD b k f) i) := rfl
theorem bef_zero (f : Nat → Int) : bef f 0 = 0 := rfl
theorem bef_succ (f : Nat → Int) (i : Nat) : bef f (i + 1) = f i := rfl
theorem pow39 {b : Nat} (h : b ≤ 40) : (2 : Int) ^ (b - 1) ≤ 549755813888 := by
  have h1 : (2 : Nat) ^ (b - 1) ≤ 2 ^ 39 := Nat.pow_le_pow_right (by decide) (by omega)
  have h2 : (2 : Int) ^ (b - 1) ≤ 2 ^ 39 := by exact_mod_cast h1
  omega
theorem wrI_big {b : Nat} (h : b ≤ 40) (x : Int) : -549755813888 ≤ wrI b x ∧ wrI b x ≤ 549755813888 := by
  have := wrI_in b x; have := pow39 h; omega
theorem hdS_in {b : Nat} (h : b ≤ 40) (k : Nat) (f : Nat → Int) (i : Nat) : -549755813888 ≤ hdS b k f i ∧ hdS b k f i ≤ 549755813888 := wrI_big h _
theorem stS_in {b : Nat} (h : b ≤ 40) (k : Nat) (f : Nat → Int) (hf : ∀ i, -549755813888 ≤ f i ∧ f i ≤ 549755813888) (i : Nat) : -549755813888 ≤ stS b k f i ∧ stS b k f i ≤ 549755813888 := by
  cases k with
  | zero => exact hf i
  | succ k => exact wrI_big h _
theorem stD_in {b : Nat} (h : b ≤ 40) (k : Nat) (f : Nat → Int) (hf : ∀ i, -549755813888 ≤ f i ∧ f i ≤ 549755813888) (i : Nat) : -549755813888 ≤ stD b k f i ∧ stD b k f i ≤ 549755813888 := by
  cases k with
  | zero => exact hf i
  | succ k => exact wrI_big h _
theorem bef_in {f : Nat → Int} {B : Int} (h0 : 0 ≤ B) (hf : ∀ i, -B ≤ f i ∧ f i ≤ B) (i : Nat) : -B ≤ bef f i ∧ bef f i ≤ B := by
  unfold bef; split
  · omega
  · exact hf _
/-- as lists -/
def sumsL (b st : Nat) (xs : List Int) : List Int := tab xs.length (stS b st (at0 xs))
def difsL (b st : Nat) (xs : List Int) : List Int := tab xs.length (stD b st (at0 xs))
theorem sumsL_len (b st : Nat) (xs : List Int) : (sumsL b st xs).length = xs.length := tab_len _ _
theorem difsL_len (b st : Nat) (xs : List Int) : (difsL b st xs).length = xs.length := tab_len _ _
theorem sumsL_zero (b : Nat) (xs : List Int) : sumsL b 0 xs = xs := tab_self xs
theorem difsL_zero (b : Nat) (xs : List Int) : difsL b 0 xs = xs := tab_self xs
theorem sumsL_succ (b k : Nat) (xs : List Int) : sumsL b (k + 1) xs = tab (sumsL b k xs).length (fun i => wrI b (sumF (i + 1) (at0 (sumsL b k xs)))) := by
  rw [sumsL_len]
  refine tab_congr _ _ _ fun i hi => ?_
  show wrI b (sumF (i + 1) (stS b k (at0 xs))) = _
  congr 1
  refine sumF_congr _ _ _ fun j hj => ?_
  exact (at0_tab _ _ _ (by omega)).symm
theorem difsL_succ (b k : Nat) (xs : List Int) : difsL b (k + 1) xs = tab (difsL b k xs).length (fun i => wrI b (at0 (difsL b k xs) i - bef (at0 (difsL b k xs)) i)) := by
  rw [difsL_len]
  refine tab_congr _ _ _ fun i hi => ?_
  show wrI b (stD b k (at0 xs) i - bef (stD b k (at0 xs)) i) = _
  have e1 : at0 (difsL b k xs) i = stD b k (at0 xs) i := at0_tab _ _ _ hi
  have e2 : bef (at0 (difsL b k xs)) i = bef (stD b k (at0 xs)) i := by
    unfold bef; split
    · rfl
    · exact at0_tab _ _ _ (by omega)
  rw [e1, e2]

/-- how often a word is changed by wrapping -/
def chg (b k : Nat) (f : Nat → Int) (i : Nat) : Int := if hdS b k f (i + 1) = hdS b k f i + stS b k f i then 0 else 1
theorem chg_in (b k : Nat) (f : Nat → Int) (i : Nat) : 0 ≤ chg b k f i ∧ chg b k f i ≤ 1 := by unfold chg; split <;> omega
theorem sumF_add (n : Nat) (f g : Nat → Int) : sumF n (fun i => f i + g i) = sumF n f + sumF n g := by
  induction n with
  | zero => rfl
  | succ n ih => rw [sumF_succ, sumF_succ, sumF_succ, ih]; omega
theorem sumF_none (n : Nat) : sumF n (fun _ => 0) = 0 := by
  induction n with
  | zero => rfl
  | succ n ih => rw [sumF_succ, ih]; rfl
theorem sumF_swap (n m : Nat) (f : Nat → Nat → Int) : sumF n (fun i => sumF m (fun k => f k i)) = sumF m (fun k => sumF n (fun i => f k i)) := by
  induction m with
  | zero => exact sumF_none n
  | succ m ih => rw [sumF_succ, ← ih, ← sumF_add]; rfl
/-- by samples, and by stages -/
def wraps (b st n : Nat) (f : Nat → Int) : Int := sumF n (fun i => sumF st (fun k => chg b k f i))
theorem wraps_swap (b st n : Nat) (f : Nat → Int) : wraps b st n f = sumF st (fun k => sumF n (fun i => chg b k f i)) := sumF_swap n st (fun k i => chg b k f i)
theorem sumF_upto (n : Nat) (f : Nat → Int) (B : Int) (h : ∀ i, i < n → 0 ≤ f i ∧ f i ≤ B) : 0 ≤ sumF n f ∧ sumF n f ≤ n * B := by
  induction n with
  | zero => simp [sumF]
  | succ n ih =>
    have a := ih fun i hi => h i (by omega)
    have b := h n (by omega)
    rw [sumF_succ, show ((n + 1 : Nat) : Int) * B = n * B + B from by rw [Int.natCast_add, Int.add_mul]; simp]
    generalize (n : Int) * B = u at *
    omega

/-- how many are kept, and which -/
def drN (n r f : Nat) : Nat := if f < n then (n - f - 1) / r + 1 else 0
theorem drN_lt {n r f k : Nat} (hr : 1 ≤ r) : k < drN n r f ↔ f + k * r < n := by
  unfold drN
  split
  · rename_i h
    rw [show k < (n - f - 1) / r + 1 ↔ k ≤ (n - f - 1) / r from by omega, Nat.le_div_iff_mul_le (by omega)]
    omega
  · constructor
    · intro h; omega
    · intro h; omega
theorem drN_le (n r f : Nat) (hr : 1 ≤ r) : drN n r f ≤ n := by
  rcases Nat.lt_or_ge n (drN n r f) with h | h
  · have := (drN_lt hr).1 h
    have : n * 1 ≤ n * r := Nat.mul_le_mul_left _ hr
    omega
  · exact h
def dropL (r f : Nat) (xs : List Int) : List Int := tab (drN xs.length r f) (fun k => at0 xs (f + k * r))
theorem dropL_len (r f : Nat) (xs : List Int) : (dropL r f xs).length = drN xs.length r f := tab_len _ _
theorem dropL_le (r f : Nat) (xs : List Int) (hr : 1 ≤ r) : (dropL r f xs).length ≤ xs.length := by rw [dropL_len]; exact drN_le _ _ _ hr

/-- zeros put in -/
def stf (r : Nat) (f : Nat → Int) (j : Nat) : Int := if j % r = 0 then f (j / r) else 0
def stuffL (r : Nat) (xs : List Int) : List Int := tab (xs.length * r) (stf r (at0 xs))
theorem stuffL_len (r : Nat) (xs : List Int) : (stuffL r xs).length = xs.length * r := tab_len _ _
theorem stf_at {r k : Nat} (f : Nat → Int) (hr : 1 ≤ r) : stf r f (k * r) = f k := by
  unfold stf; rw [Nat.mul_mod_left, if_pos rfl, Nat.mul_div_cancel _ (by omega)]
theorem stf_in {r k j : Nat} (f : Nat → Int) (h0 : 1 ≤ j) (hj : j < r) : stf r f (k * r + j) = 0 := by
  unfold stf; rw [Nat.add_comm, Nat.add_mul_mod_self_right, Nat.mod_eq_of_lt hj, if_neg (by omega)]
/-- put in so far -/
def stfU (r k : Nat) (f : Nat → Int) (j : Nat) : Int := if j < k * r then stf r f j else 0
theorem stfU_zero (r n : Nat) (f : Nat → Int) : tab n (stfU r 0 f) = List.replicate n 0 := by
  rw [← tab_zero]; exact tab_congr _ _ _ fun i _ => by unfold stfU; rw [if_neg (by omega)]
theorem stfU_full (r n : Nat) (f : Nat → Int) : tab (n * r) (stfU r n f) = tab (n * r) (stf r f) :=
  tab_congr _ _ _ fun i hi => by unfold stfU; rw [if_pos hi]
theorem stfU_set {r k n : Nat} (f : Nat → Int) (hr : 1 ≤ r) (hk : k < n) : (tab (n * r) (stfU r k f)).set (k * r) (f k) = tab (n * r) (stfU r (k + 1) f) := by
  have hlt : k * r < (k + 1) * r := Nat.mul_lt_mul_of_pos_right (Nat.lt_succ_self k) (by omega)
  refine tab_set _ _ _ _ ?_ fun i hi hne => ?_
  · unfold stfU; rw [if_pos hlt, stf_at f hr]
  · unfold stfU
    by_cases h : i < k * r
    · rw [if_pos h, if_pos (by omega)]
    · rw [if_neg h]
      split
      · rename_i h2
        rw [Nat.add_mul, Nat.one_mul] at h2
        obtain ⟨j, rfl⟩ : ∃ j, i = k * r + j := ⟨i - k * r, by omega⟩
        exact (stf_in f (by omega) (by omega)).symm
      · rfl

/-- the weights of a comb -/
def cbW (r : Nat) : Nat → List Int
  | 0 => [1]
  | st + 1 => ans (List.replicate r 1) (cbW r st)
def cbG (r : Nat) : Nat → Int
  | 0 => 1
  | st + 1 => cbG r st * r
/-- the sum with signs -/
def altS (f : Nat → Int) (n : Nat) : Int := sumF n fun k => f k * (1 - ((k % 2 : Nat) : Int) * 2)
/-- the bits that are enough -/
def cbF : Nat → Nat → Bool := fun r st => decide (1 ≤ (cbW r st).length ∧ (cbW r st).length ≤ 29 ∧ (cbW r st).length = st * (r - 1) + 1) && (cbW r st).all (fun x => decide (0 ≤ x ∧ x ≤ 1000)) && decide (sumF (cbW r st).length (at0 (cbW r st)) = cbG r st) && decide (altS (at0 (cbW r st)) (cbW r st).length = if r % 2 = 0 ∧ 1 ≤ st then 0 else 1) && decide (1 ≤ cbG r st ∧ cbG r st ≤ 4096)
theorem cbF_all : ((List.range 9).all fun r => (List.range 5).all fun st => decide (r = 0) || cbF r st) = true := by decide +kernel
theorem cb_facts {r st : Nat} (h1 : 1 ≤ r) (h2 : r ≤ 8) (h3 : st ≤ 4) : cbF r st = true := by
  have h := cbF_all
  rw [List.all_eq_true] at h
  have h := h r (List.mem_range.2 (by omega))
  rw [List.all_eq_true] at h
  have h := h st (List.mem_range.2 (by omega))
  rw [Bool.or_eq_true] at h
  rcases h with h | h
  · have := of_decide_eq_true h; omega
  · exact h
theorem cb_parts {r st : Nat} (h1 : 1 ≤ r) (h2 : r ≤ 8) (h3 : st ≤ 4) :
    (1 ≤ (cbW r st).length ∧ (cbW r st).length ≤ 29) ∧ (∀ x ∈ cbW r st, 0 ≤ x ∧ x ≤ 1000) ∧ sumF (cbW r st).length (at0 (cbW r st)) = cbG r st ∧ altS (at0 (cbW r st)) (cbW r st).length = (if r % 2 = 0 ∧ 1 ≤ st then 0 else 1) ∧ (1 ≤ cbG r st ∧ cbG r st ≤ 4096) := by
  have h := cb_facts h1 h2 h3
  unfold cbF at h
  simp only [Bool.and_eq_true] at h
  obtain ⟨⟨⟨⟨a, b⟩, c⟩, d⟩, e⟩ := h
  have a := of_decide_eq_true a
  rw [List.all_eq_true] at b
  exact ⟨⟨a.1, a.2.1⟩, fun x hx => of_decide_eq_true (b x hx), of_decide_eq_true c, of_decide_eq_true d, of_decide_eq_true e⟩

theorem wrap_small (u : Int) (h0 : 0 ≤ u) (h1 : u < 9223372036854775808) : IntKind.i64.wrap u = u := by
  simp [IntKind.wrap, IntKind.bits, IntKind.signed]; omega
theorem and_mask (y : Int) (n : Nat) (hn : n ≤ 62) : bits .and .i64 y (2 ^ n - 1) = y % 2 ^ n := by
  show IntKind.i64.wrap ((BitVec.ofInt 64 y &&& BitVec.ofInt 64 (2 ^ n - 1)).toNat : Int) = _
  have hp : (2 : Nat) ^ n ≤ 2 ^ 62 := Nat.pow_le_pow_right (by decide) hn
  have hp0 : 0 < (2 : Nat) ^ n := Nat.pow_pos (by decide)
  have e2 : (BitVec.ofInt 64 ((2 : Int) ^ n - 1)).toNat = 2 ^ n - 1 := by
    rw [BitVec.toNat_ofInt]
    have : (2 : Int) ^ n = ((2 ^ n : Nat) : Int) := by norm_cast
    rw [this]
    generalize (2 : Nat) ^ n = q at *
    rw [Int.emod_eq_of_lt (by omega) (by omega)]; omega
  have e : (BitVec.ofInt 64 y &&& BitVec.ofInt 64 ((2 : Int) ^ n - 1)).toNat = (y % ((2 ^ 64 : Nat) : Int)).toNat % 2 ^ n := by
    rw [BitVec.toNat_and, e2, BitVec.toNat_ofInt]
    exact Nat.and_two_pow_sub_one_eq_mod _ _
  rw [e]
  have hr0 : 0 ≤ y % ((2 ^ 64 : Nat) : Int) := Int.emod_nonneg _ (by decide)
  have h3 : (((y % ((2 ^ 64 : Nat) : Int)).toNat % 2 ^ n : Nat) : Int) = y % 2 ^ n := by
    rw [Int.natCast_emod, Int.toNat_of_nonneg hr0, show ((2 ^ n : Nat) : Int) = (2 : Int) ^ n from by norm_cast]
    refine Int.emod_emod_of_dvd y ⟨2 ^ (64 - n), ?_⟩
    rw [← Int.pow_add, show n + (64 - n) = 64 from by omega]; norm_cast
  have h2 : (y % ((2 ^ 64 : Nat) : Int)).toNat % 2 ^ n < 2 ^ n := Nat.mod_lt _ hp0
  generalize (y % ((2 ^ 64 : Nat) : Int)).toNat % 2 ^ n = u at *
  rw [wrap_small _ (by omega) (by omega), h3]


def askB (st r : Int) : Bool := decide (1 ≤ st ∧ st ≤ 4) && decide (1 ≤ r ∧ r ≤ 8)
def lonB (b : Int) : Bool := decide (2 ≤ b ∧ b ≤ 40)
def onL (b : Bool) (ys : List Int) : List Int := match b with | true => ys | false => []
def onI (b : Bool) (x : Int) : Int := match b with | true => x | false => 0
theorem onL_len {b : Bool} {ys : List Int} {n : Nat} (h : b = true → ys.length ≤ n) : (onL b ys).length ≤ n := by
  cases b
  · exact Nat.zero_le _
  · exact h rfl
theorem askB_t {st r : Int} (h : askB st r = true) : (1 ≤ st ∧ st ≤ 4) ∧ (1 ≤ r ∧ r ≤ 8) := by
  unfold askB at h
  simp only [Bool.and_eq_true] at h
  exact ⟨of_decide_eq_true h.1, of_decide_eq_true h.2⟩
theorem lonB_t {b : Int} (h : lonB b = true) : 2 ≤ b ∧ b ≤ 40 := of_decide_eq_true h
end Go.Ch6
