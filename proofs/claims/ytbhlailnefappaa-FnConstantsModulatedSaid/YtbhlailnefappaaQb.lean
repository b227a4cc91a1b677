
import Derived.Test.YtbhlailnefappaaCs
import Derived.Test.YtbhlailnefappaaQa
namespace Go.ChV
open Go Go.RowKit Go.MemX Go.ShX
set_option linter.unusedVariables false

/-- what comes back to a sample -/
def bkI (order last before : Int) : Int := if order = 1 then last else if order = 2 then 2 * last - before else 0
theorem bkI_0 (l b : Int) : bkI 0 l b = 0 := rfl
theorem bkI_1 (l b : Int) : bkI 1 l b = l := rfl
theorem bkI_2 (l b : Int) : bkI 2 l b = 2 * l - b := rfl
/-- the last error and the one before, behind so many samples -/
def erP (s : List Int) (k : Nat) (mode order : Int) : Nat → Int × Int
  | 0 => (0, 0)
  | i + 1 =>
    let p := erP s k mode order i
    (at0 s i + bkI order p.1 p.2 - shiftI (at0 s i + bkI order p.1 p.2) k mode * 2 ^ k, p.1)
def erL (s : List Int) (k : Nat) (mode order : Int) (i : Nat) : Int := (erP s k mode order i).1
def erB (s : List Int) (k : Nat) (mode order : Int) (i : Nat) : Int := (erP s k mode order i).2
def suI (s : List Int) (k : Nat) (mode order : Int) (i : Nat) : Int := at0 s i + bkI order (erL s k mode order i) (erB s k mode order i)
def shI (s : List Int) (k : Nat) (mode order : Int) (i : Nat) : Int := shiftI (suI s k mode order i) k mode
theorem erL_zero (s : List Int) (k : Nat) (mode order : Int) : erL s k mode order 0 = 0 := rfl
theorem erB_zero (s : List Int) (k : Nat) (mode order : Int) : erB s k mode order 0 = 0 := rfl
theorem erL_succ (s : List Int) (k : Nat) (mode order : Int) (i : Nat) : erL s k mode order (i + 1) = suI s k mode order i - shI s k mode order i * 2 ^ k := rfl
theorem erB_succ (s : List Int) (k : Nat) (mode order : Int) (i : Nat) : erB s k mode order (i + 1) = erL s k mode order i := rfl
/-- the rest of a shifted number is no greater than the power -/
theorem rest_in (x : Int) (k : Nat) (mode : Int) : -(2 : Int) ^ k ≤ x - shiftI x k mode * 2 ^ k ∧ x - shiftI x k mode * 2 ^ k ≤ 2 ^ k := by
  have hp : (0 : Int) < 2 ^ k := Int.pow_pos (by decide)
  unfold shiftI
  generalize (2 : Int) ^ k = P at *
  split
  · have h := Int.mul_ediv_add_emod (x + P / 2) P
    have h0 := Int.emod_nonneg (x + P / 2) (show P ≠ 0 by omega)
    have h1 := Int.emod_lt_of_pos (x + P / 2) hp
    rw [Int.mul_comm P] at h
    omega
  · split
    · have h := Int.mul_tdiv_add_tmod x P
      have h0 := Int.tmod_lt_of_pos x hp
      have h1 := Int.lt_tmod_of_pos x hp
      rw [Int.mul_comm P] at h
      omega
    · have h := Int.mul_ediv_add_emod x P
      have h0 := Int.emod_nonneg x (show P ≠ 0 by omega)
      have h1 := Int.emod_lt_of_pos x hp
      rw [Int.mul_comm P] at h
      omega
theorem er_in (s : List Int) (k : Nat) (mode order : Int) (hk : (2 : Int) ^ k ≤ 1024) (i : Nat) : (-1024 ≤ erL s k mode order i ∧ erL s k mode order i ≤ 1024) ∧ (-1024 ≤ erB s k mode order i ∧ erB s k mode order i ≤ 1024) := by
  induction i with
  | zero => simp [erL, erB, erP]
  | succ i ih =>
    rw [erL_succ, erB_succ]
    have := rest_in (suI s k mode order i) k mode
    refine ⟨?_, ih.1⟩
    unfold shI
    omega
theorem bk_in {order l b : Int} (l1 : -1024 ≤ l) (l2 : l ≤ 1024) (b1 : -1024 ≤ b) (b2 : b ≤ 1024) : -3072 ≤ bkI order l b ∧ bkI order l b ≤ 3072 := by
  unfold bkI; split
  · omega
  · split <;> omega
/-- a sample less the power times its shifted number -/
def gpI (s : List Int) (k : Nat) (mode order : Int) (i : Nat) : Int := at0 s i - shI s k mode order i * 2 ^ k
theorem gp_in (s : List Int) (k : Nat) (mode order : Int) (hk : (2 : Int) ^ k ≤ 1024) (i : Nat) : -5000 ≤ gpI s k mode order i ∧ gpI s k mode order i ≤ 5000 := by
  obtain ⟨⟨a1, a2⟩, b1, b2⟩ := er_in s k mode order hk i
  have h := bk_in (order := order) a1 a2 b1 b2
  have r := rest_in (suI s k mode order i) k mode
  have e : gpI s k mode order i = (suI s k mode order i - shiftI (suI s k mode order i) k mode * 2 ^ k) - bkI order (erL s k mode order i) (erB s k mode order i) := by
    show at0 s i - shiftI (suI s k mode order i) k mode * 2 ^ k = _
    have : suI s k mode order i = at0 s i + bkI order (erL s k mode order i) (erB s k mode order i) := rfl
    omega
  rw [e]; omega
def gpS (s : List Int) (k : Nat) (mode order : Int) (i : Nat) : Int := sumF i (gpI s k mode order)
theorem gpS_succ (s : List Int) (k : Nat) (mode order : Int) (i : Nat) : gpS s k mode order (i + 1) = gpS s k mode order i + (at0 s i - shI s k mode order i * 2 ^ k) := rfl
theorem gpS_in (s : List Int) (k : Nat) (mode order : Int) (hk : (2 : Int) ^ k ≤ 1024) (i : Nat) (hi : i ≤ 64) : -(5000 * 64) ≤ gpS s k mode order i ∧ gpS s k mode order i ≤ 5000 * 64 := by
  suffices -(5000 * (i : Int)) ≤ gpS s k mode order i ∧ gpS s k mode order i ≤ 5000 * (i : Int) by omega
  clear hi
  induction i with
  | zero => simp [gpS, sumF]
  | succ i ih =>
    have := gp_in s k mode order hk i
    rw [gpS_succ]
    unfold gpI at this
    omega
def shL (s : List Int) (k : Nat) (mode order : Int) : List Int := tab s.length (shI s k mode order)
def seL (s : List Int) (k : Nat) (mode order : Int) : List Int := tab s.length fun i => erL s k mode order (i + 1)
def sgL (s : List Int) (k : Nat) (mode order : Int) : List Int := tab s.length fun i => gpS s k mode order (i + 1)

/-- the one bit modulator: the bit of a level, the state behind so many samples, the bits -/
def biI (t : Int) : Int := if 0 ≤ t then 1 else -1
theorem biI_t {t : Int} (h : 0 ≤ t) : biI t = 1 := if_pos h
theorem biI_f {t : Int} (h : t < 0) : biI t = -1 := if_neg (by omega)
def moS (m : Int) (s : List Int) : Nat → Int
  | 0 => 0
  | i + 1 => moS m s i + at0 s i - m * biI (moS m s i + at0 s i)
def moB (m : Int) (s : List Int) (i : Nat) : Int := biI (moS m s i + at0 s i)
theorem moS_zero (m : Int) (s : List Int) : moS m s 0 = 0 := rfl
theorem moS_succ (m : Int) (s : List Int) (i : Nat) : moS m s (i + 1) = moS m s i + at0 s i - m * moB m s i := rfl
theorem moS_t {m : Int} {s : List Int} {i : Nat} (h : 0 ≤ moS m s i + at0 s i) : moS m s (i + 1) = moS m s i + at0 s i - m := by
  rw [moS_succ, moB, biI_t h]; omega
theorem moS_f {m : Int} {s : List Int} {i : Nat} (h : moS m s i + at0 s i < 0) : moS m s (i + 1) = moS m s i + at0 s i + m := by
  rw [moS_succ, moB, biI_f h]; omega
theorem moS_in {m : Int} {s : List Int} (hm : 1 ≤ m) (hs : ∀ i, -m ≤ at0 s i ∧ at0 s i ≤ m) (i : Nat) : -m ≤ moS m s i ∧ moS m s i ≤ m - 1 := by
  induction i with
  | zero => simp [moS]; omega
  | succ i ih =>
    have := hs i
    by_cases h : 0 ≤ moS m s i + at0 s i
    · rw [moS_t h]; omega
    · rw [moS_f (by omega)]; omega
def moBL (m : Int) (s : List Int) : List Int := tab s.length (moB m s)
def moSL (m : Int) (s : List Int) : List Int := tab s.length fun i => moS m s (i + 1)
theorem biI_in (t : Int) : biI t = 1 ∨ biI t = -1 := by unfold biI; split <;> simp
/-- the two bit modulator -/
def twP (m : Int) (s : List Int) : Nat → Int × Int
  | 0 => (0, 0)
  | i + 1 =>
    let p := twP m s i
    (p.1 + (at0 s i - m * biI p.2), p.2 + (p.1 + (at0 s i - m * biI p.2) - m * biI p.2))
def twA (m : Int) (s : List Int) (i : Nat) : Int := (twP m s i).1
def twB (m : Int) (s : List Int) (i : Nat) : Int := (twP m s i).2
def twO (m : Int) (s : List Int) (i : Nat) : Int := biI (twB m s i)
theorem twA_zero (m : Int) (s : List Int) : twA m s 0 = 0 := rfl
theorem twB_zero (m : Int) (s : List Int) : twB m s 0 = 0 := rfl
theorem twA_succ (m : Int) (s : List Int) (i : Nat) : twA m s (i + 1) = twA m s i + (at0 s i - m * twO m s i) := rfl
theorem twB_succ (m : Int) (s : List Int) (i : Nat) : twB m s (i + 1) = twB m s i + (twA m s (i + 1) - m * twO m s i) := rfl
theorem tw_in {m : Int} {s : List Int} (h1 : 1 ≤ m) (h2 : m ≤ 1000) (hs : ∀ i, -m ≤ at0 s i ∧ at0 s i ≤ m) (i : Nat) (hi : i ≤ 64) : (-128000 ≤ twA m s i ∧ twA m s i ≤ 128000) ∧ (-8256000 ≤ twB m s i ∧ twB m s i ≤ 8256000) := by
  suffices (-(2000 * (i : Int)) ≤ twA m s i ∧ twA m s i ≤ 2000 * (i : Int)) ∧ (-(129000 * (i : Int)) ≤ twB m s i ∧ twB m s i ≤ 129000 * (i : Int)) by omega
  induction i with
  | zero => simp [twA, twB, twP]
  | succ i ih =>
    have ih := ih (by omega)
    have := hs i
    have hb : twO m s i = 1 ∨ twO m s i = -1 := biI_in _
    rw [twB_succ, twA_succ]
    rcases hb with hb | hb
    · rw [hb]; omega
    · rw [hb]; omega
def twOL (m : Int) (s : List Int) : List Int := tab s.length (twO m s)
def twSL (m : Int) (s : List Int) : List (List Int) := (List.range s.length).map fun i => [twA m s (i + 1), twB m s (i + 1)]

/-- equal samples: the state behind so many, and the bits 1 among them -/
def dpP (m x : Int) : Nat → Int × Int
  | 0 => (0, 0)
  | n + 1 =>
    let p := dpP m x n
    if 0 ≤ p.1 + x then (p.1 + x - m, p.2 + 1) else (p.1 + x + m, p.2)
def dpS (m x : Int) (n : Nat) : Int := (dpP m x n).1
def dpO (m x : Int) (n : Nat) : Int := (dpP m x n).2
theorem dpS_zero (m x : Int) : dpS m x 0 = 0 := rfl
theorem dpO_zero (m x : Int) : dpO m x 0 = 0 := rfl
theorem dp_t {m x : Int} {n : Nat} (h : 0 ≤ dpS m x n + x) : dpS m x (n + 1) = dpS m x n + x - m ∧ dpO m x (n + 1) = dpO m x n + 1 := by
  unfold dpS dpO at *
  simp only [dpP]
  rw [if_pos h]; exact ⟨rfl, rfl⟩
theorem dp_f {m x : Int} {n : Nat} (h : dpS m x n + x < 0) : dpS m x (n + 1) = dpS m x n + x + m ∧ dpO m x (n + 1) = dpO m x n := by
  unfold dpS dpO at *
  simp only [dpP]
  rw [if_neg (by omega)]; exact ⟨rfl, rfl⟩
theorem dp_in {m x : Int} (hm : 1 ≤ m) (x1 : -m ≤ x) (x2 : x ≤ m) (n : Nat) : (-m ≤ dpS m x n ∧ dpS m x n ≤ m - 1) ∧ (0 ≤ dpO m x n ∧ dpO m x n ≤ n) := by
  induction n with
  | zero => rw [dpS_zero, dpO_zero]; omega
  | succ n ih =>
    by_cases h : 0 ≤ dpS m x n + x
    · rw [(dp_t h).1, (dp_t h).2]; omega
    · rw [(dp_f (by omega)).1, (dp_f (by omega)).2]; omega
theorem dp_eq (m x : Int) (n : Nat) : dpS m x n = (n : Int) * (x + m) - 2 * m * dpO m x n := by
  induction n with
  | zero => rw [dpS_zero, dpO_zero]; simp
  | succ n ih =>
    have e : ((n + 1 : Nat) : Int) * (x + m) = (n : Int) * (x + m) + x + m := by
      rw [show ((n + 1 : Nat) : Int) = (n : Int) + 1 from by omega, Int.add_mul]; omega
    by_cases h : 0 ≤ dpS m x n + x
    · have e2 : 2 * m * (dpO m x n + 1) = 2 * m * dpO m x n + 2 * m := by rw [Int.mul_add]; omega
      rw [(dp_t h).1, (dp_t h).2, ih, e, e2]; omega
    · rw [(dp_f (by omega)).1, (dp_f (by omega)).2, ih, e]; omega
/-- the period of equal samples -/
def peN (M Y : Nat) : Nat := M / Nat.gcd M Y
theorem pe_dvd {M Y n : Nat} (hM : 0 < M) : M ∣ n * Y ↔ peN M Y ∣ n := by
  have hg : 0 < Nat.gcd M Y := Nat.gcd_pos_of_pos_left _ hM
  have e1 : M / Nat.gcd M Y * Nat.gcd M Y = M := Nat.div_mul_cancel (Nat.gcd_dvd_left M Y)
  have e2 : Y / Nat.gcd M Y * Nat.gcd M Y = Y := Nat.div_mul_cancel (Nat.gcd_dvd_right M Y)
  have hc : Nat.Coprime (M / Nat.gcd M Y) (Y / Nat.gcd M Y) := Nat.coprime_div_gcd_div_gcd hg
  have key : M ∣ n * Y ↔ M / Nat.gcd M Y ∣ n * (Y / Nat.gcd M Y) := by
    generalize Nat.gcd M Y = g at *
    generalize M / g = A at *
    generalize Y / g = B at *
    subst e1 e2
    rw [← Nat.mul_assoc]
    exact Nat.mul_dvd_mul_iff_right hg
  unfold peN
  rw [key]
  constructor
  · intro h; exact hc.dvd_of_dvd_mul_right h
  · intro h; exact Nat.dvd_trans h (Nat.dvd_mul_right _ _)
theorem pe_in {M Y : Nat} (hM : 0 < M) : 1 ≤ peN M Y ∧ peN M Y ≤ M := by
  refine ⟨Nat.div_pos (Nat.le_of_dvd hM (Nat.gcd_dvd_left M Y)) (Nat.gcd_pos_of_pos_left _ hM), Nat.div_le_self _ _⟩
/-- the state is nought just behind the period's multiples -/
theorem dp_nil {m x : Int} {M Y : Nat} (hm : 1 ≤ m) (x1 : -m ≤ x) (x2 : x ≤ m) (hM : (M : Int) = 2 * m) (hY : (Y : Int) = x + m) (n : Nat) : dpS m x n = 0 ↔ peN M Y ∣ n := by
  rw [← pe_dvd (by omega)]
  have h := dp_eq m x n
  obtain ⟨⟨s1, s2⟩, o1, o2⟩ := dp_in hm x1 x2 n
  obtain ⟨o, ho⟩ : ∃ o : Nat, dpO m x n = o := ⟨(dpO m x n).toNat, by omega⟩
  rw [ho, ← hM, ← hY] at h
  constructor
  · intro h0
    rw [h0] at h
    refine ⟨o, ?_⟩
    have : ((n * Y : Nat) : Int) = ((M * o : Nat) : Int) := by rw [Int.natCast_mul, Int.natCast_mul]; omega
    exact_mod_cast this
  · rintro ⟨q, hq⟩
    have hq' : (n : Int) * (Y : Int) = (M : Int) * (q : Int) := by rw [← Int.natCast_mul, ← Int.natCast_mul, hq]
    rw [hq', ← Int.mul_sub] at h
    by_cases e : (q : Int) - (o : Int) = 0
    · rw [e] at h; omega
    · exfalso
      have hbig : (M : Int) ≤ (dpS m x n).natAbs := by
        rw [h, Int.natAbs_mul]
        have : 1 ≤ ((q : Int) - (o : Int)).natAbs := by omega
        have h2 : (M : Int).natAbs * 1 ≤ (M : Int).natAbs * ((q : Int) - (o : Int)).natAbs := Nat.mul_le_mul_left _ this
        simp at h2 ⊢
        omega
      omega
theorem dp_first {m x : Int} {M Y : Nat} (hm : 1 ≤ m) (x1 : -m ≤ x) (x2 : x ≤ m) (hM : (M : Int) = 2 * m) (hY : (Y : Int) = x + m) {n : Nat} (h1 : 1 ≤ n) (h2 : n < peN M Y) : dpS m x n ≠ 0 := fun h => by
  have := Nat.le_of_dvd (by omega) ((dp_nil hm x1 x2 hM hY n).1 h); omega
theorem dp_last {m x : Int} {M Y : Nat} (hm : 1 ≤ m) (x1 : -m ≤ x) (x2 : x ≤ m) (hM : (M : Int) = 2 * m) (hY : (Y : Int) = x + m) : dpS m x (peN M Y) = 0 := (dp_nil hm x1 x2 hM hY _).2 (Nat.dvd_refl _)
/-- how many bits 1 there are in a period -/
theorem dp_ones {m x : Int} {M Y : Nat} (hm : 1 ≤ m) (x1 : -m ≤ x) (x2 : x ≤ m) (hM : (M : Int) = 2 * m) (hY : (Y : Int) = x + m) : dpO m x (peN M Y) = ((peN M Y * Y / M : Nat) : Int) := by
  have h := dp_eq m x (peN M Y)
  rw [dp_last hm x1 x2 hM hY, ← hM, ← hY] at h
  obtain ⟨_, o1, _⟩ := dp_in hm x1 x2 (peN M Y)
  obtain ⟨o, ho⟩ : ∃ o : Nat, dpO m x (peN M Y) = o := ⟨(dpO m x (peN M Y)).toNat, by omega⟩
  rw [ho] at h ⊢
  have e : peN M Y * Y = M * o := by
    have : ((peN M Y * Y : Nat) : Int) = ((M * o : Nat) : Int) := by rw [Int.natCast_mul, Int.natCast_mul]; omega
    exact_mod_cast this
  rw [e, Nat.mul_div_cancel_left _ (by omega)]

/-- the sum of the first bits -/
def suB (bs : List Int) (i : Nat) : Int := sumF i (at0 bs)
theorem suB_zero (bs : List Int) : suB bs 0 = 0 := rfl
theorem suB_succ (bs : List Int) (i : Nat) : suB bs (i + 1) = suB bs i + at0 bs i := rfl
def BitP (bs : List Int) : Prop := bs.length ≤ 200 ∧ ∀ x ∈ bs, x = 1 ∨ x = -1
theorem BitP.at {bs : List Int} (h : BitP bs) {i : Nat} (hi : i < bs.length) : at0 bs i = 1 ∨ at0 bs i = -1 := by
  refine h.2 _ ?_
  unfold at0
  rw [List.getD_eq_getElem?_getD, List.getElem?_eq_getElem hi]
  exact List.getElem_mem hi
theorem suB_in {bs : List Int} (h : BitP bs) (i : Nat) (hi : i ≤ bs.length) : -(i : Int) ≤ suB bs i ∧ suB bs i ≤ i := by
  induction i with
  | zero => rw [suB_zero]; omega
  | succ i ih =>
    have ih := ih (by omega)
    rw [suB_succ]
    rcases h.at (show i < bs.length by omega) with h | h <;> (rw [h]; omega)
/-- equal samples whose first states stay in the range have these bits -/
theorem mo_rep {m x : Int} {bs : List Int} {L : Nat} (hm : 1 ≤ m) (x1 : -m ≤ x) (x2 : x ≤ m) (hL : L = bs.length) (hb : BitP bs) :
    moBL m (List.replicate L x) = bs ↔ ∀ j, j < L → -m ≤ ((j : Int) + 1) * x - m * suB bs (j + 1) ∧ ((j : Int) + 1) * x - m * suB bs (j + 1) ≤ m - 1 := by
  have hat : ∀ i, i < L → at0 (List.replicate L x) i = x := fun i hi => at0_of (by simp [hi])
  have hin : ∀ i, -m ≤ at0 (List.replicate L x) i ∧ at0 (List.replicate L x) i ≤ m := fun i => by
    by_cases h : i < L
    · rw [hat i h]; exact ⟨x1, x2⟩
    · rw [at0_out (by simp; omega)]; omega
  have step : ∀ i, i < L → ((i : Int) + 1) * x - m * suB bs (i + 1) = ((i : Int) * x - m * suB bs i) + x - m * at0 bs i := fun i _ => by
    rw [suB_succ, Int.add_mul, Int.mul_add]; omega
  have key : ∀ n, n ≤ L → (∀ i, i < n → moB m (List.replicate L x) i = at0 bs i) → moS m (List.replicate L x) n = (n : Int) * x - m * suB bs n := by
    intro n
    induction n with
    | zero => intro _ _; rw [moS_zero, suB_zero]; simp
    | succ n ih =>
      intro hn h
      rw [moS_succ, h n (by omega), ih (by omega) (fun i hi => h i (by omega)), hat n (by omega)]
      have := step n (by omega)
      have e : ((n + 1 : Nat) : Int) = (n : Int) + 1 := by omega
      rw [e]; omega
  constructor
  · intro h j hj
    have hall : ∀ i, i < L → moB m (List.replicate L x) i = at0 bs i := fun i hi => by
      have e : (moBL m (List.replicate L x))[i]? = some (moB m (List.replicate L x) i) := tab_get _ _ _ (by simp; exact hi)
      rw [h] at e
      exact (at0_of e).symm
    have hk := key (j + 1) (by omega) (fun i hi => hall i (by omega))
    have hr := moS_in hm hin (j + 1)
    rw [hk] at hr
    have e : ((j + 1 : Nat) : Int) = (j : Int) + 1 := by omega
    rwa [e] at hr
  · intro h
    have hall : ∀ n, n ≤ L → ∀ i, i < n → moB m (List.replicate L x) i = at0 bs i := by
      intro n
      induction n with
      | zero => intro _ i hi; omega
      | succ n ih =>
        intro hn i hi
        by_cases he : i = n
        · subst he
          have hk := key i (by omega) (ih (by omega))
          have hj := h i (by omega)
          rw [step i (by omega), ← hk] at hj
          unfold moB
          rw [hat i (by omega)]
          have hr := moS_in hm hin i
          rcases hb.at (show i < bs.length by omega) with hb1 | hb1
          · rw [hb1] at hj ⊢
            exact biI_t (by omega)
          · rw [hb1] at hj ⊢
            exact biI_f (by omega)
        · exact ih (by omega) i (by omega)
    refine List.ext_getElem? fun i => ?_
    by_cases hi : i < L
    · rw [show (moBL m (List.replicate L x))[i]? = some (moB m (List.replicate L x) i) from tab_get _ _ _ (by simp; exact hi), hall L (Nat.le_refl _) i hi]
      unfold at0
      rw [List.getD_eq_getElem?_getD, List.getElem?_eq_getElem (by omega)]; rfl
    · rw [List.getElem?_eq_none (by rw [show (moBL m (List.replicate L x)).length = L from by rw [moBL, tab_len, List.length_replicate]]; omega), List.getElem?_eq_none (by omega)]
/-- v is the least number from -m on that keeps the first low bounds -/
def LowP (m : Int) (bs : List Int) (i : Nat) (v : Int) : Prop := (-m ≤ v ∧ v ≤ m) ∧ ∀ y, -m ≤ y → (v ≤ y ↔ ∀ j, j < i → -m ≤ ((j : Int) + 1) * y - m * suB bs (j + 1))
def HighP (m : Int) (bs : List Int) (i : Nat) (v : Int) : Prop := (-m ≤ v ∧ v ≤ m) ∧ ∀ y, y ≤ m → (y ≤ v ↔ ∀ j, j < i → ((j : Int) + 1) * y - m * suB bs (j + 1) ≤ m - 1)
theorem LowP.zero {m : Int} (hm : 1 ≤ m) (bs : List Int) : LowP m bs 0 (-m) := ⟨by omega, fun y hy => ⟨fun _ j hj => by omega, fun _ => hy⟩⟩
theorem HighP.zero {m : Int} (hm : 1 ≤ m) (bs : List Int) : HighP m bs 0 m := ⟨by omega, fun y hy => ⟨fun _ j hj => by omega, fun _ => hy⟩⟩
/-- a bound that is not kept is kept by no smaller number -/
theorem up_mono {i : Nat} {y z : Int} (h : y ≤ z) : ((i : Int) + 1) * y ≤ ((i : Int) + 1) * z := Int.mul_le_mul_of_nonneg_left h (by omega)
/-- the loop at place i: v is not below the least, and nothing between does -/
def LowA (m : Int) (bs : List Int) (i : Nat) (v : Int) : Prop := (-m ≤ v ∧ v ≤ m) ∧ (∀ y, -m ≤ y → (∀ j, j < i + 1 → -m ≤ ((j : Int) + 1) * y - m * suB bs (j + 1)) → v ≤ y) ∧ (∀ y, v ≤ y → ∀ j, j < i → -m ≤ ((j : Int) + 1) * y - m * suB bs (j + 1))
def HighA (m : Int) (bs : List Int) (i : Nat) (v : Int) : Prop := (-m ≤ v ∧ v ≤ m) ∧ (∀ y, y ≤ m → (∀ j, j < i + 1 → ((j : Int) + 1) * y - m * suB bs (j + 1) ≤ m - 1) → y ≤ v) ∧ (∀ y, y ≤ v → ∀ j, j < i → ((j : Int) + 1) * y - m * suB bs (j + 1) ≤ m - 1)
theorem LowP.at {m : Int} {bs : List Int} {i : Nat} {v : Int} (h : LowP m bs i v) : LowA m bs i v :=
  ⟨h.1, fun y hy hj => (h.2 y hy).2 fun j hj' => hj j (by omega), fun y hy => (h.2 y (by have := h.1; omega)).1 hy⟩
theorem HighP.at {m : Int} {bs : List Int} {i : Nat} {v : Int} (h : HighP m bs i v) : HighA m bs i v :=
  ⟨h.1, fun y hy hj => (h.2 y hy).2 fun j hj' => hj j (by omega), fun y hy => (h.2 y (by have := h.1; omega)).1 hy⟩
theorem LowA.up {m : Int} {bs : List Int} {i : Nat} {v : Int} (hm : 1 ≤ m) (hb : BitP bs) (hi : i < bs.length) (h : LowA m bs i v) (hv : ((i : Int) + 1) * v - m * suB bs (i + 1) < -m) : LowA m bs i (v + 1) := by
  have hs := (suB_in hb (i + 1) (by omega)).2
  have hms : m * suB bs (i + 1) ≤ m * ((i : Int) + 1) := Int.mul_le_mul_of_nonneg_left (by omega) (by omega)
  have hlt : v < m := by
    by_cases hvm : v < m
    · exact hvm
    · exfalso
      have he : v = m := by have := h.1; omega
      rw [he, Int.mul_comm _ m] at hv; omega
  refine ⟨by have := h.1; omega, fun y hy hj => ?_, fun y hy => h.2.2 y (by omega)⟩
  have h1 := h.2.1 y hy hj
  by_cases he : v = y
  · have := hj i (by omega); rw [← he] at this; omega
  · omega
theorem HighA.down {m : Int} {bs : List Int} {i : Nat} {v : Int} (hm : 1 ≤ m) (hb : BitP bs) (hi : i < bs.length) (h : HighA m bs i v) (hv : m - 1 < ((i : Int) + 1) * v - m * suB bs (i + 1)) : HighA m bs i (v - 1) := by
  have hs := (suB_in hb (i + 1) (by omega)).1
  have hms : m * (-((i : Int) + 1)) ≤ m * suB bs (i + 1) := Int.mul_le_mul_of_nonneg_left (by omega) (by omega)
  have hlt : -m < v := by
    by_cases hvm : -m < v
    · exact hvm
    · exfalso
      have he : v = -m := by have := h.1; omega
      rw [Int.mul_neg] at hms
      rw [he, Int.mul_neg, Int.mul_comm _ m] at hv; omega
  refine ⟨by have := h.1; omega, fun y hy hj => ?_, fun y hy => h.2.2 y (by omega)⟩
  have h1 := h.2.1 y hy hj
  by_cases he : v = y
  · have := hj i (by omega); rw [← he] at this; omega
  · omega
theorem LowA.done {m : Int} {bs : List Int} {i : Nat} {v : Int} (h : LowA m bs i v) (hv : -m ≤ ((i : Int) + 1) * v - m * suB bs (i + 1)) : LowP m bs (i + 1) v := by
  refine ⟨h.1, fun y hy => ⟨fun hvy j hj => ?_, h.2.1 y hy⟩⟩
  by_cases he : j = i
  · subst he
    have := up_mono (i := j) hvy; omega
  · exact h.2.2 y hvy j (by omega)
theorem HighA.done {m : Int} {bs : List Int} {i : Nat} {v : Int} (h : HighA m bs i v) (hv : ((i : Int) + 1) * v - m * suB bs (i + 1) ≤ m - 1) : HighP m bs (i + 1) v := by
  refine ⟨h.1, fun y hy => ⟨fun hvy j hj => ?_, h.2.1 y hy⟩⟩
  by_cases he : j = i
  · subst he
    have := up_mono (i := j) hvy; omega
  · exact h.2.2 y hvy j (by omega)
/-- the constants of bits, one by one -/
theorem con_iff {m : Int} {bs : List Int} {lo hi : Int} (hm : 1 ≤ m) (hb : BitP bs) (hl : LowP m bs bs.length lo) (hh : HighP m bs bs.length hi) {x : Int} (x1 : -m ≤ x) (x2 : x ≤ m) :
    moBL m (List.replicate bs.length x) = bs ↔ lo ≤ x ∧ x ≤ hi := by
  rw [mo_rep hm x1 x2 rfl hb, hl.2 x x1, hh.2 x x2]
  exact ⟨fun h => ⟨fun j hj => (h j hj).1, fun j hj => (h j hj).2⟩, fun h j hj => ⟨h.1 j hj, h.2 j hj⟩⟩
/-- the numbers from a to b, one by one, and those that a test lets through -/
def frI (a b : Int) : List Int := tab (b + 1 - a).toNat fun i => a + (i : Int)
def whV (lo : Int) (F : Int → Bool) : Nat → List Int
  | 0 => []
  | c + 1 => if F (lo + c) then whV lo F c ++ [lo + c] else whV lo F c
theorem whV_t {lo : Int} {F : Int → Bool} {c : Nat} (h : F (lo + c) = true) : whV lo F (c + 1) = whV lo F c ++ [lo + c] := by
  simp only [whV]; rw [if_pos h]
theorem whV_f {lo : Int} {F : Int → Bool} {c : Nat} (h : F (lo + c) = false) : whV lo F (c + 1) = whV lo F c := by
  simp only [whV]; rw [if_neg (by rw [h]; decide)]
theorem whV_len (lo : Int) (F : Int → Bool) (c : Nat) : (whV lo F c).length ≤ c := by
  induction c with
  | zero => simp [whV]
  | succ c ih =>
    cases h : F (lo + c)
    · rw [whV_f h]; omega
    · rw [whV_t h]; simp; omega
theorem whV_fr {lo a b : Int} {F : Int → Bool} (ha : lo ≤ a) (c : Nat) (h : ∀ j : Nat, j < c → (F (lo + j) = true ↔ a ≤ lo + j ∧ lo + j ≤ b)) : whV lo F c = frI a (min b (lo + c - 1)) := by
  induction c with
  | zero =>
    unfold frI
    rw [show (min b (lo + ((0 : Nat) : Int) - 1) + 1 - a).toNat = 0 from by omega]; rfl
  | succ c ih =>
    have ih := ih fun j hj => h j (by omega)
    have hc := h c (by omega)
    cases hF : F (lo + c)
    · rw [whV_f hF, ih]
      have hn : ¬ (a ≤ lo + c ∧ lo + c ≤ b) := fun hh => by rw [hc.2 hh] at hF; cases hF
      unfold frI
      congr 1
      omega
    · obtain ⟨h1, h2⟩ := hc.1 hF
      rw [whV_t hF, ih]
      unfold frI
      rw [show (min b (lo + ((c + 1 : Nat) : Int) - 1) + 1 - a).toNat = (min b (lo + (c : Int) - 1) + 1 - a).toNat + 1 from by omega, tab_step]
      congr 2
      omega

end Go.ChV
