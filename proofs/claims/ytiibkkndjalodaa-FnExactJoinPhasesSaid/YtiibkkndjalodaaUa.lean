
import Derived.Test.YtiibkkndjalodaaEa
namespace Go.Ch8
open Go Go.RowKit Go.MemX Go.Ch6
set_option linter.unusedVariables false
/-- how many samples there are behind a ratio -/
def lenN (n p q : Nat) : Nat := (n * p + q - 1) / q
theorem lenN_le {n p q : Nat} (hq : 1 ≤ q) : lenN n p q ≤ n * p := by
  unfold lenN
  apply Nat.le_of_lt_succ
  rw [Nat.div_lt_iff_lt_mul (by omega), Nat.succ_mul]
  have : n * p * 1 ≤ n * p * q := Nat.mul_le_mul_left _ hq
  omega
theorem np_le {n p : Nat} (hn : n ≤ 64) (hp : p ≤ 8) : n * p ≤ 512 := Nat.mul_le_mul hn hp
theorem lenN_512 {n p q : Nat} (hn : n ≤ 64) (hp : p ≤ 8) (hq : 1 ≤ q) : lenN n p q ≤ 512 := Nat.le_trans (lenN_le hq) (np_le hn hp)
theorem src_lt {n p q i : Nat} (hp : 1 ≤ p) (hq : 1 ≤ q) (h : i < lenN n p q) : i * q / p < n := by
  unfold lenN at h
  rw [Nat.div_lt_iff_lt_mul (by omega)]
  have h2 := (Nat.le_div_iff_mul_le (by omega)).1 (Nat.succ_le_of_lt h)
  rw [Nat.succ_mul] at h2
  generalize n * p = a at *
  generalize i * q = b at *
  omega
theorem src_le {i p q n : Nat} (hp : 1 ≤ p) (hq : 1 ≤ q) (hq8 : q ≤ 8) (hi : i ≤ 1000) : i * q ≤ 8000 := Nat.mul_le_mul hi hq8
theorem div_small {x p : Nat} : x / p ≤ x := Nat.div_le_self _ _
/-- numbers as the machine divides them -/
theorem tdiv_nat (x y : Nat) : (x : Int).tdiv (y : Int) = ((x / y : Nat) : Int) := by
  rw [Int.tdiv_eq_ediv_of_nonneg (by omega)]; rfl
theorem tmod_nat2 (x y : Nat) : (x : Int).tmod (y : Int) = ((x % y : Nat) : Int) := by
  rw [Int.tmod_eq_emod_of_nonneg (by omega)]; rfl
theorem len_parts {n p q : Nat} (hn : n ≤ 64) (hp : p ≤ 8) (hq : 1 ≤ q) : ∃ m k z : Nat, m ≤ 512 ∧ k + 1 = m + q ∧ z ≤ 512 ∧ (n : Int) * (p : Int) = (m : Int) ∧ (k : Int).tdiv (q : Int) = (z : Int) ∧ z = lenN n p q :=
  ⟨n * p, n * p + q - 1, lenN n p q, np_le hn hp, by omega, lenN_512 hn hp hq, (Int.natCast_mul n p).symm, tdiv_nat _ _, rfl⟩
/-- the samples behind a ratio -/
def holdF (s : List Int) (p q i : Nat) : Int := at0 s (i * q / p)
theorem src_parts {n p q k : Nat} (p1 : 1 ≤ p) (p8 : p ≤ 8) (q1 : 1 ≤ q) (q8 : q ≤ 8) (hn : n ≤ 64) (h : k < lenN n p q) :
    ∃ m z r : Nat, m ≤ 4096 ∧ z < n ∧ r < p ∧ (k : Int) * (q : Int) = (m : Int) ∧ (m : Int) / (p : Int) = (z : Int) ∧ (m : Int) % (p : Int) = (r : Int) ∧ z = k * q / p ∧ r = k * q % p := by
  have hk : k ≤ 512 := by have := lenN_512 (q := q) hn p8 q1; omega
  exact ⟨k * q, k * q / p, k * q % p, Nat.mul_le_mul hk q8, src_lt p1 q1 h, Nat.mod_lt _ p1, (Int.natCast_mul k q).symm, rfl, rfl, rfl, rfl⟩
def nextN (n k : Nat) : Nat := if k + 1 < n then k + 1 else k
def nearN (n p q i : Nat) : Nat := if 2 * (i * q % p) < p then i * q / p else nextN n (i * q / p)
def nearF (s : List Int) (p q i : Nat) : Int := at0 s (nearN s.length p q i)
def lineF (s : List Int) (p q i : Nat) : Int := ((p : Int) - ((i * q % p : Nat) : Int)) * at0 s (i * q / p) + ((i * q % p : Nat) : Int) * at0 s (nextN s.length (i * q / p))
theorem nextN_lt {n k : Nat} (h : k < n) : nextN n k < n := by unfold nextN; split <;> omega
theorem nextN_min {n k : Nat} (h : k < n) : min (k + 1) (n - 1) = nextN n k := by unfold nextN; split <;> omega
theorem nearN_lt {n p q i : Nat} (h : i * q / p < n) : nearN n p q i < n := by
  unfold nearN; split
  · exact h
  · exact nextN_lt h
theorem lineF_in {s : List Int} {p q i : Nat} (hp1 : 1 ≤ p) (hp : p ≤ 8) (hs : ∀ k, -100000 ≤ at0 s k ∧ at0 s k ≤ 100000) : -800000 ≤ lineF s p q i ∧ lineF s p q i ≤ 800000 := by
  unfold lineF
  have hr := Nat.mod_lt (i * q) (show p > 0 by omega)
  have a := hs (i * q / p)
  have b := hs (nextN s.length (i * q / p))
  generalize at0 s (i * q / p) = x at *
  generalize at0 s (nextN s.length (i * q / p)) = y at *
  generalize i * q % p = r at *
  have h1 : ((p : Int) - r) * x ≤ ((p : Int) - r) * 100000 := Int.mul_le_mul_of_nonneg_left a.2 (by omega)
  have h2 : ((p : Int) - r) * (-100000) ≤ ((p : Int) - r) * x := Int.mul_le_mul_of_nonneg_left a.1 (by omega)
  have h3 : (r : Int) * y ≤ (r : Int) * 100000 := Int.mul_le_mul_of_nonneg_left b.2 (by omega)
  have h4 : (r : Int) * (-100000) ≤ (r : Int) * y := Int.mul_le_mul_of_nonneg_left b.1 (by omega)
  omega
end Go.Ch8
