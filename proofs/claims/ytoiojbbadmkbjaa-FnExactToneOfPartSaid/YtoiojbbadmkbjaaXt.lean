
import Derived.Test.YtoiojbbadmkbjaaMs
import Derived.Test.YtoiojbbadmkbjaaCx
import Derived.Test.YtoiojbbadmkbjaaWg
namespace Go.Ch9
open Go Go.RowKit Go.MemX
set_option linter.unusedVariables false
/-- a turn's two numbers, by the number of parts and of the turn -/
def t4X (j : Nat) : Int := if j = 0 then 1 else if j = 2 then -1 else 0
def t4Y (j : Nat) : Int := if j = 1 then 1 else if j = 3 then -1 else 0
def t6X (j : Nat) : Int := if j = 0 then 1 else if j = 1 then 0 else if j = 2 then -1 else if j = 3 then -1 else if j = 4 then 0 else 1
def t6Y (j : Nat) : Int := if j = 0 then 0 else if j = 1 then 1 else if j = 2 then 1 else if j = 3 then 0 else if j = 4 then -1 else -1
def tuX (p j : Nat) : Int := if p = 4 then t4X (j % 4) else t6X (j % 6)
def tuY (p j : Nat) : Int := if p = 4 then t4Y (j % 4) else t6Y (j % 6)
theorem t4X_in (j : Nat) : -1 ≤ t4X j ∧ t4X j ≤ 1 := by unfold t4X; repeat' split
                                                        all_goals omega
theorem t4Y_in (j : Nat) : -1 ≤ t4Y j ∧ t4Y j ≤ 1 := by unfold t4Y; repeat' split
                                                        all_goals omega
theorem t6X_in (j : Nat) : -1 ≤ t6X j ∧ t6X j ≤ 1 := by unfold t6X; repeat' split
                                                        all_goals omega
theorem t6Y_in (j : Nat) : -1 ≤ t6Y j ∧ t6Y j ≤ 1 := by unfold t6Y; repeat' split
                                                        all_goals omega
theorem tuX_in (p j : Nat) : -1 ≤ tuX p j ∧ tuX p j ≤ 1 := by unfold tuX; split <;> simp only [t4X_in, t6X_in, and_self]
theorem tuY_in (p j : Nat) : -1 ≤ tuY p j ∧ tuY p j ≤ 1 := by unfold tuY; split <;> simp only [t4Y_in, t6Y_in, and_self]
/-- a tone's two numbers behind so many samples -/
def toX (s : List Int) (p k n : Nat) : Int := sumF n fun i => at0 s i * tuX p ((p - k) * i)
def toY (s : List Int) (p k n : Nat) : Int := sumF n fun i => at0 s i * tuY p ((p - k) * i)
theorem toX_zero (s : List Int) (p k : Nat) : toX s p k 0 = 0 := rfl
theorem toY_zero (s : List Int) (p k : Nat) : toY s p k 0 = 0 := rfl
theorem toX_succ (s : List Int) (p k n : Nat) : toX s p k (n + 1) = toX s p k n + at0 s n * tuX p ((p - k) * n) := rfl
theorem toY_succ (s : List Int) (p k n : Nat) : toY s p k (n + 1) = toY s p k n + at0 s n * tuY p ((p - k) * n) := rfl
theorem unit_in {x u : Int} (x1 : -100000 ≤ x) (x2 : x ≤ 100000) (u1 : -1 ≤ u) (u2 : u ≤ 1) : -100000 ≤ x * u ∧ x * u ≤ 100000 := by
  have : u = -1 ∨ u = 0 ∨ u = 1 := by omega
  rcases this with rfl | rfl | rfl <;> omega
theorem to_in {s : List Int} (hs : ∀ i, -100000 ≤ at0 s i ∧ at0 s i ≤ 100000) (p k n : Nat) : (-(100000 * (n : Int)) ≤ toX s p k n ∧ toX s p k n ≤ 100000 * (n : Int)) ∧ (-(100000 * (n : Int)) ≤ toY s p k n ∧ toY s p k n ≤ 100000 * (n : Int)) := by
  induction n with
  | zero => rw [toX_zero, toY_zero]; omega
  | succ n ih =>
    have h := hs n
    have a := tuX_in p ((p - k) * n)
    have b := tuY_in p ((p - k) * n)
    have c := unit_in h.1 h.2 a.1 a.2
    have d := unit_in h.1 h.2 b.1 b.2
    rw [toX_succ, toY_succ]
    omega
/-- a power -/
def poI (p : Nat) (x y : Int) : Int := if p = 4 then x * x + y * y else x * x + x * y + y * y
def poK (s : List Int) (p k : Nat) : Int := poI p (toX s p k s.length) (toY s p k s.length)
def poL (s : List Int) (p : Nat) : List Int := tab p (poK s p)
theorem sq_in {x y B : Int} (x1 : -B ≤ x) (x2 : x ≤ B) (y1 : -B ≤ y) (y2 : y ≤ B) : -(B * B) ≤ x * y ∧ x * y ≤ B * B := by
  have h : (x * y).natAbs ≤ (B * B).natAbs := by rw [Int.natAbs_mul, Int.natAbs_mul]; exact Nat.mul_le_mul (by omega) (by omega)
  have h2 : 0 ≤ B * B := Int.mul_nonneg (by omega) (by omega)
  omega
theorem prods_in {x y : Int} (x1 : -6400000 ≤ x) (x2 : x ≤ 6400000) (y1 : -6400000 ≤ y) (y2 : y ≤ 6400000) : (-40960000000000 ≤ x * x ∧ x * x ≤ 40960000000000) ∧ (-40960000000000 ≤ y * y ∧ y * y ≤ 40960000000000) ∧ (-40960000000000 ≤ x * y ∧ x * y ≤ 40960000000000) := by
  have a := sq_in x1 x2 x1 x2
  have b := sq_in y1 y2 y1 y2
  have c := sq_in x1 x2 y1 y2
  omega
/-- the number of the greatest one, the first of them -/
def amN (f : Nat → Int) : Nat → Nat
  | 0 => 0
  | k + 1 => if f (amN f k) < f k then k else amN f k
theorem amN_zero (f : Nat → Int) : amN f 0 = 0 := rfl
theorem amN_t {f : Nat → Int} {k : Nat} (h : f (amN f k) < f k) : amN f (k + 1) = k := if_pos h
theorem amN_f {f : Nat → Int} {k : Nat} (h : f k ≤ f (amN f k)) : amN f (k + 1) = amN f k := if_neg (by omega)
theorem amN_lt (f : Nat → Int) (k : Nat) : amN f k < k + 1 ∧ (0 < k → amN f k < k) := by
  induction k with
  | zero => simp [amN]
  | succ k ih =>
    by_cases h : f (amN f k) < f k
    · rw [amN_t h]; omega
    · rw [amN_f (by omega)]
      refine ⟨by omega, fun _ => ?_⟩
      by_cases h0 : k = 0
      · subst h0; simp [amN]
      · have := ih.2 (by omega); omega
theorem amN_le (f : Nat → Int) (k i : Nat) (hi : i < k) : f i ≤ f (amN f k) := by
  induction k with
  | zero => omega
  | succ k ih =>
    by_cases h : f (amN f k) < f k
    · rw [amN_t h]
      by_cases e : i = k
      · subst e; omega
      · have := ih (by omega); omega
    · rw [amN_f (by omega)]
      by_cases e : i = k
      · subst e; omega
      · exact ih (by omega)
theorem amN_first (f : Nat → Int) (k i : Nat) (hi : i < amN f k) : f i < f (amN f k) := by
  induction k with
  | zero => simp [amN] at hi
  | succ k ih =>
    by_cases h : f (amN f k) < f k
    · rw [amN_t h] at hi ⊢
      have := amN_le f k i hi; omega
    · rw [amN_f (by omega)] at hi ⊢
      exact ih hi
/-- the waves of a turning number -/
def waI (p z j : Nat) : Int := if p = 4 then (z : Int) * tuX 4 j else (z : Int) * (2 * tuX 6 j + tuY 6 j)
/-- the filter that finds a power: its last number and the one before; w64 is the wrap -/
def fiP (w64 : Int → Int) (s : List Int) (c : Int) : Nat → Int × Int
  | 0 => (0, 0)
  | k + 1 => let p := fiP w64 s c k; (w64 (w64 (at0 s k + w64 (c * p.1)) - p.2), p.1)

end Go.Ch9
namespace FltX
open Ieee Go
theorem cmul_gen {a b c d : Nat} {x y u v : Int} (ha : RepE double a x 0) (hb : RepE double b y 0) (hc : RepE double c u 0) (hd : RepE double d v 0)
    (h1 : (x * u).natAbs ≤ 4503599627370495) (h2 : (y * v).natAbs ≤ 4503599627370495) (h3 : (x * v).natAbs ≤ 4503599627370495) (h4 : (y * u).natAbs ≤ 4503599627370495) :
    ∃ re im, cMulBits a b c d = some (re, im) ∧ RepE double re (x * u - y * v) 0 ∧ RepE double im (x * v + y * u) 0 := by
  have h53 : 2 ^ (double.fractionBits + 1) = 9007199254740992 := by decide
  obtain ⟨ac, k1, r1⟩ := repE_mul (e := 0) (g := 0) okp0 ha hc (by omega)
  obtain ⟨bd, k2, r2⟩ := repE_mul (e := 0) (g := 0) okp0 hb hd (by omega)
  obtain ⟨re, k3, r3⟩ := repE_sub okp0 r1 r2 (by omega)
  obtain ⟨ad, k4, r4⟩ := repE_mul (e := 0) (g := 0) okp0 ha hd (by omega)
  obtain ⟨bc, k5, r5⟩ := repE_mul (e := 0) (g := 0) okp0 hb hc (by omega)
  obtain ⟨im, k6, r6⟩ := repE_add okp0 r4 r5 (by omega)
  refine ⟨re, im, ?_, r3, r6⟩
  unfold cMulBits
  have e1 : floatBits .mul .f64 a c = some ac := k1
  have e2 : floatBits .mul .f64 b d = some bd := k2
  have e3 : floatBits .sub .f64 ac bd = some re := k3
  have e4 : floatBits .mul .f64 a d = some ad := k4
  have e5 : floatBits .mul .f64 b c = some bc := k5
  have e6 : floatBits .add .f64 ad bc = some im := k6
  simp [e1, e2, e3, e4, e5, e6]
theorem csum_gen {a b c d : Nat} {x y u v : Int} (ha : RepE double a x 0) (hb : RepE double b y 0) (hc : RepE double c u 0) (hd : RepE double d v 0)
    (h1 : (x + u).natAbs ≤ 4503599627370495) (h2 : (y + v).natAbs ≤ 4503599627370495) :
    ∃ re im, cSumBits .add .f64 a b c d = some (re, im) ∧ RepE double re (x + u) 0 ∧ RepE double im (y + v) 0 := by
  have h53 : 2 ^ (double.fractionBits + 1) = 9007199254740992 := by decide
  obtain ⟨re, k3, r3⟩ := repE_add okp0 ha hc (by omega)
  obtain ⟨im, k6, r6⟩ := repE_add okp0 hb hd (by omega)
  refine ⟨re, im, ?_, r3, r6⟩
  unfold cSumBits
  have e3 : floatBits .add .f64 a c = some re := k3
  have e6 : floatBits .add .f64 b d = some im := k6
  simp [e3, e6]
theorem rep_m1 : RepE double 13830554455654793216 (-1) 0 := ⟨true, 52, by decide +kernel, by decide⟩
theorem rep_0 : RepE double 0 0 0 := ⟨false, 1074, by decide +kernel, by decide⟩
theorem rep64' (x : Int) (hx : x.natAbs ≤ 1000000) : RepE Ieee.double (floatOfInt .f64 x) x 0 := by
  have h53 : (2 : Nat) ^ (Ieee.double.fractionBits + 1) = 9007199254740992 := by decide
  exact repE_int okp0 x (by rw [h53]; omega)
theorem back64' {P : Program} (src dst : TypeId) {a : Nat} {n : Int} (ha : Rep Ieee.double a n) (hn : n.natAbs ≤ 4503599627370495) (hs : (P.underlying src).isSome = true) (hd : P.underlying dst = some (.int .i64)) :
    ∀ w : World, (convert src dst (.float .f64 a)).run P w = .ok (.int .i64 n) w := fun w =>
  run_convert_float_int w src dst .f64 .i64 a n hs hd (by
    have h := rep_toInt Ieee.double ha
    unfold floatToIntVal
    have h2 : (FloatKind.f64.decode a).toInt .zero = some n := h
    rw [h2]
    have : IntKind.i64.min ≤ n ∧ n ≤ IntKind.i64.max := by
      have e1 : IntKind.i64.min = -9223372036854775808 := by decide
      have e2 : IntKind.i64.max = 9223372036854775807 := by decide
      rw [e1, e2]; omega
    simp only [if_pos this])
end FltX
