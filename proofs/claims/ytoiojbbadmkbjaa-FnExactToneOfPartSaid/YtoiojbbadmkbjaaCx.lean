
import Derived.Test.YtoiojbbadmkbjaaFlt
import Derived.Laws.ComplexArith
namespace FltX
open Ieee Go

theorem nearest_shlE (f : Format) (neg : Bool) (m k : Nat) (e : Int) (hm : m < 2 ^ (f.fractionBits + 1)) (hl : f.leastPlace ≤ e - (f.fractionBits : Int)) (h0 : m ≠ 0) :
    f.nearest neg (m <<< k) (e - (k : Int)) = f.word neg (min (((m.log2 : Int) + e - f.fractionBits - f.leastPlace).toNat * f.binade + m <<< (f.fractionBits - m.log2)) f.infRung) := by
  have hs : m <<< k ≠ 0 := by
    rw [Nat.shiftLeft_eq]; exact Nat.mul_ne_zero h0 (by have := Nat.two_pow_pos k; omega)
  unfold Format.nearest
  rw [if_neg hs, log2_shl m k h0]
  have hlog : m.log2 ≤ f.fractionBits := by
    have : m.log2 < f.fractionBits + 1 := (Nat.log2_lt h0).2 hm
    omega
  have hlast : max (e - (k : Int) + ((m.log2 + k : Nat) : Int) - f.fractionBits) f.leastPlace = (m.log2 : Int) + e - f.fractionBits := by
    omega
  simp only [hlast]
  congr 2
  congr 1
  generalize f.fractionBits = p at *
  by_cases hk : k ≤ p - m.log2
  · have e1 : ((m.log2 : Int) + e - p - (e - (k : Int))).toNat = 0 := by omega
    have e2 : (e - (k : Int) - ((m.log2 : Int) + e - p)).toNat = p - m.log2 - k := by omega
    rw [e1, e2, cut_zero, ← Nat.shiftLeft_add]
    congr 1; omega
  · have e1 : ((m.log2 : Int) + e - p - (e - (k : Int))).toNat = k - (p - m.log2) := by omega
    have e2 : (e - (k : Int) - ((m.log2 : Int) + e - p)).toNat = 0 := by omega
    rw [e1, e2]
    have : m <<< k <<< 0 = (m <<< (p - m.log2)) <<< (k - (p - m.log2)) := by
      rw [← Nat.shiftLeft_add, ← Nat.shiftLeft_add]; congr 1; omega
    rw [this, cut_exact]

/-- the place fits the format -/
structure Okp (f : Format) (e : Int) : Prop where
  ok : Okf f
  lo : f.leastPlace ≤ e - (f.fractionBits : Int)
  hi : e ≤ 0

theorem okp0 : Okp double 0 := ⟨ok_double, by decide, by decide⟩
theorem okp1 : Okp double (-1) := ⟨ok_double, by decide, by decide⟩

theorem read_nearestE (f : Format) {e : Int} (ok : Okp f e) (neg : Bool) (m : Nat) (hm : m < 2 ^ (f.fractionBits + 1)) : ∃ k : Nat, f.read (f.nearest neg m e) = .number neg (m <<< k) (e - (k : Int)) := by
  obtain ⟨⟨hl, hi⟩, hlo, hhi⟩ := ok
  have hinf := f.infRung_lt
  have hb : 0 < f.binade := Nat.two_pow_pos _
  by_cases h0 : m = 0
  · subst h0
    refine ⟨(e - f.leastPlace).toNat, ?_⟩
    have hs : 0 < f.signWeight := Nat.two_pow_pos _
    have hr := read_word f neg 0 hs
    simp only [Format.nearest, if_true, Format.read, hr.1, hr.2, hb]
    simp only [Nat.zero_shiftLeft, Datum.number.injEq, true_and]
    refine ⟨by cases neg <;> rfl, by omega⟩
  · have hlog : m.log2 ≤ f.fractionBits := by
      have : m.log2 < f.fractionBits + 1 := (Nat.log2_lt h0).2 hm
      omega
    have eq := nearest_shlE f neg m 0 e hm hlo h0
    simp only [Nat.shiftLeft_zero, Int.natCast_zero, Int.sub_zero] at eq
    have hbd := shl_bounds m f.fractionBits h0 hlog
    rw [eq]
    generalize hM : m <<< (f.fractionBits - m.log2) = M at *
    generalize hq : ((m.log2 : Int) + e - f.fractionBits - f.leastPlace).toNat = q at *
    have hbe : f.binade = 2 ^ f.fractionBits := rfl
    have hqlt : q + 2 ≤ 2 ^ f.exponentBits - 1 := by omega
    have hlt : q * f.binade + M < f.infRung := by
      have h1 : (q + 2) * f.binade ≤ f.infRung := Nat.mul_le_mul_right _ hqlt
      rw [Nat.add_mul] at h1; omega
    rw [Nat.min_eq_left (by omega)]
    have hr := read_word f neg (q * f.binade + M) (by omega)
    have hge : ¬ q * f.binade + M < f.binade := by omega
    have hmod : (q * f.binade + M) % f.binade = M - f.binade := by
      rw [Nat.add_comm, Nat.add_mul_mod_self_right, Nat.mod_eq_sub_mod (by omega), Nat.mod_eq_of_lt (by omega)]
    have hdiv : (q * f.binade + M) / f.binade = q + 1 := by
      rw [Nat.add_comm, Nat.add_mul_div_right _ _ hb]
      have : M / f.binade = 1 := by
        rw [Nat.div_eq_of_lt_le] <;> omega
      omega
    refine ⟨f.fractionBits - m.log2, ?_⟩
    simp only [Format.read, hr.1, hr.2, hge, hlt, if_true, if_false, hmod, hdiv, hM]
    simp only [Datum.number.injEq]
    refine ⟨by cases neg <;> rfl, by omega, by omega⟩

/-- the datum is the number n times 2 ^ e -/
def DRep (d : Datum) (n e : Int) : Prop := ∃ (neg : Bool) (k : Nat), d = .number neg (n.natAbs <<< k) (e - (k : Int)) ∧ (n ≠ 0 → neg = decide (n < 0))
/-- the word stands for n times 2 ^ e -/
def RepE (f : Format) (w : Nat) (n e : Int) : Prop := DRep (f.read w) n e

theorem DRep.opp {d : Datum} {n e : Int} (h : DRep d n e) : DRep d.opposite (-n) e := by
  obtain ⟨s, k, rfl, hs⟩ := h
  refine ⟨!s, k, by simp [Datum.opposite], fun h0 => ?_⟩
  have hn : n ≠ 0 := by omega
  rw [hs hn]
  by_cases h : n < 0
  · simp [h]; omega
  · simp [h]; omega

theorem repE_nearest (f : Format) {e : Int} (ok : Okp f e) (neg : Bool) (n : Int) (hn : n.natAbs < 2 ^ (f.fractionBits + 1)) (hs : n ≠ 0 → neg = decide (n < 0)) (k : Nat) : RepE f (f.nearest neg (n.natAbs <<< k) (e - (k : Int))) n e := by
  have key : f.nearest neg (n.natAbs <<< k) (e - (k : Int)) = f.nearest neg n.natAbs e := by
    by_cases h0 : n.natAbs = 0
    · rw [h0]; simp [Format.nearest]
    · rw [nearest_shlE f neg _ k e hn ok.lo h0]
      have := nearest_shlE f neg n.natAbs 0 e hn ok.lo h0
      simp at this
      rw [this]
  rw [key]
  obtain ⟨j, hj⟩ := read_nearestE f ok neg n.natAbs hn
  exact ⟨neg, j, hj, hs⟩

theorem signed_repE (n e : Int) (neg : Bool) (k K : Nat) (h : k ≤ K) (hs : n ≠ 0 → neg = decide (n < 0)) : signed neg (n.natAbs <<< k) ((e - (k : Int)) - (e - (K : Int))).toNat = n * (2 : Int) ^ K := by
  have := signed_rep n neg k K h hs
  rwa [show (e - (k : Int)) - (e - (K : Int)) = -(k : Int) - -(K : Int) from by omega]

theorem drep_sum (f : Format) {e : Int} (ok : Okp f e) {a b : Datum} {x y : Int} (ha : DRep a x e) (hb : DRep b y e) (hxy : (x + y).natAbs < 2 ^ (f.fractionBits + 1)) : ∃ c, (a.sum b).map f.write = some c ∧ RepE f c (x + y) e := by
  obtain ⟨s, k, rfl, hs⟩ := ha
  obtain ⟨t, l, rfl, ht⟩ := hb
  simp only [Datum.sum, Option.map_some, Format.write]
  have hbase : min (e - (k : Int)) (e - (l : Int)) = e - ((max k l : Nat) : Int) := by omega
  rw [hbase, signed_repE x e s k (max k l) (by omega) hs, signed_repE y e t l (max k l) (by omega) ht, ← Int.add_mul, shl_natAbs]
  refine ⟨_, rfl, repE_nearest f ok _ (x + y) hxy ?_ _⟩
  intro h0
  have hp : (0 : Int) < (2 : Int) ^ (max k l) := Int.pow_pos (by decide)
  rw [if_neg (by intro h; rcases Int.mul_eq_zero.1 h with h | h <;> omega)]
  congr 1
  rw [eq_iff_iff]
  constructor
  · intro h
    refine Int.not_le.1 fun h2 => ?_
    have := Int.mul_nonneg h2 (Int.le_of_lt hp)
    omega
  · intro h
    exact Int.mul_neg_of_neg_of_pos h hp

theorem repE_add {f : Format} {e : Int} (ok : Okp f e) {a b : Nat} {x y : Int} (ha : RepE f a x e) (hb : RepE f b y e) (hxy : (x + y).natAbs < 2 ^ (f.fractionBits + 1)) : ∃ c, f.add a b = some c ∧ RepE f c (x + y) e := drep_sum f ok ha hb hxy
theorem repE_sub {f : Format} {e : Int} (ok : Okp f e) {a b : Nat} {x y : Int} (ha : RepE f a x e) (hb : RepE f b y e) (hxy : (x - y).natAbs < 2 ^ (f.fractionBits + 1)) : ∃ c, f.sub a b = some c ∧ RepE f c (x - y) e := by
  have := drep_sum f ok ha hb.opp (by rwa [← Int.sub_eq_add_neg])
  rwa [← Int.sub_eq_add_neg] at this

theorem mul_sign {x y : Int} (h : x * y ≠ 0) : (decide (x < 0) ^^ decide (y < 0)) = decide (x * y < 0) := by
  have hx : x ≠ 0 := fun e => h (by rw [e, Int.zero_mul])
  have hy : y ≠ 0 := fun e => h (by rw [e, Int.mul_zero])
  by_cases h1 : x < 0
  · by_cases h2 : y < 0
    · have := Int.mul_pos_of_neg_of_neg h1 h2
      simp [h1, h2]; omega
    · have := Int.mul_neg_of_neg_of_pos h1 (show (0 : Int) < y by omega)
      simp [h1, h2, this]
  · by_cases h2 : y < 0
    · have := Int.mul_neg_of_pos_of_neg (show (0 : Int) < x by omega) h2
      simp [h1, h2, this]
    · have := Int.mul_pos (show (0 : Int) < x by omega) (show (0 : Int) < y by omega)
      simp [h1, h2]; omega

theorem repE_mul {f : Format} {e g : Int} (ok : Okp f (e + g)) {a b : Nat} {x y : Int} (ha : RepE f a x e) (hb : RepE f b y g) (hxy : (x * y).natAbs < 2 ^ (f.fractionBits + 1)) : ∃ c, f.mul a b = some c ∧ RepE f c (x * y) (e + g) := by
  obtain ⟨s, k, hk, hs⟩ := ha
  obtain ⟨t, l, hl, ht⟩ := hb
  unfold Format.mul
  rw [hk, hl]
  simp only [Datum.product, Option.map_some, Format.write]
  have e1 : (x.natAbs <<< k) * (y.natAbs <<< l) = (x * y).natAbs <<< (k + l) := by
    rw [Int.natAbs_mul, Nat.shiftLeft_eq, Nat.shiftLeft_eq, Nat.shiftLeft_eq, Nat.pow_add]
    simp only [Nat.mul_assoc, Nat.mul_left_comm]
  have e2 : e - (k : Int) + (g - (l : Int)) = e + g - ((k + l : Nat) : Int) := by omega
  rw [e1, e2]
  refine ⟨_, rfl, repE_nearest f ok _ (x * y) hxy ?_ _⟩
  intro h0
  have hx : x ≠ 0 := fun e => h0 (by rw [e, Int.zero_mul])
  have hy : y ≠ 0 := fun e => h0 (by rw [e, Int.mul_zero])
  rw [hs hx, ht hy, mul_sign h0]

theorem repE_int {f : Format} (ok : Okp f 0) (n : Int) (hn : n.natAbs < 2 ^ (f.fractionBits + 1)) : RepE f (f.nearest (decide (n < 0)) n.natAbs 0) n 0 := by
  have := repE_nearest f ok (decide (n < 0)) n hn (fun _ => rfl) 0
  simpa using this

theorem RepE.rep {f : Format} {w : Nat} {n : Int} (h : RepE f w n 0) : Rep f w n := by
  obtain ⟨s, k, hk, hs⟩ := h
  exact ⟨s, k, by rw [hk]; congr 1; omega, hs⟩
theorem RepE.half {f : Format} {w : Nat} {n : Int} (h : RepE f w (2 * n) (-1)) : Rep f w n := by
  obtain ⟨s, k, hk, hs⟩ := h
  refine ⟨s, k + 1, ?_, fun h0 => ?_⟩
  · rw [hk]
    have e1 : (2 * n).natAbs <<< k = n.natAbs <<< (k + 1) := by
      rw [Int.natAbs_mul, Nat.shiftLeft_eq, Nat.shiftLeft_eq, Nat.pow_succ, show (2 : Int).natAbs = 2 from rfl, Nat.mul_comm 2, Nat.mul_assoc, Nat.mul_comm 2]
    rw [e1]; congr 1; omega
  · rw [hs (by omega)]
    congr 1
    rw [eq_iff_iff]; omega

theorem xor_half (w n : Nat) : (w ^^^ 2 ^ n) % 2 ^ n = w % 2 ^ n ∧ (w ^^^ 2 ^ n) / 2 ^ n % 2 = 1 - w / 2 ^ n % 2 := by
  constructor
  · rw [Nat.xor_mod_two_pow]; simp
  · have h : (w ^^^ 2 ^ n) / 2 ^ n = w / 2 ^ n ^^^ 1 := by
      rw [← Nat.shiftRight_eq_div_pow, Nat.shiftRight_xor_distrib, Nat.shiftRight_eq_div_pow, Nat.shiftRight_eq_div_pow, Nat.div_self (Nat.two_pow_pos n)]
    rw [h]
    have : (w / 2 ^ n ^^^ 1) % 2 = (w / 2 ^ n % 2) ^^^ 1 := by
      have := @Nat.xor_mod_two_pow (w / 2 ^ n) 1 1
      simpa using this
    rw [this]
    rcases Nat.mod_two_eq_zero_or_one (w / 2 ^ n) with h | h <;> rw [h] <;> rfl
theorem read_neg (w : Nat) : double.read (Go.Op.negFloat .f64 w) = (double.read w).opposite := by
  have h := xor_half w 63
  have e : Go.Op.negFloat .f64 w = w ^^^ 2 ^ 63 := rfl
  have es : double.signWeight = 2 ^ 63 := rfl
  unfold Format.read
  rw [e, es, h.1, h.2]
  have hn : (1 - w / 2 ^ 63 % 2 == 1) = !(w / 2 ^ 63 % 2 == 1) := by
    rcases Nat.mod_two_eq_zero_or_one (w / 2 ^ 63) with h | h <;> rw [h] <;> rfl
  simp only [hn]
  split
  · rfl
  · split
    · rfl
    · split <;> rfl
theorem repE_neg {w : Nat} {n e : Int} (h : RepE double w n e) : RepE double (Go.Op.negFloat .f64 w) (-n) e := by unfold RepE; rw [read_neg]; exact h.opp
def oneB : Nat := 4607182418800017408
def halfB : Nat := 4602678819172646912
def mhalfB : Nat := 13826050856027422720
theorem rep_one : RepE double oneB 1 0 := ⟨false, 52, by decide +kernel, by decide⟩
theorem rep_half : RepE double halfB 1 (-1) := ⟨false, 52, by decide +kernel, by decide⟩
theorem rep_mhalf : RepE double mhalfB (-1) (-1) := ⟨true, 52, by decide +kernel, by decide⟩

/-- (x - y i) (1 + i) = x + y + (x - y) i -/
theorem bands_mul {a b : Nat} {x y : Int} (ha : RepE double a x 0) (hb : RepE double b (-y) 0) (hx : x.natAbs ≤ 1000000) (hy : y.natAbs ≤ 1000000) :
    ∃ re im, cMulBits a b oneB oneB = some (re, im) ∧ Rep double re (x + y) ∧ Rep double im (x - y) := by
  have h53 : 2 ^ (double.fractionBits + 1) = 9007199254740992 := by decide
  obtain ⟨ac, h1, r1⟩ := repE_mul (e := 0) (g := 0) okp0 ha rep_one (by omega)
  obtain ⟨bd, h2, r2⟩ := repE_mul (e := 0) (g := 0) okp0 hb rep_one (by omega)
  obtain ⟨re, h3, r3⟩ := repE_sub okp0 r1 r2 (by omega)
  obtain ⟨im, h4, r4⟩ := repE_add okp0 r1 r2 (by omega)
  refine ⟨re, im, ?_, ?_, ?_⟩
  · unfold cMulBits
    have e1 : floatBits .mul .f64 a oneB = some ac := h1
    have e2 : floatBits .mul .f64 b oneB = some bd := h2
    have e3 : floatBits .sub .f64 ac bd = some re := h3
    have e4 : floatBits .add .f64 ac bd = some im := h4
    simp [e1, e2, e3, e4]
  · have := r3.rep; rwa [show x * 1 - -y * 1 = x + y from by omega] at this
  · have := r4.rep; rwa [show x * 1 + -y * 1 = x - y from by omega] at this

/-- (s + d i) (1 - i) / 2 = (s + d) / 2 + (d - s) / 2 i -/
theorem joined_mul {a b : Nat} {s d x y : Int} (ha : RepE double a s 0) (hb : RepE double b d 0) (hs : s.natAbs ≤ 1000000) (hd : d.natAbs ≤ 1000000) (hx : s + d = 2 * x) (hy : d - s = 2 * y) :
    ∃ re im, cMulBits a b halfB mhalfB = some (re, im) ∧ Rep double re x ∧ Rep double im y := by
  have h53 : 2 ^ (double.fractionBits + 1) = 9007199254740992 := by decide
  obtain ⟨ac, h1, r1⟩ := repE_mul (e := 0) (g := -1) okp1 ha rep_half (by omega)
  obtain ⟨bd, h2, r2⟩ := repE_mul (e := 0) (g := -1) okp1 hb rep_mhalf (by omega)
  obtain ⟨re, h3, r3⟩ := repE_sub okp1 r1 r2 (by omega)
  obtain ⟨ad, h4, r4⟩ := repE_mul (e := 0) (g := -1) okp1 ha rep_mhalf (by omega)
  obtain ⟨bc, h5, r5⟩ := repE_mul (e := 0) (g := -1) okp1 hb rep_half (by omega)
  obtain ⟨im, h6, r6⟩ := repE_add okp1 r4 r5 (by omega)
  refine ⟨re, im, ?_, ?_, ?_⟩
  · unfold cMulBits
    have e1 : floatBits .mul .f64 a halfB = some ac := h1
    have e2 : floatBits .mul .f64 b mhalfB = some bd := h2
    have e3 : floatBits .sub .f64 ac bd = some re := h3
    have e4 : floatBits .mul .f64 a mhalfB = some ad := h4
    have e5 : floatBits .mul .f64 b halfB = some bc := h5
    have e6 : floatBits .add .f64 ad bc = some im := h6
    simp [e1, e2, e3, e4, e5, e6]
  · have h : RepE double re (2 * x) (-1) := by rw [show 2 * x = s * 1 - d * -1 from by omega]; exact r3
    exact h.half
  · have h : RepE double im (2 * y) (-1) := by rw [show 2 * y = s * -1 + d * 1 from by omega]; exact r6
    exact h.half
end FltX
