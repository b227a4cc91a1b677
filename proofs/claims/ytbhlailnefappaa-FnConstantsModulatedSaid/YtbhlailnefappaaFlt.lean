
import Derived.Laws.FloatArith
namespace FltX
open Ieee Go

theorem log2_shl (m k : Nat) (h : m ≠ 0) : (m <<< k).log2 = m.log2 + k := by
  rw [Nat.shiftLeft_eq]
  have h1 : m * 2 ^ k ≠ 0 := by
    have := Nat.pos_of_ne_zero h
    have := Nat.two_pow_pos k
    exact Nat.mul_ne_zero h (by omega)
  have := (Nat.log2_eq_iff (k := m.log2 + k) h1).2
  apply this
  constructor
  · rw [Nat.pow_add]; exact Nat.mul_le_mul_right _ (Nat.log2_self_le h)
  · have := @Nat.lt_log2_self m
    rw [show m.log2 + k + 1 = (m.log2 + 1) + k from by omega, Nat.pow_add]
    exact Nat.mul_lt_mul_of_pos_right this (Nat.two_pow_pos k)

theorem cut_exact (neg : Bool) (m d : Nat) : Toward.even.cut neg (m <<< d) d = m := by
  by_cases h : m = 0
  · subst h; simp [Toward.cut]
  · unfold Toward.cut
    have hl := log2_shl m d h
    have hm : min d ((m <<< d).log2 + 2) = d := by rw [hl]; omega
    simp only [hm]
    have e : m <<< d = m * (1 <<< d) := by simp [Nat.shiftLeft_eq]
    have hp : 0 < 1 <<< d := by simp [Nat.shiftLeft_eq]; exact Nat.two_pow_pos d
    have e1 : (m <<< d) / (1 <<< d) = m := by rw [e]; exact Nat.mul_div_cancel _ hp
    have e2 : (m <<< d) % (1 <<< d) = 0 := by rw [e]; exact Nat.mul_mod_left _ _
    rw [e1, e2]
    have : ¬ (1 <<< d < 2 * 0) := by omega
    have h3 : ¬ (1 <<< d = 2 * 0) := by omega
    simp [this, h3]

theorem cut_zero (w : Toward) (neg : Bool) (m : Nat) : w.cut neg m 0 = m := by
  cases w <;> simp [Toward.cut, Nat.mod_one] 

/-- the shape of the nearest word of a whole number that fits the significand -/
theorem nearest_shl (f : Format) (neg : Bool) (m k : Nat) (hm : m < 2 ^ (f.fractionBits + 1)) (hl : f.leastPlace ≤ -(f.fractionBits : Int)) (h0 : m ≠ 0) :
    f.nearest neg (m <<< k) (-(k : Int)) = f.word neg (min (((m.log2 : Int) - f.fractionBits - f.leastPlace).toNat * f.binade + m <<< (f.fractionBits - m.log2)) f.infRung) := by
  have hs : m <<< k ≠ 0 := by
    rw [Nat.shiftLeft_eq]; exact Nat.mul_ne_zero h0 (by have := Nat.two_pow_pos k; omega)
  unfold Format.nearest
  rw [if_neg hs, log2_shl m k h0]
  have hlog : m.log2 ≤ f.fractionBits := by
    have : m.log2 < f.fractionBits + 1 := (Nat.log2_lt h0).2 hm
    omega
  have hlast : max (-(k : Int) + ((m.log2 + k : Nat) : Int) - f.fractionBits) f.leastPlace = (m.log2 : Int) - f.fractionBits := by
    omega
  simp only [hlast]
  congr 2
  congr 1
  generalize f.fractionBits = p at *
  by_cases hk : k ≤ p - m.log2
  · have e1 : ((m.log2 : Int) - p - -(k : Int)).toNat = 0 := by omega
    have e2 : (-(k : Int) - ((m.log2 : Int) - p)).toNat = p - m.log2 - k := by omega
    rw [e1, e2, cut_zero, ← Nat.shiftLeft_add]
    congr 1; omega
  · have e1 : ((m.log2 : Int) - p - -(k : Int)).toNat = k - (p - m.log2) := by omega
    have e2 : (-(k : Int) - ((m.log2 : Int) - p)).toNat = 0 := by omega
    rw [e1, e2]
    have : m <<< k <<< 0 = (m <<< (p - m.log2)) <<< (k - (p - m.log2)) := by
      rw [← Nat.shiftLeft_add, ← Nat.shiftLeft_add]; congr 1; omega
    rw [this, cut_exact]

theorem nearest_same (f : Format) (neg : Bool) (m k : Nat) (hm : m < 2 ^ (f.fractionBits + 1)) (hl : f.leastPlace ≤ -(f.fractionBits : Int)) :
    f.nearest neg (m <<< k) (-(k : Int)) = f.nearest neg m 0 := by
  by_cases h0 : m = 0
  · subst h0; simp [Format.nearest]
  · rw [nearest_shl f neg m k hm hl h0]
    have := nearest_shl f neg m 0 hm hl h0
    simp at this
    rw [this]


/-- the format is wide enough that whole numbers of its significand's size are normal numbers -/
structure Okf (f : Format) : Prop where
  hl : f.leastPlace ≤ -(f.fractionBits : Int)
  hi : (-f.leastPlace).toNat + 2 < 2 ^ f.exponentBits

theorem ok_single : Okf single := ⟨by decide, by decide⟩
theorem ok_double : Okf double := ⟨by decide, by decide⟩

theorem shl_bounds (m p : Nat) (h0 : m ≠ 0) (hm : m.log2 ≤ p) : 2 ^ p ≤ m <<< (p - m.log2) ∧ m <<< (p - m.log2) < 2 * 2 ^ p := by
  rw [Nat.shiftLeft_eq]
  have a := Nat.log2_self_le h0
  have b := @Nat.lt_log2_self m
  have c : 2 ^ p = 2 ^ m.log2 * 2 ^ (p - m.log2) := by rw [← Nat.pow_add]; congr 1; omega
  rw [c]
  refine ⟨Nat.mul_le_mul_right _ a, ?_⟩
  rw [← Nat.mul_assoc]
  refine Nat.mul_lt_mul_of_pos_right ?_ (Nat.two_pow_pos _)
  have : 2 ^ (m.log2 + 1) = 2 * 2 ^ m.log2 := by rw [Nat.pow_succ]; omega
  omega

theorem read_word (f : Format) (neg : Bool) (r : Nat) (h : r < f.signWeight) : f.word neg r / f.signWeight % 2 = neg.toNat ∧ f.word neg r % f.signWeight = r := by
  have hp : 0 < f.signWeight := Nat.two_pow_pos _
  cases neg
  · simp [Format.word, Nat.div_eq_of_lt h, Nat.mod_eq_of_lt h]
  · simp [Format.word, Nat.add_div_left r hp, Nat.div_eq_of_lt h, Nat.mod_eq_of_lt h]

theorem read_nearest (f : Format) (ok : Okf f) (neg : Bool) (m : Nat) (hm : m < 2 ^ (f.fractionBits + 1)) : ∃ k : Nat, f.read (f.nearest neg m 0) = .number neg (m <<< k) (-(k : Int)) := by
  obtain ⟨hl, hi⟩ := ok
  have hinf := f.infRung_lt
  have hb : 0 < f.binade := Nat.two_pow_pos _
  by_cases h0 : m = 0
  · subst h0
    refine ⟨(-f.leastPlace).toNat, ?_⟩
    have hs : 0 < f.signWeight := Nat.two_pow_pos _
    have hr := read_word f neg 0 hs
    simp only [Format.nearest, if_true, Format.read, hr.1, hr.2, hb]
    simp only [Nat.zero_shiftLeft, Datum.number.injEq, true_and]
    refine ⟨by cases neg <;> rfl, by omega⟩
  · have hlog : m.log2 ≤ f.fractionBits := by
      have : m.log2 < f.fractionBits + 1 := (Nat.log2_lt h0).2 hm
      omega
    have e := nearest_shl f neg m 0 hm hl h0
    simp only [Nat.shiftLeft_zero, Int.natCast_zero, Int.neg_zero] at e
    have hbd := shl_bounds m f.fractionBits h0 hlog
    rw [e]
    generalize hM : m <<< (f.fractionBits - m.log2) = M at *
    generalize hq : ((m.log2 : Int) - f.fractionBits - f.leastPlace).toNat = q at *
    have hbe : f.binade = 2 ^ f.fractionBits := rfl
    have hqlt : q + 2 ≤ 2 ^ f.exponentBits - 1 := by omega
    have hlt : q * f.binade + M < f.infRung := by
      have h1 : (q + 2) * f.binade ≤ f.infRung := Nat.mul_le_mul_right _ hqlt
      rw [Nat.add_mul] at h1; omega
    rw [Nat.min_eq_left (by omega)]
    have hr := read_word f neg (q * f.binade + M) (by omega)
    have hge : ¬ q * f.binade + M < f.binade := by omega
    have hmod : (q * f.binade + M) % f.binade = M - f.binade := by
      rw [Nat.add_comm, Nat.add_mul_mod_self_right, Nat.mod_eq_sub_mod (by omega), Nat.mod_eq_of_lt (by omega)]
    have hdiv : (q * f.binade + M) / f.binade = q + 1 := by
      rw [Nat.add_comm, Nat.add_mul_div_right _ _ hb]
      have : M / f.binade = 1 := by
        rw [Nat.div_eq_of_lt_le] <;> omega
      omega
    refine ⟨f.fractionBits - m.log2, ?_⟩
    simp only [Format.read, hr.1, hr.2, hge, hlt, if_true, if_false, hmod, hdiv, hM]
    simp only [Datum.number.injEq]
    refine ⟨by cases neg <;> rfl, by omega, by omega⟩

/-- the word stands for the whole number -/
def Rep (f : Format) (w : Nat) (n : Int) : Prop := ∃ (neg : Bool) (k : Nat), f.read w = .number neg (n.natAbs <<< k) (-(k : Int)) ∧ (n ≠ 0 → neg = decide (n < 0))

theorem rep_nearest (f : Format) (ok : Okf f) (neg : Bool) (n : Int) (hn : n.natAbs < 2 ^ (f.fractionBits + 1)) (hs : n ≠ 0 → neg = decide (n < 0)) (k : Nat) : Rep f (f.nearest neg (n.natAbs <<< k) (-(k : Int))) n := by
  rw [nearest_same f neg _ k hn ok.hl]
  obtain ⟨j, hj⟩ := read_nearest f ok neg n.natAbs hn
  exact ⟨neg, j, hj, hs⟩

theorem rep_int (f : Format) (ok : Okf f) (n : Int) (hn : n.natAbs < 2 ^ (f.fractionBits + 1)) : Rep f (f.nearest (decide (n < 0)) n.natAbs 0) n := by
  have := rep_nearest f ok (decide (n < 0)) n hn (fun _ => rfl) 0
  simpa using this

theorem signed_rep (n : Int) (neg : Bool) (k K : Nat) (h : k ≤ K) (hs : n ≠ 0 → neg = decide (n < 0)) : signed neg (n.natAbs <<< k) (-(k : Int) - -(K : Int)).toNat = n * (2 : Int) ^ K := by
  have e : (-(k : Int) - -(K : Int)).toNat = K - k := by omega
  rw [e]
  unfold signed
  have e2 : n.natAbs <<< k <<< (K - k) = n.natAbs * 2 ^ K := by
    rw [← Nat.shiftLeft_add, Nat.shiftLeft_eq]; congr 2; omega
  rw [e2]
  by_cases h0 : n = 0
  · subst h0; simp
  · rw [hs h0]
    by_cases hneg : n < 0
    · simp only [hneg, decide_true, if_true, Int.natCast_mul, Int.natCast_pow]
      rw [show ((n.natAbs : Nat) : Int) = -n from by omega, Int.neg_mul, Int.neg_neg]; rfl
    · simp only [hneg, decide_false, Int.natCast_mul, Int.natCast_pow]
      rw [show ((n.natAbs : Nat) : Int) = n from by omega]; rfl

theorem shl_natAbs (n : Int) (K : Nat) : (n * (2 : Int) ^ K).natAbs = n.natAbs <<< K := by
  rw [Int.natAbs_mul, Nat.shiftLeft_eq]; congr 1

theorem rep_add (f : Format) (ok : Okf f) {a b : Nat} {x y : Int} (ha : Rep f a x) (hb : Rep f b y) (hxy : (x + y).natAbs < 2 ^ (f.fractionBits + 1)) : ∃ c, f.add a b = some c ∧ Rep f c (x + y) := by
  obtain ⟨s, k, hk, hs⟩ := ha
  obtain ⟨t, l, hl, ht⟩ := hb
  unfold Format.add
  rw [hk, hl]
  simp only [Datum.sum, Option.map_some, Format.write]
  have hbase : min (-(k : Int)) (-(l : Int)) = -((max k l : Nat) : Int) := by omega
  rw [hbase, signed_rep x s k (max k l) (by omega) hs, signed_rep y t l (max k l) (by omega) ht, ← Int.add_mul, shl_natAbs]
  refine ⟨_, rfl, rep_nearest f ok _ (x + y) hxy ?_ _⟩
  intro h0
  have hp : (0 : Int) < (2 : Int) ^ (max k l) := Int.pow_pos (by decide)
  rw [if_neg (by intro h; rcases Int.mul_eq_zero.1 h with h | h <;> omega)]
  congr 1
  rw [eq_iff_iff]
  constructor
  · intro h
    refine Int.not_le.1 fun h2 => ?_
    have := Int.mul_nonneg h2 (Int.le_of_lt hp)
    omega
  · intro h
    exact Int.mul_neg_of_neg_of_pos h hp

theorem rep_toInt (f : Format) {a : Nat} {x : Int} (ha : Rep f a x) : (f.read a).toInt .zero = some x := by
  obtain ⟨s, k, hk, hs⟩ := ha
  rw [hk]
  have e1 : (-(k : Int)).toNat = 0 := by omega
  have e2 : (-(-(k : Int))).toNat = k := by omega
  simp only [Datum.toInt, Datum.integral, e1, e2]
  have hc : Toward.zero.cut s (x.natAbs <<< k <<< 0) k = x.natAbs := by
    show Toward.zero.cut s (x.natAbs <<< (k + 0)) k = x.natAbs
    by_cases h0 : x.natAbs = 0
    · rw [h0]; simp [Toward.cut]
    · unfold Toward.cut
      have hl := log2_shl x.natAbs k h0
      have hm : min k ((x.natAbs <<< k).log2 + 2) = k := by rw [hl]; omega
      simp only [Nat.add_zero, hm]
      have hp : 0 < 1 <<< k := by simp [Nat.shiftLeft_eq]; exact Nat.two_pow_pos k
      have e : x.natAbs <<< k = x.natAbs * (1 <<< k) := by simp [Nat.shiftLeft_eq]
      rw [e, Nat.mul_div_cancel _ hp]; simp
  rw [hc]
  by_cases h0 : x = 0
  · subst h0; simp [signed]
  · rw [hs h0]
    unfold signed
    by_cases hneg : x < 0
    · simp [hneg]; omega
    · simp [hneg]; omega

end FltX
