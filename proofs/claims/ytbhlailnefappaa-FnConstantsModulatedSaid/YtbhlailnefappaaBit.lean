
import Derived.WalkKit
namespace BitX
open Go

/-- the value of a row of 64 bits -/
def rowOf (f : Nat → Bool) : Array Value := ((List.range 64).map fun i => Value.bool (f i)).toArray

theorem rowOf_size (f : Nat → Bool) : (rowOf f).size = 64 := by simp [rowOf]
theorem rowOf_get (f : Nat → Bool) (i : Nat) (_h : i < 64) : (rowOf f)[i]? = some (.bool (f i)) := by
  simp [rowOf, _h]
theorem rowOf_set (f : Nat → Bool) (k : Nat) (c : Bool) (_h : k < 64) : (rowOf f).setIfInBounds k (.bool c) = rowOf (fun j => if j = k then c else f j) := by
  apply Array.ext
  · simp [rowOf]
  · intro i h1 h2
    have hi : i < 64 := by simpa [rowOf] using h1
    simp only [rowOf, List.setIfInBounds_toArray, List.getElem_toArray, List.getElem_set, List.getElem_map, List.getElem_range]
    by_cases hk : k = i
    · subst hk; simp
    · rw [if_neg hk, if_neg (fun h => hk h.symm)]
theorem rowOf_congr (f g : Nat → Bool) (h : ∀ i, i < 64 → f i = g i) : rowOf f = rowOf g := by
  unfold rowOf
  congr 1
  refine List.map_congr_left fun i hi => ?_
  rw [h i (List.mem_range.1 hi)]
theorem rowOf_inj (f g : Nat → Bool) (h : rowOf f = rowOf g) (i : Nat) (hi : i < 64) : f i = g i := by
  have a := rowOf_get f i hi
  rw [h, rowOf_get g i hi] at a
  simpa using a.symm

abbrev bv (x : Int) : BitVec 64 := BitVec.ofInt 64 x
abbrev bitRow (v : BitVec 64) : Array Value := rowOf v.getLsbD
def cutV (b : Nat) (v : BitVec 64) : BitVec 64 := (v.setWidth b).signExtend 64

theorem cutV_low (b : Nat) (v : BitVec 64) (i : Nat) (hi : i < 64) (h : i < b) : (cutV b v).getLsbD i = v.getLsbD i := by
  rw [cutV, BitVec.getLsbD_signExtend]
  simp [hi, h]
theorem cutV_high (b : Nat) (v : BitVec 64) (i : Nat) (hi : i < 64) (h : b ≤ i) (h0 : 0 < b) : (cutV b v).getLsbD i = v.getLsbD (b - 1) := by
  have h1 : ¬ i < b := by omega
  rw [cutV, BitVec.getLsbD_signExtend, BitVec.msb_eq_getLsbD_last]
  have h2 : b - 1 < b := by omega
  simp [hi, h1, h2]

theorem wrap_bv (v : BitVec 64) : IntKind.i64.wrap (v.toNat : Int) = v.toInt := by
  have := v.isLt
  simp [IntKind.wrap, IntKind.bits, IntKind.signed, BitVec.toInt_eq_toNat_cond]
  split <;> split <;> omega

theorem bv_toInt (x : Int) (h1 : -9223372036854775808 ≤ x) (h2 : x < 9223372036854775808) : (bv x).toInt = x := by
  rw [BitVec.toInt_ofInt, Int.bmod_eq_of_le] <;> omega

theorem cutV_toInt (b : Nat) (x : Int) (hb : b ≤ 64) : (cutV b (bv x)).toInt = x.bmod (2 ^ b) := by
  unfold cutV
  rw [BitVec.toInt_signExtend_of_le hb, BitVec.toInt_setWidth, BitVec.toNat_ofInt]
  have hd : ((2 : Int) ^ b) ∣ ((2 ^ 64 : Nat) : Int) := by
    rw [show ((2 ^ 64 : Nat) : Int) = (2 : Int) ^ 64 from by norm_cast]
    exact ⟨2 ^ (64 - b), by rw [← Int.pow_add]; congr 1; omega⟩
  have e : (((x % ((2 ^ 64 : Nat) : Int)).toNat : Nat) : Int) = x % ((2 ^ 64 : Nat) : Int) := Int.toNat_of_nonneg (Int.emod_nonneg _ (by decide))
  rw [e]
  apply Int.bmod_eq_bmod_iff_bmod_sub_eq_zero.2
  apply Int.bmod_eq_zero_of_dvd
  have : x % ((2 ^ 64 : Nat) : Int) - x = - (((2 ^ 64 : Nat) : Int) * (x / ((2 ^ 64 : Nat) : Int))) := by
    have := Int.emod_add_mul_ediv x ((2 ^ 64 : Nat) : Int); omega
  rw [this]
  apply Int.dvd_neg.2
  rw [show ((2 ^ b : Nat) : Int) = (2 : Int) ^ b from by norm_cast]
  exact Int.dvd_trans hd (Int.dvd_mul_right _ _)

theorem bit_div (x : Int) (i : Nat) (hi : i < 64) : (bv x).getLsbD i = decide (x / 2 ^ i % 2 = 1) := by
  show (bv x).toNat.testBit i = _
  rw [Nat.testBit_eq_decide_div_mod_eq, BitVec.toNat_ofInt]
  congr 1
  have hp : (0 : Int) < 2 ^ i := Int.pow_pos (by decide)
  have hr0 : 0 ≤ x % ((2 ^ 64 : Nat) : Int) := Int.emod_nonneg _ (by decide)
  obtain ⟨r, hr⟩ := Int.eq_ofNat_of_zero_le hr0
  have this := Int.emod_add_mul_ediv x ((2 ^ 64 : Nat) : Int)
  have e : ((2 ^ 64 : Nat) : Int) = 2 ^ i * (2 * 2 ^ (63 - i)) := by
    rw [show (2 : Int) * 2 ^ (63 - i) = 2 ^ (63 - i + 1) from by rw [Int.pow_succ, Int.mul_comm], ← Int.pow_add]
    rw [show i + (63 - i + 1) = 64 from by omega]; norm_cast
  rw [hr] at this ⊢
  generalize x / ((2 ^ 64 : Nat) : Int) = q at this
  rw [e] at this
  have hx : x = 2 ^ i * (2 * (2 ^ (63 - i) * q)) + r := by
    rw [← this, Int.add_comm]; simp only [Int.mul_assoc]
  clear this hr hr0 e
  rw [Int.toNat_natCast]
  rw [hx, Int.add_comm, Int.add_mul_ediv_left _ _ (by omega)]
  rw [show ((r : Int) / 2 ^ i) = ((r / 2 ^ i : Nat) : Int) from by simp]
  generalize r / 2 ^ i = u
  generalize 2 ^ (63 - i) * q = z
  rw [eq_iff_iff]; omega

theorem and_one (y : Int) : (IntKind.i64.wrap ((BitVec.ofInt 64 y &&& BitVec.ofInt 64 1).toNat : Int)) = y % 2 := by
  have e : (BitVec.ofInt 64 y &&& BitVec.ofInt 64 1).toNat = (y % ((2 ^ 64 : Nat) : Int)).toNat % 2 := by
    rw [BitVec.toNat_and, BitVec.toNat_ofInt]
    exact Nat.and_one_is_mod _
  rw [e]
  have h2 : (y % ((2 ^ 64 : Nat) : Int)).toNat % 2 < 2 := Nat.mod_lt _ (by decide)
  have hr0 : 0 ≤ y % ((2 ^ 64 : Nat) : Int) := Int.emod_nonneg _ (by decide)
  have h3 : (((y % ((2 ^ 64 : Nat) : Int)).toNat % 2 : Nat) : Int) = y % 2 := by
    rw [Int.natCast_emod, Int.toNat_of_nonneg hr0]
    exact Int.emod_emod_of_dvd y ⟨2 ^ 63, by norm_cast⟩
  generalize (y % ((2 ^ 64 : Nat) : Int)).toNat % 2 = u at *
  have : IntKind.i64.wrap (u : Int) = u := by
    simp [IntKind.wrap, IntKind.bits, IntKind.signed]; omega
  rw [this, h3]

/-- the bit that the loop makes: 'x>>i&1 == 1' -/
theorem bit_of (x : Int) (i : Nat) (hi : i < 64) : (bits .and .i64 (x.fdiv (2 ^ i)) 1 == 1) = (bv x).getLsbD i := by
  rw [bit_div x i hi]
  show (IntKind.i64.wrap ((BitVec.ofInt 64 (x.fdiv (2 ^ i)) &&& BitVec.ofInt 64 1).toNat : Int) == 1) = _
  rw [and_one, Int.fdiv_eq_ediv_of_nonneg _ (Int.le_of_lt (Int.pow_pos (by decide)))]
  rw [Bool.eq_iff_iff]; simp

/-- the accumulator of the loop that reads a row: its first k bits -/
def acc (v : BitVec 64) (k : Nat) : BitVec 64 := v &&& (BitVec.allOnes 64 >>> (64 - k))

theorem acc_get (v : BitVec 64) (k i : Nat) (hk : k ≤ 64) (_hi : i < 64) : (acc v k).getLsbD i = (decide (i < k) && v.getLsbD i) := by
  unfold acc
  rw [BitVec.getLsbD_and, BitVec.getLsbD_ushiftRight, BitVec.getLsbD_allOnes, Bool.and_comm]
  congr 2
  rw [eq_iff_iff]; omega

theorem acc_zero (v : BitVec 64) : (acc v 0).toInt = 0 := by
  have : acc v 0 = 0#64 := by
    apply BitVec.eq_of_getLsbD_eq
    intro i hi
    rw [acc_get v 0 i (by omega) hi]; simp
  rw [this]; rfl

theorem acc_full (v : BitVec 64) : acc v 64 = v := by
  apply BitVec.eq_of_getLsbD_eq
  intro i hi
  rw [acc_get v 64 i (by omega) hi]; simp [hi]

theorem acc_no (v : BitVec 64) (k : Nat) (hk : k < 64) (h : v.getLsbD k = false) : acc v (k + 1) = acc v k := by
  apply BitVec.eq_of_getLsbD_eq
  intro i hi
  rw [acc_get v (k + 1) i (by omega) hi, acc_get v k i (by omega) hi]
  by_cases e : i = k
  · subst e; rw [h]; simp
  · congr 2; rw [eq_iff_iff]; omega

theorem acc_yes (v : BitVec 64) (k : Nat) (hk : k < 64) (h : v.getLsbD k = true) : acc v (k + 1) = acc v k ||| BitVec.twoPow 64 k := by
  apply BitVec.eq_of_getLsbD_eq
  intro i hi
  rw [BitVec.getLsbD_or, BitVec.getLsbD_twoPow, acc_get v (k + 1) i (by omega) hi, acc_get v k i (by omega) hi]
  by_cases e : i = k
  · subst e; rw [h]; simp [hk]
  · have e2 : ¬ k = i := fun h => e h.symm
    simp only [e2, decide_false, Bool.and_false, Bool.or_false]
    congr 2; rw [eq_iff_iff]; omega

/-- one round: 'x |= 1 << i' -/
theorem acc_or (v : BitVec 64) (k : Nat) (hk : k < 64) (h : v.getLsbD k = true) : bits .or .i64 (acc v k).toInt (IntKind.i64.wrap (1 * 2 ^ min k 64)) = (acc v (k + 1)).toInt := by
  show IntKind.i64.wrap ((BitVec.ofInt 64 (acc v k).toInt ||| BitVec.ofInt 64 (IntKind.i64.wrap (1 * 2 ^ min k 64))).toNat : Int) = _
  rw [wrap_bv, acc_yes v k hk h]
  congr 1
  have e : min k 64 = k := by omega
  rw [BitVec.ofInt_toInt, e]
  congr 1
  apply BitVec.eq_of_toInt_eq
  have : k < 63 ∨ k = 63 := by omega
  have hw : IntKind.i64.wrap (1 * (2 : Int) ^ k) = ((1 * (2 : Int) ^ k)).bmod (2 ^ 64) := by
    simp [IntKind.wrap, IntKind.bits, IntKind.signed, Int.bmod]
    split <;> split <;> omega
  rw [hw, BitVec.toInt_ofInt, Int.bmod_bmod, BitVec.toInt_eq_toNat_bmod, BitVec.toNat_twoPow, Nat.mod_eq_of_lt (Nat.pow_lt_pow_right (by decide) hk)]
  congr 1
  rw [Int.one_mul]; norm_cast

end BitX
