
import Derived.Test.YtbhlailnefappaaProg
import Derived.Test.YtbhlailnefappaaBit
import Derived.Test.YtbhlailnefappaaArr
import Derived.WalkKit
import Derived.WalkSpells
import Derived.Deep.RegionWith
import Derived.WalkLawsBesides
namespace Go.Proofs.Ytbhlailnefappaa
open Go.RowKit BitX
theorem hid {p : Prop} (h : p) : Hid p := h

theorem size_same (f g : Nat → Bool) : (rowOf f).size = (rowOf g).size := by rw [rowOf_size, rowOf_size]
theorem rowOf_one (f : Nat → Bool) : (rowOf f).all (·.oneCell') = true := by
  rw [Array.all_eq_true_iff_forall_mem]
  intro v hv
  simp [rowOf] at hv
  obtain ⟨i, _, rfl⟩ := hv
  rfl
theorem _root_.Go.RowKit.Below.setRow {B g : Nat} {w0 w : World} (hb : Below B w0 w) (hBg : B ≤ g) (cs : Array Value) : Below B w0 (w.setRow g cs) :=
  hb.trans ⟨rfl, rfl, rfl, by simp [World.setRow], fun k _ => setRow_other w g k cs (by omega)⟩
theorem bit_ofe (x : Int) (i : Nat) (hi : i < 64) : (bits .and .i64 (x / 2 ^ i) 1 == 1) = (bv x).getLsbD i := by
  rw [← bit_of x i hi, Int.fdiv_eq_ediv_of_nonneg _ (Int.le_of_lt (Int.pow_pos (by decide)))]

def bitsUpTo (v : BitVec 64) (k : Nat) : Nat → Bool := fun i => decide (i < k) && v.getLsbD i
theorem row_zero (v : BitVec 64) : rowOf (bitsUpTo v 0) = rowOf (fun _ => false) := rowOf_congr _ _ fun i _ => by simp [bitsUpTo]
theorem row_full (v : BitVec 64) : rowOf (bitsUpTo v 64) = bitRow v := rowOf_congr _ _ fun i hi => by simp [bitsUpTo, hi]
theorem row_step (v : BitVec 64) (k : Nat) (hk : k < 64) : (rowOf (bitsUpTo v k)).setIfInBounds k (.bool (v.getLsbD k)) = rowOf (bitsUpTo v (k + 1)) := by
  rw [rowOf_set _ _ _ hk]
  refine rowOf_congr _ _ fun i _ => ?_
  unfold bitsUpTo
  by_cases h : i = k
  · subst h; simp
  · rw [if_neg h]; congr 2; rw [eq_iff_iff]; omega

def mixed (b : Nat) (v : BitVec 64) (k : Nat) : Nat → Bool := fun i => if i < k then (cutV b v).getLsbD i else v.getLsbD i
theorem mixed_start (b : Nat) (v : BitVec 64) : rowOf (mixed b v b) = bitRow v := by
  refine rowOf_congr _ _ fun i hi => ?_
  unfold mixed
  split
  · rw [cutV_low _ _ _ hi (by assumption)]
  · rfl
theorem mixed_full (b : Nat) (v : BitVec 64) : rowOf (mixed b v 64) = bitRow (cutV b v) := by
  refine rowOf_congr _ _ fun i hi => ?_
  simp [mixed, hi]
theorem mixed_low (b : Nat) (v : BitVec 64) (k : Nat) (hb0 : 0 < b) (hb : b ≤ 64) : mixed b v k (b - 1) = v.getLsbD (b - 1) := by
  unfold mixed
  split
  · exact cutV_low _ _ _ (by omega) (by omega)
  · rfl
theorem mixed_step (b : Nat) (v : BitVec 64) (k : Nat) (hk : k < 64) (hb : b ≤ k) (hb0 : 0 < b) : (rowOf (mixed b v k)).setIfInBounds k (.bool (v.getLsbD (b - 1))) = rowOf (mixed b v (k + 1)) := by
  rw [rowOf_set _ _ _ hk]
  refine rowOf_congr _ _ fun i hi => ?_
  unfold mixed
  by_cases h : i = k
  · subst h; simp [cutV_high b v i hi hb hb0]
  · rw [if_neg h]
    by_cases h2 : i < k
    · rw [if_pos h2, if_pos (by omega)]
    · rw [if_neg h2, if_neg (by omega)]

theorem ubool : Try.prog.underlying 4 = some .bool := by kernel_rfl
theorem sbool (w : World) : (sizeOf 4).run Try.prog w = .ok 1 w := by kernel_rfl

theorem cutV_id (b : Nat) (x : Int) (hb1 : 1 ≤ b) (hb : b ≤ 63) (hx1 : -9223372036854775808 ≤ x) (hx2 : x ≤ 9223372036854775807) : decide (cutV b (bv x) = bv x) = decide (-(2 : Int) ^ (b - 1) ≤ x ∧ x ≤ 2 ^ (b - 1) - 1) := by
  have hp : (2 : Int) ^ b = 2 * 2 ^ (b - 1) := by
    rw [show b = (b - 1) + 1 from by omega, Int.pow_succ, Int.mul_comm]; congr 2
  have hpos : (0 : Int) < 2 ^ (b - 1) := Int.pow_pos (by decide)
  have hcast : ((2 ^ b : Nat) : Int) = 2 ^ b := by norm_cast
  congr 1
  rw [eq_iff_iff, ← BitVec.toInt_inj, cutV_toInt b x (by omega), bv_toInt x hx1 (by omega)]
  constructor
  · intro h
    have h1 := Int.le_bmod (x := x) (m := 2 ^ b) (Nat.two_pow_pos _)
    have h2 := Int.bmod_lt (x := x) (m := 2 ^ b) (Nat.two_pow_pos _)
    rw [h] at h1 h2
    omega
  · intro h
    apply Int.bmod_eq_of_le <;> omega

def rowAt (w : World) (g : Nat) : Array Value := match w.heap[g]? with | some (.cells cs _ _) => cs | _ => #[]
theorem rowAt_drew (w : World) (g : Nat) : rowAt w.drew g = rowAt w g := rfl
theorem rowAt_kept {B g : Nat} {w w' : World} (hb : Below B w w') (hg : g < B) {v : Array Value} (h : rowAt w g = v) : rowAt w' g = v := by
  unfold rowAt at h ⊢; rw [hb.block g hg]; exact h
end Go.Proofs.Ytbhlailnefappaa
