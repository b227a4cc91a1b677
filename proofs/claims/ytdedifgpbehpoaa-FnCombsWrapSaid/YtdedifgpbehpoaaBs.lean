
import Derived.Test.YtdedifgpbehpoaaWl
import Derived.Test.YtdedifgpbehpoaaCm
import Derived.Test.YtdedifgpbehpoaaWin
namespace Go.Proofs.Ytdedifgpbehpoaa
open Go.RowKit BitX Go.MemX
set_option linter.unusedVariables false


def loS (xs : List Int) (L H : Int) (k : Nat) : Int := sumF k fun i => leastI (at0 xs i * L) (at0 xs i * H)
def hiS (xs : List Int) (L H : Int) (k : Nat) : Int := sumF k fun i => mostI (at0 xs i * L) (at0 xs i * H)
theorem lm_in {a b B : Int} (a1 : -B ≤ a) (a2 : a ≤ B) (b1 : -B ≤ b) (b2 : b ≤ B) : (-B ≤ leastI a b ∧ leastI a b ≤ B) ∧ (-B ≤ mostI a b ∧ mostI a b ≤ B) := by
  unfold leastI mostI; refine ⟨?_, ?_⟩ <;> split <;> omega
theorem lo_bound {xs : List Int} {L H : Int} (hx : InP (-1000) 1000 xs) (l1 : -32768 ≤ L) (l2 : L ≤ 32768) (g1 : -32768 ≤ H) (g2 : H ≤ 32768) (k : Nat) (hk : k ≤ 29) :
    (-1000000000 ≤ loS xs L H k ∧ loS xs L H k ≤ 1000000000) ∧ (-1000000000 ≤ hiS xs L H k ∧ hiS xs L H k ≤ 1000000000) := by
  have e : ∀ i, _ := fun i => lm_in (a := at0 xs i * L) (b := at0 xs i * H) (B := 32768000)
    (by have a := at0_in hx (by omega) (by omega) i; have := mul_in a.1 a.2 l1 l2 (by omega); omega) (by have a := at0_in hx (by omega) (by omega) i; have := mul_in a.1 a.2 l1 l2 (by omega); omega)
    (by have a := at0_in hx (by omega) (by omega) i; have := mul_in a.1 a.2 g1 g2 (by omega); omega) (by have a := at0_in hx (by omega) (by omega) i; have := mul_in a.1 a.2 g1 g2 (by omega); omega)
  have u := sumF_bound k (fun i => leastI (at0 xs i * L) (at0 xs i * H)) 32768000 fun i _ => (e i).1
  have v := sumF_bound k (fun i => mostI (at0 xs i * L) (at0 xs i * H)) 32768000 fun i _ => (e i).2
  unfold loS hiS
  generalize sumF k (fun i => leastI (at0 xs i * L) (at0 xs i * H)) = s1 at *
  generalize sumF k (fun i => mostI (at0 xs i * L) (at0 xs i * H)) = s2 at *
  omega
theorem lo_le_hi (xs : List Int) (L H : Int) (k : Nat) : loS xs L H k ≤ hiS xs L H k := by
  induction k with
  | zero => exact Int.le_refl _
  | succ k ih =>
    unfold loS hiS at *
    rw [sumF_succ, sumF_succ]
    have : leastI (at0 xs k * L) (at0 xs k * H) ≤ mostI (at0 xs k * L) (at0 xs k * H) := by unfold leastI mostI; split <;> split <;> omega
    omega
theorem loS_step (xs : List Int) (L H : Int) (k : Nat) : loS xs L H (k + 1) = loS xs L H k + leastI (at0 xs k * L) (at0 xs k * H) := rfl
theorem hiS_step (xs : List Int) (L H : Int) (k : Nat) : hiS xs L H (k + 1) = hiS xs L H k + mostI (at0 xs k * L) (at0 xs k * H) := rfl
def hasB (lo hi : Int) (b : Nat) : Bool := decide (-(2 : Int) ^ (b - 1) ≤ lo ∧ hi ≤ 2 ^ (b - 1) - 1)
theorem has_and {z1 z2 : Int} {b : Nat} {p q : Bool} (hz : z1 ≤ z2) (hp : decide (-(2 : Int) ^ (b - 1) ≤ z1 ∧ z1 ≤ 2 ^ (b - 1) - 1) = p) (hq : decide (-(2 : Int) ^ (b - 1) ≤ z2 ∧ z2 ≤ 2 ^ (b - 1) - 1) = q) : hasB z1 z2 b = (p && q) := by
  unfold hasB
  rw [← hp, ← hq, ← Bool.decide_and]
  congr 1
  rw [eq_iff_iff]
  generalize (2 : Int) ^ (b - 1) = P at *
  omega
def bitsF (lo hi : Int) : Option Nat := (List.range 41).find? fun b => decide (2 ≤ b) && hasB lo hi b
def bitsR (lo hi : Int) : Int := match bitsF lo hi with | some b => b | none => 0
def bitsO (lo hi : Int) : Bool := (bitsF lo hi).isSome
theorem bitsF_yes {lo hi : Int} {b : Nat} (h2 : 2 ≤ b) (h40 : b ≤ 40) (hb : hasB lo hi b = true) (hn : ∀ c, 2 ≤ c → c < b → hasB lo hi c = false) : bitsF lo hi = some b := by
  unfold bitsF
  rw [List.find?_range_eq_some]
  refine ⟨by simp [hb, h2], by simp; omega, fun j hj => ?_⟩
  by_cases hj2 : 2 ≤ j
  · simp [hn j hj2 hj]
  · simp [hj2]
theorem bitsF_no {lo hi : Int} (hn : ∀ c, 2 ≤ c → c < 41 → hasB lo hi c = false) : bitsF lo hi = none := by
  unfold bitsF
  rw [List.find?_eq_none]
  intro x hx
  by_cases h2 : 2 ≤ x
  · simp [hn x h2 (by simpa using hx)]
  · simp [h2]
theorem bits_yes {lo hi : Int} {b : Nat} (h2 : 2 ≤ b) (h40 : b ≤ 40) (hb : hasB lo hi b = true) (hn : ∀ c, 2 ≤ c → c < b → hasB lo hi c = false) : bitsR lo hi = b ∧ bitsO lo hi = true := by
  unfold bitsR bitsO; rw [bitsF_yes h2 h40 hb hn]; exact ⟨rfl, rfl⟩
theorem bits_no {lo hi : Int} (hn : ∀ c, 2 ≤ c → c < 41 → hasB lo hi c = false) : bitsR lo hi = 0 ∧ bitsO lo hi = false := by
  unfold bitsR bitsO; rw [bitsF_no hn]; exact ⟨rfl, rfl⟩
theorem pow_mid (b : Nat) (h2 : b ≤ 40) : (1 : Int) ≤ 2 ^ (b - 1) ∧ (2 : Int) ^ (b - 1) ≤ 549755813888 := by
  have a : (2 : Nat) ^ (b - 1) ≤ 2 ^ 39 := Nat.pow_le_pow_right (by decide) (by omega)
  have c : 0 < (2 : Nat) ^ (b - 1) := Nat.pow_pos (by decide)
  have e : ((2 : Int) ^ (b - 1)) = ((2 ^ (b - 1) : Nat) : Int) := by rw [Int.natCast_pow]; rfl
  rw [e]
  have : (2 : Nat) ^ 39 = 549755813888 := rfl
  omega
theorem no_step {lo hi : Int} {b : Nat} (hn : ∀ c, 2 ≤ c → c < b → hasB lo hi c = false) (h : hasB lo hi b = false) : ∀ c, 2 ≤ c → c < b + 1 → hasB lo hi c = false := by
  intro c h1 h2
  by_cases e : c = b
  · rw [e]; exact h
  · exact hn c h1 (by omega)
theorem ret_ib2 {a b : Int} {c d : Bool} (h : a = b) (h2 : c = d) : Ending.returned (.tuple #[.int .i64 a, .bool c]) = .returned (.tuple #[.int .i64 b, .bool d]) := by rw [h, h2]

theorem leastOf_is (n : Nat) (wd : Bool) (L : Int) (w : World) (h1 : 2 ≤ n) (h2 : n ≤ 16) (hL : -(2 : Int) ^ (n - 1) = L) :
    Calls Try.prog 63 #[.agg #[.int .i64 (n : Int), .bool wd]] w fun e w' => e = .returned (.int .i64 L) ∧ Below w.heap.size w w' := by
  subst hL; exact leastOf_any n wd w (by omega) h2
theorem greatestOf_is (n : Nat) (wd : Bool) (L : Int) (w : World) (h1 : 2 ≤ n) (h2 : n ≤ 16) (hL : (2 : Int) ^ (n - 1) - 1 = L) :
    Calls Try.prog 64 #[.agg #[.int .i64 (n : Int), .bool wd]] w fun e w' => e = .returned (.int .i64 L) ∧ Below w.heap.size w w' := by
  subst hL; exact greatestOf_any n wd w (by omega) h2
theorem isIn_mid (b : Nat) (x : Int) (q : Bool) (w : World) (h1 : 1 ≤ b) (h2 : b ≤ 40) (x1 : -1000000000 ≤ x) (x2 : x ≤ 1000000000) (h : decide (-(2 : Int) ^ (b - 1) ≤ x ∧ x ≤ 2 ^ (b - 1) - 1) = q) :
    Calls Try.prog 65 #[.agg #[.int .i64 (b : Int), .bool false], .int .i64 x] w fun e w' => e = .returned (.bool q) ∧ Below w.heap.size w w' := by
  refine (isIn_any b false x w h1 (by omega)).mono fun e w' ⟨he, hb⟩ => ⟨?_, hb⟩
  rw [he, cutV_id b x h1 (by omega) (by omega) (by omega), h]
theorem boxed {u v : Value} {w w' : World} {g : Nat} (h0 : w.cell? ⟨g, 0, none⟩ = some u) (h1 : w.cell? ⟨g, 1, none⟩ = some v) (hg : g < w.heap.size) (hb : Below w.heap.size w w') : w'.cell? ⟨g, 0, none⟩ = some u ∧ w'.cell? ⟨g, 1, none⟩ = some v := by
  rw [hb.cell (by exact hg), hb.cell (by exact hg)]; exact ⟨h0, h1⟩
end Go.Proofs.Ytdedifgpbehpoaa
