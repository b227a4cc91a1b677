
import Derived.Test.YtdgoenpkiakilaaOg
namespace Go.Proofs.Ytdgoenpkiakilaa
open Go.RowKit BitX Go.MemX Go.ShX
set_option linter.unusedVariables false


theorem pow10 (k : Nat) (h : k ≤ 10) : (1 : Int) ≤ 2 ^ k ∧ (2 : Int) ^ k ≤ 1024 := by
  have h1 : (2 : Nat) ^ k ≤ 2 ^ 10 := Nat.pow_le_pow_right (by decide) h
  have h2 : (2 : Int) ^ k ≤ 2 ^ 10 := by exact_mod_cast h1
  have h3 : (0 : Int) < 2 ^ k := Int.pow_pos (by decide)
  omega
def scI (k c : Nat) : Int := 2 ^ (k * c)
theorem scI_zero (k : Nat) : scI k 0 = 1 := rfl
theorem scI_succ (k c : Nat) : scI k (c + 1) = scI k c * 2 ^ k := by unfold scI; rw [Nat.mul_succ, Int.pow_add]
def exY (a : Int) (k : Nat) (s : List Int) (y : Int) : Nat → Int
  | 0 => y
  | i + 1 => a * exY a k s y i + scI k (i + 1) * at0 s i
theorem exY_succ (a : Int) (k : Nat) (s : List Int) (y : Int) (i : Nat) : exY a k s y (i + 1) = a * exY a k s y i + scI k (i + 1) * at0 s i := rfl
def nuB (x : Int) : Bool := decide (-1000000000000 ≤ x ∧ x ≤ 1000000000000)
def exOk (a : Int) (k : Nat) (s : List Int) (y : Int) : Nat → Bool
  | 0 => true
  | i + 1 => exOk a k s y i && (decide (scI k (i + 1) ≤ 1000000000000) && nuB (exY a k s y (i + 1)))
theorem exOk_succ (a : Int) (k : Nat) (s : List Int) (y : Int) (i : Nat) : exOk a k s y (i + 1) = (exOk a k s y i && (decide (scI k (i + 1) ≤ 1000000000000) && nuB (exY a k s y (i + 1)))) := rfl
theorem scI_pos (k c : Nat) : 1 ≤ scI k c := by
  have : (0 : Int) < 2 ^ (k * c) := Int.pow_pos (by decide)
  unfold scI; omega
theorem exOk_sc {a : Int} {k : Nat} {s : List Int} {y : Int} {c : Nat} (h : exOk a k s y c = true) : scI k c ≤ 1000000000000 := by
  cases c with
  | zero => rw [scI_zero]; omega
  | succ c =>
    rw [exOk_succ, Bool.and_eq_true, Bool.and_eq_true] at h
    exact of_decide_eq_true h.2.1
theorem exOk_y {a : Int} {k : Nat} {s : List Int} {y : Int} {c : Nat} (h : exOk a k s y c = true) (y1 : -32768 ≤ y) (y2 : y ≤ 32767) : -1000000000000 ≤ exY a k s y c ∧ exY a k s y c ≤ 1000000000000 := by
  cases c with
  | zero => show _ ≤ y ∧ y ≤ _; omega
  | succ c =>
    rw [exOk_succ, Bool.and_eq_true, Bool.and_eq_true] at h
    exact of_decide_eq_true h.2.2
theorem exOk_stop {a : Int} {k : Nat} {s : List Int} {y : Int} {c m : Nat} (h : exOk a k s y c = false) (hm : c ≤ m) : exOk a k s y m = false := by
  induction m with
  | zero => have : c = 0 := by omega
            subst this; exact h
  | succ m ih =>
    by_cases hc : c = m + 1
    · subst hc; exact h
    · rw [exOk_succ, ih (by omega)]; rfl
theorem exOk_big {a : Int} {k : Nat} {s : List Int} {y : Int} {c m : Nat} (h : 1000000000000 < scI k (c + 1)) (hm : c < m) : exOk a k s y m = false := by
  refine exOk_stop (c := c + 1) ?_ hm
  rw [exOk_succ, decide_eq_false (by omega)]; simp
theorem exOk_out {a : Int} {k : Nat} {s : List Int} {y : Int} {c m : Nat} (h : ¬ (-1000000000000 ≤ exY a k s y (c + 1) ∧ exY a k s y (c + 1) ≤ 1000000000000)) (hm : c < m) : exOk a k s y m = false := by
  refine exOk_stop (c := c + 1) ?_ hm
  rw [exOk_succ, show nuB (exY a k s y (c + 1)) = false from decide_eq_false h]; simp
theorem exOk_yes {a : Int} {k : Nat} {s : List Int} {y : Int} {c : Nat} (h : exOk a k s y c = true) (h1 : scI k (c + 1) ≤ 1000000000000) (h2 : -1000000000000 ≤ exY a k s y (c + 1) ∧ exY a k s y (c + 1) ≤ 1000000000000) : exOk a k s y (c + 1) = true := by
  rw [exOk_succ, h, decide_eq_true h1, show nuB (exY a k s y (c + 1)) = true from decide_eq_true h2]; rfl
theorem num_q (x : Int) (q : Bool) (w : World) (h : nuB x = q) : Calls Try.prog 41 #[.int .i64 x] w fun e w' => e = .returned (.bool q) ∧ w = w' := by
  cases q
  · exact spec_num_no x w (of_decide_eq_false h)
  · exact spec_num_yes x w (of_decide_eq_true h).1 (of_decide_eq_true h).2
theorem inum_q (x : Int) (q : Bool) (w : World) (h : nuB x = q) : Calls Try.prog 43 #[.int .i64 x] w fun e w' => e = .returned (.bool q) ∧ w = w' := by
  cases q
  · exact impl_num_no x w (of_decide_eq_false h)
  · exact impl_num_yes x w (of_decide_eq_true h).1 (of_decide_eq_true h).2
/-- products of a step -/
theorem ex_step {a z q x : Int} (a1 : -1024 ≤ a) (a2 : a ≤ 1024) (z1 : -1000000000000 ≤ z) (z2 : z ≤ 1000000000000) (q1 : 1 ≤ q) (q2 : q ≤ 1000000000000) (x1 : -100000 ≤ x) (x2 : x ≤ 100000) :
    (-1024000000000000 ≤ a * z ∧ a * z ≤ 1024000000000000) ∧ (-100000000000000000 ≤ q * x ∧ q * x ≤ 100000000000000000) := by
  have m1 := mul_in a1 a2 z1 z2 (by omega)
  have m2 := mul_in (show -1000000000000 ≤ q by omega) q2 x1 x2 (by omega)
  omega
def exR (a k mode b y : Int) (s : List Int) : Bool := crB a k mode b y s && exOk a k.toNat s y s.length
def exL (a k mode b y : Int) (s : List Int) : List Int := onB (exR a k mode b y s) (tab s.length fun i => exY a k.toNat s y (i + 1)) []

def exF (a : Int) (k : Nat) (s : List Int) (y : Int) : List Int := onB (exOk a k s y s.length) (tab s.length (fun i => exY a k s y (i + 1))) []

theorem exL_len (a k mode b y : Int) (s : List Int) (h : s.length ≤ 1048576) : (exL a k mode b y s).length ≤ 2000000 := by
  unfold exL onB; split
  · rw [tab_len]; omega
  · simp
end Go.Proofs.Ytdgoenpkiakilaa
